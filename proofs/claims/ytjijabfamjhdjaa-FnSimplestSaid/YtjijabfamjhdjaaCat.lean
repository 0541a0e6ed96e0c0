/- Contracts: the code of two fractions by the model, and helpers. -/
import Derived.Test.YtjijabfamjhdjaaCan
namespace Go.Proofs.Ytjijabfamjhdjaa
open Go.RowKit

theorem znew_drew {X : World} {n : Nat} {O : Obj} : ((X.drewN n).alloc O).heap[X.heap.size]? = some O := by
  have h := new_at (X.drewN n) O
  simpa using h
theorem znew_dr {X : World} {O : Obj} : ((X.drew).alloc O).heap[X.heap.size]? = some O := by
  have h := new_at X.drew O
  simpa using h
theorem zct {P : Prop} {W w' : World} {z : Nat} {O : Obj} (hb : Below W.heap.size W w') (hlt : z < W.heap.size) (h : W.heap[z]? = some O) (k : Hid (w'.heap[z]? = some O) → P) : P := k (hid ((hb.block z hlt).trans h))
theorem box3_set {w0 w : World} {n d m f : Int} (h : Box3 w0 w n d m f) {b : Nat} (hb : w0.heap.size + 1 + 1 < b) (u v : Value) : Box3 w0 ((w.setCell ⟨b, 0, none⟩ u).setCell ⟨b, 1, none⟩ v) n d m f := by
  obtain ⟨h1, h2, h3, h4⟩ := h
  refine ⟨?_, ?_, ?_, below_set (below_set h4 (by omega) _) (by omega) _⟩
  · rw [heap_setCell_other _ ⟨b, 1, none⟩ _ _ (by simp; omega), heap_setCell_other _ ⟨b, 0, none⟩ _ _ (by simp; omega)]; exact h1
  · rw [heap_setCell_other _ ⟨b, 1, none⟩ _ _ (by simp; omega), heap_setCell_other _ ⟨b, 0, none⟩ _ _ (by simp; omega)]; exact h2
  · rw [heap_setCell_other _ ⟨b, 1, none⟩ _ _ (by simp; omega), heap_setCell_other _ ⟨b, 0, none⟩ _ _ (by simp; omega)]; exact h3

set_option maxHeartbeats 1600000 in
theorem specTwoP (n d m f : Int) (w : World) :
    Calls Try.prog 74 #[.agg #[.int .i64 n, .int .i64 d], .agg #[.int .i64 m, .int .i64 f]] w fun e w' => e = .returned (.int .i64 (chkC 1 [(n, d), (m, f)])) ∧ Below w.heap.size w w' := by
  have HO1 := hid (fun w => specOk n d w)
  have HO2 := hid (fun w => specOk m f w)
  obtain ⟨e1, e2, EV⟩ := new_two w (.cells #[.int .i64 n, .int .i64 d] 25) (.cells #[.int .i64 m, .int .i64 f] 25)
  have HE1 := hid e1
  have HE2 := hid e2
  have HEV := hid EV
  clear e1 e2 EV
  cases ho1 : okF n d
  · rw [chk2_bad1 ho1]
    rw [ho1] at HO1
    go_enter Try.func74, Try.ntmps74
    go_wp2_with (fail)
    refine (HO1.out _).mono ?_
    rintro e w1 ⟨rfl, b1⟩
    have E1 := hid (HEV.out.trans (b1.mono HEV.out.size))
    clear b1
    go_wp2_with (fail)
    go_ret
    exact ⟨rfl, E1.out⟩
  cases ho2 : okF m f
  · rw [chk2_bad2 ho2]
    rw [ho1] at HO1
    rw [ho2] at HO2
    go_enter Try.func74, Try.ntmps74
    go_wp2_with (fail)
    refine (HO1.out _).mono ?_
    rintro e w1 ⟨rfl, b1⟩
    obtain ⟨k1, k2⟩ := keep_blk HE1.out HE2.out b1
    obtain ⟨q0, q1, _, _, _⟩ := blk2 k2
    have E1 := hid (HEV.out.trans (b1.mono HEV.out.size))
    clear b1 k1 k2
    go_wp2_with (fail)
    refine (HO2.out _).mono ?_
    rintro e w2 ⟨rfl, b2⟩
    have E2 := hid (E1.out.trans (b2.mono E1.out.size))
    clear b2
    go_wp2_with (fail)
    go_ret
    exact ⟨rfl, E2.out⟩
  rw [ho1] at HO1
  rw [ho2] at HO2
  by_cases hn : n ≤ 0
  · rw [chk2_low1 ho1 ho2 (by omega)]
    clear ho1 ho2
    go_enter Try.func74, Try.ntmps74
    go_wp2_with (fail)
    refine (HO1.out _).mono ?_
    rintro e w1 ⟨rfl, b1⟩
    obtain ⟨k1, k2⟩ := keep_blk HE1.out HE2.out b1
    obtain ⟨q0, q1, _, _, _⟩ := blk2 k2
    have K1 := hid k1
    have K2 := hid k2
    have E1 := hid (HEV.out.trans (b1.mono HEV.out.size))
    clear b1 k1 k2
    go_wp2_with (fail)
    refine (HO2.out _).mono ?_
    rintro e w2 ⟨rfl, b2⟩
    obtain ⟨k1, k2⟩ := keep_blk K1.out K2.out b2
    obtain ⟨q0, q1, _, _, _⟩ := blk2 k2
    obtain ⟨p0, p1, _, _, _⟩ := blk2 k1
    have E2 := hid (E1.out.trans (b2.mono E1.out.size))
    clear b2 k1 k2
    go_wp2_with (fail)
    go_ret
    exact ⟨rfl, E2.out⟩
  by_cases hm : m ≤ 0
  · rw [chk2_low2 ho1 ho2 (by omega)]
    clear ho1 ho2
    go_enter Try.func74, Try.ntmps74
    go_wp2_with (fail)
    refine (HO1.out _).mono ?_
    rintro e w1 ⟨rfl, b1⟩
    obtain ⟨k1, k2⟩ := keep_blk HE1.out HE2.out b1
    obtain ⟨q0, q1, _, _, _⟩ := blk2 k2
    have K1 := hid k1
    have K2 := hid k2
    have E1 := hid (HEV.out.trans (b1.mono HEV.out.size))
    clear b1 k1 k2
    go_wp2_with (fail)
    refine (HO2.out _).mono ?_
    rintro e w2 ⟨rfl, b2⟩
    obtain ⟨k1, k2⟩ := keep_blk K1.out K2.out b2
    obtain ⟨q0, q1, _, _, _⟩ := blk2 k2
    obtain ⟨p0, p1, _, _, _⟩ := blk2 k1
    have E2 := hid (E1.out.trans (b2.mono E1.out.size))
    clear b2 k1 k2
    go_wp2_with (fail)
    go_ret
    exact ⟨rfl, E2.out⟩
  · rw [chk2_ok ho1 ho2 (by omega) (by omega)]
    clear ho1 ho2
    go_enter Try.func74, Try.ntmps74
    go_wp2_with (fail)
    refine (HO1.out _).mono ?_
    rintro e w1 ⟨rfl, b1⟩
    obtain ⟨k1, k2⟩ := keep_blk HE1.out HE2.out b1
    obtain ⟨q0, q1, _, _, _⟩ := blk2 k2
    have K1 := hid k1
    have K2 := hid k2
    have E1 := hid (HEV.out.trans (b1.mono HEV.out.size))
    clear b1 k1 k2
    go_wp2_with (fail)
    refine (HO2.out _).mono ?_
    rintro e w2 ⟨rfl, b2⟩
    obtain ⟨k1, k2⟩ := keep_blk K1.out K2.out b2
    obtain ⟨q0, q1, _, _, _⟩ := blk2 k2
    obtain ⟨p0, p1, _, _, _⟩ := blk2 k1
    have E2 := hid (E1.out.trans (b2.mono E1.out.size))
    clear b2 k1 k2
    go_wp2_with (fail)
    go_ret
    exact ⟨rfl, E2.out⟩

end Go.Proofs.Ytjijabfamjhdjaa
