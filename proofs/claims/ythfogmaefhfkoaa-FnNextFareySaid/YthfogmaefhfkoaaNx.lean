/- Contracts: the least element behind a fraction, by the program and by the model. -/
import Derived.Test.YthfogmaefhfkoaaFyc
import Derived.Test.YthfogmaefhfkoaaNxm
namespace Go.Proofs.Ythfogmaefhfkoaa
open Go.RowKit

/-- The fraction, the result and the least one so far in their blocks. -/
def Lst (w0 w : World) (n d a b : Int) : Prop := w.heap[w0.heap.size]? = some (.cells #[.int .i64 n, .int .i64 d] 25 (0, 0)) ∧ w.heap[w0.heap.size + 1]? = some (.cells #[.int .i64 0, .int .i64 0] 25 (0, 0)) ∧ w.heap[w0.heap.size + 1 + 1]? = some (.cells #[.int .i64 a, .int .i64 b] 25 (0, 0)) ∧ Below w0.heap.size w0 w
theorem lst_below {w0 w w' : World} {n d a b : Int} (h : Lst w0 w n d a b) (hb : Below w.heap.size w w') : Lst w0 w' n d a b := by
  obtain ⟨h1, h2, h3, h4⟩ := h
  exact ⟨bk_kept h1 hb (Nat.le_refl _), bk_kept h2 hb (Nat.le_refl _), bk_kept h3 hb (Nat.le_refl _), h4.trans (hb.mono h4.size)⟩
theorem lst_new (w : World) (n d a b : Int) : Lst w (((w.alloc (.cells #[.int .i64 n, .int .i64 d] 25)).alloc (.cells #[.int .i64 0, .int .i64 0] 25)).alloc (.cells #[.int .i64 a, .int .i64 b] 25)) n d a b := by
  refine ⟨od_at (od_at (nw_at _ _) _) _, od_at ?_ _, ?_, (((Below.refl w.heap.size w).alloc (Nat.le_refl _) _).alloc (by simp) _).alloc (by simp; omega) _⟩
  · have := nw_at (w.alloc (.cells #[.int .i64 n, .int .i64 d] 25)) (.cells #[.int .i64 0, .int .i64 0] 25)
    rwa [World.size_alloc] at this
  · have := nw_at ((w.alloc (.cells #[.int .i64 n, .int .i64 d] 25)).alloc (.cells #[.int .i64 0, .int .i64 0] 25)) (.cells #[.int .i64 a, .int .i64 b] 25)
    rwa [World.size_alloc, World.size_alloc] at this
theorem lst_put {w0 w : World} {n d a b : Int} (h : Lst w0 w n d a b) (x y : Int) : Lst w0 ((w.setCell ⟨w0.heap.size + 1 + 1, 0, none⟩ (.int .i64 x)).setCell ⟨w0.heap.size + 1 + 1, 1, none⟩ (.int .i64 y)) n d x y := by
  obtain ⟨h1, h2, h3, h4⟩ := h
  refine ⟨?_, ?_, ?_, below_set (below_set h4 (by omega) _) (by omega) _⟩
  · rw [heap_setCell_other _ ⟨w0.heap.size + 1 + 1, 1, none⟩ _ _ (by simp; omega), heap_setCell_other _ ⟨w0.heap.size + 1 + 1, 0, none⟩ _ _ (by simp; omega)]; exact h1
  · rw [heap_setCell_other _ ⟨w0.heap.size + 1 + 1, 1, none⟩ _ _ (by simp), heap_setCell_other _ ⟨w0.heap.size + 1 + 1, 0, none⟩ _ _ (by simp)]; exact h2
  · exact heap_setCell_same _ (w0.heap.size + 1 + 1) 1 _ _ (.int .i64 y) (heap_setCell_same w (w0.heap.size + 1 + 1) 0 _ _ (.int .i64 x) h3)
theorem lst_ret {w0 w : World} {n d a b : Int} (h : Lst w0 w n d a b) (x y : Int) : ((w.setCell ⟨w0.heap.size + 1, 0, none⟩ (.int .i64 x)).setCell ⟨w0.heap.size + 1, 1, none⟩ (.int .i64 y)).cell? ⟨w0.heap.size + 1, 0, none⟩ = some (.int .i64 x) ∧ ((w.setCell ⟨w0.heap.size + 1, 0, none⟩ (.int .i64 x)).setCell ⟨w0.heap.size + 1, 1, none⟩ (.int .i64 y)).cell? ⟨w0.heap.size + 1, 1, none⟩ = some (.int .i64 y) ∧ Below w0.heap.size w0 ((w.setCell ⟨w0.heap.size + 1, 0, none⟩ (.int .i64 x)).setCell ⟨w0.heap.size + 1, 1, none⟩ (.int .i64 y)) := by
  obtain ⟨k0, k1, _⟩ := bk2 h.2.1
  obtain ⟨a, b⟩ := two_set (u := .int .i64 x) (v := .int .i64 y) k0 k1
  exact ⟨a, b, below_set (below_set h.2.2.2 (by omega) _) (by omega) _⟩
/-- What the walks want of the numbers. -/
theorem nx_nums {n d : Int} {k : Nat} (h : 0 ≤ n) (h1 : n ≤ d) (hd : 1 ≤ d) (hd1 : d ≤ 1000000000) (hk : (k : Int) + 1 ≤ 10000) :
    0 ≤ n * ((k : Int) + 1) ∧ n * ((k : Int) + 1) ≤ 10000000000000 ∧ 0 ≤ n * ((k : Int) + 1) / d ∧ n * ((k : Int) + 1) / d ≤ 10000 := by
  have a : 0 ≤ n * ((k : Int) + 1) := Int.mul_nonneg h (by omega)
  have b : n * ((k : Int) + 1) ≤ 1000000000 * 10000 := Int.mul_le_mul (by omega) hk (by omega) (by omega)
  have c := nxX_bd (den := (k : Int) + 1) h h1 hd (by omega)
  unfold nxX at c
  omega

set_option maxHeartbeats 3200000 in
theorem implNx (o n d : Int) (w : World) (ho : 1 ≤ o) (ho1 : o ≤ 10000) (hn : 0 ≤ n) (hn1 : n < d) (hd : 1 ≤ d) (hd1 : d ≤ 1000000000) :
    Calls Try.prog 115 #[.int .i64 o, .agg #[.int .i64 n, .int .i64 d]] w fun e w' => e = .returned (.agg #[.int .i64 (nxt n d o.toNat).1, .int .i64 (nxt n d o.toNat).2]) ∧ Below w.heap.size w w' := by
  have HL0 := hid (lst_new w n d 1 1)
  have HNB := hid (fun (k : Nat) (hk : (k : Int) + 1 ≤ 10000) => nx_nums (k := k) hn (Int.le_of_lt hn1) hd hd1 hk)
  have HBD := hid (fun (k : Nat) => nxt_bd (n := n) (d := d) hn (Int.le_of_lt hn1) hd k)
  have HXB := hid (fun (k : Nat) => nxX_bd (n := n) (d := d) (den := (k : Int) + 1) hn (Int.le_of_lt hn1) hd (by omega))
  have HONE := hid (nxt_one (n := n) (d := d) hn hn1)
  go_enter Try.func115, Try.ntmps115
  go_wp2_with (fail)
  go_loopw [6, 7] (fun p q wr => ∃ (k : Nat) (a b : Int), p = .int .i64 (k + 1) ∧ k ≤ o ∧ Hid (nxt n d k = (a, b)) ∧ Hid (Lst w wr n d a b)) (fun p _ _ => 10002 - (RowKit.intOf p).toNat)
  case atStart => exact ⟨1, 1, 1, rfl, by omega, HONE, HL0⟩
  case round =>
    obtain ⟨k, a, b, rfl, hk, hnx, hl⟩ := hrel
    have hk0 : (0 : Int) ≤ (k : Int) := by omega
    have hbd := HBD.out k
    rw [hnx.out] at hbd
    dsimp only at hbd
    have HNX := hid hnx.out
    have HL := hid hl.out
    clear hnx hl
    by_cases hlt : (k : Int) + 1 ≤ o
    · obtain ⟨m1, m2, m3, m4⟩ := HNB.out k (by omega)
      obtain ⟨x1, x2⟩ := HXB.out k
      obtain ⟨a1, a2, b1, b2⟩ := hbd
      have HX := hid (show nxX n d ((k : Int) + 1) = n * ((k : Int) + 1) / d + 1 from rfl)
      obtain ⟨f0, f1, _, _, _⟩ := bk2 HL.out.1
      rw [HX.out] at x1 x2
      have HC := hid (fun w => crossB (n * ((k : Int) + 1) / d + 1) ((k : Int) + 1) a b w (by omega) (by omega) (by omega) (by omega) (by omega) (by omega) (by omega) (by omega))
      have HY := hid (nw_at wr (.cells #[.int .i64 (n * ((k : Int) + 1) / d + 1), .int .i64 ((k : Int) + 1)] 25))
      obtain ⟨y0, y1, _, _, _⟩ := bk2 HY.out
      have HLN := hid (lst_below HL.out ((Below.refl _ _).alloc (Nat.le_refl _) (.cells #[.int .i64 (n * ((k : Int) + 1) / d + 1), .int .i64 ((k : Int) + 1)] 25)))
      obtain ⟨l0, l1, _, _, _⟩ := bk2 HLN.out.2.2.1
      by_cases hc : (n * ((k : Int) + 1) / d + 1) * b - a * ((k : Int) + 1) < 0
      · have HNW := hid (nxt_new HNX.out HX.out hc)
        generalize (n * ((k : Int) + 1) / d + 1) * b - a * ((k : Int) + 1) = X at *
        clear HNX HX HNB HBD HXB
        go_wp2_with (fail)
        refine (HC.out _).mono ?_
        rintro e w2 ⟨rfl, b2⟩
        have HL2 := hid (lst_below HLN.out b2)
        obtain ⟨v0, v1, _, _, _⟩ := bk2 (bk_kept HY.out b2 (Nat.le_refl _))
        obtain ⟨u0, u1, g0, g1, _⟩ := bk2 HL2.out.2.2.1
        clear b2 f0 f1 y0 y1 l0 l1
        go_wp2_with (fail)
        go_roundw
        case rel => exact ⟨k + 1, n * ((k : Int) + 1) / d + 1, (k : Int) + 1, by go_num, by omega, HNW, hid (lst_put HL2.out _ _)⟩
        case measure => simp [RowKit.intOf]; omega
      · have HNW := hid (nxt_old HNX.out HX.out hc)
        generalize (n * ((k : Int) + 1) / d + 1) * b - a * ((k : Int) + 1) = X at *
        clear HNX HX HNB HBD HXB
        go_wp2_with (fail)
        refine (HC.out _).mono ?_
        rintro e w2 ⟨rfl, b2⟩
        have HL2 := hid (lst_below HLN.out b2)
        clear b2 f0 f1 y0 y1 l0 l1
        go_wp2_with (fail)
        go_roundw
        case rel => exact ⟨k + 1, a, b, by go_num, by omega, HNW, HL2⟩
        case measure => simp [RowKit.intOf]; omega
    · have hko : o.toNat = k := by omega
      have HE := hid (show nxt n d o.toNat = (a, b) by rw [hko]; exact HNX.out)
      obtain ⟨l0, l1, _, _, _⟩ := bk2 HL.out.2.2.1
      obtain ⟨z0, z1, g0, g1, _⟩ := bk2 HL.out.2.1
      clear hko HNX HNB HBD HXB
      go_wp2_with (fail)
      obtain ⟨r0, r1, E⟩ := lst_ret HL.out a b
      refine bodyPost_ret (v := .agg #[.int .i64 a, .int .i64 b]) (by simp [results, Try.results115, go_sem, r0, r1]) rfl ⟨by rw [HE.out], E⟩

set_option maxHeartbeats 3200000 in
theorem specNx (o n d : Int) (w : World) (ho : 1 ≤ o) (ho1 : o ≤ 10000) (hn : 0 ≤ n) (hn1 : n < d) (hd : 1 ≤ d) (hd1 : d ≤ 1000000000) :
    Calls Try.prog 117 #[.int .i64 o, .agg #[.int .i64 n, .int .i64 d]] w fun e w' => e = .returned (.agg #[.int .i64 (nxt n d o.toNat).1, .int .i64 (nxt n d o.toNat).2]) ∧ Below w.heap.size w w' := by
  have HL0 := hid (lst_new w n d 1 1)
  have HNB := hid (fun (k : Nat) (hk : (k : Int) + 1 ≤ 10000) => nx_nums (k := k) hn (Int.le_of_lt hn1) hd hd1 hk)
  have HBD := hid (fun (k : Nat) => nxt_bd (n := n) (d := d) hn (Int.le_of_lt hn1) hd k)
  have HXB := hid (fun (k : Nat) => nxX_bd (n := n) (d := d) (den := (k : Int) + 1) hn (Int.le_of_lt hn1) hd (by omega))
  have HONE := hid (nxt_one (n := n) (d := d) hn hn1)
  go_enter Try.func117, Try.ntmps117
  go_wp2_with (fail)
  go_loopw [6, 7] (fun p q wr => ∃ (k : Nat) (a b : Int), p = .int .i64 (k + 1) ∧ k ≤ o ∧ Hid (nxt n d k = (a, b)) ∧ Hid (Lst w wr n d a b)) (fun p _ _ => 10002 - (RowKit.intOf p).toNat)
  case atStart => exact ⟨0, 1, 1, rfl, by omega, hid rfl, HL0⟩
  case round =>
    obtain ⟨k, a, b, rfl, hk, hnx, hl⟩ := hrel
    have hk0 : (0 : Int) ≤ (k : Int) := by omega
    have hbd := HBD.out k
    rw [hnx.out] at hbd
    dsimp only at hbd
    have HNX := hid hnx.out
    have HL := hid hl.out
    clear hnx hl
    by_cases hlt : (k : Int) + 1 ≤ o
    · obtain ⟨m1, m2, m3, m4⟩ := HNB.out k (by omega)
      obtain ⟨x1, x2⟩ := HXB.out k
      obtain ⟨a1, a2, b1, b2⟩ := hbd
      have HX := hid (show nxX n d ((k : Int) + 1) = n * ((k : Int) + 1) / d + 1 from rfl)
      obtain ⟨f0, f1, _, _, _⟩ := bk2 HL.out.1
      rw [HX.out] at x1 x2
      have HC := hid (fun w => lessB (n * ((k : Int) + 1) / d + 1) ((k : Int) + 1) a b w (by omega) (by omega) (by omega) (by omega) (by omega) (by omega) (by omega) (by omega))
      have HY := hid (nw_at wr (.cells #[.int .i64 (n * ((k : Int) + 1) / d + 1), .int .i64 ((k : Int) + 1)] 25))
      obtain ⟨y0, y1, _, _, _⟩ := bk2 HY.out
      have HLN := hid (lst_below HL.out ((Below.refl _ _).alloc (Nat.le_refl _) (.cells #[.int .i64 (n * ((k : Int) + 1) / d + 1), .int .i64 ((k : Int) + 1)] 25)))
      obtain ⟨l0, l1, _, _, _⟩ := bk2 HLN.out.2.2.1
      have HFL := hid (fun w => floorB (n * ((k : Int) + 1)) d w (by omega) (by omega) hd hd1)
      by_cases hc : (n * ((k : Int) + 1) / d + 1) * b - a * ((k : Int) + 1) < 0
      · have HNW := hid (nxt_new HNX.out HX.out hc)
        rw [decide_eq_true hc] at HC
        generalize (n * ((k : Int) + 1) / d + 1) * b - a * ((k : Int) + 1) = X at *
        clear HNX HX HNB HBD HXB
        go_wp2_with (fail)
        refine (HFL.out _).mono ?_
        rintro e w1 ⟨rfl, rfl⟩
        go_wp2_with (fail)
        refine (HC.out _).mono ?_
        rintro e w2 ⟨rfl, b2⟩
        have HL2 := hid (lst_below HLN.out b2)
        obtain ⟨v0, v1, _, _, _⟩ := bk2 (bk_kept HY.out b2 (Nat.le_refl _))
        obtain ⟨u0, u1, g0, g1, _⟩ := bk2 HL2.out.2.2.1
        clear b2 f0 f1 y0 y1 l0 l1
        go_wp2_with (fail)
        go_roundw
        case rel => exact ⟨k + 1, n * ((k : Int) + 1) / d + 1, (k : Int) + 1, by go_num, by omega, HNW, hid (lst_put HL2.out _ _)⟩
        case measure => simp [RowKit.intOf]; omega
      · have HNW := hid (nxt_old HNX.out HX.out hc)
        rw [decide_eq_false hc] at HC
        generalize (n * ((k : Int) + 1) / d + 1) * b - a * ((k : Int) + 1) = X at *
        clear HNX HX HNB HBD HXB
        go_wp2_with (fail)
        refine (HFL.out _).mono ?_
        rintro e w1 ⟨rfl, rfl⟩
        go_wp2_with (fail)
        refine (HC.out _).mono ?_
        rintro e w2 ⟨rfl, b2⟩
        have HL2 := hid (lst_below HLN.out b2)
        clear b2 f0 f1 y0 y1 l0 l1
        go_wp2_with (fail)
        go_roundw
        case rel => exact ⟨k + 1, a, b, by go_num, by omega, HNW, HL2⟩
        case measure => simp [RowKit.intOf]; omega
    · have hko : o.toNat = k := by omega
      have HE := hid (show nxt n d o.toNat = (a, b) by rw [hko]; exact HNX.out)
      obtain ⟨l0, l1, _, _, _⟩ := bk2 HL.out.2.2.1
      obtain ⟨z0, z1, g0, g1, _⟩ := bk2 HL.out.2.1
      clear hko HNX HNB HBD HXB
      go_wp2_with (fail)
      obtain ⟨r0, r1, E⟩ := lst_ret HL.out a b
      refine bodyPost_ret (v := .agg #[.int .i64 a, .int .i64 b]) (by simp [results, Try.results117, go_sem, r0, r1]) rfl ⟨by rw [HE.out], E⟩

end Go.Proofs.Ythfogmaefhfkoaa
