/- Contract: ChildrenOf, by the model. -/
import Derived.Test.YtjijabfamjhdjaaBds
namespace Go.Proofs.Ytjijabfamjhdjaa
open Go.RowKit

/-- Both children, and a code. -/
def chiK (n d : Int) (b : Int × Int × Int × Int) : Int × Int × Int × Int × Int := if okF (n + b.1) (d + b.2.1) = true ∧ okF (n + b.2.2.1) (d + b.2.2.2) = true then (n + b.1, d + b.2.1, n + b.2.2.1, d + b.2.2.2, 0) else (0, 0, 0, 0, 5)
def chiT (n d : Int) : Int × Int × Int × Int × Int := if code1 n d = 0 then chiK n d (bnd n d) else (0, 0, 0, 0, code1 n d)
theorem chiT_no {n d : Int} (h : code1 n d ≠ 0) : chiT n d = (0, 0, 0, 0, code1 n d) := if_neg h
theorem chiT_ok {n d : Int} (h : code1 n d = 0) : chiT n d = chiK n d (bnd n d) := if_pos h
def vC (t : Int × Int × Int × Int × Int) : Value := .tuple #[.agg #[.int .i64 t.1, .int .i64 t.2.1], .agg #[.int .i64 t.2.2.1, .int .i64 t.2.2.2.1], .int .i64 t.2.2.2.2]

/-- Both results are written and read back. -/
theorem box3_ret2 {w0 w : World} {n d : Int} (h : Box3 w0 w n d 0 0) (x y z u : Int) :
    ∃ X : World, X = ((((w.setCell ⟨w0.heap.size + 1, 0, none⟩ (.int .i64 x)).setCell ⟨w0.heap.size + 1, 1, none⟩ (.int .i64 y)).setCell ⟨w0.heap.size + 1 + 1, 0, none⟩ (.int .i64 z)).setCell ⟨w0.heap.size + 1 + 1, 1, none⟩ (.int .i64 u)) ∧
    X.cell? ⟨w0.heap.size + 1, 0, none⟩ = some (.int .i64 x) ∧ X.cell? ⟨w0.heap.size + 1, 1, none⟩ = some (.int .i64 y) ∧ X.cell? ⟨w0.heap.size + 1 + 1, 0, none⟩ = some (.int .i64 z) ∧ X.cell? ⟨w0.heap.size + 1 + 1, 1, none⟩ = some (.int .i64 u) ∧ Below w0.heap.size w0 X := by
  refine ⟨_, rfl, ?_⟩
  have a1 := heap_setCell_same w (w0.heap.size + 1) 0 _ _ (.int .i64 x) h.2.1
  have a2 := heap_setCell_same _ (w0.heap.size + 1) 1 _ _ (.int .i64 y) a1
  have b0 : ((w.setCell ⟨w0.heap.size + 1, 0, none⟩ (.int .i64 x)).setCell ⟨w0.heap.size + 1, 1, none⟩ (.int .i64 y)).heap[w0.heap.size + 1 + 1]? = _ := (heap_setCell_other _ ⟨w0.heap.size + 1, 1, none⟩ _ _ (by simp)).trans ((heap_setCell_other _ ⟨w0.heap.size + 1, 0, none⟩ _ _ (by simp)).trans h.2.2.1)
  have b1 := heap_setCell_same _ (w0.heap.size + 1 + 1) 0 _ _ (.int .i64 z) b0
  have b2 := heap_setCell_same _ (w0.heap.size + 1 + 1) 1 _ _ (.int .i64 u) b1
  have a3 := (heap_setCell_other _ ⟨w0.heap.size + 1 + 1, 1, none⟩ (w0.heap.size + 1) (.int .i64 u) (by simp)).trans ((heap_setCell_other _ ⟨w0.heap.size + 1 + 1, 0, none⟩ (w0.heap.size + 1) (.int .i64 z) (by simp)).trans a2)
  obtain ⟨r0, r1, _⟩ := blk2 (x := .int .i64 x) (y := .int .i64 y) (t := 25) a3
  obtain ⟨r2, r3, _⟩ := blk2 (x := .int .i64 z) (y := .int .i64 u) (t := 25) b2
  exact ⟨r0, r1, r2, r3, below_set (below_set (below_set (below_set h.2.2.2 (by omega) _) (by omega) _) (by omega) _) (by omega) _⟩

set_option maxHeartbeats 3200000 in
theorem specChi (n d : Int) (w : World) :
    Calls Try.prog 14 #[.agg #[.int .i64 n, .int .i64 d]] w fun e w' => e = .returned (vC (chiT n d)) ∧ Below w.heap.size w w' := by
  have HB := hid (box3_new w n d 0 0)
  have HC := hid (fun w => specCode n d w)
  unfold vC
  by_cases hc : code1 n d = 0
  · obtain ⟨ho, hn⟩ := code1_zero hc
    obtain ⟨m, hm, _⟩ := path_fo ho hn
    obtain ⟨z1, z2, z3, z4, z5, z6⟩ := bnd_nums ho hn
    obtain ⟨y1, y2, y3, y4⟩ := ok_bounds ho
    rw [chiT_ok hc]
    rw [hc] at HC
    have HP := hid (fun w => specPathL n d w ho hn)
    have hok := path_ok ho hn
    have HR := hid (fun (g c : Nat) (w : World) (h : Ints w g 0 (pathF n d)) => specBnd g c (pathF n d) m w hok hm h)
    rw [← bnd_some hm] at HR
    unfold bV at HR
    clear hc ho hm hok
    generalize bnd n d = b at *
    obtain ⟨p, q, r, t⟩ := b
    dsimp only at HR z1 z2 z3 z4 z5 z6
    generalize pathF n d = xs at *
    have HO1 := hid (fun w => specOk (n + p) (d + q) w)
    have HO2 := hid (fun w => specOk (n + r) (d + t) w)
    have x1 : 0 ≤ n + p ∧ n + p ≤ 2000000000 := by omega
    have x2 : 0 ≤ d + q ∧ d + q ≤ 2000000000 := by omega
    have x3 : 0 ≤ n + r ∧ n + r ≤ 2000000000 := by omega
    have x4 : 0 ≤ d + t ∧ d + t ≤ 2000000000 := by omega
    clear z5 z6
    cases h1 : okF (n + p) (d + q)
    · have HX := hid (show chiK n d (p, q, r, t) = (0, 0, 0, 0, 5) from if_neg (fun h => by have := h.1; dsimp only at this; rw [h1] at this; simp at this))
      rw [h1] at HO1
      rw [HX.out]
      clear HX
      go_enter Try.func14, Try.ntmps14
      go_wp2_with (fail)
      refine (HC.out _).mono ?_
      rintro e w1 ⟨rfl, v1⟩
      have BX := hid (box3_below HB.out v1)
      obtain ⟨a0, a1, _, _, _⟩ := blk2 BX.out.1
      clear v1
      go_wp2_with (fail)
      refine (HP.out _).mono ?_
      rintro e w2 ⟨g, c, rfl, o, v2⟩
      have BX2 := hid (box3_below BX.out v2)
      have O := hid (own_ints o)
      clear v2 o
      go_wp2_with (fail)
      refine (HR.out _ _ _ O.out).mono ?_
      rintro e w3 ⟨rfl, v3⟩
      have BX3 := hid (box3_below BX2.out v3)
      obtain ⟨a0, a1, _, _, l0⟩ := blk2 BX3.out.1
      have l2 : w.heap.size + 1 + 1 < w3.heap.size := (blk2 BX3.out.2.2.1).2.2.2.2
      clear v3
      have T6 := hid (new_at w3 (.cells #[.int .i64 p, .int .i64 q, .int .i64 r, .int .i64 t] 72))
      have T7 := hid (new_at (w3.alloc (.cells #[.int .i64 p, .int .i64 q, .int .i64 r, .int .i64 t] 72)) (.cells #[.int .i64 (n + p), .int .i64 (d + q)] 25))
      have T8 := hid (new_at ((w3.alloc (.cells #[.int .i64 p, .int .i64 q, .int .i64 r, .int .i64 t] 72)).alloc (.cells #[.int .i64 (n + p), .int .i64 (d + q)] 25)) (.cells #[.int .i64 (n + r), .int .i64 (d + t)] 25))
      have T7b := hid (old_at T7.out (.cells #[.int .i64 (n + r), .int .i64 (d + t)] 25))
      rw [World.size_alloc] at T7b
      rw [World.size_alloc, World.size_alloc] at T8
      have BX4 := hid (box3_below BX3.out ((((Below.refl w3.heap.size w3).alloc (Nat.le_refl _) (.cells #[.int .i64 p, .int .i64 q, .int .i64 r, .int .i64 t] 72)).alloc (by simp) (.cells #[.int .i64 (n + p), .int .i64 (d + q)] 25)).alloc (by simp; omega) (.cells #[.int .i64 (n + r), .int .i64 (d + t)] 25)))
      clear T6 T7
      go_wp2_with (fail)
      refine (HO1.out _).mono ?_
      rintro e w5 ⟨rfl, v5⟩
      have BX5 := hid (box3_below BX4.out v5)
      obtain ⟨u0, u1, f0, f1, _⟩ := blk2 BX5.out.2.1
      obtain ⟨u2, u3, f2, f3, _⟩ := blk2 BX5.out.2.2.1
      clear v5
      go_wp2_with (fail)
      obtain ⟨X, hX, r0, r1, r2, r3, E⟩ := box3_ret2 BX5.out 0 0 0 0
      rw [← hX]
      refine bodyPost_ret (v := .tuple #[.agg #[.int .i64 0, .int .i64 0], .agg #[.int .i64 0, .int .i64 0], .int .i64 5]) (by simp [results, Try.results14, go_sem, r0, r1, r2, r3]) rfl ⟨rfl, E⟩
    rw [h1] at HO1
    cases h2 : okF (n + r) (d + t)
    · have HX := hid (show chiK n d (p, q, r, t) = (0, 0, 0, 0, 5) from if_neg (fun h => by have := h.2; dsimp only at this; rw [h2] at this; simp at this))
      rw [h2] at HO2
      rw [HX.out]
      clear HX
      go_enter Try.func14, Try.ntmps14
      go_wp2_with (fail)
      refine (HC.out _).mono ?_
      rintro e w1 ⟨rfl, v1⟩
      have BX := hid (box3_below HB.out v1)
      obtain ⟨a0, a1, _, _, _⟩ := blk2 BX.out.1
      clear v1
      go_wp2_with (fail)
      refine (HP.out _).mono ?_
      rintro e w2 ⟨g, c, rfl, o, v2⟩
      have BX2 := hid (box3_below BX.out v2)
      have O := hid (own_ints o)
      clear v2 o
      go_wp2_with (fail)
      refine (HR.out _ _ _ O.out).mono ?_
      rintro e w3 ⟨rfl, v3⟩
      have BX3 := hid (box3_below BX2.out v3)
      obtain ⟨a0, a1, _, _, l0⟩ := blk2 BX3.out.1
      have l2 : w.heap.size + 1 + 1 < w3.heap.size := (blk2 BX3.out.2.2.1).2.2.2.2
      clear v3
      have T6 := hid (new_at w3 (.cells #[.int .i64 p, .int .i64 q, .int .i64 r, .int .i64 t] 72))
      have T7 := hid (new_at (w3.alloc (.cells #[.int .i64 p, .int .i64 q, .int .i64 r, .int .i64 t] 72)) (.cells #[.int .i64 (n + p), .int .i64 (d + q)] 25))
      have T8 := hid (new_at ((w3.alloc (.cells #[.int .i64 p, .int .i64 q, .int .i64 r, .int .i64 t] 72)).alloc (.cells #[.int .i64 (n + p), .int .i64 (d + q)] 25)) (.cells #[.int .i64 (n + r), .int .i64 (d + t)] 25))
      have T7b := hid (old_at T7.out (.cells #[.int .i64 (n + r), .int .i64 (d + t)] 25))
      rw [World.size_alloc] at T7b
      rw [World.size_alloc, World.size_alloc] at T8
      have BX4 := hid (box3_below BX3.out ((((Below.refl w3.heap.size w3).alloc (Nat.le_refl _) (.cells #[.int .i64 p, .int .i64 q, .int .i64 r, .int .i64 t] 72)).alloc (by simp) (.cells #[.int .i64 (n + p), .int .i64 (d + q)] 25)).alloc (by simp; omega) (.cells #[.int .i64 (n + r), .int .i64 (d + t)] 25)))
      clear T6 T7
      go_wp2_with (fail)
      refine (HO1.out _).mono ?_
      rintro e w5 ⟨rfl, v5⟩
      have BX5 := hid (box3_below BX4.out v5)
      obtain ⟨k7, k8⟩ := keep_blk T7b.out T8.out v5
      have T75 := hid k7
      have T85 := hid k8
      obtain ⟨s0, s1, _, _, _⟩ := blk2 k8
      clear v5 k7 k8
      go_wp2_with (fail)
      refine (HO2.out _).mono ?_
      rintro e w6 ⟨rfl, v6⟩
      have BX6 := hid (box3_below BX5.out v6)
      obtain ⟨k7, k8⟩ := keep_blk T75.out T85.out v6
      obtain ⟨s0, s1, _, _, _⟩ := blk2 k8
      obtain ⟨s2, s3, _, _, _⟩ := blk2 k7
      obtain ⟨u0, u1, f0, f1, _⟩ := blk2 BX6.out.2.1
      obtain ⟨u2, u3, f2, f3, _⟩ := blk2 BX6.out.2.2.1
      clear v6 k7 k8
      go_wp2_with (fail)
      obtain ⟨X, hX, r0, r1, r2, r3, E⟩ := box3_ret2 BX6.out 0 0 0 0
      rw [← hX]
      refine bodyPost_ret (v := .tuple #[.agg #[.int .i64 0, .int .i64 0], .agg #[.int .i64 0, .int .i64 0], .int .i64 5]) (by simp [results, Try.results14, go_sem, r0, r1, r2, r3]) rfl ⟨rfl, E⟩
    · have HX := hid (show chiK n d (p, q, r, t) = (n + p, d + q, n + r, d + t, 0) from if_pos ⟨h1, h2⟩)
      rw [h2] at HO2
      rw [HX.out]
      dsimp only
      clear HX
      go_enter Try.func14, Try.ntmps14
      go_wp2_with (fail)
      refine (HC.out _).mono ?_
      rintro e w1 ⟨rfl, v1⟩
      have BX := hid (box3_below HB.out v1)
      obtain ⟨a0, a1, _, _, _⟩ := blk2 BX.out.1
      clear v1
      go_wp2_with (fail)
      refine (HP.out _).mono ?_
      rintro e w2 ⟨g, c, rfl, o, v2⟩
      have BX2 := hid (box3_below BX.out v2)
      have O := hid (own_ints o)
      clear v2 o
      go_wp2_with (fail)
      refine (HR.out _ _ _ O.out).mono ?_
      rintro e w3 ⟨rfl, v3⟩
      have BX3 := hid (box3_below BX2.out v3)
      obtain ⟨a0, a1, _, _, l0⟩ := blk2 BX3.out.1
      have l2 : w.heap.size + 1 + 1 < w3.heap.size := (blk2 BX3.out.2.2.1).2.2.2.2
      clear v3
      have T6 := hid (new_at w3 (.cells #[.int .i64 p, .int .i64 q, .int .i64 r, .int .i64 t] 72))
      have T7 := hid (new_at (w3.alloc (.cells #[.int .i64 p, .int .i64 q, .int .i64 r, .int .i64 t] 72)) (.cells #[.int .i64 (n + p), .int .i64 (d + q)] 25))
      have T8 := hid (new_at ((w3.alloc (.cells #[.int .i64 p, .int .i64 q, .int .i64 r, .int .i64 t] 72)).alloc (.cells #[.int .i64 (n + p), .int .i64 (d + q)] 25)) (.cells #[.int .i64 (n + r), .int .i64 (d + t)] 25))
      have T7b := hid (old_at T7.out (.cells #[.int .i64 (n + r), .int .i64 (d + t)] 25))
      rw [World.size_alloc] at T7b
      rw [World.size_alloc, World.size_alloc] at T8
      have BX4 := hid (box3_below BX3.out ((((Below.refl w3.heap.size w3).alloc (Nat.le_refl _) (.cells #[.int .i64 p, .int .i64 q, .int .i64 r, .int .i64 t] 72)).alloc (by simp) (.cells #[.int .i64 (n + p), .int .i64 (d + q)] 25)).alloc (by simp; omega) (.cells #[.int .i64 (n + r), .int .i64 (d + t)] 25)))
      clear T6 T7
      go_wp2_with (fail)
      refine (HO1.out _).mono ?_
      rintro e w5 ⟨rfl, v5⟩
      have BX5 := hid (box3_below BX4.out v5)
      obtain ⟨k7, k8⟩ := keep_blk T7b.out T8.out v5
      have T75 := hid k7
      have T85 := hid k8
      obtain ⟨s0, s1, _, _, _⟩ := blk2 k8
      clear v5 k7 k8
      go_wp2_with (fail)
      refine (HO2.out _).mono ?_
      rintro e w6 ⟨rfl, v6⟩
      have BX6 := hid (box3_below BX5.out v6)
      obtain ⟨k7, k8⟩ := keep_blk T75.out T85.out v6
      obtain ⟨s0, s1, _, _, _⟩ := blk2 k8
      obtain ⟨s2, s3, _, _, _⟩ := blk2 k7
      obtain ⟨u0, u1, f0, f1, _⟩ := blk2 BX6.out.2.1
      obtain ⟨u2, u3, f2, f3, _⟩ := blk2 BX6.out.2.2.1
      clear v6 k7 k8
      go_wp2_with (fail)
      go_region
      go_wp2_with (fail)
      obtain ⟨X, hX, r0, r1, r2, r3, E⟩ := box3_ret2 BX6.out (n + p) (d + q) (n + r) (d + t)
      rw [← hX]
      refine bodyPost_ret (v := .tuple #[.agg #[.int .i64 (n + p), .int .i64 (d + q)], .agg #[.int .i64 (n + r), .int .i64 (d + t)], .int .i64 0]) (by simp [results, Try.results14, go_sem, r0, r1, r2, r3]) rfl ⟨rfl, Below.drew E⟩
  · rw [chiT_no hc]
    generalize code1 n d = k at *
    have hk : (k != 0) = true := by simpa using hc
    go_enter Try.func14, Try.ntmps14
    go_wp2_with (fail)
    refine (HC.out _).mono ?_
    rintro e w1 ⟨rfl, b1⟩
    have BX := hid (box3_below HB.out b1)
    obtain ⟨u0, u1, f0, f1, _⟩ := blk2 BX.out.2.1
    obtain ⟨u2, u3, f2, f3, _⟩ := blk2 BX.out.2.2.1
    clear b1
    go_wp2_with (fail)
    obtain ⟨X, hX, r0, r1, r2, r3, E⟩ := box3_ret2 BX.out 0 0 0 0
    rw [← hX]
    refine bodyPost_ret (v := .tuple #[.agg #[.int .i64 0, .int .i64 0], .agg #[.int .i64 0, .int .i64 0], .int .i64 k]) (by simp [results, Try.results14, go_sem, r0, r1, r2, r3]) rfl ⟨rfl, E⟩

end Go.Proofs.Ytjijabfamjhdjaa
