/- Contracts: FareySequence and FareyAt, by the program and by the model. -/
import Derived.Test.YthfogmaefhfkoaaFse
namespace Go.Proofs.Ythfogmaefhfkoaa
open Go.RowKit

theorem implColl (bx : Nat) (o : Int) (w : World) (ho : 1 ≤ o) (ho1 : o ≤ 40) (hb : w.cell? ⟨bx, 0, none⟩ = some (.int .i64 o)) :
    Calls Try.prog 120 #[.func (.func 157) #[] #[.pointer (some ⟨bx, 0, none⟩)]] w fun e w' => (∃ v, e = .returned v ∧ FBack w.heap.size w' v (far o)) ∧ Below w.heap.size w w' := by
  have HA := hid (callsIn_wide.1 (implApp bx o w ho ho1 hb))
  clear hb
  go_enter Try.func120, Try.ntmps120
  go_wp2_with (fail)
  refine HA.out.mono ?_
  rintro e w1 ⟨⟨v, rfl, r⟩, b1⟩
  have R := hid r
  have E := hid b1
  clear r b1
  go_wp2_with (fail)
  go_ret
  exact ⟨⟨_, rfl, R.out⟩, E.out⟩

/-- The sequence, and a code. -/
def seqT (o : Int) : List (Int × Int) × Int := if inB 1 40 o then (far o, 0) else ([], 2)
theorem seqT_no {o : Int} (h : inB 1 40 o = false) : seqT o = ([], 2) := by unfold seqT; rw [h]; rfl
theorem seqT_ok {o : Int} (h : inB 1 40 o = true) : seqT o = (far o, 0) := by unfold seqT; rw [h]; rfl
theorem seqT_len (o : Int) : (seqT o).1.length ≤ 600 := by
  unfold seqT
  split
  · exact far_len o
  · simp

theorem implSeq (o : Int) (w : World) :
    Calls Try.prog 78 #[.int .i64 o] w fun e w' => FListR w.heap.size (seqT o) e w' ∧ Below w.heap.size w w' := by
  have H1 := hid (fun w => within6 1 40 o w)
  cases hi : inB 1 40 o
  · rw [seqT_no hi]
    rw [hi] at H1
    clear hi
    go_enter Try.func78, Try.ntmps78
    go_wp2_with (fail)
    refine (H1.out _).mono ?_
    rintro e w1 ⟨rfl, b1⟩
    go_wp2_with (fail)
    go_ret2
    exact ⟨⟨_, rfl, .inl ⟨rfl, rfl⟩⟩, b1⟩
  · rw [seqT_ok hi]
    rw [hi] at H1
    obtain ⟨ho, ho1⟩ := inB_iff.1 hi
    clear hi
    have HE := hid (fun w => implElems o w)
    have HC := hid (fun w => implColl (World.heap w).size o (w.alloc (.cells #[.int .i64 o] 2)) ho ho1 (cell1 (nw_at w _)).1)
    go_enter Try.func78, Try.ntmps78
    go_wp2_with (fail)
    refine (H1.out _).mono ?_
    rintro e w1 ⟨rfl, b1⟩
    have E1 := hid b1
    clear b1
    go_wp2_with (fail)
    refine (HE.out _).mono ?_
    rintro e w2 ⟨rfl, rfl⟩
    go_wp2_with (fail)
    refine (HC.out _).mono ?_
    rintro e w3 ⟨⟨v, rfl, r⟩, b3⟩
    have R := hid (fback_mono r (show w.heap.size ≤ _ by have := E1.out.size; simp; omega))
    have E3 := hid ((E1.out.alloc E1.out.size (.cells #[.int .i64 o] 2)).trans (b3.mono (by have := E1.out.size; simp; omega)))
    clear r b3
    go_wp2_with (fail)
    go_ret2
    exact ⟨⟨_, rfl, R.out⟩, E3.out⟩

theorem specSeq (o : Int) (w : World) :
    Calls Try.prog 77 #[.int .i64 o] w fun e w' => FListR w.heap.size (seqT o) e w' ∧ Below w.heap.size w w' := by
  have H1 := hid (fun w => specO6 o w)
  cases hi : inB 1 40 o
  · rw [seqT_no hi]
    rw [hi] at H1
    clear hi
    go_enter Try.func77, Try.ntmps77
    go_wp2_with (fail)
    refine (H1.out _).mono ?_
    rintro e w1 ⟨rfl, rfl⟩
    go_wp2_with (fail)
    go_ret2
    exact ⟨⟨_, rfl, .inl ⟨rfl, rfl⟩⟩, Below.refl _ _⟩
  · rw [seqT_ok hi]
    rw [hi] at H1
    obtain ⟨ho, ho1⟩ := inB_iff.1 hi
    clear hi
    have HC := hid (fun w => specAll o w ho ho1)
    go_enter Try.func77, Try.ntmps77
    go_wp2_with (fail)
    refine (H1.out _).mono ?_
    rintro e w1 ⟨rfl, rfl⟩
    go_wp2_with (fail)
    refine (HC.out _).mono ?_
    rintro e w3 ⟨v, rfl, r, b3⟩
    have R := hid r
    have E3 := hid b3
    clear r b3
    go_wp2_with (fail)
    go_ret2
    exact ⟨⟨_, rfl, R.out⟩, E3.out⟩

/-- An element by its number, and a code. -/
def fatT (o k : Int) : Int × Int × Int := if inB 1 40 o then (if inB 0 ((far o).length - 1) k then (((far o).getD k.toNat (0, 0)).1, ((far o).getD k.toNat (0, 0)).2, 0) else (0, 0, 3)) else (0, 0, 2)
theorem fatT_no {o k : Int} (h : inB 1 40 o = false) : fatT o k = (0, 0, 2) := by unfold fatT; rw [h]; rfl
theorem fatT_out {o k : Int} (h : inB 1 40 o = true) (h2 : inB 0 ((far o).length - 1) k = false) : fatT o k = (0, 0, 3) := by unfold fatT; rw [h, h2]; rfl
theorem fatT_ok {o : Int} {k : Nat} {x : Int × Int} (h : inB 1 40 o = true) (h2 : (far o)[k]? = some x) : fatT o k = (x.1, x.2, 0) := by
  have hl := (List.getElem?_eq_some_iff.1 h2).1
  unfold fatT
  rw [h, inB_yes ⟨by omega, by omega⟩, Int.toNat_natCast, List.getD_eq_getElem?_getD, h2]
  rfl
/-- The result's block. -/
theorem rs_ret {w0 w : World} (hz : w.heap[w0.heap.size]? = some (.cells #[.int .i64 0, .int .i64 0] 25 (0, 0))) (hb : Below w0.heap.size w0 w) (x y : Int) : ((w.setCell ⟨w0.heap.size, 0, none⟩ (.int .i64 x)).setCell ⟨w0.heap.size, 1, none⟩ (.int .i64 y)).cell? ⟨w0.heap.size, 0, none⟩ = some (.int .i64 x) ∧ ((w.setCell ⟨w0.heap.size, 0, none⟩ (.int .i64 x)).setCell ⟨w0.heap.size, 1, none⟩ (.int .i64 y)).cell? ⟨w0.heap.size, 1, none⟩ = some (.int .i64 y) ∧ Below w0.heap.size w0 ((w.setCell ⟨w0.heap.size, 0, none⟩ (.int .i64 x)).setCell ⟨w0.heap.size, 1, none⟩ (.int .i64 y)) := by
  obtain ⟨k0, k1, _⟩ := bk2 hz
  obtain ⟨a, b⟩ := two_set (u := .int .i64 x) (v := .int .i64 y) k0 k1
  exact ⟨a, b, below_set (below_set hb (by omega) _) (by omega) _⟩

set_option maxHeartbeats 1600000 in
theorem implFat (o k : Int) (w : World) (hk0 : -9223372036854775808 ≤ k) (hk1 : k ≤ 9223372036854775807) :
    Calls Try.prog 80 #[.int .i64 o, .int .i64 k] w fun e w' => e = .returned (tv (fatT o k)) ∧ Below w.heap.size w w' := by
  have HZ := hid (nw_at w (.cells #[.int .i64 0, .int .i64 0] 25))
  have E0 := hid ((Below.refl w.heap.size w).alloc (Nat.le_refl _) (.cells #[.int .i64 0, .int .i64 0] 25))
  have HS := hid (fun w => implSeq o w)
  unfold tv
  cases hi : inB 1 40 o
  · rw [fatT_no hi]
    rw [seqT_no hi] at HS
    clear hi
    go_enter Try.func80, Try.ntmps80
    go_wp2_with (fail)
    refine (HS.out _).mono ?_
    rintro e w1 ⟨⟨v, rfl, r⟩, b1⟩
    have E1 := hid (E0.out.trans (b1.mono E0.out.size))
    have Z1 := hid (bk_kept HZ.out b1 (Nat.le_refl _))
    obtain ⟨z0, z1, g0, g1, zl⟩ := bk2 Z1.out
    clear r b1
    go_wp2_with (fail)
    obtain ⟨r0, r1, E⟩ := rs_ret Z1.out E1.out 0 0
    refine bodyPost_ret (v := .tuple #[.agg #[.int .i64 0, .int .i64 0], .int .i64 2]) (by simp [results, Try.results80, go_sem, r0, r1]) rfl ⟨rfl, E⟩
  obtain ⟨ho, ho1⟩ := inB_iff.1 hi
  have hlen : 1 ≤ (far o).length := by obtain ⟨r, e⟩ := far_first ho ho1; rw [e]; simp
  have hlen2 := far_len o
  rw [seqT_ok hi] at HS
  have HFORM := hid (fun (B : Nat) (W : World) (v : Value) (r : FBack B W v (far o)) => show ∃ g c, v = .slice (some ⟨g, 0, none⟩) (far o).length c ∧ FOwn B W g c (far o) from by
    rcases r with ⟨_, h0⟩ | ⟨g, c, e, h⟩
    · rw [h0] at hlen; simp at hlen
    · exact ⟨g, c, e, h⟩)
  by_cases h0 : k < 0
  · rw [fatT_out hi (inB_no (by omega))]
    clear hi
    generalize far o = xs at *
    go_enter Try.func80, Try.ntmps80
    go_wp2_with (fail)
    refine (HS.out _).mono ?_
    rintro e w1 ⟨⟨v, rfl, r⟩, b1⟩
    have E1 := hid (E0.out.trans (b1.mono E0.out.size))
    have Z1 := hid (bk_kept HZ.out b1 (Nat.le_refl _))
    obtain ⟨z0, z1, g0, g1, zl⟩ := bk2 Z1.out
    obtain ⟨g, c, rfl, hr⟩ := HFORM.out _ _ _ r
    clear r b1 hr
    go_wp2_with (fail)
    obtain ⟨r0, r1, E⟩ := rs_ret Z1.out E1.out 0 0
    refine bodyPost_ret (v := .tuple #[.agg #[.int .i64 0, .int .i64 0], .int .i64 3]) (by simp [results, Try.results80, go_sem, r0, r1]) rfl ⟨rfl, E⟩
  obtain ⟨j, rfl⟩ : ∃ j : Nat, k = j := ⟨k.toNat, by omega⟩
  by_cases h1 : j < (far o).length
  · obtain ⟨x, hx⟩ : ∃ x, (far o)[j]? = some x := ⟨_, List.getElem?_eq_getElem h1⟩
    rw [fatT_ok hi hx]
    obtain ⟨x0, x1⟩ := x
    have hj0 : (0 : Int) ≤ (j : Int) := by omega
    have hj1 : (j : Int) < ((far o).length : Int) := by omega
    have HX := hid hx
    clear hi hx
    generalize far o = xs at *
    go_enter Try.func80, Try.ntmps80
    go_wp2_with (fail)
    refine (HS.out _).mono ?_
    rintro e w1 ⟨⟨v, rfl, r⟩, b1⟩
    have E1 := hid (E0.out.trans (b1.mono E0.out.size))
    have Z1 := hid (bk_kept HZ.out b1 (Nat.le_refl _))
    obtain ⟨z0, z1, g0, g1, zl⟩ := bk2 Z1.out
    obtain ⟨g, c, rfl, hr⟩ := HFORM.out _ _ _ r
    obtain ⟨c0, c1⟩ := fown_cells hr HX.out
    have hgl : w.heap.size + 1 ≤ g := by have := hr.1; simpa using this
    clear r b1 hr
    go_wp2_with (fail)
    obtain ⟨r0, r1, E⟩ := rs_ret Z1.out E1.out x0 x1
    refine bodyPost_ret (v := .tuple #[.agg #[.int .i64 x0, .int .i64 x1], .int .i64 0]) (by simp [results, Try.results80, go_sem, r0, r1]) rfl ⟨rfl, E⟩
  · rw [fatT_out hi (inB_no (by omega))]
    have hj1 : ((far o).length : Int) ≤ (j : Int) := by omega
    clear hi
    generalize far o = xs at *
    go_enter Try.func80, Try.ntmps80
    go_wp2_with (fail)
    refine (HS.out _).mono ?_
    rintro e w1 ⟨⟨v, rfl, r⟩, b1⟩
    have E1 := hid (E0.out.trans (b1.mono E0.out.size))
    have Z1 := hid (bk_kept HZ.out b1 (Nat.le_refl _))
    obtain ⟨z0, z1, g0, g1, zl⟩ := bk2 Z1.out
    obtain ⟨g, c, rfl, hr⟩ := HFORM.out _ _ _ r
    clear r b1 hr
    go_wp2_with (fail)
    obtain ⟨r0, r1, E⟩ := rs_ret Z1.out E1.out 0 0
    refine bodyPost_ret (v := .tuple #[.agg #[.int .i64 0, .int .i64 0], .int .i64 3]) (by simp [results, Try.results80, go_sem, r0, r1]) rfl ⟨rfl, E⟩

end Go.Proofs.Ythfogmaefhfkoaa
