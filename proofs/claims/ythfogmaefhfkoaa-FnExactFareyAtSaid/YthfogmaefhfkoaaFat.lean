/- Contract: FareyAt, by the model. -/
import Derived.Test.YthfogmaefhfkoaaFsq
namespace Go.Proofs.Ythfogmaefhfkoaa
open Go.RowKit

set_option maxHeartbeats 1600000 in
theorem specFat (o k : Int) (w : World) (hk0 : -9223372036854775808 ≤ k) (hk1 : k ≤ 9223372036854775807) :
    Calls Try.prog 79 #[.int .i64 o, .int .i64 k] w fun e w' => e = .returned (tv (fatT o k)) ∧ Below w.heap.size w w' := by
  have HZ := hid (nw_at w (.cells #[.int .i64 0, .int .i64 0] 25))
  have E0 := hid ((Below.refl w.heap.size w).alloc (Nat.le_refl _) (.cells #[.int .i64 0, .int .i64 0] 25))
  obtain ⟨z0, z1, g0, g1, zl⟩ := bk2 HZ.out
  have H1 := hid (fun w => specO6 o w)
  unfold tv
  cases hi : inB 1 40 o
  · rw [fatT_no hi]
    rw [hi] at H1
    clear hi
    go_enter Try.func79, Try.ntmps79
    go_wp2_with (fail)
    refine (H1.out _).mono ?_
    rintro e w1 ⟨rfl, rfl⟩
    go_wp2_with (fail)
    refine bodyPost_ret (v := .tuple #[.agg #[.int .i64 0, .int .i64 0], .int .i64 2]) (by simp [results, Try.results79, go_sem]) rfl ⟨rfl, ?_⟩
    exact E0.out
  obtain ⟨ho, ho1⟩ := inB_iff.1 hi
  rw [hi] at H1
  have hlen : 1 ≤ (far o).length := by obtain ⟨r, e⟩ := far_first ho ho1; rw [e]; simp
  have hlen2 := far_len o
  have HS := hid (fun w => specAll o w ho ho1)
  have HFORM := hid (fun (B : Nat) (W : World) (v : Value) (r : FBack B W v (far o)) => show ∃ g c, v = .slice (some ⟨g, 0, none⟩) (far o).length c ∧ FOwn B W g c (far o) from by
    rcases r with ⟨_, h0⟩ | ⟨g, c, e, h⟩
    · rw [h0] at hlen; simp at hlen
    · exact ⟨g, c, e, h⟩)
  have HIN := hid (fun w => specIn k 0 ((far o).length - 1) w)
  cases hin : inB 0 ((far o).length - 1) k
  · rw [fatT_out hi hin]
    rw [hin] at HIN
    clear hi hin
    generalize far o = xs at *
    go_enter Try.func79, Try.ntmps79
    go_wp2_with (fail)
    refine (H1.out _).mono ?_
    rintro e w1 ⟨rfl, rfl⟩
    clear z0 z1 g0 g1 zl
    go_wp2_with (fail)
    refine (HS.out _).mono ?_
    rintro e w1 ⟨v, rfl, r, b1⟩
    have E1 := hid (E0.out.trans (b1.mono E0.out.size))
    have Z1 := hid (bk_kept HZ.out b1 (Nat.le_refl _))
    obtain ⟨z0, z1, g0, g1, zl⟩ := bk2 Z1.out
    obtain ⟨g, c, rfl, hr⟩ := HFORM.out _ _ _ r
    clear r b1 hr
    go_wp2_with (fail)
    refine (HIN.out _).mono ?_
    rintro e w2 ⟨rfl, rfl⟩
    go_wp2_with (fail)
    obtain ⟨r0, r1, E⟩ := rs_ret Z1.out E1.out 0 0
    refine bodyPost_ret (v := .tuple #[.agg #[.int .i64 0, .int .i64 0], .int .i64 3]) (by simp [results, Try.results79, go_sem, r0, r1]) rfl ⟨rfl, E⟩
  · obtain ⟨hka, hkb⟩ := inB_iff.1 hin
    obtain ⟨j, rfl⟩ : ∃ j : Nat, k = j := ⟨k.toNat, by omega⟩
    obtain ⟨x, hx⟩ : ∃ x, (far o)[j]? = some x := ⟨_, List.getElem?_eq_getElem (by omega)⟩
    rw [fatT_ok hi hx]
    rw [hin] at HIN
    obtain ⟨x0, x1⟩ := x
    have hj1 : (j : Int) < ((far o).length : Int) := by omega
    have HX := hid hx
    clear hi hin hx
    generalize far o = xs at *
    go_enter Try.func79, Try.ntmps79
    go_wp2_with (fail)
    refine (H1.out _).mono ?_
    rintro e w1 ⟨rfl, rfl⟩
    clear z0 z1 g0 g1 zl
    go_wp2_with (fail)
    refine (HS.out _).mono ?_
    rintro e w1 ⟨v, rfl, r, b1⟩
    have E1 := hid (E0.out.trans (b1.mono E0.out.size))
    have Z1 := hid (bk_kept HZ.out b1 (Nat.le_refl _))
    obtain ⟨z0, z1, g0, g1, zl⟩ := bk2 Z1.out
    obtain ⟨g, c, rfl, hr⟩ := HFORM.out _ _ _ r
    obtain ⟨c0, c1⟩ := fown_cells hr HX.out
    have hgl : w.heap.size + 1 ≤ g := by have := hr.1; simpa using this
    clear r b1 hr
    go_wp2_with (fail)
    refine (HIN.out _).mono ?_
    rintro e w2 ⟨rfl, rfl⟩
    go_wp2_with (fail)
    obtain ⟨r0, r1, E⟩ := rs_ret Z1.out E1.out x0 x1
    refine bodyPost_ret (v := .tuple #[.agg #[.int .i64 x0, .int .i64 x1], .int .i64 0]) (by simp [results, Try.results79, go_sem, r0, r1]) rfl ⟨rfl, E⟩

end Go.Proofs.Ythfogmaefhfkoaa
