/- Contracts: floor and neighbours, as the program and the model tell them. -/
import Derived.Test.YtjijabfamjhdjaaAr5
namespace Go.Proofs.Ytjijabfamjhdjaa
open Go.RowKit

theorem implFloorQ (n d : Int) (w : World) (h1 : -1000000000 ≤ n) (h2 : n ≤ 1000000000) (h3 : 1 ≤ d) (h4 : d ≤ 1000000000) :
    Calls Try.prog 76 #[.int .i64 n, .int .i64 d] w fun e w' => e = .returned (.int .i64 (n / d)) ∧ w' = w := by
  by_cases hn : n < 0
  · by_cases ht : n.tmod d = 0
    · have e := floor_neg0 h3 ht
      have E := hid e
      have hz : (n.tmod d != 0) = false := by simp [ht]
      clear e ht
      go_enter Try.func76, Try.ntmps76
      go_wp2
      go_ret
      exact ⟨ret_int E.out, rfl⟩
    · have e := floor_neg1 h3 hn ht
      have E := hid e
      have hz : (n.tmod d != 0) = true := by simpa using ht
      have hd0 : decide (d < 0) = false := by simp; omega
      have hq := tdiv_bd n d
      have b1 : -1000000000 ≤ n.tdiv d := by omega
      have b2 : n.tdiv d ≤ 1000000000 := by omega
      clear e ht
      go_enter Try.func76, Try.ntmps76
      go_wp2
      go_ret
      exact ⟨ret_int E.out, rfl⟩
  · by_cases ht : n % d = 0
    · have hz : (n % d != 0) = false := by simp [ht]
      clear ht
      go_enter Try.func76, Try.ntmps76
      go_wp2
      go_ret
      exact ⟨rfl, rfl⟩
    · have hz : (n % d != 0) = true := by simpa using ht
      clear ht
      go_enter Try.func76, Try.ntmps76
      go_wp2
      go_ret
      exact ⟨rfl, rfl⟩

theorem specFloorQ (n d : Int) (w : World) (h1 : -1000000000 ≤ n) (h2 : n ≤ 1000000000) (h3 : 1 ≤ d) (h4 : d ≤ 1000000000) :
    Calls Try.prog 93 #[.int .i64 n, .int .i64 d] w fun e w' => e = .returned (.int .i64 (n / d)) ∧ w' = w := by
  by_cases hn : n < 0
  · by_cases ht : n.tmod d = 0
    · have e := floor_neg0 h3 ht
      have E := hid e
      have hz : ¬ n.tmod d < 0 := by omega
      clear e ht
      go_enter Try.func93, Try.ntmps93
      go_wp2
      go_ret
      exact ⟨ret_int E.out, rfl⟩
    · have e := floor_neg1 h3 hn ht
      have E := hid e
      have hz : n.tmod d < 0 := tmod_neg_of hn ht
      have hq := tdiv_bd n d
      have b1 : -1000000000 ≤ n.tdiv d := by omega
      have b2 : n.tdiv d ≤ 1000000000 := by omega
      clear e ht
      go_enter Try.func93, Try.ntmps93
      go_wp2
      go_ret
      exact ⟨ret_int E.out, rfl⟩
  · have hz : ¬ n % d < 0 := by have := Int.emod_nonneg n (show d ≠ 0 by omega); omega
    go_enter Try.func93, Try.ntmps93
    go_wp2
    go_ret
    exact ⟨rfl, rfl⟩

/-- The floor of a fraction, and a code. -/
def floorT (n d : Int) : Int × Int := if okF n d then (n / d, 0) else (0, 1)

set_option maxHeartbeats 400000 in
theorem implFloor (n d : Int) (w : World) :
    Calls Try.prog 37 #[.agg #[.int .i64 n, .int .i64 d]] w fun e w' => e = .returned (.tuple #[.int .i64 (floorT n d).1, .int .i64 (floorT n d).2]) ∧ Below w.heap.size w w' := by
  cases h1 : okF n d with
  | false =>
    have e0 : floorT n d = (0, 1) := by unfold floorT; rw [h1]; rfl
    rw [e0]
    have H1 := hid h1
    clear h1 e0
    go_enter Try.func37, Try.ntmps37
    go_wp2_with (fail)
    refine (implValid _ _ _).mono ?_
    rintro e w1 ⟨rfl, hb1⟩
    rw [H1.out]
    go_wp2
    go_ret2
    exact ⟨rfl, ((Below.refl _ _).alloc (Nat.le_refl _) _).trans (hb1.mono (by simp))⟩
  | true =>
    have e0 : floorT n d = (n / d, 0) := by unfold floorT; rw [h1]; rfl
    rw [e0]
    obtain ⟨x1, x2, x3, x4⟩ := ok_bounds h1
    have CL := fun w => implFloorQ n d w x3 x4 x1 x2
    generalize n / d = t at CL
    have HL := hid CL
    have H1 := hid h1
    clear h1 e0 CL
    go_enter Try.func37, Try.ntmps37
    go_wp2_with (fail)
    refine (implValid _ _ _).mono ?_
    rintro e w1 ⟨rfl, hb1⟩
    rw [H1.out]
    obtain ⟨hc1, hf1⟩ := bcell hb1
    go_wp2_with (fail)
    refine (HL.out _).mono ?_
    rintro e w2 ⟨rfl, rfl⟩
    go_wp2
    go_ret2
    exact ⟨rfl, ((Below.refl _ _).alloc (Nat.le_refl _) _).trans (hb1.mono (by simp))⟩

/-- Are two fractions neighbours? -/
def nbB (n d m f : Int) : Bool := okF n d && okF m f && (n * f - m * d == 1 || n * f - m * d == -1)

end Go.Proofs.Ytjijabfamjhdjaa
