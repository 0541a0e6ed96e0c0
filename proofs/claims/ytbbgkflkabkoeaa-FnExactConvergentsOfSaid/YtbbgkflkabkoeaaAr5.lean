/- Contracts: order, floor and neighbours, as the program and the model tell them. -/
import Derived.Test.YtbbgkflkabkoeaaAri
import Derived.Deep.RegionHeld3
namespace Go.Proofs.Ytbbgkflkabkoeaa
open Go.RowKit

theorem alloc2 (w : World) (a b : Obj) : Below w.heap.size w ((w.alloc a).alloc b) :=
  ((Below.refl _ _).alloc (Nat.le_refl _) _).alloc (by simp) _

def sgn (x : Int) : Int := if x < 0 then -1 else if x = 0 then 0 else 1
/-- The order of two fractions, and a code. -/
def cmpT (n d m f : Int) : Int × Int := if okF n d && okF m f then (sgn (n * f - m * d), 0) else (0, 1)

theorem specSign (n d m f : Int) (w : World) (h1 : okF n d = true) (h2 : okF m f = true) :
    Calls Try.prog 56 #[.agg #[.int .i64 n, .int .i64 d], .agg #[.int .i64 m, .int .i64 f]] w fun e w' => e = .returned (.int .i64 (sgn (n * f - m * d))) ∧ Below w.heap.size w w' := by
  obtain ⟨x1, x2, x3, x4⟩ := ok_bounds h1
  obtain ⟨y1, y2, y3, y4⟩ := ok_bounds h2
  have p1 := mul_bd (a := n) (b := f) (by omega) (by omega) (by omega) (by omega)
  have p2 := mul_bd (a := m) (b := d) (by omega) (by omega) (by omega) (by omega)
  clear h1 h2
  generalize hA : n * f = A at p1 ⊢
  generalize hB : m * d = B at p2 ⊢
  have HA := hid hA
  have HB := hid hB
  by_cases ha : A < B
  · have e : sgn (A - B) = -1 := by unfold sgn; rw [if_pos (by omega)]
    rw [e]
    clear e HA HB
    go_enter Try.func56, Try.ntmps56
    go_wp2
    go_ret
    exact ⟨rfl, alloc2 _ _ _⟩
  · by_cases hb : B < A
    · have e : sgn (A - B) = 1 := by unfold sgn; rw [if_neg (by omega), if_neg (by omega)]
      rw [e]
      clear e HA HB
      go_enter Try.func56, Try.ntmps56
      go_wp2
      go_ret
      exact ⟨rfl, alloc2 _ _ _⟩
    · have e : sgn (A - B) = 0 := by unfold sgn; rw [if_neg (by omega), if_pos (by omega)]
      rw [e]
      clear e HA HB
      go_enter Try.func56, Try.ntmps56
      go_wp2
      go_ret
      exact ⟨rfl, alloc2 _ _ _⟩

set_option maxHeartbeats 400000 in
theorem specCompare (n d m f : Int) (w : World) :
    Calls Try.prog 19 #[.agg #[.int .i64 n, .int .i64 d], .agg #[.int .i64 m, .int .i64 f]] w fun e w' => e = .returned (.tuple #[.int .i64 (cmpT n d m f).1, .int .i64 (cmpT n d m f).2]) ∧ Below w.heap.size w w' := by
  have CT := fun w => specTwo n d m f w
  cases h : (okF n d && okF m f) with
  | false =>
    have e0 : cmpT n d m f = (0, 1) := by unfold cmpT; rw [h]; rfl
    rw [e0]
    rw [h] at CT
    have HT := hid CT
    clear CT h e0
    go_enter Try.func19, Try.ntmps19
    go_wp2_with (fail)
    refine (HT.out _).mono ?_
    rintro e w1 ⟨rfl, hb1⟩
    go_wp2
    go_ret2
    exact ⟨rfl, (alloc2 _ _ _).trans (hb1.mono (by simp; omega))⟩
  | true =>
    have e0 : cmpT n d m f = (sgn (n * f - m * d), 0) := by unfold cmpT; rw [h]; rfl
    rw [e0]
    rw [h] at CT
    have HT := hid CT
    have h' := h
    simp only [Bool.and_eq_true] at h'
    obtain ⟨h1, h2⟩ := h'
    have CL := fun w => specSign n d m f w h1 h2
    generalize sgn (n * f - m * d) = t at CL
    have HL := hid CL
    clear CT h e0 h1 h2 CL
    go_enter Try.func19, Try.ntmps19
    go_wp2_with (fail)
    refine (HT.out _).mono ?_
    rintro e w1 ⟨rfl, hb1⟩
    obtain ⟨hc1, hf1⟩ := bcell hb1
    go_wp2_with (fail)
    refine (HL.out _).mono ?_
    rintro e w2 ⟨rfl, hb2⟩
    have hB2 := hb1.trans (hb2.mono hb1.size)
    go_wp2
    go_ret2
    exact ⟨rfl, (alloc2 _ _ _).trans (hB2.mono (by simp; omega))⟩

end Go.Proofs.Ytbbgkflkabkoeaa
