/- Contracts: floor and neighbours, as the program and the model tell them. -/
import Derived.Test.YthfogmaefhfkoaaAr5
namespace Go.Proofs.Ythfogmaefhfkoaa
open Go.RowKit

theorem implFloorQ (n d : Int) (w : World) (h1 : -1000000000 ≤ n) (h2 : n ≤ 1000000000) (h3 : 1 ≤ d) (h4 : d ≤ 1000000000) :
    Calls Try.prog 112 #[.int .i64 n, .int .i64 d] w fun e w' => e = .returned (.int .i64 (n / d)) ∧ w' = w := by
  by_cases hn : n < 0
  · by_cases ht : n.tmod d = 0
    · have e := floor_neg0 h3 ht
      have E := hid e
      have hz : (n.tmod d != 0) = false := by simp [ht]
      clear e ht
      go_enter Try.func112, Try.ntmps112
      go_wp2
      go_ret
      exact ⟨ret_int E.out, rfl⟩
    · have e := floor_neg1 h3 hn ht
      have E := hid e
      have hz : (n.tmod d != 0) = true := by simpa using ht
      have hd0 : decide (d < 0) = false := by simp; omega
      have hq := tdiv_bd n d
      have b1 : -1000000000 ≤ n.tdiv d := by omega
      have b2 : n.tdiv d ≤ 1000000000 := by omega
      clear e ht
      go_enter Try.func112, Try.ntmps112
      go_wp2
      go_ret
      exact ⟨ret_int E.out, rfl⟩
  · by_cases ht : n % d = 0
    · have hz : (n % d != 0) = false := by simp [ht]
      clear ht
      go_enter Try.func112, Try.ntmps112
      go_wp2
      go_ret
      exact ⟨rfl, rfl⟩
    · have hz : (n % d != 0) = true := by simpa using ht
      clear ht
      go_enter Try.func112, Try.ntmps112
      go_wp2
      go_ret
      exact ⟨rfl, rfl⟩

theorem specFloorQ (n d : Int) (w : World) (h1 : -1000000000 ≤ n) (h2 : n ≤ 1000000000) (h3 : 1 ≤ d) (h4 : d ≤ 1000000000) :
    Calls Try.prog 150 #[.int .i64 n, .int .i64 d] w fun e w' => e = .returned (.int .i64 (n / d)) ∧ w' = w := by
  by_cases hn : n < 0
  · by_cases ht : n.tmod d = 0
    · have e := floor_neg0 h3 ht
      have E := hid e
      have hz : ¬ n.tmod d < 0 := by omega
      clear e ht
      go_enter Try.func150, Try.ntmps150
      go_wp2
      go_ret
      exact ⟨ret_int E.out, rfl⟩
    · have e := floor_neg1 h3 hn ht
      have E := hid e
      have hz : n.tmod d < 0 := tmod_neg_of hn ht
      have hq := tdiv_bd n d
      have b1 : -1000000000 ≤ n.tdiv d := by omega
      have b2 : n.tdiv d ≤ 1000000000 := by omega
      clear e ht
      go_enter Try.func150, Try.ntmps150
      go_wp2
      go_ret
      exact ⟨ret_int E.out, rfl⟩
  · have hz : ¬ n % d < 0 := by have := Int.emod_nonneg n (show d ≠ 0 by omega); omega
    go_enter Try.func150, Try.ntmps150
    go_wp2
    go_ret
    exact ⟨rfl, rfl⟩

/-- The floor of a fraction, and a code. -/
def floorT (n d : Int) : Int × Int := if okF n d then (n / d, 0) else (0, 1)

set_option maxHeartbeats 400000 in
theorem implFloor (n d : Int) (w : World) :
    Calls Try.prog 48 #[.agg #[.int .i64 n, .int .i64 d]] w fun e w' => e = .returned (.tuple #[.int .i64 (floorT n d).1, .int .i64 (floorT n d).2]) ∧ Below w.heap.size w w' := by
  cases h1 : okF n d with
  | false =>
    have e0 : floorT n d = (0, 1) := by unfold floorT; rw [h1]; rfl
    rw [e0]
    have H1 := hid h1
    clear h1 e0
    go_enter Try.func48, Try.ntmps48
    go_wp2_with (fail)
    refine (implValid _ _ _).mono ?_
    rintro e w1 ⟨rfl, hb1⟩
    rw [H1.out]
    go_wp2
    go_ret2
    exact ⟨rfl, ((Below.refl _ _).alloc (Nat.le_refl _) _).trans (hb1.mono (by simp))⟩
  | true =>
    have e0 : floorT n d = (n / d, 0) := by unfold floorT; rw [h1]; rfl
    rw [e0]
    obtain ⟨x1, x2, x3, x4⟩ := ok_bounds h1
    have CL := fun w => implFloorQ n d w x3 x4 x1 x2
    generalize n / d = t at CL
    have HL := hid CL
    have H1 := hid h1
    clear h1 e0 CL
    go_enter Try.func48, Try.ntmps48
    go_wp2_with (fail)
    refine (implValid _ _ _).mono ?_
    rintro e w1 ⟨rfl, hb1⟩
    rw [H1.out]
    obtain ⟨hc1, hf1⟩ := bcell hb1
    go_wp2_with (fail)
    refine (HL.out _).mono ?_
    rintro e w2 ⟨rfl, rfl⟩
    go_wp2
    go_ret2
    exact ⟨rfl, ((Below.refl _ _).alloc (Nat.le_refl _) _).trans (hb1.mono (by simp))⟩

/-- Are two fractions neighbours? -/
def nbB (n d m f : Int) : Bool := okF n d && okF m f && (n * f - m * d == 1 || n * f - m * d == -1)

set_option maxHeartbeats 800000 in
theorem implNb (n d m f : Int) (w : World) :
    Calls Try.prog 126 #[.agg #[.int .i64 n, .int .i64 d], .agg #[.int .i64 m, .int .i64 f]] w fun e w' => e = .returned (.bool (nbB n d m f)) ∧ Below w.heap.size w w' := by
  cases h1 : okF n d with
  | false =>
    have e0 : nbB n d m f = false := by unfold nbB; rw [h1]; rfl
    rw [e0]
    have H1 := hid h1
    clear h1 e0
    go_enter Try.func126, Try.ntmps126
    go_wp2_with (fail)
    refine (implValid _ _ _).mono ?_
    rintro e w1 ⟨rfl, hb1⟩
    rw [H1.out]
    go_wp2
    go_ret
    exact ⟨rfl, (alloc2 _ _ _).trans (hb1.mono (by simp; omega))⟩
  | true =>
   cases h2 : okF m f with
   | false =>
    have e0 : nbB n d m f = false := by unfold nbB; rw [h2, Bool.and_false]; rfl
    rw [e0]
    have H1 := hid h1
    have H2 := hid h2
    clear h1 h2 e0
    go_enter Try.func126, Try.ntmps126
    go_wp2_with (fail)
    refine (implValid _ _ _).mono ?_
    rintro e w1 ⟨rfl, hb1⟩
    rw [H1.out]
    obtain ⟨hc1, hf1⟩ := bcell hb1
    go_wp2_with (fail)
    refine (implValid _ _ _).mono ?_
    rintro e w2 ⟨rfl, hb2⟩
    rw [H2.out]
    have hB2 := hb1.trans (hb2.mono hb1.size)
    clear hc1 hf1
    obtain ⟨hc2, hf2⟩ := bcell hB2
    go_wp2
    go_ret
    exact ⟨rfl, (alloc2 _ _ _).trans (hB2.mono (by simp; omega))⟩
   | true =>
    have e0 : nbB n d m f = (n * f - m * d == 1 || n * f - m * d == -1) := by unfold nbB; rw [h1, h2]; rfl
    rw [e0]
    have CL := fun w => cross n d m f w h1 h2
    have H1 := hid h1
    have H2 := hid h2
    generalize n * f - m * d = t at CL ⊢
    have HL := hid CL
    clear h1 h2 e0 CL
    by_cases ht : t = 1
    · subst ht
      go_enter Try.func126, Try.ntmps126
      go_wp2_with (fail)
      refine (implValid _ _ _).mono ?_
      rintro e w1 ⟨rfl, hb1⟩
      rw [H1.out]
      obtain ⟨hc1, hf1⟩ := bcell hb1
      go_wp2_with (fail)
      refine (implValid _ _ _).mono ?_
      rintro e w2 ⟨rfl, hb2⟩
      rw [H2.out]
      have hB2 := hb1.trans (hb2.mono hb1.size)
      clear hc1 hf1
      obtain ⟨hc2, hf2⟩ := bcell hB2
      go_wp2_with (fail)
      refine (HL.out _).mono ?_
      rintro e w3 ⟨rfl, hb3⟩
      have hB3 := hB2.trans (hb3.mono hB2.size)
      go_wp2
      go_ret
      exact ⟨rfl, (alloc2 _ _ _).trans (hB3.mono (by simp; omega))⟩
    · have hb : (t == 1) = false := by simpa using ht
      by_cases ht2 : t = -1
      · subst ht2
        go_enter Try.func126, Try.ntmps126
        go_wp2_with (fail)
        refine (implValid _ _ _).mono ?_
        rintro e w1 ⟨rfl, hb1⟩
        rw [H1.out]
        obtain ⟨hc1, hf1⟩ := bcell hb1
        go_wp2_with (fail)
        refine (implValid _ _ _).mono ?_
        rintro e w2 ⟨rfl, hb2⟩
        rw [H2.out]
        have hB2 := hb1.trans (hb2.mono hb1.size)
        clear hc1 hf1
        obtain ⟨hc2, hf2⟩ := bcell hB2
        go_wp2_with (fail)
        refine (HL.out _).mono ?_
        rintro e w3 ⟨rfl, hb3⟩
        have hB3 := hB2.trans (hb3.mono hB2.size)
        go_wp2
        go_ret
        exact ⟨rfl, (alloc2 _ _ _).trans (hB3.mono (by simp; omega))⟩
      · have hb2 : (t == -1) = false := by simpa using ht2
        rw [hb, hb2]
        clear ht ht2
        go_enter Try.func126, Try.ntmps126
        go_wp2_with (fail)
        refine (implValid _ _ _).mono ?_
        rintro e w1 ⟨rfl, hb1⟩
        rw [H1.out]
        obtain ⟨hc1, hf1⟩ := bcell hb1
        go_wp2_with (fail)
        refine (implValid _ _ _).mono ?_
        rintro e w2 ⟨rfl, hb2⟩
        rw [H2.out]
        have hB2 := hb1.trans (hb2.mono hb1.size)
        clear hc1 hf1
        obtain ⟨hc2, hf2⟩ := bcell hB2
        go_wp2_with (fail)
        refine (HL.out _).mono ?_
        rintro e w3 ⟨rfl, hb3⟩
        have hB3 := hB2.trans (hb3.mono hB2.size)
        go_wp2
        go_ret
        exact ⟨rfl, (alloc2 _ _ _).trans (hB3.mono (by simp; omega))⟩

end Go.Proofs.Ythfogmaefhfkoaa
