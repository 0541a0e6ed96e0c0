/- Contracts: floor and neighbours, as the program and the model tell them. -/
import Derived.Test.YtjijabfamjhdjaaDoorAr5
namespace Go.Proofs.YtjijabfamjhdjaaDoor
open Go.RowKit

/-- The floor of a fraction, and a code. -/
def floorT (n d : Int) : Int × Int := if okF n d then (n / d, 0) else (0, 1)

/-- Are two fractions neighbours? -/
def nbB (n d m f : Int) : Bool := okF n d && okF m f && (n * f - m * d == 1 || n * f - m * d == -1)

set_option maxHeartbeats 800000 in
theorem implNb (n d m f : Int) (w : World) :
    Calls Tryd.prog 27 #[.agg #[.int .i64 n, .int .i64 d], .agg #[.int .i64 m, .int .i64 f]] w fun e w' => e = .returned (.bool (nbB n d m f)) ∧ Below w.heap.size w w' := by
  cases h1 : okF n d with
  | false =>
    have e0 : nbB n d m f = false := by unfold nbB; rw [h1]; rfl
    rw [e0]
    have H1 := hid h1
    clear h1 e0
    go_enter Tryd.func27, Tryd.ntmps27
    go_wp2_with (fail)
    refine (implValid _ _ _).mono ?_
    rintro e w1 ⟨rfl, hb1⟩
    rw [H1.out]
    go_wp2
    go_ret
    exact ⟨rfl, (alloc2 _ _ _).trans (hb1.mono (by simp; omega))⟩
  | true =>
   cases h2 : okF m f with
   | false =>
    have e0 : nbB n d m f = false := by unfold nbB; rw [h2, Bool.and_false]; rfl
    rw [e0]
    have H1 := hid h1
    have H2 := hid h2
    clear h1 h2 e0
    go_enter Tryd.func27, Tryd.ntmps27
    go_wp2_with (fail)
    refine (implValid _ _ _).mono ?_
    rintro e w1 ⟨rfl, hb1⟩
    rw [H1.out]
    obtain ⟨hc1, hf1⟩ := bcell hb1
    go_wp2_with (fail)
    refine (implValid _ _ _).mono ?_
    rintro e w2 ⟨rfl, hb2⟩
    rw [H2.out]
    have hB2 := hb1.trans (hb2.mono hb1.size)
    clear hc1 hf1
    obtain ⟨hc2, hf2⟩ := bcell hB2
    go_wp2
    go_ret
    exact ⟨rfl, (alloc2 _ _ _).trans (hB2.mono (by simp; omega))⟩
   | true =>
    have e0 : nbB n d m f = (n * f - m * d == 1 || n * f - m * d == -1) := by unfold nbB; rw [h1, h2]; rfl
    rw [e0]
    have CL := fun w => cross n d m f w h1 h2
    have H1 := hid h1
    have H2 := hid h2
    generalize n * f - m * d = t at CL ⊢
    have HL := hid CL
    clear h1 h2 e0 CL
    by_cases ht : t = 1
    · subst ht
      go_enter Tryd.func27, Tryd.ntmps27
      go_wp2_with (fail)
      refine (implValid _ _ _).mono ?_
      rintro e w1 ⟨rfl, hb1⟩
      rw [H1.out]
      obtain ⟨hc1, hf1⟩ := bcell hb1
      go_wp2_with (fail)
      refine (implValid _ _ _).mono ?_
      rintro e w2 ⟨rfl, hb2⟩
      rw [H2.out]
      have hB2 := hb1.trans (hb2.mono hb1.size)
      clear hc1 hf1
      obtain ⟨hc2, hf2⟩ := bcell hB2
      go_wp2_with (fail)
      refine (HL.out _).mono ?_
      rintro e w3 ⟨rfl, hb3⟩
      have hB3 := hB2.trans (hb3.mono hB2.size)
      go_wp2
      go_ret
      exact ⟨rfl, (alloc2 _ _ _).trans (hB3.mono (by simp; omega))⟩
    · have hb : (t == 1) = false := by simpa using ht
      by_cases ht2 : t = -1
      · subst ht2
        go_enter Tryd.func27, Tryd.ntmps27
        go_wp2_with (fail)
        refine (implValid _ _ _).mono ?_
        rintro e w1 ⟨rfl, hb1⟩
        rw [H1.out]
        obtain ⟨hc1, hf1⟩ := bcell hb1
        go_wp2_with (fail)
        refine (implValid _ _ _).mono ?_
        rintro e w2 ⟨rfl, hb2⟩
        rw [H2.out]
        have hB2 := hb1.trans (hb2.mono hb1.size)
        clear hc1 hf1
        obtain ⟨hc2, hf2⟩ := bcell hB2
        go_wp2_with (fail)
        refine (HL.out _).mono ?_
        rintro e w3 ⟨rfl, hb3⟩
        have hB3 := hB2.trans (hb3.mono hB2.size)
        go_wp2
        go_ret
        exact ⟨rfl, (alloc2 _ _ _).trans (hB3.mono (by simp; omega))⟩
      · have hb2 : (t == -1) = false := by simpa using ht2
        rw [hb, hb2]
        clear ht ht2
        go_enter Tryd.func27, Tryd.ntmps27
        go_wp2_with (fail)
        refine (implValid _ _ _).mono ?_
        rintro e w1 ⟨rfl, hb1⟩
        rw [H1.out]
        obtain ⟨hc1, hf1⟩ := bcell hb1
        go_wp2_with (fail)
        refine (implValid _ _ _).mono ?_
        rintro e w2 ⟨rfl, hb2⟩
        rw [H2.out]
        have hB2 := hb1.trans (hb2.mono hb1.size)
        clear hc1 hf1
        obtain ⟨hc2, hf2⟩ := bcell hB2
        go_wp2_with (fail)
        refine (HL.out _).mono ?_
        rintro e w3 ⟨rfl, hb3⟩
        have hB3 := hB2.trans (hb3.mono hB2.size)
        go_wp2
        go_ret
        exact ⟨rfl, (alloc2 _ _ _).trans (hB3.mono (by simp; omega))⟩

end Go.Proofs.YtjijabfamjhdjaaDoor
