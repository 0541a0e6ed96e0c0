/- Contracts: order, floor and neighbours, as the program and the model tell them. -/
import Derived.Test.YtjijabfamjhdjaaAri
import Derived.Deep.RegionHeld3
namespace Go.Proofs.Ytjijabfamjhdjaa
open Go.RowKit

theorem alloc2 (w : World) (a b : Obj) : Below w.heap.size w ((w.alloc a).alloc b) :=
  ((Below.refl _ _).alloc (Nat.le_refl _) _).alloc (by simp) _

def sgn (x : Int) : Int := if x < 0 then -1 else if x = 0 then 0 else 1
/-- The order of two fractions, and a code. -/
def cmpT (n d m f : Int) : Int × Int := if okF n d && okF m f then (sgn (n * f - m * d), 0) else (0, 1)

theorem cross (n d m f : Int) (w : World) (h1 : okF n d = true) (h2 : okF m f = true) :
    Calls Try.prog 70 #[.agg #[.int .i64 n, .int .i64 d], .agg #[.int .i64 m, .int .i64 f]] w fun e w' => e = .returned (.int .i64 (n * f - m * d)) ∧ Below w.heap.size w w' := by
  obtain ⟨x1, x2, x3, x4⟩ := ok_bounds h1
  obtain ⟨y1, y2, y3, y4⟩ := ok_bounds h2
  have p1 := mul_bd (a := n) (b := f) (by omega) (by omega) (by omega) (by omega)
  have p2 := mul_bd (a := m) (b := d) (by omega) (by omega) (by omega) (by omega)
  clear h1 h2
  go_enter Try.func70, Try.ntmps70
  go_wp2
  go_ret
  exact ⟨rfl, alloc2 _ _ _⟩

theorem specSign (n d m f : Int) (w : World) (h1 : okF n d = true) (h2 : okF m f = true) :
    Calls Try.prog 92 #[.agg #[.int .i64 n, .int .i64 d], .agg #[.int .i64 m, .int .i64 f]] w fun e w' => e = .returned (.int .i64 (sgn (n * f - m * d))) ∧ Below w.heap.size w w' := by
  obtain ⟨x1, x2, x3, x4⟩ := ok_bounds h1
  obtain ⟨y1, y2, y3, y4⟩ := ok_bounds h2
  have p1 := mul_bd (a := n) (b := f) (by omega) (by omega) (by omega) (by omega)
  have p2 := mul_bd (a := m) (b := d) (by omega) (by omega) (by omega) (by omega)
  clear h1 h2
  generalize hA : n * f = A at p1 ⊢
  generalize hB : m * d = B at p2 ⊢
  have HA := hid hA
  have HB := hid hB
  by_cases ha : A < B
  · have e : sgn (A - B) = -1 := by unfold sgn; rw [if_pos (by omega)]
    rw [e]
    clear e HA HB
    go_enter Try.func92, Try.ntmps92
    go_wp2
    go_ret
    exact ⟨rfl, alloc2 _ _ _⟩
  · by_cases hb : B < A
    · have e : sgn (A - B) = 1 := by unfold sgn; rw [if_neg (by omega), if_neg (by omega)]
      rw [e]
      clear e HA HB
      go_enter Try.func92, Try.ntmps92
      go_wp2
      go_ret
      exact ⟨rfl, alloc2 _ _ _⟩
    · have e : sgn (A - B) = 0 := by unfold sgn; rw [if_neg (by omega), if_pos (by omega)]
      rw [e]
      clear e HA HB
      go_enter Try.func92, Try.ntmps92
      go_wp2
      go_ret
      exact ⟨rfl, alloc2 _ _ _⟩

set_option maxHeartbeats 800000 in
theorem implCompare (n d m f : Int) (w : World) :
    Calls Try.prog 36 #[.agg #[.int .i64 n, .int .i64 d], .agg #[.int .i64 m, .int .i64 f]] w fun e w' => e = .returned (.tuple #[.int .i64 (cmpT n d m f).1, .int .i64 (cmpT n d m f).2]) ∧ Below w.heap.size w w' := by
  cases h1 : okF n d with
  | false =>
    have e0 : cmpT n d m f = (0, 1) := by unfold cmpT; rw [h1]; rfl
    rw [e0]
    have H1 := hid h1
    clear h1 e0
    go_enter Try.func36, Try.ntmps36
    go_wp2_with (fail)
    refine (implValid _ _ _).mono ?_
    rintro e w1 ⟨rfl, hb1⟩
    rw [H1.out]
    go_wp2
    go_ret2
    exact ⟨rfl, (alloc2 _ _ _).trans (hb1.mono (by simp; omega))⟩
  | true =>
   cases h2 : okF m f with
   | false =>
    have e0 : cmpT n d m f = (0, 1) := by unfold cmpT; rw [h2, Bool.and_false]; rfl
    rw [e0]
    have H1 := hid h1
    have H2 := hid h2
    clear h1 h2 e0
    go_enter Try.func36, Try.ntmps36
    go_wp2_with (fail)
    refine (implValid _ _ _).mono ?_
    rintro e w1 ⟨rfl, hb1⟩
    rw [H1.out]
    obtain ⟨hc1, hf1⟩ := bcell hb1
    go_wp2_with (fail)
    refine (implValid _ _ _).mono ?_
    rintro e w2 ⟨rfl, hb2⟩
    rw [H2.out]
    have hB2 := hb1.trans (hb2.mono hb1.size)
    clear hc1 hf1
    obtain ⟨hc2, hf2⟩ := bcell hB2
    go_wp2
    go_ret2
    exact ⟨rfl, (alloc2 _ _ _).trans (hB2.mono (by simp; omega))⟩
   | true =>
    have e0 : cmpT n d m f = (sgn (n * f - m * d), 0) := by unfold cmpT; rw [h1, h2]; rfl
    rw [e0]
    have CL := fun w => cross n d m f w h1 h2
    obtain ⟨x1, x2, x3, x4⟩ := ok_bounds h1
    obtain ⟨y1, y2, y3, y4⟩ := ok_bounds h2
    have H1 := hid h1
    have H2 := hid h2
    by_cases hnm : n = m ∧ d = f
    · obtain ⟨rfl, rfl⟩ := hnm
      have e1 : sgn (n * d - n * d) = 0 := by rw [Int.sub_self]; rfl
      rw [e1]
      clear h1 h2 e0 CL e1
      go_enter Try.func36, Try.ntmps36
      go_wp2_with (fail)
      refine (implValid _ _ _).mono ?_
      rintro e w1 ⟨rfl, hb1⟩
      rw [H1.out]
      obtain ⟨hc1, hf1⟩ := bcell hb1
      go_wp2_with (fail)
      refine (implValid _ _ _).mono ?_
      rintro e w2 ⟨rfl, hb2⟩
      rw [H2.out]
      have hB2 := hb1.trans (hb2.mono hb1.size)
      clear hc1 hf1
      obtain ⟨hc2, hf2⟩ := bcell hB2
      go_wp2
      go_ret2
      exact ⟨rfl, (alloc2 _ _ _).trans (hB2.mono (by simp; omega))⟩
    · have hne : n * f - m * d ≠ 0 := by
        intro e
        rw [okF_iff] at h1 h2
        exact hnm (plain_unique h1.2.2.2.2 h2.2.2.2.2 (by omega) (by omega) (by omega))
      clear h1 h2 e0
      generalize n * f - m * d = t at CL hne ⊢
      by_cases hq : n = m
      · have hdf : (d == f) = false := by
          rw [Bool.eq_false_iff]; intro e; simp at e; exact hnm ⟨hq, e⟩
        clear hnm
        subst hq
        have HL := hid CL
        clear CL
        by_cases ht : t < 0
        · have e1 : sgn t = -1 := by unfold sgn; rw [if_pos ht]
          rw [e1]
          clear e1 hne
          go_enter Try.func36, Try.ntmps36
          go_wp2_with (fail)
          refine (implValid _ _ _).mono ?_
          rintro e w1 ⟨rfl, hb1⟩
          rw [H1.out]
          obtain ⟨hc1, hf1⟩ := bcell hb1
          go_wp2_with (fail)
          refine (implValid _ _ _).mono ?_
          rintro e w2 ⟨rfl, hb2⟩
          rw [H2.out]
          have hB2 := hb1.trans (hb2.mono hb1.size)
          clear hc1 hf1
          obtain ⟨hc2, hf2⟩ := bcell hB2
          go_wp2_with (fail)
          refine (HL.out _).mono ?_
          rintro e w3 ⟨rfl, hb3⟩
          have hB3 := hB2.trans (hb3.mono hB2.size)
          go_wp2
          go_ret2
          exact ⟨rfl, (alloc2 _ _ _).trans (hB3.mono (by simp; omega))⟩
        · have e1 : sgn t = 1 := by unfold sgn; rw [if_neg ht, if_neg hne]
          rw [e1]
          clear e1 hne
          go_enter Try.func36, Try.ntmps36
          go_wp2_with (fail)
          refine (implValid _ _ _).mono ?_
          rintro e w1 ⟨rfl, hb1⟩
          rw [H1.out]
          obtain ⟨hc1, hf1⟩ := bcell hb1
          go_wp2_with (fail)
          refine (implValid _ _ _).mono ?_
          rintro e w2 ⟨rfl, hb2⟩
          rw [H2.out]
          have hB2 := hb1.trans (hb2.mono hb1.size)
          clear hc1 hf1
          obtain ⟨hc2, hf2⟩ := bcell hB2
          go_wp2_with (fail)
          refine (HL.out _).mono ?_
          rintro e w3 ⟨rfl, hb3⟩
          have hB3 := hB2.trans (hb3.mono hB2.size)
          go_wp2
          go_ret2
          exact ⟨rfl, (alloc2 _ _ _).trans (hB3.mono (by simp; omega))⟩
      · have hdf : (n == m) = false := by
          rw [Bool.eq_false_iff]; intro e; simp at e; exact hq e
        clear hnm hq
        have HL := hid CL
        clear CL
        by_cases ht : t < 0
        · have e1 : sgn t = -1 := by unfold sgn; rw [if_pos ht]
          rw [e1]
          clear e1 hne
          go_enter Try.func36, Try.ntmps36
          go_wp2_with (fail)
          refine (implValid _ _ _).mono ?_
          rintro e w1 ⟨rfl, hb1⟩
          rw [H1.out]
          obtain ⟨hc1, hf1⟩ := bcell hb1
          go_wp2_with (fail)
          refine (implValid _ _ _).mono ?_
          rintro e w2 ⟨rfl, hb2⟩
          rw [H2.out]
          have hB2 := hb1.trans (hb2.mono hb1.size)
          clear hc1 hf1
          obtain ⟨hc2, hf2⟩ := bcell hB2
          go_wp2_with (fail)
          refine (HL.out _).mono ?_
          rintro e w3 ⟨rfl, hb3⟩
          have hB3 := hB2.trans (hb3.mono hB2.size)
          go_wp2
          go_ret2
          exact ⟨rfl, (alloc2 _ _ _).trans (hB3.mono (by simp; omega))⟩
        · have e1 : sgn t = 1 := by unfold sgn; rw [if_neg ht, if_neg hne]
          rw [e1]
          clear e1 hne
          go_enter Try.func36, Try.ntmps36
          go_wp2_with (fail)
          refine (implValid _ _ _).mono ?_
          rintro e w1 ⟨rfl, hb1⟩
          rw [H1.out]
          obtain ⟨hc1, hf1⟩ := bcell hb1
          go_wp2_with (fail)
          refine (implValid _ _ _).mono ?_
          rintro e w2 ⟨rfl, hb2⟩
          rw [H2.out]
          have hB2 := hb1.trans (hb2.mono hb1.size)
          clear hc1 hf1
          obtain ⟨hc2, hf2⟩ := bcell hB2
          go_wp2_with (fail)
          refine (HL.out _).mono ?_
          rintro e w3 ⟨rfl, hb3⟩
          have hB3 := hB2.trans (hb3.mono hB2.size)
          go_wp2
          go_ret2
          exact ⟨rfl, (alloc2 _ _ _).trans (hB3.mono (by simp; omega))⟩

end Go.Proofs.Ytjijabfamjhdjaa
