/- Contracts: the fraction in lowest terms, as the program and the model make it. -/
import Derived.Test.YthfogmaefhfkoaaOk
namespace Go.Proofs.Ythfogmaefhfkoaa
open Go.RowKit

def fullR (n d : Int) (b : Bool) : Value := if b then .tuple #[.agg #[.int .i64 n, .int .i64 d], .int .i64 0] else .tuple #[.agg #[.int .i64 0, .int .i64 0], .int .i64 5]
/-- What is returned for a numerator and a denominator that is not 0. -/
def lowR (n d : Int) : Value := fullR (lowN n d) (lowD n d) (okF (lowN n d) (lowD n d))

theorem bcell {W w1 : World} (hb : Below W.heap.size W w1) : (∀ b o, b < W.heap.size → w1.cell? ⟨b, o, none⟩ = W.cell? ⟨b, o, none⟩) ∧ (∀ b o, b < W.heap.size → w1.frozen? ⟨b, o, none⟩ = W.frozen? ⟨b, o, none⟩) :=
  ⟨fun b o h => hb.cell (p := ⟨b, o, none⟩) h, fun b o h => hb.frozen (p := ⟨b, o, none⟩) h⟩

theorem fullR_yes (n d : Int) : fullR n d true = .tuple #[.agg #[.int .i64 n, .int .i64 d], .int .i64 0] := rfl
theorem fullR_no (n d : Int) : fullR n d false = .tuple #[.agg #[.int .i64 0, .int .i64 0], .int .i64 5] := rfl

set_option maxHeartbeats 400000 in
theorem implLow (n d : Int) (w : World) (ha : -2000000000000000000 ≤ n) (ha' : n ≤ 2000000000000000000) (hb : -2000000000000000000 ≤ d) (hb' : d ≤ 2000000000000000000) (h0 : d ≠ 0) :
    Calls Try.prog 130 #[.int .i64 n, .int .i64 d] w fun e w' => e = .returned (lowR n d) ∧ Below w.heap.size w w' := by
  have hp := gc_pos n d h0
  have hle := gc_le_right n d h0
  have ex1 := lowN_neg n d
  have ex2 := lowD_neg n d
  have ex3 := lowN_pos n d
  have ex4 := lowD_pos n d
  obtain ⟨g, hg⟩ : ∃ g : Int, gc n d = g := ⟨_, rfl⟩
  have HG := hid hg
  rw [hg] at hp hle ex1 ex2 ex3 ex4
  have hle2 : g ≤ 2000000000000000000 := by omega
  have b1 := tdiv_bd n g
  have b2 := tdiv_bd d g
  rw [Int.neg_tdiv] at ex1 ex2
  unfold lowR
  obtain ⟨X, hX⟩ : ∃ X : Int, lowN n d = X := ⟨_, rfl⟩
  obtain ⟨Y, hY⟩ : ∃ Y : Int, lowD n d = Y := ⟨_, rfl⟩
  rw [hX] at ex1 ex3 ⊢
  rw [hY] at ex2 ex4 ⊢
  clear hg hle hX hY
  by_cases hd : d < 0
  · have e1 : wrap64 (-n.tdiv g) = X := by rw [IntWalk.wrap64_in _ ⟨by omega, by omega⟩]; exact ex1 hd
    have e2 : wrap64 (-d.tdiv g) = Y := by rw [IntWalk.wrap64_in _ ⟨by omega, by omega⟩]; exact ex2 hd
    clear ex1 ex2 ex3 ex4 b1 b2
    cases ho : okF X Y
    · have HO := hid ho
      clear ho
      go_enter Try.func130, Try.ntmps130
      go_wp2_with (fail)
      refine (implCd _ _ _ ha ha' hb hb').mono ?_
      rintro e w' ⟨rfl, hdr⟩
      obtain ⟨k, rfl⟩ := hdr
      rw [HG.out]
      go_wp2_with (fail)
      go_region
      go_wp2_with (fail)
      refine (implValid _ _ _).mono ?_
      rintro e w1 ⟨rfl, hb1⟩
      rw [HO.out]
      obtain ⟨hc, hf⟩ := bcell hb1
      have c0 : (w1.cell? ⟨w.heap.size, 0, none⟩).isSome = true := by rw [hc _ _ (by simp; omega)]; go_simp
      have c1 : (w1.cell? ⟨w.heap.size, 1, none⟩).isSome = true := by rw [hc _ _ (by simp; omega)]; go_simp
      go_wp2
      refine bodyPost_ret (v := .tuple #[.agg #[.int .i64 0, .int .i64 0], .int .i64 5]) (by simp [results, Try.results130, go_sem, c0, c1]) rfl ⟨rfl, ?_⟩
      exact ((((((Below.refl _ _).alloc (Nat.le_refl _) _).trans (below_drewN (Below.refl _ _) _)).alloc (by simp) _).trans (hb1.mono (by simp; omega))).setCell (by simp) _).setCell (by simp) _
    · have HO := hid ho
      clear ho
      go_enter Try.func130, Try.ntmps130
      go_wp2_with (fail)
      refine (implCd _ _ _ ha ha' hb hb').mono ?_
      rintro e w' ⟨rfl, hdr⟩
      obtain ⟨k, rfl⟩ := hdr
      rw [HG.out]
      go_wp2_with (fail)
      go_region
      go_wp2_with (fail)
      refine (implValid _ _ _).mono ?_
      rintro e w1 ⟨rfl, hb1⟩
      rw [HO.out]
      obtain ⟨hc, hf⟩ := bcell hb1
      have c0 : (w1.cell? ⟨w.heap.size, 0, none⟩).isSome = true := by rw [hc _ _ (by simp; omega)]; go_simp
      have c1 : (w1.cell? ⟨w.heap.size, 1, none⟩).isSome = true := by rw [hc _ _ (by simp; omega)]; go_simp
      go_wp2
      refine bodyPost_ret (v := .tuple #[.agg #[.int .i64 X, .int .i64 Y], .int .i64 0]) (by simp [results, Try.results130, go_sem, c0, c1]) rfl ⟨rfl, ?_⟩
      exact ((((((Below.refl _ _).alloc (Nat.le_refl _) _).trans (below_drewN (Below.refl _ _) _)).alloc (by simp) _).trans (hb1.mono (by simp; omega))).setCell (by simp) _).setCell (by simp) _
  · have e1 : n.tdiv g = X := ex3 hd
    have x1 : -2000000000000000000 ≤ X := by omega
    have x2 : X ≤ 2000000000000000000 := by omega
    have e2 : d / g = Y := by rw [← Int.tdiv_eq_ediv_of_nonneg (by omega)]; exact ex4 hd
    clear ex1 ex2 ex3 ex4 b1 b2
    cases ho : okF X Y
    · have HO := hid ho
      clear ho
      go_enter Try.func130, Try.ntmps130
      go_wp2_with (fail)
      refine (implCd _ _ _ ha ha' hb hb').mono ?_
      rintro e w' ⟨rfl, hdr⟩
      obtain ⟨k, rfl⟩ := hdr
      rw [HG.out]
      go_wp2_with (fail)
      go_region
      go_wp2_with (fail)
      refine (implValid _ _ _).mono ?_
      rintro e w1 ⟨rfl, hb1⟩
      rw [HO.out]
      obtain ⟨hc, hf⟩ := bcell hb1
      have c0 : (w1.cell? ⟨w.heap.size, 0, none⟩).isSome = true := by rw [hc _ _ (by simp; omega)]; go_simp
      have c1 : (w1.cell? ⟨w.heap.size, 1, none⟩).isSome = true := by rw [hc _ _ (by simp; omega)]; go_simp
      go_wp2
      refine bodyPost_ret (v := .tuple #[.agg #[.int .i64 0, .int .i64 0], .int .i64 5]) (by simp [results, Try.results130, go_sem, c0, c1]) rfl ⟨rfl, ?_⟩
      exact ((((((Below.refl _ _).alloc (Nat.le_refl _) _).trans (below_drewN (Below.refl _ _) _)).alloc (by simp) _).trans (hb1.mono (by simp; omega))).setCell (by simp) _).setCell (by simp) _
    · have HO := hid ho
      clear ho
      go_enter Try.func130, Try.ntmps130
      go_wp2_with (fail)
      refine (implCd _ _ _ ha ha' hb hb').mono ?_
      rintro e w' ⟨rfl, hdr⟩
      obtain ⟨k, rfl⟩ := hdr
      rw [HG.out]
      go_wp2_with (fail)
      go_region
      go_wp2_with (fail)
      refine (implValid _ _ _).mono ?_
      rintro e w1 ⟨rfl, hb1⟩
      rw [HO.out]
      obtain ⟨hc, hf⟩ := bcell hb1
      have c0 : (w1.cell? ⟨w.heap.size, 0, none⟩).isSome = true := by rw [hc _ _ (by simp; omega)]; go_simp
      have c1 : (w1.cell? ⟨w.heap.size, 1, none⟩).isSome = true := by rw [hc _ _ (by simp; omega)]; go_simp
      go_wp2
      refine bodyPost_ret (v := .tuple #[.agg #[.int .i64 X, .int .i64 Y], .int .i64 0]) (by simp [results, Try.results130, go_sem, c0, c1]) rfl ⟨rfl, ?_⟩
      exact ((((((Below.refl _ _).alloc (Nat.le_refl _) _).trans (below_drewN (Below.refl _ _) _)).alloc (by simp) _).trans (hb1.mono (by simp; omega))).setCell (by simp) _).setCell (by simp) _


/-- What the model's l02Make returns, for a denominator that is positive. -/
theorem specMake (n d : Int) (w : World) (ha : -2000000000000000000 ≤ n) (ha' : n ≤ 2000000000000000000) (hb : 1 ≤ d) (hb' : d ≤ 2000000000000000000) :
    Calls Try.prog 141 #[.int .i64 n, .int .i64 d] w fun e w' => e = .returned (.agg #[.int .i64 (lowN n d), .int .i64 (lowD n d)]) ∧ Below w.heap.size w w' := by
  have hp := gc_pos n d (by omega)
  have hle := gc_le_right n d (by omega)
  have ex3 := lowN_pos n d (by omega)
  have ex4 := lowD_pos n d (by omega)
  have e0 : gc (n.natAbs : Int) d = gc n d := by unfold gc Int.gcd; simp
  obtain ⟨g, hg⟩ : ∃ g : Int, gc n d = g := ⟨_, rfl⟩
  have HG := hid (e0.trans hg)
  clear e0
  rw [hg] at hp hle ex3 ex4
  have hle2 : g ≤ 2000000000000000000 := by omega
  have b1 := tdiv_bd n g
  have b2 := tdiv_bd d g
  obtain ⟨X, hX⟩ : ∃ X : Int, lowN n d = X := ⟨_, rfl⟩
  obtain ⟨Y, hY⟩ : ∃ Y : Int, lowD n d = Y := ⟨_, rfl⟩
  rw [hX] at ex3 ⊢
  rw [hY] at ex4 ⊢
  clear hg hle hX hY
  have x1 : -2000000000000000000 ≤ X := by omega
  have x2 : X ≤ 2000000000000000000 := by omega
  have e2 : d / g = Y := by rw [← Int.tdiv_eq_ediv_of_nonneg (by omega)]; exact ex4
  clear ex4 b1 b2
  go_enter Try.func141, Try.ntmps141
  go_wp2_with (fail)
  refine (specSize _ _ ha ha').mono ?_
  rintro e w' ⟨rfl, rfl⟩
  go_wp2_with (fail)
  refine (specGcd _ _ _ (by omega) (by omega) (by omega) (by omega)).mono ?_
  rintro e w' ⟨rfl, rfl⟩
  rw [HG.out]
  go_wp2_with (fail)
  go_region
  go_wp2
  refine bodyPost_ret (v := .agg #[.int .i64 X, .int .i64 Y]) (by simp [results, Try.results141, go_sem]) rfl ⟨rfl, ?_⟩
  exact ((Below.refl _ _).alloc (Nat.le_refl _) _).drew


end Go.Proofs.Ythfogmaefhfkoaa
