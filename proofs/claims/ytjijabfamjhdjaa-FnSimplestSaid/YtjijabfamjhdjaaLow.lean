/- Contracts: the fraction in lowest terms, as the program and the model make it. -/
import Derived.Test.YtjijabfamjhdjaaOk
namespace Go.Proofs.Ytjijabfamjhdjaa
open Go.RowKit

def fullR (n d : Int) (b : Bool) : Value := if b then .tuple #[.agg #[.int .i64 n, .int .i64 d], .int .i64 0] else .tuple #[.agg #[.int .i64 0, .int .i64 0], .int .i64 5]
/-- What is returned for a numerator and a denominator that is not 0. -/
def lowR (n d : Int) : Value := fullR (lowN n d) (lowD n d) (okF (lowN n d) (lowD n d))

theorem bcell {W w1 : World} (hb : Below W.heap.size W w1) : (∀ b o, b < W.heap.size → w1.cell? ⟨b, o, none⟩ = W.cell? ⟨b, o, none⟩) ∧ (∀ b o, b < W.heap.size → w1.frozen? ⟨b, o, none⟩ = W.frozen? ⟨b, o, none⟩) :=
  ⟨fun b o h => hb.cell (p := ⟨b, o, none⟩) h, fun b o h => hb.frozen (p := ⟨b, o, none⟩) h⟩

theorem fullR_yes (n d : Int) : fullR n d true = .tuple #[.agg #[.int .i64 n, .int .i64 d], .int .i64 0] := rfl
theorem fullR_no (n d : Int) : fullR n d false = .tuple #[.agg #[.int .i64 0, .int .i64 0], .int .i64 5] := rfl

/-- What the model's l02Make returns, for a denominator that is positive. -/
theorem specMake (n d : Int) (w : World) (ha : -2000000000000000000 ≤ n) (ha' : n ≤ 2000000000000000000) (hb : 1 ≤ d) (hb' : d ≤ 2000000000000000000) :
    Calls Try.prog 82 #[.int .i64 n, .int .i64 d] w fun e w' => e = .returned (.agg #[.int .i64 (lowN n d), .int .i64 (lowD n d)]) ∧ Below w.heap.size w w' := by
  have hp := gc_pos n d (by omega)
  have hle := gc_le_right n d (by omega)
  have ex3 := lowN_pos n d (by omega)
  have ex4 := lowD_pos n d (by omega)
  have e0 : gc (n.natAbs : Int) d = gc n d := by unfold gc Int.gcd; simp
  obtain ⟨g, hg⟩ : ∃ g : Int, gc n d = g := ⟨_, rfl⟩
  have HG := hid (e0.trans hg)
  clear e0
  rw [hg] at hp hle ex3 ex4
  have hle2 : g ≤ 2000000000000000000 := by omega
  have b1 := tdiv_bd n g
  have b2 := tdiv_bd d g
  obtain ⟨X, hX⟩ : ∃ X : Int, lowN n d = X := ⟨_, rfl⟩
  obtain ⟨Y, hY⟩ : ∃ Y : Int, lowD n d = Y := ⟨_, rfl⟩
  rw [hX] at ex3 ⊢
  rw [hY] at ex4 ⊢
  clear hg hle hX hY
  have x1 : -2000000000000000000 ≤ X := by omega
  have x2 : X ≤ 2000000000000000000 := by omega
  have e2 : d / g = Y := by rw [← Int.tdiv_eq_ediv_of_nonneg (by omega)]; exact ex4
  clear ex4 b1 b2
  go_enter Try.func82, Try.ntmps82
  go_wp2_with (fail)
  refine (specSize _ _ ha ha').mono ?_
  rintro e w' ⟨rfl, rfl⟩
  go_wp2_with (fail)
  refine (specGcd _ _ _ (by omega) (by omega) (by omega) (by omega)).mono ?_
  rintro e w' ⟨rfl, rfl⟩
  rw [HG.out]
  go_wp2_with (fail)
  go_region
  go_wp2
  refine bodyPost_ret (v := .agg #[.int .i64 X, .int .i64 Y]) (by simp [results, Try.results82, go_sem]) rfl ⟨rfl, ?_⟩
  exact ((Below.refl _ _).alloc (Nat.le_refl _) _).drew


end Go.Proofs.Ytjijabfamjhdjaa
