/- Contracts: the terms of a fraction by Euclid, by the program and by the model. -/
import Derived.Test.YtjijabfamjhdjaaDoorSh
import Derived.Test.YtjijabfamjhdjaaDoorOth
import Derived.Test.YtjijabfamjhdjaaDoorLv
import Derived.Test.YtjijabfamjhdjaaDoorAr6
namespace Go.Proofs.YtjijabfamjhdjaaDoor
open Go.RowKit

def expT (n d : Int) : List Int × Int := if okF n d then (eu n d, 0) else ([], 1)
theorem expT_no {n d : Int} (h : okF n d = false) : expT n d = ([], 1) := by unfold expT; rw [h]; rfl
theorem expT_ok {n d : Int} (h : okF n d = true) : expT n d = (eu n d, 0) := by unfold expT; rw [h]; rfl
theorem eu_len_den : ∀ (k : Nat) (n d : Int), d.toNat ≤ k → ((eu n d).length : Int) ≤ max d 0
  | 0, n, d, h => by rw [eu_end (by omega)]; simp; omega
  | k + 1, n, d, h => by
    by_cases hd : d ≤ 0
    · rw [eu_end hd]; simp; omega
    have r1 := Int.emod_nonneg n (b := d) (by omega)
    have r2 := Int.emod_lt_of_pos n (b := d) (by omega)
    rw [eu_step (by omega)]
    have := eu_len_den k d (n % d) (by omega)
    simp only [List.length_cons]
    omega
theorem expT_len {n d : Int} : (expT n d).1.length ≤ 1000000000 := by
  cases h : okF n d
  · rw [expT_no h]; exact Nat.zero_le _
  · rw [expT_ok h]
    have h1 := ok_bounds h
    have := eu_len_den _ n d (Nat.le_refl _)
    show (eu n d).length ≤ _
    omega
theorem row_back {B : Nat} {w : World} {v : Value} {n : Nat} {xs : List Int} (h : w.ownsRow B 2 1 v n (intCells xs)) (hn : n = xs.length) : Back B w v xs := by
  subst hn
  rcases h.2 with ⟨h1, h2⟩ | ⟨g, cap, cur, rfl, hB, hr⟩
  · exact .inl ⟨h1, List.length_eq_zero_iff.1 h2⟩
  · exact .inr ⟨g, cap, rfl, hB, h⟩


end Go.Proofs.YtjijabfamjhdjaaDoor
