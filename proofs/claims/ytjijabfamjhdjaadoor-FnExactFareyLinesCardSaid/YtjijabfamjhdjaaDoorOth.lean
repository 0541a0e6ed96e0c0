/- Contracts: the other terms with the same value, by the program and by the model. -/
import Derived.Test.YtjijabfamjhdjaaDoorSh
import Derived.Test.YtjijabfamjhdjaaDoorCmt
namespace Go.Proofs.YtjijabfamjhdjaaDoor
open Go.RowKit

def otherT (xs : List Int) : List Int × Int := if okT xs = true then (if okT (other xs) = true then (other xs, 0) else ([], 5)) else ([], 1)
theorem otherT_bad {xs : List Int} (h : okT xs = false) : otherT xs = ([], 1) := by unfold otherT; rw [h]; rfl
theorem otherT_full {xs : List Int} (h : okT xs = true) (h2 : okT (other xs) = false) : otherT xs = ([], 5) := by unfold otherT; rw [h, h2]; rfl
theorem otherT_ok {xs : List Int} (h : okT xs = true) (h2 : okT (other xs) = true) : otherT xs = (other xs, 0) := by unfold otherT; rw [h, h2]; rfl
theorem short_same {xs : List Int} (h : (short xs).length = xs.length) : short xs = xs := by
  by_cases h1 : 1 < xs.length ∧ xs[xs.length - 1]? = some 1
  · have := short_yes_len h1.1 h1.2
    omega
  · exact short_no h1
theorem other_short {xs : List Int} (h : ¬ (short xs).length = xs.length) : other xs = short xs := if_neg h
theorem own_mono {A B : Nat} {w : World} {g c : Nat} {xs : List Int} (h : Own B w g c xs) (hA : A ≤ B) : Own A w g c xs := by
  refine ⟨Nat.le_trans hA h.1, h.2.1, ?_⟩
  rcases h.2.2 with h3 | ⟨a, b, d, h3, h4, h5⟩
  · exact .inl h3
  · exact .inr ⟨a, b, d, h3, Nat.le_trans hA h4, h5⟩
theorem news1 (w : World) (x : Value) (t : TypeId) : ∀ (j : Nat) (u : Value), [x][j]? = some u → (w.alloc (.cells #[x] t)).cell? ((⟨w.heap.size, 0, none⟩ : Addr).add j) = some u :=
  (World.ownsRow_lit (base := 0) (e := t) (size := 1) w #[x] 1 (Nat.zero_le _) (by decide) rfl).cells rfl
theorem otherT_len {xs : List Int} : (otherT xs).1.length ≤ 1000000000 := by
  unfold otherT
  split
  · split
    · rename_i h
      have := okT_len h
      show (other xs).length ≤ _
      omega
    · exact Nat.zero_le _
  · exact Nat.zero_le _
def ListR (B : Nat) (r : List Int × Int) (e : Ending) (w' : World) : Prop := ∃ v, e = .returned (.tuple #[v, .int .i64 r.2]) ∧ Back B w' v r.1
theorem backNil {B : Nat} {w : World} : Back B w (.slice none 0 0) [] := .inl ⟨rfl, rfl⟩

end Go.Proofs.YtjijabfamjhdjaaDoor
