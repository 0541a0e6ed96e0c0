/- Contracts: the value of terms and all convergents, as the model tells them. -/
import Derived.Test.YtjijabfamjhdjaaDoorCvl
import Derived.Test.YtjijabfamjhdjaaDoorExp
namespace Go.Proofs.YtjijabfamjhdjaaDoor
open Go.RowKit

/-- All convergents, and a code. -/
def convT (xs : List Int) : List (Int × Int) × Int := if okT xs = true then (match cv 1 0 0 1 xs with | some l => (l, 0) | none => ([], 5)) else ([], 1)
theorem convT_bad {xs : List Int} (h : okT xs = false) : convT xs = ([], 1) := by unfold convT; rw [h]; rfl
theorem convT_full {xs : List Int} (h : okT xs = true) (h2 : cv 1 0 0 1 xs = none) : convT xs = ([], 5) := by unfold convT; rw [h, h2]; rfl
theorem convT_ok {xs : List Int} {l : List (Int × Int)} (h : okT xs = true) (h2 : cv 1 0 0 1 xs = some l) : convT xs = (l, 0) := by unfold convT; rw [h, h2]; rfl
theorem convT_len {xs : List Int} : (convT xs).1.length ≤ 60 := by
  cases h : okT xs
  · rw [convT_bad h]; exact Nat.zero_le _
  · cases h2 : cv 1 0 0 1 xs with
    | none => rw [convT_full h h2]; exact Nat.zero_le _
    | some l => rw [convT_ok h h2]; have := cv_length h2; have := okT_len h; show l.length ≤ 60; omega
/-- The value, and a code. -/
def valT (xs : List Int) : Int × Int × Int := if okT xs = true then (match cv 1 0 0 1 xs with | some l => ((l.getD (l.length - 1) (0, 0)).1, (l.getD (l.length - 1) (0, 0)).2, 0) | none => (0, 0, 5)) else (0, 0, 1)
theorem valT_bad {xs : List Int} (h : okT xs = false) : valT xs = (0, 0, 1) := by unfold valT; rw [h]; rfl
theorem valT_full {xs : List Int} (h : okT xs = true) (h2 : cv 1 0 0 1 xs = none) : valT xs = (0, 0, 5) := by unfold valT; rw [h, h2]; rfl
theorem valT_ok {xs : List Int} {l : List (Int × Int)} (h : okT xs = true) (h2 : cv 1 0 0 1 xs = some l) : valT xs = ((l.getD (l.length - 1) (0, 0)).1, (l.getD (l.length - 1) (0, 0)).2, 0) := by unfold valT; rw [h, h2]; rfl

def FListR (B : Nat) (r : List (Int × Int) × Int) (e : Ending) (w' : World) : Prop := ∃ v, e = .returned (.tuple #[v, .int .i64 r.2]) ∧ FBack B w' v r.1
theorem fown_mono {A B : Nat} {w : World} {g c : Nat} {xs : List (Int × Int)} (h : FOwn B w g c xs) (hA : A ≤ B) : FOwn A w g c xs := by
  refine ⟨Nat.le_trans hA h.1, h.2.1, ?_⟩
  rcases h.2.2 with h3 | ⟨a, b, d, h3, h4, h5⟩
  · exact .inl h3
  · exact .inr ⟨a, b, d, h3, Nat.le_trans hA h4, h5⟩
theorem fback_mono {A B : Nat} {w : World} {v : Value} {xs : List (Int × Int)} (h : FBack B w v xs) (hA : A ≤ B) : FBack A w v xs := by
  rcases h with h | ⟨g, c, rfl, h⟩
  · exact .inl h
  · exact .inr ⟨g, c, rfl, fown_mono h hA⟩

def valV (r : Int × Int × Int) : Value := .tuple #[.agg #[.int .i64 r.1, .int .i64 r.2.1], .int .i64 r.2.2]
theorem res_facts {w w1 : World} (t : TypeId) (b1 : Below (w.alloc (.cells #[.int .i64 0, .int .i64 0] t)).heap.size (w.alloc (.cells #[.int .i64 0, .int .i64 0] t)) w1) :
    w1.cell? ⟨w.heap.size, 0, none⟩ = some (.int .i64 0) ∧ w1.cell? ⟨w.heap.size, 1, none⟩ = some (.int .i64 0) ∧ w1.frozen? ⟨w.heap.size, 0, none⟩ = false ∧ w1.frozen? ⟨w.heap.size, 1, none⟩ = false ∧ w.heap.size < w1.heap.size := by
  obtain ⟨h1, h2⟩ := two_new w t (.int .i64 0) (.int .i64 0)
  obtain ⟨hc, hf⟩ := bcell b1
  refine ⟨(hc _ _ (by simp)).trans h1, (hc _ _ (by simp)).trans h2, (hf _ _ (by simp)).trans (by go_simp), (hf _ _ (by simp)).trans (by go_simp), ?_⟩
  have := b1.size
  simp at this
  omega
theorem set_read {w : World} {b : Nat} {x y a d : Value} (h0 : w.cell? ⟨b, 0, none⟩ = some a) (h1 : w.cell? ⟨b, 1, none⟩ = some d) : ((w.setCell ⟨b, 0, none⟩ x).setCell ⟨b, 1, none⟩ y).cell? ⟨b, 0, none⟩ = some x ∧ ((w.setCell ⟨b, 0, none⟩ x).setCell ⟨b, 1, none⟩ y).cell? ⟨b, 1, none⟩ = some y := two_set h0 h1

end Go.Proofs.YtjijabfamjhdjaaDoor
