/- Mathematics: what is read, part by part. -/
import Derived.Test.YtipegemhcmfnmaaDoorRsi
namespace Go.Proofs.YtipegemhcmfnmaaDoor
open Go.RowKit Go.Lib

def SBoolR (B : Nat) (r : List (Int × Int) × Bool) (e : Ending) (w' : World) : Prop := ∃ v, e = .returned (.tuple #[v, .bool r.2]) ∧ SBack B w' v r.1
/-- A row of texts. -/
def PR (w : World) (g : Nat) (ps : List ByteArray) : Prop := ∀ j x, ps[j]? = some x → w.cell? ⟨g, j, none⟩ = some (.string x)
theorem pr_below {w w' : World} {g : Nat} {ps : List ByteArray} (h : PR w g ps) (hb : Below w.heap.size w w') : PR w' g ps := fun j x hj => by
  have h1 := h j x hj
  exact (hb.cell (p := ⟨g, j, none⟩) (World.block_lt_of_cell? _ _ h1)).trans h1
theorem splitB_len (c : UInt8) : ∀ (l : List UInt8), (splitB c l).length ≤ l.length + 1
  | [] => by simp [splitB]
  | x :: r => by
    have := splitB_len c r
    rw [splitB_cons]
    split
    · simp; omega
    · split
      · simp
      · rename_i p ps h
        rw [h] at this
        simp at this ⊢
        omega
theorem partsG_le (l : List UInt8) : (partsG l).length ≤ l.length + 1 := by
  have := splitB_len 32 l
  unfold partsG
  cases h : splitB 32 l with
  | nil => simp
  | cons p r => rw [h] at this; simpa using this
theorem libParts (s : ByteArray) : (Lib.splitB ⟨#[32]⟩ 0 (countB (⟨#[43]⟩ ++ s) ⟨#[32]⟩) (⟨#[43]⟩ ++ s)).map (·.data.toList) = partsG s.data.toList ∧ (Lib.splitB ⟨#[32]⟩ 0 (countB (⟨#[43]⟩ ++ s) ⟨#[32]⟩) (⟨#[43]⟩ ++ s)).length = countB (⟨#[43]⟩ ++ s) ⟨#[32]⟩ + 1 := by
  have e0 : (⟨#[43]⟩ ++ s : ByteArray).data.toList = 43 :: s.data.toList := by rw [ByteArray.data_append, Array.toList_append]; rfl
  have h1 : (Lib.splitB ⟨#[32]⟩ 0 (countB (⟨#[43]⟩ ++ s) ⟨#[32]⟩) (⟨#[43]⟩ ++ s)).map (·.data.toList) = split (⟨#[43]⟩ ++ s : ByteArray).data.toList [32] := Lib.splitB_data _ _ _ _
  have h2 := split_count 32 _ (⟨#[43]⟩ ++ s : ByteArray).data.toList (Nat.le_refl _)
  refine ⟨by rw [h1, e0, partsG_split], ?_⟩
  have h3 := congrArg List.length h1
  rw [List.length_map] at h3
  rw [h3, h2]
theorem rs_step {ps : List ByteArray} {l : List UInt8} {k : Nat} {x : ByteArray} {ys : List (Int × Int)} (hp : ps.map (·.data.toList) = partsG l) (hx : ps[k]? = some x) (h : rdEs ((partsG l).take k) = some ys) :
    (trimPrefix x.data.toList [43]).length ≤ l.length ∧ ((stS x.data.toList).2.2 = false → rsG l = ([], false)) ∧ ((stS x.data.toList).2.2 = true → rdEs ((partsG l).take (k + 1)) = some (ys ++ [((stS x.data.toList).1, (stS x.data.toList).2.1)])) := by
  have hk : (partsG l)[k]? = some x.data.toList := by rw [← hp, List.getElem?_map, hx]; rfl
  refine ⟨partsG_piece (List.mem_of_getElem? hk), ?_, ?_⟩
  · intro h1
    have h2 := rdEs_step hk h
    rw [rdE_st, h1] at h2
    exact rsG_none (rdEs_fail h2)
  · intro h1
    have h2 := rdEs_step hk h
    rw [rdE_st, h1] at h2
    exact h2

theorem rs_more {B : Nat} {w : World} {v : Value} {xs : List (Int × Int)} (h : w.ownsRow B 94 2 v xs.length (sgCells xs)) (h0 : 0 < xs.length) : ∃ g c, v = .slice (some ⟨g, 0, none⟩) xs.length c ∧ SOwn B w g c xs := by
  obtain ⟨g, cap, rfl, hg, _⟩ := h.form h0
  exact ⟨g, cap, rfl, hg, h⟩
theorem rs_one (x y : Int) : ∀ u ∈ [Value.int .i64 x, Value.int .i64 y], u.oneCell' = true := by
  intro u hu
  rcases List.mem_cons.1 hu with rfl | hu
  · rfl
  · obtain rfl := List.mem_singleton.1 hu; rfl
theorem rs_nil {B : Nat} {w : World} : SBack B w (.slice none 0 0) [] := .inl ⟨rfl, rfl⟩
theorem csize (w : World) (a : Addr) (v : Value) : (w.setCell a v).heap.size = w.heap.size := by simp [World.setCell]

end Go.Proofs.YtipegemhcmfnmaaDoor
