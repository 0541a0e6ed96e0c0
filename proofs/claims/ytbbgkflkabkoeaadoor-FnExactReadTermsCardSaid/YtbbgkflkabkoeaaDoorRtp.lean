/- Contract: the terms that a text spells, as the program reads them. -/
import Derived.Test.YtbbgkflkabkoeaaDoorRdt
import Derived.Test.YtbbgkflkabkoeaaDoorShelfC
import Derived.Test.YtbbgkflkabkoeaaDoorShelfS
import Derived.Test.YtbbgkflkabkoeaaDoorShelfT
namespace Go.Proofs.YtbbgkflkabkoeaaDoor
open Go.RowKit Go.Lib

theorem split_len (a b : UInt8) : ∀ (k : Nat) (s : List UInt8), s.length ≤ k → (split s [a, b]).length = count s [a, b] + 1
  | k, s, hk => by
    rcases index_spec s [a, b] with ⟨h1, _⟩ | ⟨i, h1, _, _, _⟩
    · rw [split_miss h1, count_miss h1]; rfl
    · have hp := congrArg List.length (occ_parts h1)
      simp only [List.length_append, List.length_cons] at hp
      rw [split_hit (by simp) h1, count_hit (by simp) h1]
      cases k with
      | zero => omega
      | succ k =>
        rw [show i + ([a, b] : List UInt8).length = i + 2 from rfl, List.length_cons, split_len a b k (s.drop (i + 2)) (by omega)]
        omega
theorem splitB_parts (s : ByteArray) (a b : UInt8) : (Go.Lib.splitB ⟨#[a, b]⟩ 0 (countB s ⟨#[a, b]⟩) s).map (·.data.toList) = split s.data.toList [a, b] := Go.Lib.splitB_data _ _ _ _
theorem splitB_len (s : ByteArray) (a b : UInt8) : (Go.Lib.splitB ⟨#[a, b]⟩ 0 (countB s ⟨#[a, b]⟩) s).length = countB s ⟨#[a, b]⟩ + 1 := by
  have h1 := congrArg List.length (splitB_parts s a b)
  rw [List.length_map, split_len a b _ _ (Nat.le_refl _)] at h1
  exact h1
theorem piece_len {x : List UInt8} {a b : UInt8} : ∀ (k : Nat) (s : List UInt8), s.length ≤ k → x ∈ split s [a, b] → x.length ≤ s.length
  | k, s, hk, hx => by
    rcases index_spec s [a, b] with ⟨h1, _⟩ | ⟨i, h1, _, _, _⟩
    · rw [split_miss h1, List.mem_singleton] at hx
      rw [hx]; exact Nat.le_refl _
    · have hp := congrArg List.length (occ_parts h1)
      simp only [List.length_append, List.length_cons] at hp
      rw [split_hit (by simp) h1] at hx
      rcases List.mem_cons.1 hx with rfl | hx
      · rw [List.length_take]; omega
      · cases k with
        | zero => omega
        | succ k =>
          have := piece_len k (s.drop (i + 2)) (by omega) hx
          rw [List.length_drop] at this
          omega

theorem rt_none1 {l : List UInt8} (h : hasPrefix l [91] = false) : rtT l = ([], false) := rtT_no fun xs hx => by
  obtain ⟨inner, rfl, _⟩ := isT_form hx
  revert h; simp [hasPrefix, List.isPrefixOf]
theorem prefix_form {l : List UInt8} (h : hasPrefix l [91] = true) : ∃ m, l = 91 :: m ∧ trimPrefix l [91] = m := by
  have h1 := List.isPrefixOf_iff_prefix.1 h
  obtain ⟨m, hm⟩ := h1
  refine ⟨m, hm.symm, ?_⟩
  unfold trimPrefix
  rw [if_pos h, ← hm]; rfl
theorem suffix_form {m : List UInt8} (h : hasSuffix m [93] = true) : ∃ inner, m = inner ++ [93] ∧ trimSuffix m [93] = inner := by
  have h1 := List.isSuffixOf_iff_suffix.1 h
  obtain ⟨t, ht⟩ := h1
  refine ⟨t, ht.symm, ?_⟩
  unfold trimSuffix
  rw [if_pos h, ← ht]
  simp
theorem rt_none2 {m : List UInt8} (h : hasSuffix m [93] = false) : rtT (91 :: m) = ([], false) := rtT_no fun xs hx => by
  obtain ⟨inner, h2, _⟩ := isT_form hx
  have h3 := (List.cons.inj h2).2
  rw [h3] at h
  have : hasSuffix (inner ++ [93]) [93] = true := List.isSuffixOf_iff_suffix.2 ⟨inner, rfl⟩
  rw [this] at h; cases h
theorem rt_bad {inner : List UInt8} (h : rdP (partsI inner) = none) : rtT (91 :: (inner ++ [93])) = ([], false) := rtT_no fun xs hx => by
  rw [isT_parts hx] at h; cases h
theorem rt_unok {inner : List UInt8} {ys : List Int} (h : rdP (partsI inner) = some ys) (h2 : okT ys = false) : rtT (91 :: (inner ++ [93])) = ([], false) := rtT_no fun xs hx => by
  rw [isT_parts hx] at h
  have := Option.some.inj h
  rw [← this, hx.1] at h2; cases h2
theorem rt_good {inner : List UInt8} {ys : List Int} (h : rdP (partsI inner) = some ys) (h2 : okT ys = true) : rtT (91 :: (inner ++ [93])) = (ys, true) := rtT_yes (parts_isT h h2)

def BoolR (B : Nat) (r : List Int × Bool) (e : Ending) (w' : World) : Prop := ∃ v, e = .returned (.tuple #[v, .bool r.2]) ∧ Back B w' v r.1
theorem size_of (l : List UInt8) : (⟨l.toArray⟩ : ByteArray).size = l.length := by
  show l.toArray.size = _
  simp

end Go.Proofs.YtbbgkflkabkoeaaDoor
