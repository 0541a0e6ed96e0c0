/- Fractions out of texts: the arithmetic. -/
import Derived.Test.YthdhkjfanhhamaaDoorRdm
import Derived.Test.YthdhkjfanhhamaaDoorSp
import Derived.Test.YthdhkjfanhhamaaDoorFrt
import Derived.Lib.IndexBytes
import Derived.Lib.IndexMore
namespace Go.Proofs.YthdhkjfanhhamaaDoor
open Go.RowKit Go.Lib

theorem idx_form (c : UInt8) : ∀ l : List UInt8, (c ∉ l ∧ indexByte l c = -1) ∨ ∃ a b, l = a ++ c :: b ∧ c ∉ a ∧ indexByte l c = (a.length : Int)
  | [] => .inl ⟨by simp, rfl⟩
  | x :: r => by
    have e : indexByte (x :: r) c = if x == c then 0 else if indexByte r c == -1 then -1 else indexByte r c + 1 := rfl
    by_cases hx : x = c
    · refine .inr ⟨[], r, by rw [hx]; rfl, by simp, ?_⟩
      rw [e, hx]; simp
    · have hx' : (x == c) = false := beq_eq_false_iff_ne.2 hx
      rcases idx_form c r with ⟨h1, h2⟩ | ⟨a, b, h1, h2, h3⟩
      · refine .inl ⟨?_, ?_⟩
        · rw [List.mem_cons]
          rintro (h | h)
          · exact hx h.symm
          · exact h1 h
        · rw [e, hx', h2]; rfl
      · refine .inr ⟨x :: a, b, by rw [h1]; rfl, ?_, ?_⟩
        · rw [List.mem_cons]
          rintro (h | h)
          · exact hx h.symm
          · exact h2 h
        · have hn : ((a.length : Int) == -1) = false := by rw [beq_eq_false_iff_ne]; omega
          rw [e, hx', h3, hn]
          simp

theorem cut_form (c : UInt8) (l : List UInt8) : (c ∉ l ∧ cut l [c] = (l, [], false)) ∨ ∃ a b, l = a ++ c :: b ∧ c ∉ a ∧ cut l [c] = (a, b, true) := by
  rcases idx_form c l with ⟨h1, h2⟩ | ⟨a, b, h1, h2, h3⟩
  · refine .inl ⟨h1, ?_⟩
    unfold cut
    rw [index_one, h2, if_neg (by decide)]
  · refine .inr ⟨a, b, h1, h2, ?_⟩
    unfold cut
    rw [index_one, h3, if_pos (by omega), h1]
    simp [List.drop_append]

theorem splitB_ne (c : UInt8) : ∀ l, splitB c l ≠ []
  | [] => by simp [splitB]
  | x :: r => by
    rw [splitB_cons]
    split
    · simp
    · split <;> simp

theorem splitB_short (c : UInt8) : ∀ l, ∀ a ∈ splitB c l, a.length ≤ l.length
  | [], a, h => by
    have : a = [] := by simpa [splitB] using h
    rw [this]; exact Nat.le_refl _
  | x :: r, a, h => by
    have hr := splitB_short c r
    rw [splitB_cons] at h
    rw [List.length_cons]
    split at h
    · rcases List.mem_cons.1 h with rfl | h
      · exact Nat.zero_le _
      · have := hr a h; omega
    · split at h
      · have : a = [x] := by simpa using h
        rw [this]; simp
      · rename_i p ps hp
        rcases List.mem_cons.1 h with rfl | h
        · have := hr p (by rw [hp]; simp)
          rw [List.length_cons]; omega
        · have := hr a (by rw [hp]; exact List.mem_cons_of_mem _ h)
          omega

theorem numS_true {l : List UInt8} (h : (numS l).2 = true) : itoa (numS l).1 = l ∧ (dropM l).all isD = true := by
  by_cases g : goodD l
  · rw [numS_yes g]; exact ⟨g.2.2.2, g.2.2.1⟩
  · rw [numS_no g] at h; cases h
theorem mem_dropM {c : UInt8} {l : List UInt8} (h : c ∈ l) (hc : ¬ c.toNat = 45) : c ∈ dropM l := by
  cases l with
  | nil => cases h
  | cons x r =>
    rw [dropM_cons]
    split
    · rename_i hx
      rcases List.mem_cons.1 h with rfl | h
      · exact absurd hx hc
      · exact h
    · exact h
theorem numS_slash {l : List UInt8} (h : 47 ∈ l) : (numS l).2 = false := by
  rw [Bool.eq_false_iff]
  intro e
  have h2 := List.all_eq_true.1 (numS_true e).2 _ (mem_dropM h (by decide))
  revert h2; decide

/-- The fraction that a text spells, and whether there is one. -/
def rfR (l : List UInt8) : Int × Int × Bool :=
  match splitB 47 l with
  | [a] => if ((numS a).2 && okF (numS a).1 1) = true then ((numS a).1, 1, true) else (0, 0, false)
  | [a, b] => if ((numS a).2 && ((numS b).2 && !((numS b).1 == 1)) && okF (numS a).1 (numS b).1) = true then ((numS a).1, (numS b).1, true) else (0, 0, false)
  | _ => (0, 0, false)

theorem rfR_one {l a : List UInt8} (h : splitB 47 l = [a]) : rfR l = if ((numS a).2 && okF (numS a).1 1) = true then ((numS a).1, 1, true) else (0, 0, false) := by unfold rfR; rw [h]
theorem rfR_two {l a b : List UInt8} (h : splitB 47 l = [a, b]) : rfR l = if ((numS a).2 && ((numS b).2 && !((numS b).1 == 1)) && okF (numS a).1 (numS b).1) = true then ((numS a).1, (numS b).1, true) else (0, 0, false) := by unfold rfR; rw [h]
theorem rfR_more {l a b c : List UInt8} {r : List (List UInt8)} (h : splitB 47 l = a :: b :: c :: r) : rfR l = (0, 0, false) := by unfold rfR; rw [h]

theorem numS_oneT : numS [49] = (1, true) := numS_yes (l := [49]) (by decide +kernel)

theorem txO_one {n : Int} (h : okF n 1 = true) : txO n 1 = itoa n := by unfold txO txF; rw [if_pos h, if_pos rfl]

/-- What the program's road says: without a stroke. -/
theorem rf_single {l : List UInt8} (h : 47 ∉ l) : rfR l = if ((numS l).2 && true && okF (numS l).1 1 && decide (txO (numS l).1 1 = l)) = true then ((numS l).1, 1, true) else (0, 0, false) := by
  rw [rfR_one (splitB_none h)]
  cases h1 : (numS l).2 with
  | false => rfl
  | true =>
    cases h2 : okF (numS l).1 1 with
    | false => rfl
    | true =>
      rw [txO_one h2, (numS_true h1).1]
      simp
/-- With one. -/
theorem rf_pair {l a b : List UInt8} (e : l = a ++ 47 :: b) (h : 47 ∉ a) :
    rfR l = if ((numS a).2 && (numS b).2 && okF (numS a).1 (numS b).1 && decide (txO (numS a).1 (numS b).1 = l)) = true then ((numS a).1, (numS b).1, true) else (0, 0, false) := by
  have hs : splitB 47 l = a :: splitB 47 b := by rw [e]; exact splitB_at b h
  by_cases hb : (47 : UInt8) ∈ b
  · rw [numS_slash hb, Bool.and_false, Bool.false_and, Bool.false_and, if_neg (by decide)]
    rcases idx_form 47 b with ⟨h1, _⟩ | ⟨b1, b2, h1, h2, _⟩
    · exact absurd hb h1
    · rw [h1, splitB_at b2 h2] at hs
      rcases h4 : splitB 47 b2 with _ | ⟨x, r⟩
      · exact absurd h4 (splitB_ne 47 b2)
      · rw [h4] at hs
        exact rfR_more hs
  · rw [splitB_none hb] at hs
    rw [rfR_two hs]
    cases h1 : (numS a).2 with
    | false => rfl
    | true =>
      cases h2 : (numS b).2 with
      | false => rfl
      | true =>
        cases h3 : okF (numS a).1 (numS b).1 with
        | false => simp
        | true =>
          have ea := (numS_true h1).1
          have eb := (numS_true h2).1
          have et : decide (txO (numS a).1 (numS b).1 = l) = !((numS b).1 == 1) := by
            unfold txO txF
            rw [if_pos h3, ea, eb]
            by_cases hd : (numS b).1 = 1
            · rw [if_pos hd, hd, e]
              have : ¬ (a = a ++ 47 :: b) := by intro e2; have := congrArg List.length e2; simp at this
              simp
            · rw [if_neg hd, e]
              have : ((numS b).1 == 1) = false := beq_eq_false_iff_ne.2 hd
              simp [this]
          rw [et]
          simp

end Go.Proofs.YthdhkjfanhhamaaDoor
