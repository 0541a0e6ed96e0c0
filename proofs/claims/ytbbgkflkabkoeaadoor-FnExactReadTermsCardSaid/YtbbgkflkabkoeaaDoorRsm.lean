/- Mathematics: the words of the text of terms. -/
import Derived.Test.YtbbgkflkabkoeaaDoorRtm
import Derived.Test.YtbbgkflkabkoeaaDoorSw
namespace Go.Proofs.YtbbgkflkabkoeaaDoor
open Go.RowKit Go.Lib

def tx2 : UInt8 → Int → List Int → List UInt8
  | _, x, [] => itoa x
  | c, x, y :: r => itoa x ++ c :: 32 :: tx2 44 y r
def wds : UInt8 → Int → List Int → List (List UInt8)
  | _, x, [] => [itoa x]
  | c, x, y :: r => (itoa x ++ [c]) :: wds 44 y r
theorem tx2_tail : ∀ (y : Int) (s : List Int), itoa y ++ joinTail [44, 32] (s.map itoa) = tx2 44 y s
  | y, [] => by
    show itoa y ++ joinTail [44, 32] [] = itoa y
    unfold joinTail; simp
  | y, z :: s => by
    show itoa y ++ joinTail [44, 32] (itoa z :: s.map itoa) = itoa y ++ 44 :: 32 :: tx2 44 z s
    rw [← tx2_tail z s]
    unfold joinTail; simp
theorem inT_tx2 (x : Int) (r : List Int) : inT (x :: r) = tx2 59 x r := by
  show itoa x ++ tl r = _
  cases r with
  | nil => show itoa x ++ [] = itoa x; rw [List.append_nil]
  | cons y s =>
    show itoa x ++ 59 :: 32 :: (itoa y ++ joinTail [44, 32] (s.map itoa)) = itoa x ++ 59 :: 32 :: tx2 44 y s
    rw [tx2_tail]
theorem splitB_tx2 : ∀ (c : UInt8) (x : Int) (r : List Int), c ≠ 32 → splitB 32 (tx2 c x r) = wds c x r
  | c, x, [], _ => splitB_none (itoa_no (by decide) (by decide) x)
  | c, x, y :: r, hc => by
    show splitB 32 (itoa x ++ c :: 32 :: tx2 44 y r) = (itoa x ++ [c]) :: wds 44 y r
    have e : itoa x ++ c :: 32 :: tx2 44 y r = (itoa x ++ [c]) ++ 32 :: tx2 44 y r := by simp
    rw [e, splitB_at _ (by
      rw [List.mem_append, List.mem_singleton]
      rintro (h | h)
      · exact itoa_no (by decide) (by decide) x h
      · exact hc h.symm), splitB_tx2 44 y r (by decide)]
theorem itoa_ne (x : Int) : itoa x ≠ [] := by
  intro e
  have := itoa_form x
  rw [e] at this
  simp [dropM] at this
theorem wds_ne : ∀ (c : UInt8) (x : Int) (r : List Int), ∀ w ∈ wds c x r, w ≠ []
  | c, x, [], w, hw => by
    have : w = itoa x := by simpa [wds] using hw
    rw [this]; exact itoa_ne x
  | c, x, y :: r, w, hw => by
    rcases List.mem_cons.1 hw with rfl | hw
    · simp
    · exact wds_ne 44 y r w hw
theorem words_inT (x : Int) (r : List Int) : wordsB (inT (x :: r)) = wds 59 x r := by
  unfold wordsB
  rw [inT_tx2, splitB_tx2 59 x r (by decide)]
  refine List.filter_eq_self.2 fun w hw => ?_
  have := wds_ne 59 x r w hw
  cases w with
  | nil => exact absurd rfl this
  | cons _ _ => rfl
theorem wds_len : ∀ (c : UInt8) (x : Int) (r : List Int), (wds c x r).length = r.length + 1
  | _, _, [] => rfl
  | c, x, y :: r => by
    show (wds 44 y r).length + 1 = (y :: r).length + 1
    rw [wds_len 44 y r]; rfl
theorem wds_at : ∀ (c : UInt8) (x : Int) (r : List Int) (k : Nat) (w : List UInt8) (z : Int), (wds c x r)[k]? = some w → (x :: r)[k]? = some z → (if k + 1 < r.length + 1 then w.dropLast else w) = itoa z
  | c, x, [], k, w, z, hw, hz => by
    cases k with
    | zero =>
      have h1 : itoa x = w := by simpa [wds] using hw
      have h2 : x = z := by simpa using hz
      rw [← h1, ← h2]; rfl
    | succ k => simp at hz
  | c, x, y :: r, k, w, z, hw, hz => by
    cases k with
    | zero =>
      have h1 : itoa x ++ [c] = w := by simpa [wds] using hw
      have h2 : x = z := by simpa using hz
      rw [← h1, ← h2, if_pos (by simp), List.dropLast_concat]
    | succ k =>
      have := wds_at 44 y r k w z (by simpa [wds] using hw) (by simpa using hz)
      rw [← this]
      simp only [List.length_cons]
      by_cases h : k + 1 < r.length + 1
      · rw [if_pos h, if_pos (by omega)]
      · rw [if_neg h, if_neg (by omega)]

/-- What the words say, if the text is that of terms. -/
theorem isT_words {inner : List UInt8} {xs : List Int} (h : IsT (91 :: (inner ++ [93])) xs) : (wordsB inner).length = xs.length ∧ ∀ (k : Nat) (w : List UInt8) (z : Int), (wordsB inner)[k]? = some w → xs[k]? = some z → numS (if k + 1 < xs.length then w.dropLast else w) = (z, true) := by
  have hin : inT xs = inner := by
    have h2 := h.2
    rw [txT_in] at h2
    exact List.append_cancel_right (List.cons.inj h2).2
  have hl := okT_len h.1
  have hall := okT_all h.1
  cases xs with
  | nil => simp at hl
  | cons x r =>
    rw [← hin, words_inT]
    refine ⟨by rw [wds_len]; rfl, fun k w z hw hz => ?_⟩
    rw [List.length_cons, wds_at 59 x r k w z hw hz]
    have := hall z (List.mem_of_getElem? hz)
    exact numS_itoa this.1 this.2
theorem isT_head {l : List UInt8} {xs : List Int} (h : IsT l xs) : 3 ≤ l.length ∧ l[0]? = some 91 ∧ l[l.length - 1]? = some 93 := by
  obtain ⟨inner, rfl, hi⟩ := isT_form h
  refine ⟨by simp; omega, rfl, ?_⟩
  have e : (91 :: (inner ++ [93]) : List UInt8) = (91 :: inner) ++ [93] := rfl
  rw [e]
  rw [List.getElem?_append_right (by simp)]
  simp

end Go.Proofs.YtbbgkflkabkoeaaDoor
