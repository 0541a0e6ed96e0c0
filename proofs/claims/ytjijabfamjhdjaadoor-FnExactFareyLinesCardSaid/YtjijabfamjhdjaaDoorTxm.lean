/- Mathematics: the text of terms. -/
import Derived.Test.YtjijabfamjhdjaaDoorDec
import Derived.Test.YtjijabfamjhdjaaDoorTm
import Derived.Lib.Join
namespace Go.Proofs.YtjijabfamjhdjaaDoor
open Go.RowKit Go.Lib

theorem itoa_len20 {n : Int} (h : -1000000000000000000 ≤ n ∧ n ≤ 1000000000000000000) : (itoa n).length ≤ 20 := by
  rcases Int.lt_trichotomy n 0 with hc | hc | hc
  · rw [itoa_neg hc]
    have := digs_length 19 n.natAbs (by omega)
    simp; omega
  · rw [hc, itoa_zero]; simp
  · rw [itoa_pos hc]
    have := digs_length 19 n.natAbs (by omega)
    omega

/-- The text of the terms behind the first one. -/
def tl : List Int → List UInt8
  | [] => []
  | u :: s => 59 :: 32 :: (itoa u ++ joinTail [44, 32] (s.map itoa))
theorem joinTail_more (sep : List UInt8) (r : List (List UInt8)) (x : List UInt8) : joinTail sep (r ++ [x]) = joinTail sep r ++ (sep ++ x) := by
  unfold joinTail; rw [List.map_append, List.flatten_append]; simp
theorem tl_first (t : Int) : tl [t] = [59, 32] ++ itoa t := by
  show 59 :: 32 :: (itoa t ++ joinTail [44, 32] []) = _
  unfold joinTail; simp
theorem tl_more {r : List Int} (h : r ≠ []) (t : Int) : tl (r ++ [t]) = tl r ++ [44, 32] ++ itoa t := by
  cases r with
  | nil => exact absurd rfl h
  | cons u s =>
    show 59 :: 32 :: (itoa u ++ joinTail [44, 32] ((s ++ [t]).map itoa)) = 59 :: 32 :: (itoa u ++ joinTail [44, 32] (s.map itoa)) ++ [44, 32] ++ itoa t
    rw [List.map_append, List.map_singleton, joinTail_more]
    simp
theorem tl_join {r : List Int} (h : r ≠ []) : tl r = [59, 32] ++ join (r.map itoa) [44, 32] := by
  cases r with
  | nil => exact absurd rfl h
  | cons u s => rw [List.map_cons, join_cons]; rfl
/-- The text of terms, but for the last byte, cut behind k of them. -/
def pre (xs : List Int) (k : Nat) : List UInt8 := 91 :: (itoa (xs.getD 0 0) ++ tl ((xs.drop 1).take (k - 1)))
def txT (xs : List Int) : List UInt8 := 91 :: (itoa (xs.getD 0 0) ++ (tl (xs.drop 1) ++ [93]))
theorem pre_one (xs : List Int) : pre xs 1 = 91 :: itoa (xs.getD 0 0) := by
  show 91 :: (itoa (xs.getD 0 0) ++ tl ((xs.drop 1).take 0)) = _
  rw [List.take_zero]
  show 91 :: (itoa (xs.getD 0 0) ++ []) = _
  rw [List.append_nil]
theorem pre_first {xs : List Int} {t : Int} (h : xs[1]? = some t) : pre xs 2 = pre xs 1 ++ [59, 32] ++ itoa t := by
  rw [pre_one]
  unfold pre
  have h1 : (xs.drop 1).take (2 - 1) = [t] := by
    rw [show 2 - 1 = 0 + 1 from rfl, List.take_add_one, List.take_zero, List.getElem?_drop, h]; rfl
  rw [h1, tl_first]; simp
theorem pre_more {xs : List Int} {k : Nat} {t : Int} (hk : 2 ≤ k) (h : xs[k]? = some t) : pre xs (k + 1) = pre xs k ++ [44, 32] ++ itoa t := by
  unfold pre
  have h1 : (xs.drop 1).take (k + 1 - 1) = (xs.drop 1).take (k - 1) ++ [t] := by
    rw [show k + 1 - 1 = (k - 1) + 1 by omega, List.take_add_one, List.getElem?_drop, show 1 + (k - 1) = k by omega, h]; rfl
  have hk2 := (List.getElem?_eq_some_iff.1 h).1
  have h2 : (xs.drop 1).take (k - 1) ≠ [] := by
    intro e
    have := congrArg List.length e
    rw [List.length_take, List.length_drop] at this
    simp at this
    omega
  rw [h1, tl_more h2]; simp
theorem pre_end {xs : List Int} (_h : 1 ≤ xs.length) : pre xs xs.length ++ [93] = txT xs := by
  unfold pre txT
  rw [List.take_of_length_le (by rw [List.length_drop]; exact Nat.le_refl _)]
  simp
theorem bytes_more (T : ByteArray) (l m : List UInt8) (h : T.data.toList = l) : (T ++ ⟨m.toArray⟩ : ByteArray).data.toList = l ++ m := by
  rw [ByteArray.data_append, Array.toList_append, h]
theorem bytes_of {T : ByteArray} {l : List UInt8} (h : T.data.toList = l) : T = ⟨l.toArray⟩ := by
  apply ByteArray.ext
  rw [← h]
theorem bytes_size {T : ByteArray} {l : List UInt8} (h : T.data.toList = l) : T.size = l.length := by
  rw [← h]; exact Array.length_toList.symm

end Go.Proofs.YtjijabfamjhdjaaDoor
