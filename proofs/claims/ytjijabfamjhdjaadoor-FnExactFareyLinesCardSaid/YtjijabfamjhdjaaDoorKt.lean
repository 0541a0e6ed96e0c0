/- Mathematics: continuants do not depend on the direction; they are numerators and denominators of convergents. -/
import Derived.Test.YtjijabfamjhdjaaDoorTm
import Derived.Test.YtjijabfamjhdjaaDoorOk
namespace Go.Proofs.YtjijabfamjhdjaaDoor

/-- The continuant of the rest behind two continuants, without a limit. -/
def kf (b n : Int) : List Int → Int
  | [] => n
  | t :: r => kf n (t * n + b) r
theorem kf_lin : ∀ (xs : List Int) (b n : Int), kf b n xs = b * kf 1 0 xs + n * kf 0 1 xs
  | [], b, n => by simp [kf]
  | t :: r, b, n => by
    unfold kf
    rw [kf_lin r n (t * n + b), kf_lin r 0 (t * 0 + 1), kf_lin r 1 (t * 1 + 0)]
    simp only [Int.mul_zero, Int.zero_add, Int.mul_one, Int.one_mul, Int.add_zero, Int.zero_mul]
    rw [Int.add_mul, Int.mul_add]
    have : t * n * kf 0 1 r = n * (t * kf 0 1 r) := by rw [Int.mul_comm t n, Int.mul_assoc]
    omega
theorem kf_cons (t u : Int) (r : List Int) : kf 0 1 (t :: u :: r) = t * kf 0 1 (u :: r) + kf 0 1 r := by
  have : kf 0 1 (t :: u :: r) = kf 1 t (u :: r) := by
    show kf 1 (t * 1 + 0) (u :: r) = _
    rw [Int.mul_one, Int.add_zero]
  rw [this, kf_lin]
  have h : kf 1 0 (u :: r) = kf 0 1 r := by
    show kf 0 (u * 0 + 1) r = _
    rw [Int.mul_zero, Int.zero_add]
  rw [h]; omega
theorem kf_snoc : ∀ (xs : List Int) (b n t : Int), kf b n (xs ++ [t]) = t * kf b n xs + (if xs = [] then b else kf b n xs.dropLast)
  | [], b, n, t => by simp [kf]
  | x :: xs, b, n, t => by
    show kf n (x * n + b) (xs ++ [t]) = _
    rw [kf_snoc xs]
    show _ = t * kf n (x * n + b) xs + _
    rw [if_neg (show ¬ x :: xs = [] by simp)]
    cases xs with
    | nil => simp [kf]
    | cons y ys =>
      rw [if_neg (by simp)]
      show _ = t * kf n (x * n + b) (y :: ys) + kf b n (x :: (y :: ys).dropLast)
      rfl
theorem kf_rev : ∀ (k : Nat) (xs : List Int), xs.length ≤ k → kf 0 1 xs.reverse = kf 0 1 xs
  | _, [], _ => rfl
  | k, [t], _ => rfl
  | 0, t :: u :: r, h => by simp at h
  | k + 1, t :: u :: r, h => by
    simp only [List.length_cons] at h
    rw [List.reverse_cons, kf_snoc, if_neg (by simp), kf_cons, kf_rev k (u :: r) (by simp; omega)]
    rw [List.reverse_cons, List.dropLast_concat, kf_rev k r (by omega)]

theorem kf_pos : ∀ (xs : List Int) (b n : Int), (∀ x ∈ xs, 1 ≤ x) → 0 ≤ b → 1 ≤ n → 1 ≤ kf b n xs
  | [], b, n, _, _, h => h
  | t :: r, b, n, hx, hb, hn => by
    have ht := hx t (by simp)
    have : 1 * n ≤ t * n := Int.mul_le_mul_of_nonneg_right ht (by omega)
    exact kf_pos r n (t * n + b) (fun x h => hx x (by simp [h])) (by omega) (by omega)
/-- A limit for them: each term multiplies by at most 61. -/
theorem ctn_small : ∀ (xs : List Int) (b n : Int), (∀ x ∈ xs, 1 ≤ x ∧ x ≤ 60) → 0 ≤ b → b ≤ n → 1 ≤ n → n * 61 ^ xs.length ≤ 1000000000000000000 → ctn b n xs = some (kf b n xs)
  | [], b, n, _, _, _, _, _ => rfl
  | t :: r, b, n, hx, hb, hbn, hn, hl => by
    obtain ⟨ht, ht2⟩ := hx t (by simp)
    have e1 : 1 * n ≤ t * n := Int.mul_le_mul_of_nonneg_right ht (by omega)
    have e2 : t * n ≤ 60 * n := Int.mul_le_mul_of_nonneg_right ht2 (by omega)
    have hp : (1 : Int) ≤ 61 ^ r.length := by
      have := Int.pow_pos (n := 61) (m := r.length) (by omega)
      omega
    have e3 : (t * n + b) * 61 ^ r.length ≤ (61 * n) * 61 ^ r.length := Int.mul_le_mul_of_nonneg_right (by omega) (by omega)
    have e4 : (61 * n) * 61 ^ r.length = n * 61 ^ (t :: r).length := by
      rw [List.length_cons, Int.pow_succ, Int.mul_comm 61 n, Int.mul_assoc, Int.mul_comm 61]
    have e5 : (t * n + b) * 1 ≤ (t * n + b) * 61 ^ r.length := Int.mul_le_mul_of_nonneg_left hp (by omega)
    unfold ctn kf
    rw [if_neg, ctn_small r n (t * n + b) (fun x h => hx x (by simp [h])) (by omega) (by omega) (by omega) (by omega)]
    have : n ≤ (1000000000000000000 - b) / t := by
      rw [Int.le_ediv_iff_mul_le (by omega), Int.mul_comm]
      omega
    omega

/-- The convergents of the rest, behind two convergents; none if one is not plain. -/
def cv (p q pp qq : Int) : List Int → Option (List (Int × Int))
  | [] => some []
  | t :: r => if okF (t * p + pp) (t * q + qq) then (cv (t * p + pp) (t * q + qq) p q r).map ((t * p + pp, t * q + qq) :: ·) else none
theorem cv_yes {p q pp qq t : Int} {r : List Int} (h : okF (t * p + pp) (t * q + qq) = true) : cv p q pp qq (t :: r) = (cv (t * p + pp) (t * q + qq) p q r).map ((t * p + pp, t * q + qq) :: ·) := by show ite _ _ _ = _; rw [if_pos h]
theorem cv_no {p q pp qq t : Int} {r : List Int} (h : okF (t * p + pp) (t * q + qq) = false) : cv p q pp qq (t :: r) = none := by show ite _ _ _ = _; rw [h]; rfl
theorem cv_length : ∀ {xs : List Int} {p q pp qq : Int} {l : List (Int × Int)}, cv p q pp qq xs = some l → l.length = xs.length
  | [], _, _, _, _, l, h => by
    have : l = [] := by simpa [cv] using h.symm
    subst this; rfl
  | t :: r, p, q, pp, qq, l, h => by
    cases ho : okF (t * p + pp) (t * q + qq)
    · rw [cv_no ho] at h; simp at h
    · rw [cv_yes ho] at h
      obtain ⟨l', h1, rfl⟩ := Option.map_eq_some_iff.1 h
      simp [cv_length h1]
theorem cv_last : ∀ {xs : List Int} {p q pp qq : Int} {l : List (Int × Int)}, cv p q pp qq xs = some l → xs ≠ [] → l.getLast? = some (kf pp p xs, kf qq q xs)
  | [], _, _, _, _, l, h, hn => absurd rfl hn
  | t :: r, p, q, pp, qq, l, h, _ => by
    cases ho : okF (t * p + pp) (t * q + qq)
    · rw [cv_no ho] at h; simp at h
    · rw [cv_yes ho] at h
      obtain ⟨l', h1, rfl⟩ := Option.map_eq_some_iff.1 h
      cases r with
      | nil =>
        have : l' = [] := by simpa [cv] using h1.symm
        subst this; rfl
      | cons u s =>
        have h2 := cv_last h1 (by simp)
        cases l' with
        | nil => simp at h2
        | cons x y => rw [List.getLast?_cons_cons]; exact h2

end Go.Proofs.YtjijabfamjhdjaaDoor
