/- Numbers out of texts: the arithmetic. -/
import Derived.Test.YtjijabfamjhdjaaDoorDec
import Derived.Lib.ParseIntBCases
import Derived.Lib.ParseIntBTie
import Derived.Lib.Strings
namespace Go.Proofs.YtjijabfamjhdjaaDoor
open Go.RowKit Go.Lib

def isD (c : UInt8) : Bool := decide (48 ≤ c.toNat ∧ c.toNat ≤ 57)
theorem isD_iff {c : UInt8} : isD c = true ↔ 48 ≤ c.toNat ∧ c.toNat ≤ 57 := decide_eq_true_iff
def valD (acc : Nat) : List UInt8 → Nat
  | [] => acc
  | c :: r => valD (acc * 10 + (c.toNat - 48)) r
def dropM : List UInt8 → List UInt8
  | [] => []
  | c :: r => if c.toNat = 45 then r else c :: r
theorem dropM_cons (c : UInt8) (r : List UInt8) : dropM (c :: r) = if c.toNat = 45 then r else c :: r := rfl
def negM : List UInt8 → Bool
  | [] => false
  | c :: _ => decide (c.toNat = 45)
def sgV (l : List UInt8) : Int := if negM l then -(valD 0 (dropM l) : Int) else (valD 0 (dropM l) : Int)
def goodD (l : List UInt8) : Prop := 1 ≤ (dropM l).length ∧ (dropM l).length ≤ 18 ∧ (dropM l).all isD = true ∧ itoa (sgV l) = l
instance (l : List UInt8) : Decidable (goodD l) := by unfold goodD; infer_instance
/-- The number with a decimal form, and whether there is one. -/
def numS (l : List UInt8) : Int × Bool := if goodD l then (sgV l, true) else (0, false)

theorem numS_yes {l : List UInt8} (h : goodD l) : numS l = (sgV l, true) := if_pos h
theorem numS_no {l : List UInt8} (h : ¬ goodD l) : numS l = (0, false) := if_neg h

theorem valD_mono : ∀ (l : List UInt8) (a : Nat), a ≤ valD a l
  | [], a => Nat.le_refl a
  | c :: r, a => by
    have := valD_mono r (a * 10 + (c.toNat - 48))
    show a ≤ valD (a * 10 + (c.toNat - 48)) r
    omega
theorem valD_lt : ∀ (l : List UInt8) (a : Nat), l.all isD = true → valD a l < (a + 1) * 10 ^ l.length
  | [], a, _ => by show a < (a + 1) * 1; omega
  | c :: r, a, h => by
    simp only [List.all_cons, Bool.and_eq_true] at h
    have h1 := isD_iff.1 h.1
    have h2 := valD_lt r (a * 10 + (c.toNat - 48)) h.2
    rw [List.length_cons, Nat.pow_succ, Nat.mul_comm (10 ^ r.length) 10, ← Nat.mul_assoc]
    generalize 10 ^ r.length = p at h2 ⊢
    refine Nat.lt_of_lt_of_le h2 (Nat.mul_le_mul_right p ?_)
    omega
theorem valD_snoc (c : UInt8) : ∀ (l : List UInt8) (a : Nat), valD a (l ++ [c]) = valD a l * 10 + (c.toNat - 48)
  | [], _ => rfl
  | _ :: r, _ => valD_snoc c r _
theorem valD_small {l : List UInt8} (h : l.all isD = true) (hl : l.length ≤ 18) : valD 0 l < 1000000000000000000 := by
  have h1 := valD_lt l 0 h
  have h2 : 10 ^ l.length ≤ 10 ^ 18 := Nat.pow_le_pow_right (by omega) hl
  rw [show (10 : Nat) ^ 18 = 1000000000000000000 from rfl] at h2
  generalize 10 ^ l.length = p at h1 h2
  omega

theorem parseM_ok : ∀ (l : List UInt8) (a : Nat), l.all isD = true → valD a l < 1000000000000000000 → parseUintM (2 ^ 64 - 1) a l = .ok (valD a l)
  | [], _, _, _ => rfl
  | c :: r, a, h, hv => by
    simp only [List.all_cons, Bool.and_eq_true] at h
    have h1 := isD_iff.1 h.1
    have hv' : valD (a * 10 + (c.toNat - 48)) r < 1000000000000000000 := hv
    have hm := valD_mono r (a * 10 + (c.toNat - 48))
    have h2 := parseM_ok r (a * 10 + (c.toNat - 48)) h.2 hv'
    unfold parseUintM
    rw [if_pos h1, if_neg (by omega), if_neg (by omega), h2]
    rfl

theorem parse_ok {l : List UInt8} (h1 : 1 ≤ (dropM l).length) (h2 : (dropM l).length ≤ 18) (h3 : (dropM l).all isD = true) : parseIntB 64 l = .ok (sgV l) := by
  have hs := valD_small h3 h2
  have hp := parseM_ok (dropM l) 0 h3 hs
  cases l with
  | nil => simp [dropM] at h1
  | cons c r =>
    by_cases hc : c.toNat = 45
    · have e : dropM (c :: r) = r := by rw [dropM_cons, if_pos hc]
      have e2 : negM (c :: r) = true := decide_eq_true hc
      unfold sgV
      rw [e] at h1 hs hp ⊢
      rw [if_pos e2]
      have hr : r ≠ [] := by intro e; rw [e] at h1; simp at h1
      have h45 : c = 45 := UInt8.toNat_inj.1 hc
      rw [h45, parseIntB_minus]
      unfold parseUintB
      rw [if_neg hr, hp]
      unfold signedC
      exact if_neg (by omega)
    · have e : dropM (c :: r) = c :: r := by rw [dropM_cons, if_neg hc]
      have e2 : negM (c :: r) = false := decide_eq_false hc
      unfold sgV
      rw [e] at h3 hs hp ⊢
      rw [if_neg (by rw [e2]; decide)]
      have hd : 48 ≤ c.toNat ∧ c.toNat ≤ 57 := by simp only [List.all_cons, Bool.and_eq_true] at h3; exact isD_iff.1 h3.1
      rw [parseIntB_plain 64 c r (by omega) hc]
      unfold parseUintB
      rw [if_neg (by simp), hp]
      unfold signlessC
      exact if_neg (by omega)

theorem digs_all : ∀ (k u : Nat), u < 10 ^ k → (digs u).all isD = true
  | 0, u, h => by
    have : u = 0 := by simpa using h
    subst this; rfl
  | k + 1, u, h => by
    by_cases hu : u = 0
    · subst hu; rfl
    · have h2 := digs_all k (u / 10) (by rw [Nat.pow_succ] at h; omega)
      rw [digs_step hu, List.all_append, h2]
      have h3 : u % 10 < 10 := Nat.mod_lt _ (by omega)
      have h4 := ofNat_digit h3
      have h5 : isD (UInt8.ofNat (48 + u % 10)) = true := isD_iff.2 (by omega)
      show (true && (isD (UInt8.ofNat (48 + u % 10)) && true)) = true
      rw [h5]
      rfl
theorem digs_isD (u : Nat) : (digs u).all isD = true := digs_all u u (Nat.lt_pow_self (by omega))
theorem digs_ne {u : Nat} (h : u ≠ 0) : 1 ≤ (digs u).length := by rw [digs_step h]; simp

theorem dropM_digits {l : List UInt8} (h : l.all isD = true) : dropM l = l := by
  cases l with
  | nil => rfl
  | cons c r =>
    simp only [List.all_cons, Bool.and_eq_true] at h
    have := isD_iff.1 h.1
    rw [dropM_cons, if_neg (by omega)]

theorem itoa_form (v : Int) : 1 ≤ (dropM (itoa v)).length ∧ (dropM (itoa v)).all isD = true := by
  rcases Int.lt_trichotomy v 0 with hc | hc | hc
  · rw [itoa_neg hc]
    have e : dropM (45 :: digs v.natAbs) = digs v.natAbs := by rw [dropM_cons, if_pos (by decide)]
    rw [e]
    exact ⟨digs_ne (by omega), digs_isD _⟩
  · rw [hc, itoa_zero]; decide
  · rw [itoa_pos hc, dropM_digits (digs_isD _)]
    exact ⟨digs_ne (by omega), digs_isD _⟩

/-- What the program's road says. -/
theorem numS_parsed {l : List UInt8} {v : Int} (h : parseIntB 64 l = .ok v) (hl : (dropM l).length ≤ 18) (e : itoa v = l) : numS l = (v, true) := by
  have hf := itoa_form v
  rw [e] at hf
  have h2 := parse_ok hf.1 hl hf.2
  rw [h] at h2
  obtain rfl : v = sgV l := by injection h2
  exact numS_yes ⟨hf.1, hl, hf.2, e⟩
theorem numS_unlike {l : List UInt8} {v : Int} (h : parseIntB 64 l = .ok v) (e : itoa v ≠ l) : numS l = (0, false) := numS_no fun g => by
  have h2 := parse_ok g.1 g.2.1 g.2.2.1
  rw [h] at h2
  obtain rfl : v = sgV l := by injection h2
  exact e g.2.2.2
theorem numS_unparsed {l : List UInt8} (h : ∀ v, parseIntB 64 l ≠ .ok v) : numS l = (0, false) := numS_no fun g => h _ (parse_ok g.1 g.2.1 g.2.2.1)
theorem numS_long {l : List UInt8} (h : 18 < (dropM l).length) : numS l = (0, false) := numS_no fun g => by have := g.2.1; omega
theorem numS_empty {l : List UInt8} (h : (dropM l).length < 1) : numS l = (0, false) := numS_no fun g => by have := g.1; omega
theorem numS_undigit {l : List UInt8} (h : (dropM l).all isD = false) : numS l = (0, false) := numS_no fun g => by have h2 := g.2.2.1; rw [h] at h2; cases h2

theorem trim_dropM (l : List UInt8) : trimPrefix l [45] = dropM l := by
  cases l with
  | nil => rfl
  | cons c r =>
    unfold trimPrefix hasPrefix dropM
    by_cases hc : c.toNat = 45
    · have : c = 45 := UInt8.toNat_inj.1 hc
      subst this
      simp
    · have : ¬ (45 = c) := by intro e; subst e; exact hc rfl
      simp [hc, this]

theorem parse_bound {l : List UInt8} {v : Int} (h : parseIntB 64 l = .ok v) : -9223372036854775808 ≤ v ∧ v ≤ 9223372036854775807 := by
  have := parseIntB_bounds h
  omega

end Go.Proofs.YtjijabfamjhdjaaDoor
