/- Mathematics: the sieve of totients up to 1000 gives what trial division gives. -/
import Derived.Test.YthfogmaefhfkoaaTotm
import Derived.Test.YthfogmaefhfkoaaCd
namespace Go.Proofs.Ythfogmaefhfkoaa

/-- What one number of the sieve does. -/
def svP (p : Nat) (f : Nat → Nat) (i : Nat) : Nat := if f p = p then (if i % p = 0 then f i - f i / p else f i) else f i
def sv : Nat → Nat → Nat
  | 0 => fun i => i
  | k + 1 => svP (k + 2) (sv k)
theorem sv_skip {k : Nat} (h : ¬ sv k (k + 2) = k + 2) : sv (k + 1) = sv k := by
  funext i
  show svP (k + 2) (sv k) i = _
  unfold svP
  rw [if_neg h]
theorem sv_take {k : Nat} (h : sv k (k + 2) = k + 2) (i : Nat) : sv (k + 1) i = if i % (k + 2) = 0 then sv k i - sv k i / (k + 2) else sv k i := by
  show svP (k + 2) (sv k) i = _
  unfold svP
  rw [if_pos h]
theorem sv_bd : ∀ (k i : Nat), sv k i ≤ i
  | 0, i => Nat.le_refl _
  | k + 1, i => by
    have ih := sv_bd k i
    by_cases h : sv k (k + 2) = k + 2
    · rw [sv_take h]
      split
      · exact Nat.le_trans (Nat.sub_le _ _) ih
      · exact ih
    · rw [sv_skip h]; exact ih
def prL : List Nat := [2, 3, 5, 7, 11, 13, 17, 19, 23, 29, 31, 37, 41, 43, 47, 53, 59, 61, 67, 71, 73, 79, 83, 89, 97, 101, 103, 107, 109, 113, 127, 131, 137, 139, 149, 151, 157, 163, 167, 173, 179, 181, 191, 193, 197, 199, 211, 223, 227, 229, 233, 239, 241, 251, 257, 263, 269, 271, 277, 281, 283, 293, 307, 311, 313, 317, 331, 337, 347, 349, 353, 359, 367, 373, 379, 383, 389, 397, 401, 409, 419, 421, 431, 433, 439, 443, 449, 457, 461, 463, 467, 479, 487, 491, 499, 503, 509, 521, 523, 541, 547, 557, 563, 569, 571, 577, 587, 593, 599, 601, 607, 613, 617, 619, 631, 641, 643, 647, 653, 659, 661, 673, 677, 683, 691, 701, 709, 719, 727, 733, 739, 743, 751, 757, 761, 769, 773, 787, 797, 809, 811, 821, 823, 827, 829, 839, 853, 857, 859, 863, 877, 881, 883, 887, 907, 911, 919, 929, 937, 941, 947, 953, 967, 971, 977, 983, 991, 997]
def stN (p i c : Nat) : Nat := cond (Nat.beq (i % p) 0) (c - c / p) c
/-- The numbers of a list that are less than a bound. -/
def evN : List Nat → Nat → Nat → Nat → Nat
  | [], _, _, c => c
  | p :: ps, b, i, c => cond (Nat.ble b p) c (evN ps b i (stN p i c))
def memB : List Nat → Nat → Bool
  | [], _ => false
  | p :: ps, m => cond (Nat.beq p m) true (memB ps m)
/-- A list that ascends, from a bound on. -/
def ascB : Nat → List Nat → Bool
  | _, [] => true
  | b, p :: ps => cond (Nat.ble b p) (ascB (p + 1) ps) false
theorem evN_next : ∀ (l : List Nat) (a b i c : Nat), ascB a l = true → evN l (b + 1) i c = if memB l b = true then stN b i (evN l b i c) else evN l b i c
  | [], a, b, i, c, _ => rfl
  | p :: ps, a, b, i, c, h => by
    have h1 : ascB (p + 1) ps = true := by
      rw [ascB] at h
      cases hb : Nat.ble a p
      · rw [hb] at h; cases h
      · rw [hb] at h; exact h
    rcases Nat.lt_trichotomy p b with hlt | heq | hgt
    · have e1 : Nat.ble (b + 1) p = false := by rw [Bool.eq_false_iff]; intro e; have := Nat.le_of_ble_eq_true e; omega
      have e2 : Nat.ble b p = false := by rw [Bool.eq_false_iff]; intro e; have := Nat.le_of_ble_eq_true e; omega
      have e3 : Nat.beq p b = false := by rw [Bool.eq_false_iff]; intro e; have := Nat.eq_of_beq_eq_true e; omega
      rw [evN, evN, memB, e1, e2, e3]
      exact evN_next ps (p + 1) b i _ h1
    · subst heq
      have e1 : Nat.ble (p + 1) p = false := by rw [Bool.eq_false_iff]; intro e; have := Nat.le_of_ble_eq_true e; omega
      have e2 : Nat.ble p p = true := Nat.ble_eq_true_of_le (Nat.le_refl _)
      have e3 : Nat.beq p p = true := Nat.beq_refl p
      rw [evN, evN, memB, e1, e2, e3]
      show evN ps (p + 1) i (stN p i c) = if true = true then _ else _
      rw [if_pos rfl]
      show _ = stN p i c
      cases ps with
      | nil => rfl
      | cons q qs =>
        have : Nat.ble (p + 1) q = true := by
          rw [ascB] at h1
          cases hb : Nat.ble (p + 1) q
          · rw [hb] at h1; cases h1
          · rfl
        rw [evN, this]; rfl
    · have e1 : Nat.ble (b + 1) p = true := Nat.ble_eq_true_of_le (by omega)
      have e2 : Nat.ble b p = true := Nat.ble_eq_true_of_le (by omega)
      have e4 := asc_none ps (p + 1) b h1 (by omega)
      have e3 : Nat.beq p b = false := by rw [Bool.eq_false_iff]; intro e; have := Nat.eq_of_beq_eq_true e; omega
      rw [evN, evN, memB, e1, e2, e3, show cond false true (memB ps b) = memB ps b from rfl, e4]
      rfl
where
  asc_none : ∀ (l : List Nat) (a b : Nat), ascB a l = true → b < a → memB l b = false
    | [], _, _, _, _ => rfl
    | p :: ps, a, b, h, hb => by
      rw [ascB] at h
      cases hp : Nat.ble a p
      · rw [hp] at h; cases h
      · rw [hp] at h
        have h : ascB (p + 1) ps = true := h
        have hle := Nat.le_of_ble_eq_true hp
        have e3 : Nat.beq p b = false := by rw [Bool.eq_false_iff]; intro e; have := Nat.eq_of_beq_eq_true e; omega
        rw [memB, e3]
        exact asc_none ps (p + 1) b h (by omega)
def allB : Nat → (Nat → Bool) → Bool
  | 0, _ => true
  | n + 1, f => cond (f n) (allB n f) false
theorem allB_at : ∀ (n : Nat) (f : Nat → Bool), allB n f = true → ∀ i, i < n → f i = true
  | 0, _, _, _, h => by omega
  | n + 1, f, h, i, hi => by
    rw [allB] at h
    cases hf : f n
    · rw [hf] at h; cases h
    · rw [hf] at h
      by_cases e : i = n
      · rw [e]; exact hf
      · exact allB_at n f h i (by omega)
def eqB (a b : Bool) : Bool := cond a b (cond b false true)
theorem eqB_eq {a b : Bool} (h : eqB a b = true) : a = b := by cases a <;> cases b <;> first | rfl | cases h
theorem pr_asc : ascB 2 prL = true := by decide +kernel
theorem pr_check : allB 999 (fun k => eqB (Nat.beq (evN prL (k + 2) (k + 2) (k + 2)) (k + 2)) (memB prL (k + 2))) = true := by decide +kernel
theorem sv_ev : ∀ (k : Nat), k ≤ 999 → ∀ i, sv k i = evN prL (k + 2) i i
  | 0, _, i => by
    show i = _
    rw [prL, evN]; rfl
  | k + 1, hk, i => by
    have hc := eqB_eq (allB_at _ _ pr_check k (by omega))
    have ih := sv_ev k (by omega)
    rw [evN_next prL 2 (k + 2) i i pr_asc, ← hc, ← ih (k + 2), ← ih i]
    by_cases h : sv k (k + 2) = k + 2
    · rw [sv_take h, h, if_pos (Nat.beq_refl _)]
      unfold stN
      by_cases hm : i % (k + 2) = 0
      · rw [if_pos hm, hm]; rfl
      · have : Nat.beq (i % (k + 2)) 0 = false := by rw [Bool.eq_false_iff]; intro e; exact hm (Nat.eq_of_beq_eq_true e)
        rw [if_neg hm, this]; rfl
    · have : Nat.beq (sv k (k + 2)) (k + 2) = false := by rw [Bool.eq_false_iff]; intro e; exact h (Nat.eq_of_beq_eq_true e)
      rw [sv_skip h, this]; rfl

/-! Trial division by natural numbers. -/
def stripN : Nat → Nat → Nat → Nat
  | 0, _, r => r
  | k + 1, p, r => cond (Nat.beq (r % p) 0) (stripN k p (r / p)) r
def totN : Nat → Nat → Nat → Nat → Nat
  | 0, _, _, c => c
  | k + 1, p, r, c => cond (Nat.ble (p * p) r) (totN k (p + 1) (stripN 20 p r) (stN p r c)) (cond (Nat.ble 2 r) (c - c / r) c)
theorem beq_int (r p : Nat) : (Nat.beq (r % p) 0 = true) ↔ ((r : Int) % (p : Int) = 0) := by
  constructor
  · intro e
    have := Nat.eq_of_beq_eq_true e
    omega
  · intro e
    have : r % p = 0 := by omega
    rw [this]; rfl
theorem strip_nat : ∀ (k p r : Nat), strip k p r = (stripN k p r : Nat)
  | 0, p, r => rfl
  | k + 1, p, r => by
    rw [stripN]
    cases h : Nat.beq (r % p) 0
    · rw [strip_no (fun e => by rw [(beq_int r p).2 e] at h; cases h)]; rfl
    · rw [strip_yes ((beq_int r p).1 h)]
      exact strip_nat k p (r / p)
theorem less_nat (p r c : Nat) : less6 p r c = (stN p r c : Nat) := by
  unfold less6 stN
  cases h : Nat.beq (r % p) 0
  · rw [if_neg (fun e => by rw [(beq_int r p).2 e] at h; cases h)]; rfl
  · rw [if_pos ((beq_int r p).1 h)]
    have := Nat.div_le_self c p
    show (c : Int) - (c : Int) / (p : Int) = ((c - c / p : Nat) : Int)
    omega
theorem tot_nat : ∀ (k p r c : Nat), totL k p r c = (totN k p r c : Nat)
  | 0, p, r, c => rfl
  | k + 1, p, r, c => by
    rw [totN]
    cases h : Nat.ble (p * p) r
    · have h1 : ¬ (p : Int) * (p : Int) ≤ (r : Int) := fun e => by
        have : p * p ≤ r := by exact_mod_cast e
        rw [Nat.ble_eq_true_of_le this] at h; cases h
      cases h2 : Nat.ble 2 r
      · rw [totL_one h1 (fun e => by rw [Nat.ble_eq_true_of_le (by omega)] at h2; cases h2)]; rfl
      · have := Nat.le_of_ble_eq_true h2
        rw [totL_end h1 (by omega)]
        have := Nat.div_le_self c r
        show (c : Int) - (c : Int) / (r : Int) = ((c - c / r : Nat) : Int)
        omega
    · have h1 : (p : Int) * (p : Int) ≤ (r : Int) := by
        have := Nat.le_of_ble_eq_true h
        exact_mod_cast this
      rw [totL_go h1, less_nat, strip_nat]
      exact tot_nat k (p + 1) (stripN 20 p r) (stN p r c)
theorem ph_check : allB 1000 (fun j => Nat.beq (evN prL 1001 (j + 1) (j + 1)) (totN 1001 2 (j + 1) (j + 1))) = true := by decide +kernel
/-- The sieve's end. -/
theorem sv_phi {i : Nat} (h : 1 ≤ i) (h1 : i ≤ 1000) : (sv 999 i : Int) = phi i := by
  rw [sv_ev 999 (Nat.le_refl _) i]
  have := allB_at _ _ ph_check (i - 1) (by omega)
  have := Nat.eq_of_beq_eq_true this
  rw [show i - 1 + 1 = i by omega] at this
  rw [this]
  exact (tot_nat 1001 2 i i).symm

/-- The sum of the first totients. -/
def sumP : Nat → Int
  | 0 => 1
  | k + 1 => sumP k + phi ((k + 1 : Nat) : Int)
theorem sumP_bd : ∀ (k : Nat), k ≤ 1000 → 1 ≤ sumP k ∧ sumP k ≤ 1 + 1000 * k
  | 0, _ => by simp [sumP]
  | k + 1, h => by
    have ih := sumP_bd k (by omega)
    have := phi_bd (n := ((k + 1 : Nat) : Int)) (by omega)
    have e : sumP (k + 1) = sumP k + phi ((k + 1 : Nat) : Int) := rfl
    rw [e]
    omega
/-- How many elements, and a code. -/
def fctT (o : Int) : Int × Int := if inB 1 1000 o then (sumP o.toNat, 0) else (0, 2)
theorem fctT_no {o : Int} (h : inB 1 1000 o = false) : fctT o = (0, 2) := by unfold fctT; rw [h]; rfl
theorem fctT_ok {o : Int} (h : inB 1 1000 o = true) : fctT o = (sumP o.toNat, 0) := by unfold fctT; rw [h]; rfl

end Go.Proofs.Ythfogmaefhfkoaa
