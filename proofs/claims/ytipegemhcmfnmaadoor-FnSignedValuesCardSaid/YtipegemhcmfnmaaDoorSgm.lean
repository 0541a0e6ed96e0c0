/- Mathematics of terms with signs: which lists they are, the terms of a kind, convergents. -/
import Derived.Test.YtipegemhcmfnmaaDoorCd
namespace Go.Proofs.YtipegemhcmfnmaaDoor

/-- Whether an element may stand at a place. -/
def okAt (j : Nat) (x : Int × Int) : Bool := if j = 0 then x.1 == 1 && inB (-1000000000) 1000000000 x.2 else (x.1 == 1 || x.1 == -1) && inB 1 1000000000 x.2
def okFrom : Nat → List (Int × Int) → Bool
  | _, [] => true
  | j, x :: r => okAt j x && okFrom (j + 1) r
theorem okFrom_iff : ∀ (xs : List (Int × Int)) (j : Nat), okFrom j xs = true ↔ ∀ i x, xs[i]? = some x → okAt (j + i) x = true
  | [], j => by simp [okFrom]
  | y :: r, j => by
    unfold okFrom
    rw [Bool.and_eq_true, okFrom_iff r (j + 1)]
    constructor
    · rintro ⟨h1, h2⟩ i x hx
      cases i with
      | zero => have : y = x := by simpa using hx
                subst this; exact h1
      | succ i => have := h2 i x (by simpa using hx); rwa [show j + (i + 1) = j + 1 + i by omega]
    · intro h
      refine ⟨by have := h 0 y (by simp); simpa using this, fun i x hx => ?_⟩
      have := h (i + 1) x (by simpa using hx)
      rwa [show j + (i + 1) = j + 1 + i by omega] at this
/-- Which lists are terms with signs. -/
def okS (xs : List (Int × Int)) : Bool := decide (1 ≤ xs.length ∧ xs.length ≤ 60) && okFrom 0 xs
theorem okS_iff {xs : List (Int × Int)} : okS xs = true ↔ (1 ≤ xs.length ∧ xs.length ≤ 60) ∧ ∀ i x, xs[i]? = some x → okAt i x = true := by
  unfold okS
  rw [Bool.and_eq_true, decide_eq_true_iff, okFrom_iff]
  simp
theorem okS_short {xs : List (Int × Int)} (h : ¬ (1 ≤ xs.length ∧ xs.length ≤ 60)) : okS xs = false := by
  rw [Bool.eq_false_iff]; exact fun e => h (okS_iff.1 e).1
theorem okS_bad {xs : List (Int × Int)} {k : Nat} {x : Int × Int} (hx : xs[k]? = some x) (h : okAt k x = false) : okS xs = false := by
  rw [Bool.eq_false_iff]
  intro e
  have := (okS_iff.1 e).2 k x hx
  rw [h] at this
  cases this
theorem okS_len {xs : List (Int × Int)} (h : okS xs = true) : 1 ≤ xs.length ∧ xs.length ≤ 60 := (okS_iff.1 h).1
theorem okAt_zero {x : Int × Int} : okAt 0 x = (x.1 == 1 && inB (-1000000000) 1000000000 x.2) := rfl
theorem okAt_more {j : Nat} (h : j ≠ 0) {x : Int × Int} : okAt j x = ((x.1 == 1 || x.1 == -1) && inB 1 1000000000 x.2) := by unfold okAt; rw [if_neg h]
theorem okAt_facts {j : Nat} {x : Int × Int} (h : okAt j x = true) : (x.1 = 1 ∨ x.1 = -1) ∧ -1000000000 ≤ x.2 ∧ x.2 ≤ 1000000000 ∧ (j = 0 → x.1 = 1) ∧ (j ≠ 0 → 1 ≤ x.2) := by
  by_cases hj : j = 0
  · subst hj
    rw [okAt_zero, Bool.and_eq_true, inB_iff, beq_iff_eq] at h
    refine ⟨.inl h.1, by omega, by omega, fun _ => h.1, fun e => absurd rfl e⟩
  · rw [okAt_more hj, Bool.and_eq_true, inB_iff, Bool.or_eq_true, beq_iff_eq, beq_iff_eq] at h
    refine ⟨h.1, by omega, by omega, fun e => absurd e hj, fun _ => h.2.1⟩
theorem okS_prefix {l r : List (Int × Int)} {x : Int × Int} (h : okS (l ++ x :: r) = true) : okS (l ++ [x]) = true := by
  rw [okS_iff] at h ⊢
  obtain ⟨⟨h1, h2⟩, h3⟩ := h
  simp only [List.length_append, List.length_cons, List.length_nil] at h1 h2 ⊢
  refine ⟨⟨by omega, by omega⟩, fun i y hy => h3 i y ?_⟩
  rw [← hy]
  by_cases hi : i < l.length
  · rw [List.getElem?_append_left hi, List.getElem?_append_left hi]
  · have hlt := (List.getElem?_eq_some_iff.1 hy).1
    simp at hlt
    have : i = l.length := by omega
    subst this
    simp

/-- The term of a kind of a number. -/
def kt (k n d : Int) : Int := if k = 1 then (2 * n + d) / (2 * d) else if k = 2 then 2 * ((n + d) / (2 * d)) else if k = 3 then 2 * (n / (2 * d)) + 1 else -(-n / d)
theorem div_facts (a b : Int) (h : 0 < b) : b * (a / b) ≤ a ∧ a < b * (a / b) + b := by
  have h1 := Int.mul_ediv_add_emod a b
  have h2 := Int.emod_nonneg a (show b ≠ 0 by omega)
  have h3 := Int.emod_lt_of_pos a h
  omega
theorem kt_rest (k n d : Int) (hd : 1 ≤ d) : -d ≤ n - kt k n d * d ∧ n - kt k n d * d ≤ d := by
  unfold kt
  split
  · have h := div_facts (2 * n + d) (2 * d) (by omega)
    generalize (2 * n + d) / (2 * d) = q at h ⊢
    rw [Int.mul_assoc, Int.mul_comm d q] at h
    omega
  · split
    · have h := div_facts (n + d) (2 * d) (by omega)
      generalize (n + d) / (2 * d) = q at h ⊢
      rw [Int.mul_assoc, Int.mul_comm d q] at h
      rw [Int.mul_assoc]
      omega
    · split
      · have h := div_facts n (2 * d) (by omega)
        generalize n / (2 * d) = q at h ⊢
        rw [Int.mul_assoc, Int.mul_comm d q] at h
        rw [Int.add_mul, Int.mul_assoc, Int.one_mul]
        omega
      · have h := div_facts (-n) d (by omega)
        generalize -n / d = q at h ⊢
        rw [Int.mul_comm d q] at h
        rw [Int.neg_mul]
        omega
theorem kt_bd (k n d : Int) (hd : 1 ≤ d) : (kt k n d).natAbs ≤ n.natAbs + 1 ∧ (kt k n d * d).natAbs ≤ n.natAbs + d.natAbs := by
  have h := kt_rest k n d hd
  generalize kt k n d = t at h ⊢
  have h2 : (t * d).natAbs ≤ n.natAbs + d.natAbs := by omega
  refine ⟨?_, h2⟩
  rw [Int.natAbs_mul] at h2
  have hd2 : 1 ≤ d.natAbs := by omega
  generalize t.natAbs = x at *
  generalize d.natAbs = y at *
  generalize n.natAbs = z at *
  rcases Nat.lt_or_ge (z + 1) x with hx | hx
  · exfalso
    have : (z + 2) * y ≤ x * y := Nat.mul_le_mul_right y hx
    rw [Nat.add_mul] at this
    have : z ≤ z * y := Nat.le_mul_of_pos_right z hd2
    omega
  · exact hx

def sg (x : Int) : Int := if x < 0 then -1 else 1
def ab (x : Int) : Int := if x < 0 then -x else x
/-- The terms of a kind, at most so many. -/
def sx (k : Int) : Nat → Int → Int → Int → Option (List (Int × Int))
  | 0, _, _, _ => none
  | f + 1, s, n, d => if n - kt k n d * d = 0 then some [(s, kt k n d)] else (sx k f (sg (n - kt k n d * d)) d (ab (n - kt k n d * d))).map ((s, kt k n d) :: ·)
theorem sx_len {k : Int} : ∀ {f : Nat} {s n d : Int} {l : List (Int × Int)}, sx k f s n d = some l → 1 ≤ l.length ∧ l.length ≤ f
  | 0, _, _, _, _, h => by simp [sx] at h
  | f + 1, s, n, d, l, h => by
    unfold sx at h
    split at h
    · injection h with h; subst h; simp
    · obtain ⟨r, hr, rfl⟩ := Option.map_eq_some_iff.1 h
      have := sx_len hr
      simp; omega
/-- What comes out, where l are the terms so far. -/
def sxc (k : Int) (l : List (Int × Int)) (s n d : Int) : List (Int × Int) × Int :=
  match sx k (60 - l.length) s n d with
  | none => ([], 5)
  | some r => if okS (l ++ r) = true then (l ++ r, 0) else ([], 5)
theorem sxc_bad {k : Int} {l : List (Int × Int)} {s n d : Int} (h : okS (l ++ [(s, kt k n d)]) = false) : sxc k l s n d = ([], 5) := by
  unfold sxc
  cases hf : 60 - l.length with
  | zero => rfl
  | succ f =>
    unfold sx
    split
    · rename_i r hr
      rfl
    · rename_i r hr
      split at hr
      · injection hr with hr; subst hr
        rw [h]; rfl
      · obtain ⟨r', _, rfl⟩ := Option.map_eq_some_iff.1 hr
        rw [if_neg]
        intro e
        rw [okS_prefix e] at h
        cases h
theorem sxc_end {k : Int} {l : List (Int × Int)} {s n d : Int} (h : okS (l ++ [(s, kt k n d)]) = true) (h0 : n - kt k n d * d = 0) : sxc k l s n d = (l ++ [(s, kt k n d)], 0) := by
  have hl := okS_len h
  simp only [List.length_append, List.length_cons, List.length_nil] at hl
  unfold sxc
  rw [show 60 - l.length = (59 - l.length) + 1 by omega]
  unfold sx
  rw [if_pos h0]
  show (if okS (l ++ [(s, kt k n d)]) = true then _ else _) = _
  rw [if_pos h]
theorem sxc_more {k : Int} {l : List (Int × Int)} {s n d : Int} (h : okS (l ++ [(s, kt k n d)]) = true) (h0 : n - kt k n d * d ≠ 0) :
    sxc k l s n d = sxc k (l ++ [(s, kt k n d)]) (sg (n - kt k n d * d)) d (ab (n - kt k n d * d)) := by
  have hl := okS_len h
  simp only [List.length_append, List.length_cons, List.length_nil] at hl
  unfold sxc
  rw [show 60 - l.length = (59 - l.length) + 1 by omega]
  rw [show 60 - (l ++ [(s, kt k n d)]).length = 59 - l.length by rw [List.length_append]; simp only [List.length_cons, List.length_nil]; omega]
  conv => lhs; unfold sx
  rw [if_neg h0]
  cases sx k (59 - l.length) (sg (n - kt k n d * d)) d (ab (n - kt k n d * d)) with
  | none => rfl
  | some r =>
    show (if okS (l ++ (s, kt k n d) :: r) = true then (l ++ (s, kt k n d) :: r, (0 : Int)) else ([], 5)) = (if okS ((l ++ [(s, kt k n d)]) ++ r) = true then ((l ++ [(s, kt k n d)]) ++ r, (0 : Int)) else ([], 5))
    rw [List.append_assoc]; rfl
theorem sg_ab {r d : Int} (h0 : r ≠ 0) (h1 : -d ≤ r) (h2 : r ≤ d) : (sg r = 1 ∨ sg r = -1) ∧ 1 ≤ ab r ∧ ab r ≤ d := by
  unfold sg ab
  split <;> omega
theorem sg_neg {r : Int} (h : r < 0) : sg r = -1 ∧ ab r = -r := by unfold sg ab; rw [if_pos h, if_pos h]; exact ⟨rfl, rfl⟩
theorem sg_pos' {r : Int} (h : ¬ r < 0) : sg r = 1 ∧ ab r = r := by unfold sg ab; rw [if_neg h, if_neg h]; exact ⟨rfl, rfl⟩

def okK (k : Int) : Bool := inB 1 4 k
/-- The code of a fraction and a kind. -/
def codeS (n d k : Int) : Int := if okF n d = true then (if okK k = true then (if k = 2 ∧ n.tmod 2 ≠ 0 ∧ d.tmod 2 ≠ 0 then 6 else 0) else 2) else 1
/-- The terms of a kind, and a code. -/
def expS (n d k : Int) : List (Int × Int) × Int := if codeS n d k = 0 then sxc k [] 1 n d else ([], codeS n d k)
theorem expS_bad {n d k c : Int} (h : codeS n d k = c) (h0 : c ≠ 0) : expS n d k = ([], c) := by unfold expS; rw [h, if_neg h0]
theorem expS_ok {n d k : Int} (h : codeS n d k = 0) : expS n d k = sxc k [] 1 n d := by unfold expS; rw [if_pos h]
theorem sxc_cases (k : Int) (l : List (Int × Int)) (s n d : Int) : sxc k l s n d = ([], 5) ∨ ∃ m, sxc k l s n d = (m, 0) ∧ okS m = true := by
  unfold sxc
  split
  · exact .inl rfl
  · split
    · rename_i h; exact .inr ⟨_, rfl, h⟩
    · exact .inl rfl
theorem expS_len (n d k : Int) : (expS n d k).1.length ≤ 60 := by
  unfold expS
  split
  · rcases sxc_cases k [] 1 n d with h | ⟨m, h, hm⟩
    · rw [h]; exact Nat.zero_le _
    · rw [h]; exact (okS_len hm).2
  · exact Nat.zero_le _

/-- Convergents so far, and what is left. -/
def app (l : List (Int × Int)) (r : List (Int × Int) × Int) : List (Int × Int) × Int := if r.2 = 0 then (l ++ r.1, 0) else ([], r.2)
theorem app_zero (l m : List (Int × Int)) : app l (m, 0) = (l ++ m, 0) := rfl
theorem app_code {c : Int} (h : c ≠ 0) (l m : List (Int × Int)) : app l (m, c) = ([], c) := by unfold app; rw [if_neg h]
theorem app_app (l m : List (Int × Int)) (r : List (Int × Int) × Int) : app l (app m r) = app (l ++ m) r := by
  obtain ⟨x, c⟩ := r
  by_cases h : c = 0
  · subst h; rw [app_zero, app_zero, app_zero, List.append_assoc]
  · rw [app_code h, app_code h, app_code h]
def bdN (a : Int) : Bool := inB (-1000000000) 1000000000 a
/-- A convergent as a plain fraction. -/
def nrm (a b : Int) : Int × Int := if b < 0 then (-a, -b) else (a, b)
def scv (p q pp qq : Int) : List (Int × Int) → List (Int × Int) × Int
  | [] => ([], 0)
  | (s, t) :: r => if t * q + s * qq = 0 then ([], 6) else if (bdN (t * p + s * pp) && bdN (t * q + s * qq)) = true then app [nrm (t * p + s * pp) (t * q + s * qq)] (scv (t * p + s * pp) (t * q + s * qq) p q r) else ([], 5)
theorem scv_zero {p q pp qq s t : Int} {r : List (Int × Int)} (h : t * q + s * qq = 0) : scv p q pp qq ((s, t) :: r) = ([], 6) := by unfold scv; rw [if_pos h]
theorem scv_full {p q pp qq s t : Int} {r : List (Int × Int)} (h : t * q + s * qq ≠ 0) (h2 : (bdN (t * p + s * pp) && bdN (t * q + s * qq)) = false) : scv p q pp qq ((s, t) :: r) = ([], 5) := by
  unfold scv; rw [if_neg h, h2]; rfl
theorem scv_more {p q pp qq s t : Int} {r : List (Int × Int)} (h : t * q + s * qq ≠ 0) (h2 : (bdN (t * p + s * pp) && bdN (t * q + s * qq)) = true) :
    scv p q pp qq ((s, t) :: r) = app [nrm (t * p + s * pp) (t * q + s * qq)] (scv (t * p + s * pp) (t * q + s * qq) p q r) := by
  conv => lhs; unfold scv
  rw [if_neg h, h2]; rfl
/-- The two last convergents are neighbours. -/
def Nbr (p q pp qq : Int) : Prop := p * qq - q * pp = 1 ∨ p * qq - q * pp = -1
theorem nbr_step {p q pp qq s t : Int} (h : Nbr p q pp qq) (hs : s = 1 ∨ s = -1) : Nbr (t * p + s * pp) (t * q + s * qq) p q := by
  unfold Nbr at *
  have e : (t * p + s * pp) * q - (t * q + s * qq) * p = -(s * (p * qq - q * pp)) := by
    rw [Int.add_mul, Int.add_mul, Int.mul_sub]
    have e1 : t * p * q = t * q * p := by rw [Int.mul_assoc, Int.mul_comm p q, ← Int.mul_assoc]
    have e2 : s * pp * q = s * (q * pp) := by rw [Int.mul_assoc, Int.mul_comm pp q]
    have e3 : s * qq * p = s * (p * qq) := by rw [Int.mul_assoc, Int.mul_comm qq p]
    rw [e1, e2, e3]
    omega
  rw [e]
  rcases hs with rfl | rfl <;> omega
theorem nbr_gc {p q pp qq : Int} (h : Nbr p q pp qq) : gc p q = 1 := by
  have h1 : gc p q ∣ p := gc_dvd_left p q
  have h2 : gc p q ∣ q := gc_dvd_right p q
  have h3 : gc p q ∣ p * qq - q * pp := Int.dvd_sub (Int.dvd_mul_of_dvd_left h1) (Int.dvd_mul_of_dvd_left h2)
  have h4 := gc_nonneg p q
  have h5 : (gc p q).natAbs ∣ 1 := by
    have := Int.natAbs_dvd_natAbs.2 h3
    rcases h with h | h <;> rw [h] at this <;> exact this
  have h6 := Nat.dvd_one.1 h5
  omega
theorem low_nbr {a b : Int} (h : gc a b = 1) : (lowN a b, lowD a b) = nrm a b := by
  unfold lowN lowD lowG nrm
  rw [h]
  split <;> simp [Int.tdiv_neg]
theorem ok_nbr {a b : Int} (h : gc a b = 1) (hb : b ≠ 0) : okF (nrm a b).1 (nrm a b).2 = (bdN a && bdN b) := by
  rw [Bool.eq_iff_iff, okF_iff, Bool.and_eq_true]
  unfold bdN
  rw [inB_iff, inB_iff]
  unfold nrm
  split
  · show (1 ≤ -b ∧ -b ≤ 1000000000 ∧ -1000000000 ≤ -a ∧ -a ≤ 1000000000 ∧ gc (-a) (-b) = 1) ↔ _
    rw [gc_neg_left, gc_neg_right, h]
    omega
  · show (1 ≤ b ∧ b ≤ 1000000000 ∧ -1000000000 ≤ a ∧ a ≤ 1000000000 ∧ gc a b = 1) ↔ _
    rw [h]
    omega
theorem scv_len : ∀ (xs : List (Int × Int)) (p q pp qq : Int), (scv p q pp qq xs).2 = 0 → (scv p q pp qq xs).1.length = xs.length
  | [], _, _, _, _ => fun _ => rfl
  | (s, t) :: r, p, q, pp, qq => by
    intro h
    by_cases h1 : t * q + s * qq = 0
    · rw [scv_zero h1] at h; simp at h
    · cases h2 : (bdN (t * p + s * pp) && bdN (t * q + s * qq))
      · rw [scv_full h1 h2] at h; simp at h
      · rw [scv_more h1 h2] at h ⊢
        have ih := scv_len r (t * p + s * pp) (t * q + s * qq) p q
        generalize scv (t * p + s * pp) (t * q + s * qq) p q r = z at *
        obtain ⟨m, c⟩ := z
        by_cases hc : c = 0
        · subst hc
          rw [app_zero]
          have := ih rfl
          simp at this ⊢
          omega
        · rw [app_code hc] at h; exact absurd h hc
theorem scv_code : ∀ (xs : List (Int × Int)) (p q pp qq : Int), ((scv p q pp qq xs).2 = 0 ∨ (scv p q pp qq xs).2 = 5 ∨ (scv p q pp qq xs).2 = 6) ∧ ((scv p q pp qq xs).2 ≠ 0 → (scv p q pp qq xs).1 = [])
  | [], _, _, _, _ => ⟨.inl rfl, fun h => absurd rfl h⟩
  | (s, t) :: r, p, q, pp, qq => by
    by_cases h1 : t * q + s * qq = 0
    · rw [scv_zero h1]; exact ⟨.inr (.inr rfl), fun _ => rfl⟩
    · cases h2 : (bdN (t * p + s * pp) && bdN (t * q + s * qq))
      · rw [scv_full h1 h2]; exact ⟨.inr (.inl rfl), fun _ => rfl⟩
      · rw [scv_more h1 h2]
        have ih := scv_code r (t * p + s * pp) (t * q + s * qq) p q
        generalize scv (t * p + s * pp) (t * q + s * qq) p q r = z at *
        obtain ⟨m, c⟩ := z
        by_cases hc : c = 0
        · subst hc; rw [app_zero]; exact ⟨.inl rfl, fun h => absurd rfl h⟩
        · rw [app_code hc]; exact ⟨ih.1, fun _ => rfl⟩
theorem scv_ok : ∀ (xs : List (Int × Int)) (p q pp qq : Int), Nbr p q pp qq → (∀ x ∈ xs, x.1 = 1 ∨ x.1 = -1) → ∀ y ∈ (scv p q pp qq xs).1, okF y.1 y.2 = true
  | [], _, _, _, _ => fun _ _ y hy => by cases hy
  | (s, t) :: r, p, q, pp, qq => by
    intro hn hs y hy
    have hs1 := hs (s, t) (by simp)
    by_cases h1 : t * q + s * qq = 0
    · rw [scv_zero h1] at hy; cases hy
    · cases h2 : (bdN (t * p + s * pp) && bdN (t * q + s * qq))
      · rw [scv_full h1 h2] at hy; cases hy
      · rw [scv_more h1 h2] at hy
        have hn2 := nbr_step (t := t) hn hs1
        have ih := scv_ok r (t * p + s * pp) (t * q + s * qq) p q hn2 (fun x hx => hs x (by simp [hx]))
        have hk := ok_nbr (nbr_gc hn2) h1
        generalize scv (t * p + s * pp) (t * q + s * qq) p q r = z at *
        obtain ⟨m, c⟩ := z
        by_cases hc : c = 0
        · subst hc
          rw [app_zero] at hy
          rcases List.mem_append.1 hy with hy | hy
          · obtain rfl := List.mem_singleton.1 hy
            rw [hk, h2]
          · exact ih y hy
        · rw [app_code hc] at hy; cases hy

/-- All convergents, and a code. -/
def convS (xs : List (Int × Int)) : List (Int × Int) × Int := if okS xs = true then scv 1 0 0 1 xs else ([], 1)
/-- The value, and a code. -/
def valS (xs : List (Int × Int)) : Int × Int × Int := if (convS xs).2 = 0 then (((convS xs).1.getD (xs.length - 1) (0, 0)).1, ((convS xs).1.getD (xs.length - 1) (0, 0)).2, 0) else (0, 0, (convS xs).2)
theorem convS_bad {xs : List (Int × Int)} (h : okS xs = false) : convS xs = ([], 1) := by unfold convS; rw [h]; rfl
theorem convS_ok {xs : List (Int × Int)} (h : okS xs = true) : convS xs = scv 1 0 0 1 xs := by unfold convS; rw [h]; rfl
theorem convS_len {xs : List (Int × Int)} (h : (convS xs).2 = 0) : (convS xs).1.length = xs.length ∧ okS xs = true := by
  cases ho : okS xs
  · rw [convS_bad ho] at h; simp at h
  · rw [convS_ok ho] at h ⊢; exact ⟨scv_len _ _ _ _ _ h, rfl⟩
theorem convS_nil {xs : List (Int × Int)} (h : (convS xs).2 ≠ 0) : (convS xs).1 = [] := by
  cases ho : okS xs
  · rw [convS_bad ho]
  · rw [convS_ok ho] at h ⊢; exact (scv_code _ _ _ _ _).2 h
theorem convS_le (xs : List (Int × Int)) : (convS xs).1.length ≤ 60 := by
  by_cases h : (convS xs).2 = 0
  · have := convS_len h; have := okS_len this.2; omega
  · rw [convS_nil h]; exact Nat.zero_le _
theorem valS_code (xs : List (Int × Int)) : (valS xs).2.2 = (convS xs).2 := by
  unfold valS
  split
  · rename_i h; exact h.symm
  · rfl
theorem valS_ok {xs : List (Int × Int)} (h : (valS xs).2.2 = 0) : okF (valS xs).1 (valS xs).2.1 = true := by
  rw [valS_code] at h
  obtain ⟨h1, h2⟩ := convS_len h
  have h3 := okS_len h2
  unfold valS
  rw [if_pos h]
  show okF ((convS xs).1.getD (xs.length - 1) (0, 0)).1 ((convS xs).1.getD (xs.length - 1) (0, 0)).2 = true
  rw [List.getD_eq_getElem?_getD, List.getElem?_eq_getElem (by omega : xs.length - 1 < (convS xs).1.length)]
  show okF ((convS xs).1[xs.length - 1]'_).1 ((convS xs).1[xs.length - 1]'_).2 = true
  have hm := List.getElem_mem (show xs.length - 1 < (convS xs).1.length by omega)
  generalize (convS xs).1[xs.length - 1]'_ = y at hm ⊢
  rw [convS_ok h2] at hm
  refine scv_ok xs 1 0 0 1 (.inl (by decide)) ?_ y hm
  intro x hx
  obtain ⟨j, hj⟩ := List.mem_iff_getElem?.1 hx
  exact (okAt_facts ((okS_iff.1 h2).2 j x hj)).1

/-- Whether terms with signs are those of a kind, and a code. -/
def kindS (xs : List (Int × Int)) (k : Int) : Bool × Int := if okS xs = true then (if okK k = true then (if (valS xs).2.2 = 0 then ((expS (valS xs).1 (valS xs).2.1 k).2 == 0 && decide ((expS (valS xs).1 (valS xs).2.1 k).1 = xs), 0) else (false, 0)) else (false, 2)) else (false, 1)
/-- The terms of a kind with the value of a fraction that comes with a code. -/
def fromS (v : Int × Int × Int) (k : Int) : List (Int × Int) × Int := if v.2.2 = 0 then expS v.1 v.2.1 k else ([], v.2.2)
/-- How many terms there are by each kind. -/
def lenK (n d k : Int) : Int := if (expS n d k).2 = 0 then ((expS n d k).1.length : Int) else -1
def lensS (n d : Int) : List Int × Int := if okF n d = true then ([lenK n d 1, lenK n d 2, lenK n d 3, lenK n d 4], 0) else ([], 1)

end Go.Proofs.YtipegemhcmfnmaaDoor
