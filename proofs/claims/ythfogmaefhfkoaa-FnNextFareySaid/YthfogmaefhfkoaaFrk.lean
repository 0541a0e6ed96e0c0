/- Mathematics: where a fraction stands in a Farey sequence, found from both sides. -/
import Derived.Test.YthfogmaefhfkoaaTcc
namespace Go.Proofs.Ythfogmaefhfkoaa

/-- The place of a pair in a list. -/
def rkL (f : Int × Int) : List (Int × Int) → Nat
  | [] => 0
  | y :: ys => if y = f then 0 else rkL f ys + 1
theorem rkL_eq {f : Int × Int} : ∀ {xs : List (Int × Int)} {k : Nat}, xs[k]? = some f → (∀ j, j < k → xs[j]? ≠ some f) → rkL f xs = k
  | [], k, h, _ => by simp at h
  | y :: ys, 0, h, _ => by
    have : y = f := by simpa using h
    rw [rkL, if_pos this]
  | y :: ys, k + 1, h, hn => by
    have h0 : ¬ y = f := fun e => hn 0 (by omega) (by simp [e])
    rw [rkL, if_neg h0, rkL_eq (xs := ys) (k := k) (by simpa using h) (fun j hj => by have := hn (j + 1) (by omega); simpa using this)]
/-- The place, and a code. -/
def rnkT (o n d : Int) : Int × Int := if code6 40 o n d = 0 then (if (n, d) ∈ far o then ((rkL (n, d) (far o) : Int), 0) else (0, 3)) else (0, code6 40 o n d)
theorem rnkT_no {o n d : Int} (h : code6 40 o n d ≠ 0) : rnkT o n d = (0, code6 40 o n d) := if_neg h
theorem rnkT_out {o n d : Int} (h : code6 40 o n d = 0) (h2 : (n, d) ∉ far o) : rnkT o n d = (0, 3) := by unfold rnkT; rw [if_pos h, if_neg h2]
theorem rnkT_ok {o n d : Int} (h : code6 40 o n d = 0) {k : Nat} (h2 : (far o)[k]? = some (n, d)) (h3 : ∀ j, j < k → (far o)[j]? ≠ some (n, d)) : rnkT o n d = ((k : Int), 0) := by
  unfold rnkT
  rw [if_pos h, if_pos (List.mem_of_getElem? h2), rkL_eq h2 h3]
/-- Elements that follow one another. -/
theorem fyL_chain : ∀ (k : Nat) {o : Int} {e x : Int × Int}, fyGood k o e x = true → ∀ (i : Nat) (a b : Int × Int), (fyL k o e x)[i]? = some a → (fyL k o e x)[i + 1]? = some b → b.1 * a.2 - a.1 * b.2 = 1 ∧ o < a.2 + b.2
  | 0, o, e, x, h, _, _, _, _, _ => by cases h
  | k + 1, o, e, x, h, i, a, b, ha, hb => by
    by_cases hle : e.1 ≤ e.2
    · obtain ⟨j, hj, hL, hs, hg⟩ := good_step h hle
      obtain rfl : k = j := by omega
      rw [hL] at ha hb
      cases i with
      | zero =>
        have ea : e = a := by simpa using ha
        have hb : (fyL k o x (fyN o e x))[0]? = some b := by simpa using hb
        have eb : x = b := by
          by_cases hx : x.1 ≤ x.2
          · obtain ⟨j, hj, hL2, _, _⟩ := good_step hg hx
            rw [hL2] at hb
            simpa using hb
          · rw [good_end hx] at hb; simp at hb
        subst ea eb
        have := fyS_of hs
        exact ⟨this.nb, this.sum⟩
      | succ i => exact fyL_chain k hg i a b (by simpa using ha) (by simpa using hb)
    · rw [good_end hle] at ha; simp at ha
/-- The last element is not less than 1. -/
theorem fyL_last : ∀ (k : Nat) {o : Int} {e x : Int × Int}, fyGood k o e x = true → ∀ (i : Nat) (a : Int × Int), (fyL k o e x)[i]? = some a → (fyL k o e x).length = i + 1 → a.1 = a.2
  | 0, o, e, x, h, _, _, _, _ => by cases h
  | k + 1, o, e, x, h, i, a, ha, hl => by
    by_cases hle : e.1 ≤ e.2
    · obtain ⟨j, hj, hL, hs, hg⟩ := good_step h hle
      obtain rfl : k = j := by omega
      rw [hL] at ha hl
      cases i with
      | zero =>
        have ea : e = a := by simpa using ha
        subst ea
        have h0 : (fyL k o x (fyN o e x)).length = 0 := by simpa using hl
        rcases (fyS_of hs).fin with h1 | h1
        · exact h1
        · obtain ⟨j, hj, hL2, _, _⟩ := good_step hg h1
          rw [hL2] at h0; simp at h0
      | succ i => exact fyL_last k hg i a (by simpa using ha) (by simpa using hl)
    · rw [good_end hle] at ha; simp at ha

/-- Whether an element is not less than a fraction. -/
def geB (n d : Int) (e : Int × Int) : Bool := decide (0 ≤ e.1 * d - n * e.2)
def geAt (xs : List (Int × Int)) (n d : Int) (i : Nat) : Bool := geB n d (xs.getD i (0, 0))
theorem geAt_of {xs : List (Int × Int)} {n d : Int} {i : Nat} {e : Int × Int} (h : xs[i]? = some e) : geAt xs n d i = geB n d e := by
  unfold geAt
  rw [List.getD_eq_getElem?_getD, h]; rfl
theorem ge_next {n d : Int} {a b : Int × Int} (hd : 1 ≤ d) (ha : 1 ≤ a.2) (hb : 1 ≤ b.2) (hnb : b.1 * a.2 - a.1 * b.2 = 1) (h : 0 ≤ a.1 * d - n * a.2) : 0 ≤ b.1 * d - n * b.2 := by
  have h1 : n * a.2 * b.2 ≤ a.1 * d * b.2 := Int.mul_le_mul_of_nonneg_right (by omega) (by omega)
  have h2 : b.1 * a.2 = a.1 * b.2 + 1 := by omega
  have h3 : b.1 * d * a.2 = a.1 * d * b.2 + d := by
    have : b.1 * d * a.2 = b.1 * a.2 * d := by rw [Int.mul_right_comm]
    rw [this, h2, Int.add_mul, Int.one_mul, Int.mul_right_comm]
  have h4 : n * b.2 * a.2 = n * a.2 * b.2 := by rw [Int.mul_right_comm]
  have h5 : n * b.2 * a.2 ≤ b.1 * d * a.2 := by omega
  have := Int.le_of_mul_le_mul_right h5 (show 0 < a.2 by omega)
  omega
theorem far_mono {o n d : Int} (h : 1 ≤ o) (h1 : o ≤ 40) (hd : 1 ≤ d) : ∀ (b a : Nat), a ≤ b → b < (far o).length → geAt (far o) n d a = true → geAt (far o) n d b = true
  | 0, a, hab, hb, ha => by obtain rfl : a = 0 := by omega
                            exact ha
  | b + 1, a, hab, hb, ha => by
    by_cases he : a = b + 1
    · rw [← he]; exact ha
    · have ih := far_mono h h1 hd b a (by omega) (by omega) ha
      obtain ⟨x, hx⟩ : ∃ x, (far o)[b]? = some x := ⟨_, List.getElem?_eq_getElem (by omega)⟩
      obtain ⟨y, hy⟩ : ∃ y, (far o)[b + 1]? = some y := ⟨_, List.getElem?_eq_getElem hb⟩
      rw [geAt_of hx] at ih
      rw [geAt_of hy]
      have hc := fyL_chain 600 (fy_start h h1) b x y hx hy
      have mx := far_mem h h1 (List.mem_of_getElem? hx)
      have my := far_mem h h1 (List.mem_of_getElem? hy)
      obtain ⟨x1, _⟩ := ok_bounds mx.1
      obtain ⟨y1, _⟩ := ok_bounds my.1
      exact decide_eq_true (ge_next hd x1 y1 hc.1 (of_decide_eq_true ih))
theorem far_top {o n d : Int} (h : 1 ≤ o) (h1 : o ≤ 40) (hd : 1 ≤ d) (hn : n ≤ d) : geAt (far o) n d ((far o).length - 1) = true := by
  have hlen : 1 ≤ (far o).length := by obtain ⟨r, e⟩ := far_first h h1; rw [e]; simp
  obtain ⟨x, hx⟩ : ∃ x, (far o)[(far o).length - 1]? = some x := ⟨_, List.getElem?_eq_getElem (by omega)⟩
  rw [geAt_of hx]
  have hl : x.1 = x.2 := fyL_last 600 (fy_start h h1) _ x hx (show (far o).length = _ by omega)
  have mx := far_mem h h1 (List.mem_of_getElem? hx)
  obtain ⟨x1, _⟩ := ok_bounds mx.1
  refine decide_eq_true ?_
  rw [hl]
  have : n * x.2 ≤ d * x.2 := Int.mul_le_mul_of_nonneg_right hn (by omega)
  rw [Int.mul_comm x.2 d]
  omega
theorem okF_same {p q n d : Int} (h1 : okF p q = true) (h2 : okF n d = true) (e : p * d = n * q) : (p, q) = (n, d) := by
  obtain ⟨q1, _, _, _, g1⟩ := okF_iff.1 h1
  obtain ⟨d1, _, _, _, g2⟩ := okF_iff.1 h2
  unfold gc at g1 g2
  have c1 : Nat.Coprime q.natAbs p.natAbs := by
    have : Int.gcd p q = 1 := by omega
    rw [Nat.coprime_comm]; exact this
  have c2 : Nat.Coprime d.natAbs n.natAbs := by
    have : Int.gcd n d = 1 := by omega
    rw [Nat.coprime_comm]; exact this
  have en : p.natAbs * d.natAbs = n.natAbs * q.natAbs := by rw [← Int.natAbs_mul, ← Int.natAbs_mul, e]
  have v1 : q.natAbs ∣ d.natAbs := Nat.Coprime.dvd_of_dvd_mul_left (m := p.natAbs) c1 ⟨n.natAbs, by rw [en, Nat.mul_comm]⟩
  have v2 : d.natAbs ∣ q.natAbs := Nat.Coprime.dvd_of_dvd_mul_left (m := n.natAbs) c2 ⟨p.natAbs, by rw [← en, Nat.mul_comm]⟩
  have hq : q = d := by have := Nat.dvd_antisymm v1 v2; omega
  subst hq
  have := Int.eq_of_mul_eq_mul_right (show q ≠ 0 by omega) e
  rw [this]
/-- The search finds the fraction. -/
theorem far_found {o n d : Int} (h : 1 ≤ o) (h1 : o ≤ 40) (hok : okF n d = true) (hn : 0 ≤ n) (hnd : n ≤ d) (hdo : d ≤ o) {r : Nat} (hr : r ≤ (far o).length)
    (hlo : ∀ t, t < r → geAt (far o) n d t = false) (hhi : ∀ t, r ≤ t → t < (far o).length → geAt (far o) n d t = true) : (far o)[r]? = some (n, d) ∧ ∀ j, j < r → (far o)[j]? ≠ some (n, d) := by
  obtain ⟨d1, _, _, _⟩ := ok_bounds hok
  have hlen : 1 ≤ (far o).length := by obtain ⟨q, e⟩ := far_first h h1; rw [e]; simp
  have hrl : r < (far o).length := by
    by_cases he : r < (far o).length
    · exact he
    · have := hlo ((far o).length - 1) (by omega)
      rw [far_top h h1 d1 hnd] at this
      cases this
  obtain ⟨y, hy⟩ : ∃ y, (far o)[r]? = some y := ⟨_, List.getElem?_eq_getElem hrl⟩
  have my := far_mem h h1 (List.mem_of_getElem? hy)
  obtain ⟨y1, _⟩ := ok_bounds my.1
  have hge : 0 ≤ y.1 * d - n * y.2 := by
    have := hhi r (Nat.le_refl _) hrl
    rw [geAt_of hy] at this
    exact of_decide_eq_true this
  have heq : y.1 * d = n * y.2 := by
    cases r with
    | zero =>
      obtain ⟨q, e⟩ := far_first h h1
      rw [e] at hy
      have : (0, 1) = y := by simpa using hy
      subst this
      simp at hge ⊢
      omega
    | succ r =>
      obtain ⟨x, hx⟩ : ∃ x, (far o)[r]? = some x := ⟨_, List.getElem?_eq_getElem (by omega)⟩
      have mx := far_mem h h1 (List.mem_of_getElem? hx)
      obtain ⟨x1, _⟩ := ok_bounds mx.1
      obtain ⟨c1, c2⟩ := fyL_chain 600 (fy_start h h1) r x y hx hy
      have hlt : ¬ 0 ≤ x.1 * d - n * x.2 := by
        have := hlo r (by omega)
        rw [geAt_of hx] at this
        exact of_decide_eq_false this
      by_cases h0 : 0 < y.1 * d - n * y.2
      · have a1 : 1 * x.2 ≤ (y.1 * d - n * y.2) * x.2 := Int.mul_le_mul_of_nonneg_right (by omega) (by omega)
        have a2 : 1 * y.2 ≤ (n * x.2 - x.1 * d) * y.2 := Int.mul_le_mul_of_nonneg_right (by omega) (by omega)
        have a3 : (y.1 * d - n * y.2) * x.2 + (n * x.2 - x.1 * d) * y.2 = d := by
          have : (y.1 * d - n * y.2) * x.2 + (n * x.2 - x.1 * d) * y.2 = d * (y.1 * x.2 - x.1 * y.2) := by
            rw [Int.sub_mul, Int.sub_mul, Int.mul_sub]
            rw [show n * y.2 * x.2 = n * x.2 * y.2 from Int.mul_right_comm _ _ _, show y.1 * d * x.2 = d * (y.1 * x.2) from by rw [Int.mul_comm y.1 d, Int.mul_assoc], show x.1 * d * y.2 = d * (x.1 * y.2) from by rw [Int.mul_comm x.1 d, Int.mul_assoc]]
            omega
          rw [this, c1, Int.mul_one]
        omega
      · omega
  have e1 : y = (n, d) := by
    obtain ⟨p, q⟩ := y
    exact okF_same my.1 hok heq
  subst e1
  refine ⟨hy, fun j hj e => ?_⟩
  have := hlo j hj
  rw [geAt_of e] at this
  have := of_decide_eq_false this
  dsimp only at this
  omega
theorem far_far {o n d : Int} (h : 1 ≤ o) (h1 : o ≤ 40) (hdo : o < d) : (n, d) ∉ far o := fun hm => by
  have := (far_mem h h1 hm).2.2.2
  dsimp only at this
  omega

end Go.Proofs.Ythfogmaefhfkoaa
