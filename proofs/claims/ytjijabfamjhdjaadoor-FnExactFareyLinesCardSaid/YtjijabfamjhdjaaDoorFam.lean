/- Mathematics of Farey sequences: the list as both texts make it, and what is true of it at every order that is listed. -/
import Derived.Test.YtjijabfamjhdjaaDoorMath
namespace Go.Proofs.YtjijabfamjhdjaaDoor

/-- The element behind the next one. -/
def fyT (o : Int) (e x : Int × Int) : Int := (o + e.2) / x.2
def fyN (o : Int) (e x : Int × Int) : Int × Int := (fyT o e x * x.1 - e.1, fyT o e x * x.2 - e.2)
def fyL : Nat → Int → Int × Int → Int × Int → List (Int × Int)
  | 0, _, _, _ => []
  | k + 1, o, e, x => if e.1 ≤ e.2 then e :: fyL k o x (fyN o e x) else []
def meaF (p q : Int) : Nat := (4000 - p * 1700 / q).toNat
def fyIn (e : Int × Int) : Bool := decide (0 ≤ e.1) && (decide (e.1 ≤ 1000) && (decide (1 ≤ e.2) && decide (e.2 ≤ 1000)))
/-- What every step of the list keeps. -/
def fyStep (o : Int) (e x : Int × Int) : Bool := okF e.1 e.2 && (decide (0 ≤ e.1) && (decide (e.2 ≤ o) && (decide (x.1 * e.2 - e.1 * x.2 = 1) && (decide (o < e.2 + x.2) && (decide (meaF x.1 x.2 < meaF e.1 e.2) && (decide (0 ≤ fyT o e x) && (decide (fyT o e x ≤ 1000) && (decide (e.1 = e.2) || decide (x.1 ≤ x.2)))))))))
def fyGood : Nat → Int → Int × Int → Int × Int → Bool
  | 0, _, _, _ => false
  | k + 1, o, e, x => fyIn e && (fyIn x && (if e.1 ≤ e.2 then fyStep o e x && fyGood k o x (fyN o e x) else true))
def far (o : Int) : List (Int × Int) := fyL 600 o (0, 1) (1, o)
theorem fy_all : (List.range 40).all (fun i => fyGood 600 ((i : Int) + 1) (0, 1) (1, (i : Int) + 1)) = true := by decide +kernel
theorem fy_start {o : Int} (h : 1 ≤ o) (h1 : o ≤ 40) : fyGood 600 o (0, 1) (1, o) = true := by
  have := List.all_eq_true.1 fy_all (o - 1).toNat (List.mem_range.2 (by omega))
  rw [show (((o - 1).toNat : Nat) : Int) + 1 = o by omega] at this
  exact this
theorem fy_len : ∀ (k : Nat) (o : Int) (e x : Int × Int), (fyL k o e x).length ≤ k
  | 0, _, _, _ => by simp [fyL]
  | k + 1, o, e, x => by
    rw [fyL]
    split
    · have := fy_len k o x (fyN o e x); simp; omega
    · simp
theorem far_len (o : Int) : (far o).length ≤ 600 := fy_len 600 o _ _

theorem fyIn_bd {e : Int × Int} (h : fyIn e = true) : 0 ≤ e.1 ∧ e.1 ≤ 1000 ∧ 1 ≤ e.2 ∧ e.2 ≤ 1000 := by
  unfold fyIn at h
  simp only [Bool.and_eq_true, decide_eq_true_eq] at h
  exact h
theorem good_in {k : Nat} {o : Int} {e x : Int × Int} (h : fyGood k o e x = true) : (0 ≤ e.1 ∧ e.1 ≤ 1000 ∧ 1 ≤ e.2 ∧ e.2 ≤ 1000) ∧ (0 ≤ x.1 ∧ x.1 ≤ 1000 ∧ 1 ≤ x.2 ∧ x.2 ≤ 1000) := by
  cases k with
  | zero => cases h
  | succ k =>
    rw [fyGood, Bool.and_eq_true, Bool.and_eq_true] at h
    exact ⟨fyIn_bd h.1, fyIn_bd h.2.1⟩
theorem good_step {k : Nat} {o : Int} {e x : Int × Int} (h : fyGood k o e x = true) (hle : e.1 ≤ e.2) : ∃ j, k = j + 1 ∧ fyL k o e x = e :: fyL j o x (fyN o e x) ∧ fyStep o e x = true ∧ fyGood j o x (fyN o e x) = true := by
  cases k with
  | zero => cases h
  | succ k =>
    rw [fyGood, Bool.and_eq_true, Bool.and_eq_true, if_pos hle, Bool.and_eq_true] at h
    exact ⟨k, rfl, by rw [fyL, if_pos hle], h.2.2.1, h.2.2.2⟩
theorem good_end {k : Nat} {o : Int} {e x : Int × Int} (hgt : ¬ e.1 ≤ e.2) : fyL k o e x = [] := by
  cases k with
  | zero => rfl
  | succ k => rw [fyL, if_neg hgt]
structure FyS (o : Int) (e x : Int × Int) : Prop where
  ok : okF e.1 e.2 = true
  pos : 0 ≤ e.1
  den : e.2 ≤ o
  nb : x.1 * e.2 - e.1 * x.2 = 1
  sum : o < e.2 + x.2
  mea : meaF x.1 x.2 < meaF e.1 e.2
  t0 : 0 ≤ fyT o e x
  t1 : fyT o e x ≤ 1000
  fin : e.1 = e.2 ∨ x.1 ≤ x.2
theorem fyS_of {o : Int} {e x : Int × Int} (h : fyStep o e x = true) : FyS o e x := by
  unfold fyStep at h
  simp only [Bool.and_eq_true, Bool.or_eq_true, decide_eq_true_eq] at h
  obtain ⟨h1, h0, h2, h3, h4, h5, h6, h7, h8⟩ := h
  exact ⟨h1, h0, h2, h3, h4, h5, h6, h7, h8⟩
/-- The first element is there. -/
theorem far_first {o : Int} (h : 1 ≤ o) (h1 : o ≤ 40) : ∃ r, far o = (0, 1) :: r := by
  obtain ⟨j, hj, e, _, _⟩ := good_step (fy_start h h1) (by decide)
  exact ⟨_, e⟩

end Go.Proofs.YtjijabfamjhdjaaDoor
