/- Law: a region that draws its order, by an invariant over what has come up so far: one obligation for each operation, in place of one for each order. -/
import Derived.Test.YtjijabfamjhdjaaDoorCd
import Derived.RegionTactic
namespace Go.Proofs.YtjijabfamjhdjaaDoor
open Go.RowKit

section
variable {P : Program} {ops : Array Oper} {Q : Exit → Act → World → Prop}

/-- The operations that an operation waits for. -/
def needOf (o : Oper) : List Nat := (o.after.toList.filter (Region.binds .any)).map (·.on)
/-- Every operation waits for earlier ones alone. -/
def regAcyc (ops : Array Oper) : Bool := (List.range ops.size).all fun i => ((ops[i]?).map fun o => (needOf o).all (fun j => decide (j < i))).getD false

theorem cnt_le {l : List Nat} {p q : Nat → Bool} (h : ∀ x, q x = true → p x = true) : l.countP q ≤ l.countP p := by
  induction l with
  | nil => simp
  | cons x l ih =>
    rw [List.countP_cons, List.countP_cons]
    by_cases hq : q x = true
    · rw [if_pos hq, if_pos (h x hq)]; omega
    · rw [if_neg hq]; split <;> omega
theorem cnt_lt {l : List Nat} {p q : Nat → Bool} (h : ∀ x, q x = true → p x = true) {i : Nat} (hi : i ∈ l) (hp : p i = true) (hq : q i = false) : l.countP q < l.countP p := by
  induction l with
  | nil => cases hi
  | cons x l ih =>
    rw [List.countP_cons, List.countP_cons]
    rcases List.mem_cons.1 hi with rfl | hi
    · rw [if_pos hp, if_neg (by rw [hq]; simp)]
      have := cnt_le (l := l) h
      omega
    · have := ih hi
      by_cases hx : q x = true
      · rw [if_pos hx, if_pos (h x hx)]; omega
      · rw [if_neg hx]; split <;> omega

theorem ready_nil_all {listed : Array Bool} (hc : regAcyc ops = true) (hs : listed.size = ops.size) (hr : Region.ready .any ops listed = []) : ∀ n i, i < n → i < ops.size → listed.getD i false = true := by
  intro n
  induction n with
  | zero => intro i h; omega
  | succ n ih =>
    intro i hi hlt
    cases hg : listed.getD i false with
    | true => rfl
    | false =>
      exfalso
      have hm : i ∈ Region.ready .any ops listed := by
        rw [mem_ready]
        have hl : i < listed.size := by omega
        refine ⟨by simp [hl] at hg ⊢; exact hg, ops[i], by simp [hlt], fun e he hb => ?_⟩
        have h1 := List.all_eq_true.1 hc i (List.mem_range.2 hlt)
        rw [Array.getElem?_eq_getElem hlt] at h1
        have h2 := List.all_eq_true.1 h1 e.on (List.mem_map.2 ⟨e, List.mem_filter.2 ⟨by simpa using he, hb⟩, rfl⟩)
        have h3 : e.on < i := of_decide_eq_true h2
        exact ih e.on (by omega) (by omega)
      rw [hr] at hm
      cases hm

theorem wpAny_inv (hc : regAcyc ops = true) (I : (Nat → Bool) → Act → World → Prop)
    (hs : ∀ i o, ops[i]? = some o → ∀ d a w, d i = false → (∀ j, (needOf o).contains j = true → d j = true) → I d a w → wpOp P ops Q i (fun a' w' => I (fun j => j == i || d j) a' w') a w)
    (he : ∀ d a w, (∀ i, i < ops.size → d i = true) → I d a w → Q .normal a w) :
    ∀ (fuel : Nat) (listed : Array Bool) (a : Act) (w : World), listed.size = ops.size → (List.range ops.size).countP (fun j => !listed.getD j false) ≤ fuel → I (fun j => listed.getD j false) a w → wpAny P .any ops Q fuel listed a w := by
  intro fuel
  have hend : ∀ (listed : Array Bool) (a : Act) (w : World), listed.size = ops.size → Region.ready .any ops listed = [] → I (fun j => listed.getD j false) a w → Q .normal a w :=
    fun listed a w h1 h2 h3 => he _ a w (fun i hi => ready_nil_all hc h1 h2 (i + 1) i (by omega) hi) h3
  induction fuel with
  | zero =>
    intro listed a w h1 h2 h3
    have hr : Region.ready .any ops listed = [] := by
      apply List.eq_nil_iff_forall_not_mem.2
      intro i hi
      obtain ⟨hu, o, ho, _⟩ := mem_ready.1 hi
      have hlt : i < ops.size := (Array.getElem?_eq_some_iff.1 ho).1
      have hl : i < listed.size := by omega
      have := List.countP_pos_iff (p := fun j => !listed.getD j false).2 ⟨i, List.mem_range.2 hlt, show (!listed.getD i false) = true by simp [hl] at hu ⊢; exact hu⟩
      omega
    exact ⟨hr, hend listed a w h1 hr h3⟩
  | succ fuel ih =>
    intro listed a w h1 h2 h3
    refine ⟨fun hr => hend listed a w h1 hr h3, fun i hi => ?_⟩
    obtain ⟨hu, o, ho, hall⟩ := mem_ready.1 hi
    have hlt : i < ops.size := (Array.getElem?_eq_some_iff.1 ho).1
    have hl : i < listed.size := by omega
    have hu' : listed.getD i false = false := by simp [hl] at hu ⊢; exact hu
    have hfun : (fun j => (listed.setIfInBounds i true).getD j false) = fun j => j == i || listed.getD j false := by
      funext j
      by_cases hj : j = i
      · subst hj; simp [hl]
      · rw [getD_set_ne false (Ne.symm hj)]; simp [hj]
    refine wpOp_mono (fun a' w' hI => ih (listed.setIfInBounds i true) a' w' (by simpa using h1) ?_ (by rw [hfun]; exact hI)) (hs i o ho _ a w hu' (fun j hj => ?_) h3)
    · have := cnt_lt (l := List.range ops.size) (p := fun j => !listed.getD j false) (q := fun j => !(listed.setIfInBounds i true).getD j false) (fun x hx => by
        have := congrFun hfun x
        rw [this] at hx
        simp at hx ⊢
        exact hx.2) (List.mem_range.2 hlt) (by simp [hu']) (by have := congrFun hfun i; rw [this]; simp)
      omega
    · unfold needOf at hj
      rw [List.contains_iff_mem] at hj
      obtain ⟨e, he1, rfl⟩ := List.mem_map.1 hj
      obtain ⟨he2, he3⟩ := List.mem_filter.1 he1
      exact hall e (by simpa using he2) he3

/-- Some slots of a frame are written. -/
def puts (a : Act) (l : List (Nat × Value)) : Act := { a with tmps := l.foldl (fun t p => t.setIfInBounds p.1 p.2) a.tmps }

/-- The steps of a region, one for each operation. -/
def StepsFrom (P : Program) (ops : Array Oper) (Q : Exit → Act → World → Prop) (I : (Nat → Bool) → Act → World → Prop) : Nat → List Oper → Prop
  | _, [] => True
  | i, o :: os => (∀ d a w, d i = false → (∀ j, (needOf o).contains j = true → d j = true) → I d a w → ∀ K : Act → World → Prop, (∀ a w, I (fun j => j == i || d j) a w → K a w) → if Region.wanted o (yielded ops a.tmps) = true then Oper.wp P o a w K Q else K (a.put o.dst undef) w) ∧ StepsFrom P ops Q I (i + 1) os

theorem stepsFrom_get {I : (Nat → Bool) → Act → World → Prop} : ∀ (os : List Oper) (k : Nat), StepsFrom P ops Q I k os → ∀ (i : Nat) (o : Oper), os[i]? = some o → ∀ d a w, d (k + i) = false → (∀ j, (needOf o).contains j = true → d j = true) → I d a w → ∀ K : Act → World → Prop, (∀ a w, I (fun j => j == k + i || d j) a w → K a w) → if Region.wanted o (yielded ops a.tmps) = true then Oper.wp P o a w K Q else K (a.put o.dst undef) w
  | [], _, _, i, o, h => by simp at h
  | x :: os, k, hs, 0, o, h => by
    simp at h
    subst h
    exact hs.1
  | x :: os, k, hs, i + 1, o, h => by
    have := stepsFrom_get os (k + 1) hs.2 i o (by simpa using h)
    rw [show k + (i + 1) = k + 1 + i by omega]
    exact this

/-- A region that draws its order, by an invariant. -/
theorem wp_region_inv {id : Nat} {a : Act} {w : World} (hm : P.follows .mixedOrders = true) (hc : regAcyc ops = true) (J : Act → World → (Nat → Bool) → Act → World → Prop)
    (h0 : J a w (fun _ => false) a w.drew) (hs : StepsFrom P ops Q (J a w) 0 ops.toList)
    (he : ∀ d a' w', (∀ i, i < ops.size → d i = true) → J a w d a' w' → Q .normal a' w') : (Code.region id ops true).wp P Q a w := by
  refine wp_region_any hm ?_
  refine wpAny_inv hc (J a w) (fun i o ho d a' w' hd hn hI => wpOp_step ho (fun K hK => ?_)) he ops.size _ a _ (by simp) ?_ ?_
  · have := stepsFrom_get ops.toList 0 hs i o (by simpa using ho) d a' w' (by simpa using hd) hn hI K (by simpa using hK)
    exact this
  · refine Nat.le_trans List.countP_le_length ?_
    simp
  · have hfun : (fun j => (Array.replicate ops.size false).getD j false) = fun _ => false := by
      funext j
      by_cases hj : j < ops.size <;> simp [hj]
    rw [hfun]
    exact h0
end

end Go.Proofs.YtjijabfamjhdjaaDoor
