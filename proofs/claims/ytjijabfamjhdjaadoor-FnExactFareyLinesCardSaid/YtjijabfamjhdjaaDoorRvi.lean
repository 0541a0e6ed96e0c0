/- Law: a region that draws its order, in a round of a wide fence, by an invariant. -/
import Derived.Test.YtjijabfamjhdjaaDoorRiv
import Derived.OrdersIn
import Derived.ControlIn
import Derived.RangeFuncCalls
import Derived.OwnWalkIn
namespace Go.Proofs.YtjijabfamjhdjaaDoor
open Go.RowKit

theorem rows_in {P : Program} {l n : Nat} {row : String} {args : Array Value} {w : World} {R : Value → World → Prop} (h : Rows P row args w R) : RowsIn (Fence.wide.inRound l) n P row args w R :=
  fun c cs _ => let ⟨v, w', r, s⟩ := h c cs; ⟨v, w', r, stepsIn_wide.2 s⟩
theorem oper_in {P : Program} {l n : Nat} {o : Oper} {a : Act} {w : World} {K : Act → World → Prop} {Q : Exit → Act → World → Prop} (hnd : ∀ c, o.op ≠ .defer c) (h : Oper.wp P o a w K Q) : Oper.wpIn (Fence.wide.inRound l) n P o a w K Q := by
  unfold Oper.wpIn
  refine ⟨fun _ _ => trivial, ?_⟩
  rw [Oper.semAt_plain _ _ _ hnd]
  unfold Oper.wp at h
  generalize (execOp a.eval o).run P w = r at *
  have hd : ¬ (Fence.wide.inRound l).depth.isSome = true := by simp [Fence.wide]
  cases r with
  | ok x w' =>
    cases x with
    | value v => exact h
    | skip => exact h
    | defer d => exact h
    | enter f args => exact ⟨fun e => absurd e hd, CallsIn.inRound l (callsIn_wide.2 h)⟩
    | row r args => exact ⟨fun e => absurd e hd, rows_in h⟩
    | round => exact False.elim h
    | _ => exact False.elim h
  | halt x w' => cases x <;> exact h

section
variable {F : Fence} {n : Nat} {P : Program} {ops : Array Oper} {Q : Exit → Act → World → Prop}
theorem wpAnyIn_inv (hc : regAcyc ops = true) (I : (Nat → Bool) → Act → World → Prop)
    (hs : ∀ i o, ops[i]? = some o → ∀ d a w, d i = false → (∀ j, (needOf o).contains j = true → d j = true) → I d a w → wpOpIn F n P ops Q i (fun a' w' => I (fun j => j == i || d j) a' w') a w)
    (he : ∀ d a w, (∀ i, i < ops.size → d i = true) → I d a w → Q .normal a w) :
    ∀ (fuel : Nat) (listed : Array Bool) (a : Act) (w : World), listed.size = ops.size → (List.range ops.size).countP (fun j => !listed.getD j false) ≤ fuel → I (fun j => listed.getD j false) a w → wpAnyIn F n P .any ops Q fuel listed a w := by
  intro fuel
  have hend : ∀ (listed : Array Bool) (a : Act) (w : World), listed.size = ops.size → Region.ready .any ops listed = [] → I (fun j => listed.getD j false) a w → Q .normal a w :=
    fun listed a w h1 h2 h3 => he _ a w (fun i hi => ready_nil_all hc h1 h2 (i + 1) i (by omega) hi) h3
  induction fuel with
  | zero =>
    intro listed a w h1 h2 h3
    have hr : Region.ready .any ops listed = [] := by
      apply List.eq_nil_iff_forall_not_mem.2
      intro i hi
      obtain ⟨hu, o, ho, _⟩ := mem_ready.1 hi
      have hlt : i < ops.size := (Array.getElem?_eq_some_iff.1 ho).1
      have hl : i < listed.size := by omega
      have := List.countP_pos_iff (p := fun j => !listed.getD j false).2 ⟨i, List.mem_range.2 hlt, show (!listed.getD i false) = true by simp [hl] at hu ⊢; exact hu⟩
      omega
    exact ⟨hr, hend listed a w h1 hr h3⟩
  | succ fuel ih =>
    intro listed a w h1 h2 h3
    refine ⟨fun hr => hend listed a w h1 hr h3, fun i hi => ?_⟩
    obtain ⟨hu, o, ho, hall⟩ := mem_ready.1 hi
    have hlt : i < ops.size := (Array.getElem?_eq_some_iff.1 ho).1
    have hl : i < listed.size := by omega
    have hu' : listed.getD i false = false := by simp [hl] at hu ⊢; exact hu
    have hfun : (fun j => (listed.setIfInBounds i true).getD j false) = fun j => j == i || listed.getD j false := by
      funext j
      by_cases hj : j = i
      · subst hj; simp [hl]
      · rw [getD_set_ne false (Ne.symm hj)]; simp [hj]
    refine wpOpIn_mono (fun a' w' hI => ih (listed.setIfInBounds i true) a' w' (by simpa using h1) ?_ (by rw [hfun]; exact hI)) (hs i o ho _ a w hu' (fun j hj => ?_) h3)
    · have := cnt_lt (l := List.range ops.size) (p := fun j => !listed.getD j false) (q := fun j => !(listed.setIfInBounds i true).getD j false) (fun x hx => by
        have := congrFun hfun x
        rw [this] at hx
        simp at hx ⊢
        exact hx.2) (List.mem_range.2 hlt) (by simp [hu']) (by have := congrFun hfun i; rw [this]; simp)
      omega
    · unfold needOf at hj
      rw [List.contains_iff_mem] at hj
      obtain ⟨e, he1, rfl⟩ := List.mem_map.1 hj
      obtain ⟨he2, he3⟩ := List.mem_filter.1 he1
      exact hall e (by simpa using he2) he3

end
def noDefer (ops : Array Oper) : Bool := ops.toList.all fun o => match o.op with | .defer _ => false | _ => true
theorem noDefer_at {ops : Array Oper} (h : noDefer ops = true) {i : Nat} {o : Oper} (ho : ops[i]? = some o) : ∀ c, o.op ≠ .defer c := by
  intro c e
  have h1 := List.all_eq_true.1 h o (by have := Array.mem_of_getElem? ho; simpa using this)
  rw [e] at h1
  cases h1
/-- A region that draws its order, within a round, by an invariant. -/
theorem wp_region_invR {P : Program} {l n : Nat} {ops : Array Oper} {Q : Exit → Act → World → Prop} {id : Nat} {a : Act} {w : World} (hm : P.follows .mixedOrders = true) (hc : regAcyc ops = true) (hd : noDefer ops = true) (J : Act → World → (Nat → Bool) → Act → World → Prop)
    (h0 : J a w (fun _ => false) a w.drew) (hs : StepsFrom P ops Q (J a w) 0 ops.toList)
    (he : ∀ d a' w', (∀ i, i < ops.size → d i = true) → J a w d a' w' → Q .normal a' w') : (Code.region id ops true).wpIn (Fence.wide.inRound l) n P Q a w := by
  refine wpIn_region_any hm ?_
  refine wpAnyIn_inv hc (J a w) (fun i o ho d a' w' hd0 hn hI => ?_) he ops.size _ a _ (by simp) ?_ ?_
  · have h3 := stepsFrom_get ops.toList 0 hs i o (by simpa using ho) d a' w' (by simpa using hd0) hn hI (fun a' w' => J a w (fun j => j == i || d j) a' w') (fun a w h => by simpa using h)
    unfold wpOpIn
    rw [ho]
    dsimp only
    by_cases hw : Region.wanted o (yielded ops a'.tmps) = true
    · rw [if_pos hw] at h3
      rw [if_pos hw]
      exact oper_in (noDefer_at hd ho) h3
    · rw [if_neg hw] at h3
      rw [if_neg hw]
      exact ⟨fun _ _ => trivial, h3⟩
  · refine Nat.le_trans List.countP_le_length ?_
    simp
  · have hfun : (fun j => (Array.replicate ops.size false).getD j false) = fun _ => false := by
      funext j
      by_cases hj : j < ops.size <;> simp [hj]
    rw [hfun]
    exact h0

end Go.Proofs.YtjijabfamjhdjaaDoor
