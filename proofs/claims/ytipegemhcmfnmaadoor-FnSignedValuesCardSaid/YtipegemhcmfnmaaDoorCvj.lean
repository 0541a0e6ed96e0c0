/- Contract: the program's own iterator over convergents, for every loop body that keeps its word. -/
import Derived.Test.YtipegemhcmfnmaaDoorCvt
import Derived.Test.YtipegemhcmfnmaaDoorRfs
import Derived.RangeFuncNested
import Derived.RangeFuncBound
import Derived.RangeFuncCalls
import Derived.RangeFuncLeaves
import Derived.Shelf.Abstract
import Derived.WalkKit
import Derived.OwnWalkIn
import Derived.TacticsInMore
import Derived.LoopNIn
import Derived.LoopIn
namespace Go.Proofs.YtipegemhcmfnmaaDoor
open Go.RowKit Go.Shelf
attribute [local go_sem] Oper.semAt_some

/-- A block of a fraction. -/
def ItB (w : World) (b : Nat) (p q : Int) : Prop := w.heap[b]? = some (.cells #[.int .i64 p, .int .i64 q] 30 (0, 0))
theorem itb_cells {w : World} {b : Nat} {p q : Int} (h : ItB w b p q) : w.cell? ⟨b, 0, none⟩ = some (.int .i64 p) ∧ w.cell? ⟨b, 1, none⟩ = some (.int .i64 q) ∧ w.frozen? ⟨b, 0, none⟩ = false ∧ w.frozen? ⟨b, 1, none⟩ = false ∧ b < w.heap.size := by
  unfold ItB at h
  refine ⟨?_, ?_, ?_, ?_, (Array.getElem?_eq_some_iff.1 h).1⟩
  · simp [World.cell?, h]
  · simp [World.cell?, h]
  · simp [World.frozen?, h]
  · simp [World.frozen?, h]
theorem itb_set {w : World} {b : Nat} {p q : Int} (h : ItB w b p q) (a c : Int) : ItB ((w.setCell ⟨b, 0, none⟩ (.int .i64 a)).setCell ⟨b, 1, none⟩ (.int .i64 c)) b a c := by
  have h1 := heap_setCell_same w b 0 _ _ (.int .i64 a) h
  exact heap_setCell_same _ b 1 _ _ (.int .i64 c) h1
theorem itb_other {w : World} {b : Nat} {p q : Int} (h : ItB w b p q) {x : Nat} (hx : x ≠ b) (a c : Int) : ItB ((w.setCell ⟨x, 0, none⟩ (.int .i64 a)).setCell ⟨x, 1, none⟩ (.int .i64 c)) b p q := by
  have hne : b ≠ x := fun e => hx e.symm
  unfold ItB
  rw [heap_setCell_other _ ⟨x, 1, none⟩ b _ hne, heap_setCell_other _ ⟨x, 0, none⟩ b _ hne]
  exact h
theorem set2_grown (w : World) (b : Nat) (x y : Value) : w.grownBy ((w.setCell ⟨b, 0, none⟩ x).setCell ⟨b, 1, none⟩ y) (some b) :=
  ⟨rfl, rfl, rfl, by simp, fun k _ hk => by
    have hne : k ≠ b := fun e => hk (by rw [e])
    rw [heap_setCell_other _ ⟨b, 1, none⟩ k y hne, heap_setCell_other _ ⟨b, 0, none⟩ k x hne]⟩

theorem two_blocks (w : World) (A B : Obj) : ((w.alloc A).alloc B).heap[w.heap.size]? = some A ∧ ((w.alloc A).alloc B).heap[w.heap.size + 1]? = some B ∧ ∀ k, k < w.heap.size → ((w.alloc A).alloc B).heap[k]? = w.heap[k]? := by
  refine ⟨(Below.heap_alloc _ _ _ (by simp)).trans (World.alloc_heap_new w _), ?_, fun k hk => (Below.heap_alloc _ _ k (by simp; omega)).trans (Below.heap_alloc _ _ k hk)⟩
  have := World.alloc_heap_new (w.alloc A) B; rwa [World.size_alloc] at this

set_option maxRecDepth 100000 in
set_option maxHeartbeats 4000000 in
theorem iterRun (n : Nat) (hn : 1 ≤ n) (l box g c D : Nat) (xs : List Int) (hx : xs.length ≤ 60) (hb : ∀ (j : Nat) (x : Int), xs[j]? = some x → -1000000000 ≤ x ∧ x ≤ 1000000000)
    (J : List (Int × Int) → World → Prop) (Jx : World → Prop)
    (hY : ∀ pre p q pp qq X, pre.length < 60 → J pre X → ItB X D pp qq → ItB X (D + 1) p q → YieldAt Fence.wide (n - 1) Tryd.prog l #[.agg #[.int .i64 p, .int .i64 q]] X fun e Y =>
      (e = .returned (.bool true) ∧ okF p q = true ∧ J (pre ++ [(p, q)]) Y ∧ ItB Y D pp qq ∧ ItB Y (D + 1) p q) ∨ (e = .returned (.bool false) ∧ okF p q = false ∧ Jx Y))
    (hG : ∀ pre X Y row, J pre X → X.grownBy Y row → (∀ r, row = some r → r = D ∨ r = D + 1) → J pre Y)
    (hI : ∀ pre X, J pre X → Ints X g 0 xs)
    (W : World) (hD : W.heap.size = D) (hbox : W.cell? ⟨box, 0, none⟩ = some (.slice (some ⟨g, 0, none⟩) xs.length c)) (hbD : box < D) (h0 : J [] W) :
    CallsIn Fence.wide n Tryd.prog 131 #[.func (.yield l) #[] #[], .pointer (some ⟨box, 0, none⟩)] W fun e Y => (∃ v, e = .returned v) ∧
      ((∃ ls, cv 1 0 0 1 xs = some ls ∧ J ls Y) ∨ (cv 1 0 0 1 xs = none ∧ Jx Y)) := by
  have HG := hid hG
  have HIT := hid hI
  have HY := hid hY
  have HBD := hid hb
  clear hG hI hY hb
  refine callsIn_of_wp Tryd.func131 rfl trivial ?_ rfl
  simp only [Tryd.ntmps131, List.size_toArray, List.length_cons, List.length_nil, Nat.reduceAdd, Nat.reduceSub, Array.replicate_succ, Array.replicate_zero, List.push_toArray, List.append_toArray, List.nil_append, List.cons_append]
  gi_wp2_with (fail)
  have g1 : W.grownBy ((W.alloc (.cells #[.int .i64 0, .int .i64 1] 30)).alloc (.cells #[.int .i64 1, .int .i64 0] 30)) none :=
    ⟨rfl, rfl, rfl, by simp; omega, fun k hk _ => (two_blocks W _ _).2.2 k hk⟩
  gi_loopw [11] (fun i wr => ∃ (k : Nat) (ls : List (Int × Int)) (p q pp qq : Int), i = .int .i64 k ∧ k ≤ xs.length ∧ ls.length ≤ k ∧ J ls wr ∧ ItB wr D pp qq ∧ ItB wr (D + 1) p q ∧ Bd p ∧ Bd q ∧ Bd pp ∧ Bd qq ∧ Hid (cv 1 0 0 1 xs = (cv p q pp qq (xs.drop k)).map (ls ++ ·))) (fun i _ => xs.length - (RowKit.intOf i).toNat)
  case atStart =>
    refine ⟨0, [], 1, 0, 0, 1, rfl, by omega, by simp, HG.out _ _ _ _ h0 g1 (fun _ e => by cases e), ?_, ?_, by constructor <;> omega, by constructor <;> omega, by constructor <;> omega, by constructor <;> omega, hid (by simp)⟩
    · rw [← hD]; exact (two_blocks W _ _).1
    · rw [← hD]; exact (two_blocks W _ _).2.1
  case round =>
    obtain ⟨k, ls, p, q, pp, qq, rfl, hk, hlk, hJ, hb0, hb1, hp, hq, hpp, hqq, hst⟩ := hrel
    have hk0 : (0 : Int) ≤ (k : Int) := by omega
    by_cases hlt : k < xs.length
    · have hlt' : (k : Int) < (xs.length : Int) := by omega
      obtain ⟨t, hxk⟩ : ∃ t, xs[k]? = some t := ⟨_, List.getElem?_eq_getElem hlt⟩
      have ca := ints_at (HIT.out _ _ hJ) hxk
      have hT : Bd t := HBD.out _ _ hxk
      have m1 := bd_mul hT hp
      have m2 := bd_mul hT hq
      have HP := hid hp
      have HQ := hid hq
      have HPP := hid hpp
      have HQQ := hid hqq
      have hpp1 := hpp.1
      have hpp2 := hpp.2
      have hqq1 := hqq.1
      have hqq2 := hqq.2
      obtain ⟨a0, a1, fa0, fa1, la⟩ := itb_cells hb0
      obtain ⟨c0, c1, fc0, fc1, lc⟩ := itb_cells hb1
      have hst2 := hst.out
      rw [List.drop_eq_getElem_cons hlt, (List.getElem?_eq_some_iff.1 hxk).2] at hst2
      have HST := hid hst2
      have HB0 := hid hb0
      have HB1 := hid hb1
      have HJ := hid hJ
      have hD1 : ¬ D = D + 1 := by omega
      have hD2 : ¬ D + 1 = D := by omega
      clear hst hst2 hJ hb0 hb1 hp hq hpp hqq hxk hT g1 h0 hbox
      gi_wp2_with (fail)
      gi_big_region
      obtain ⟨p2, hp2⟩ : ∃ p2, p2 = t * p + pp := ⟨_, rfl⟩
      obtain ⟨q2, hq2⟩ : ∃ q2, q2 = t * q + qq := ⟨_, rfl⟩
      have HCV := hid (show ∀ b, okF (t * p + pp) (t * q + qq) = b → cv 1 0 0 1 xs = if b then ((cv (t * p + pp) (t * q + qq) p q (xs.drop (k + 1))).map ((t * p + pp, t * q + qq) :: ·)).map (ls ++ ·) else none from fun b hb => by
        rw [HST.out]
        cases b
        · rw [cv_no hb]; rfl
        · rw [cv_yes hb]; rfl)
      rw [← hp2, ← hq2]
      rw [← hp2, ← hq2] at HCV
      clear HST
      obtain ⟨Y, hYe⟩ : ∃ Y, Y = ((((wr.setCell ⟨D, 0, none⟩ (.int .i64 p)).setCell ⟨D, 1, none⟩ (.int .i64 q)).setCell ⟨D + 1, 0, none⟩ (.int .i64 p2)).setCell ⟨D + 1, 1, none⟩ (.int .i64 q2)).drew := ⟨_, rfl⟩
      rw [← hYe]
      have JY : J ls Y := by
        rw [hYe]
        refine HG.out _ _ _ none (HG.out _ _ _ (some (D + 1)) (HG.out _ _ _ (some D) HJ.out (set2_grown _ _ _ _) ?_) (set2_grown _ _ _ _) ?_) ⟨rfl, rfl, rfl, Nat.le_refl _, fun _ _ _ => rfl⟩ (fun _ e => by cases e)
        · intro r e; cases e; exact .inl rfl
        · intro r e; cases e; exact .inr rfl
      have B0 : ItB Y D p q := by rw [hYe]; exact itb_other (itb_set HB0.out _ _) hD2 _ _
      have B1 : ItB Y (D + 1) p2 q2 := by rw [hYe]; exact itb_set (itb_other HB1.out hD1 _ _) _ _
      have OKP := hid (fun h : okF p2 q2 = true => okF_iff.1 h)
      obtain ⟨fn, tmps, assign, body, hy, hR⟩ := HY.out ls p2 q2 p q Y (by omega) JY B0 B1
      obtain ⟨y0, y1, fy0, fy1, ly⟩ := itb_cells B1
      have HR := hid hR
      clear hYe JY B0 B1 a0 a1 fa0 fa1 la c0 c1 fc0 fc1 lc m1 m2 hpp1 hpp2 hqq1 hqq2 ca HB0 HB1 HJ hR
      have HPQ := hid (And.intro hp2 hq2)
      clear hp2 hq2
      simp only [Exit.then]
      gi_wp2_with (fail)
      refine HR.out.mono ?_
      rintro e Y2 (⟨rfl, ok, hJ3, i0, i1⟩ | ⟨rfl, no, hJx3⟩)
      · have OK := hid ok
        have I0 := hid i0
        have I1 := hid i1
        have J3 := hid hJ3
        clear ok i0 i1 hJ3
        gi_wp2_with (fail)
        go_roundw
        case rel => exact ⟨k + 1, ls ++ [(p2, q2)], p2, q2, p, q, by go_num, by omega, by simp; omega, J3.out, I0.out, I1.out, by have := OKP.out OK.out; constructor <;> omega, by have := OKP.out OK.out; constructor <;> omega, HP.out, HQ.out, hid (by rw [HCV.out _ OK.out, if_pos rfl, Option.map_map]; congr 1; funext z; simp)⟩
        case measure => simp [RowKit.intOf]; omega
      · have NO := hid (show cv 1 0 0 1 xs = none by rw [HCV.out _ no]; rfl)
        have X3 := hid hJx3
        clear no hJx3
        gi_wp2_with (fail)
        refine bodyPost_ret (results_none rfl _ _ _) rfl ?_
        exact ⟨⟨_, rfl⟩, .inr ⟨NO.out, X3.out⟩⟩
    · have hlt2 : ¬ (k : Int) < (xs.length : Int) := by omega
      have hJ2 : ∃ ls, cv 1 0 0 1 xs = some ls ∧ J ls wr := ⟨ls, by rw [hst.out, show xs.drop k = [] from List.drop_eq_nil_of_le (by omega)]; simp [cv], hJ⟩
      gi_wp2_with (fail)
      go_end0
      exact ⟨⟨_, rfl⟩, .inl hJ2⟩

end Go.Proofs.YtipegemhcmfnmaaDoor
