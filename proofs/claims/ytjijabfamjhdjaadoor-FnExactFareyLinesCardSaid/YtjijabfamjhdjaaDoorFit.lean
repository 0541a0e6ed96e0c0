/- Contract: the program's own iterator over a Farey sequence, for every loop body that keeps its word. -/
import Derived.Test.YtjijabfamjhdjaaDoorFal
import Derived.Test.YtjijabfamjhdjaaDoorRfs
import Derived.RangeFuncNested
import Derived.RangeFuncBound
import Derived.RangeFuncCalls
import Derived.RangeFuncLeaves
import Derived.Shelf.Abstract
import Derived.WalkKit
import Derived.OwnWalkIn
import Derived.TacticsInMore
import Derived.StillTailTactics
import Derived.BigRegion
import Derived.LoopNIn
import Derived.LoopIn
namespace Go.Proofs.YtjijabfamjhdjaaDoor
open Go.RowKit Go.Shelf
attribute [local go_sem] Oper.semAt_some

theorem fit_two (w : World) (A B : Obj) : ((w.alloc A).alloc B).heap[w.heap.size]? = some A ∧ ((w.alloc A).alloc B).heap[w.heap.size + 1]? = some B ∧ ∀ k, k < w.heap.size → ((w.alloc A).alloc B).heap[k]? = w.heap[k]? := by
  refine ⟨od_at (nw_at _ _) _, ?_, fun k hk => (Below.heap_alloc _ _ k (by simp; omega)).trans (Below.heap_alloc _ _ k hk)⟩
  have := nw_at (w.alloc A) B; rwa [World.size_alloc] at this

theorem grown_drew (w : World) : w.grownBy w.drew none := ⟨rfl, rfl, rfl, Nat.le_refl _, fun _ _ _ => rfl⟩

set_option maxRecDepth 100000 in
set_option maxHeartbeats 4000000 in
theorem fitRun (n : Nat) (hn : 1 ≤ n) (l box D : Nat) (o : Int) (ho : 1 ≤ o) (ho1 : o ≤ 40)
    (J : List (Int × Int) → World → Prop)
    (hY : ∀ pre p q post X, far o = pre ++ (p, q) :: post → J pre X → D + 1 < X.heap.size → YieldAt Fence.wide (n - 1) Tryd.prog l #[.agg #[.int .i64 p, .int .i64 q]] X fun e Y =>
      e = .returned (.bool true) ∧ J (pre ++ [(p, q)]) Y ∧ Y.heap[D]? = X.heap[D]? ∧ Y.heap[D + 1]? = X.heap[D + 1]?)
    (hG : ∀ pre X Y row, J pre X → X.grownBy Y row → (∀ r, row = some r → r = D ∨ r = D + 1) → J pre Y)
    (hO : ∀ pre X, J pre X → X.cell? ⟨box, 0, none⟩ = some (.int .i64 o))
    (W : World) (hD : W.heap.size = D) (hbD : box < D) (h0 : J [] W) :
    CallsIn Fence.wide n Tryd.prog 70 #[.func (.yield l) #[] #[], .pointer (some ⟨box, 0, none⟩)] W fun e Y => (∃ v, e = .returned v) ∧ J (far o) Y := by
  have HG := hid hG
  have HY := hid hY
  have HOO := hid hO
  have hbox := hO _ _ h0
  clear hG hY hO
  refine callsIn_of_wp Tryd.func70 rfl trivial ?_ rfl
  simp only [Tryd.ntmps70, List.size_toArray, List.length_cons, List.length_nil, Nat.reduceAdd, Nat.reduceSub, Array.replicate_succ, Array.replicate_zero, List.push_toArray, List.append_toArray, List.nil_append, List.cons_append]
  gi_wp2_with (fail)
  gi_big_region
  · have T2 := fit_two W (.cells #[.int .i64 0, .int .i64 1] 32) (.cells #[.int .i64 1, .int .i64 o] 32)
    rw [hD] at T2
    obtain ⟨W1, hW1⟩ : ∃ W1, W1 = ((W.alloc (.cells #[.int .i64 0, .int .i64 1] 32)).alloc (.cells #[.int .i64 1, .int .i64 o] 32)).drew := ⟨_, rfl⟩
    have g1 : W.grownBy W1 none := by
      rw [hW1]
      exact ⟨rfl, rfl, rfl, by simp; omega, fun k hk _ => T2.2.2 k (by omega)⟩
    have EA := hid (show ItF W1 (D) (0, 1) by rw [hW1]; exact T2.1)
    have EB := hid (show ItF W1 (D + 1) (1, o) by rw [hW1]; exact T2.2.1)
    have J1 := hid (HG.out _ _ _ none h0 g1 (fun _ e => by cases e))
    have hsz1 : D + 1 < W1.heap.size := by rw [hW1]; simp; omega
    rw [← hW1]
    clear hW1 g1 T2 h0 hbox
    simp only [Exit.then]
    gi_wp2_with (fail)
    gi_loopw [5] (fun _ wr => ∃ (k : Nat) (pre : List (Int × Int)) (e x : Int × Int), Hid (fyGood k o e x = true ∧ far o = pre ++ fyL k o e x) ∧ J pre wr ∧ ItF wr (D) e ∧ ItF wr (D + 1) x ∧ D + 1 < wr.heap.size) (fun _ wr => meaF (ceI wr (D) 0) (ceI wr (D) 1))
    case atStart => exact ⟨600, [], (0, 1), (1, o), hid ⟨fy_start ho ho1, rfl⟩, J1.out, EA.out, EB.out, hsz1⟩
    case round =>
      obtain ⟨k, pre, ⟨p, q⟩, ⟨r, s⟩, hst, hJ, ha, hb, hsz⟩ := hrel
      obtain ⟨hg, hf⟩ := hst.out
      have HJ := hid hJ
      have HA := hid ha
      have HB := hid hb
      have HCI := hid (ceI_itf ha)
      obtain ⟨a0, a1, fa0, fa1, la⟩ := bk2 ha
      clear hst
      by_cases hle : p ≤ q
      · obtain ⟨j, rfl, hL, hs, hg2⟩ := good_step hg hle
        have hS := fyS_of hs
        have hfar : far o = pre ++ (p, q) :: fyL j o (r, s) (fyN o (p, q) (r, s)) := by rw [hf, hL]
        have hst2 : FySt o (pre ++ [(p, q)]) (p, q) (r, s) j := ⟨hS, hg2, by rw [hfar]; simp⟩
        obtain ⟨⟨e1, e2, e3, e4⟩, ⟨x1, x2, x3, x4⟩, ⟨n1, n2, n3, n4⟩, ⟨t1, t2⟩, ⟨p1, p2⟩, ⟨q1, q2⟩⟩ := fySt_nums hst2
        have hme := hS.mea
        dsimp only [fyN, fyT] at e1 e2 e3 e4 x1 x2 x3 x4 n1 n2 n3 n4 t1 t2 p1 p2 q1 q2 hme
        have HME := hid hme
        have HG2 := hid (show fyGood j o (r, s) ((o + q) / s * r - p, (o + q) / s * s - q) = true ∧ far o = (pre ++ [(p, q)]) ++ fyL j o (r, s) ((o + q) / s * r - p, (o + q) / s * s - q) from ⟨hg2, by rw [hfar]; simp only [List.append_assoc, List.cons_append, List.nil_append]; rfl⟩)
        obtain ⟨fn, tmps, assign, body, hy, hR⟩ := HY.out pre p q _ wr hfar hJ hsz
        have HR := hid hR
        clear hg hf hL hs hg2 hS hfar hst2 hme hJ ha hb hR
        gi_wp2_with (fail)
        refine HR.out.mono ?_
        rintro e Y2 ⟨rfl, hJ3, k0, k1⟩
        have J3 := hid hJ3
        have hO3 := HOO.out _ _ hJ3
        have A2 := hid (show ItF Y2 (D) (p, q) from (k0).trans HA.out)
        have B2 := hid (show ItF Y2 (D + 1) (r, s) from (k1).trans HB.out)
        clear hJ3 k0 k1 a0 a1 fa0 fa1 la
        obtain ⟨a0, a1, fa0, fa1, la⟩ := bk2 A2.out
        obtain ⟨b0, b1, fb0, fb1, lb⟩ := bk2 B2.out
        have hne : ¬ D = D + 1 := by omega
        have hne2 : ¬ D + 1 = D := by omega
        clear hy
        gi_wp2_with (fail)
        refine wpIn_wide.2 ?_
        have hsz3 : D + 1 < Y2.heap.size := by omega
        have J4 := J3
        have A3 := A2
        have B3 := B2
        clear hO3 A2 B2 J3 HY HOO HR HA HB HJ
        go_region
        have HAX := hid (itf_other (itf_set A3.out (r, s)) hne2 (.int .i64 ((o + q) / s * r - p)) (.int .i64 ((o + q) / s * s - q)))
        have HBX := hid (itf_set (itf_other B3.out hne (.int .i64 r) (.int .i64 s)) ((o + q) / s * r - p, (o + q) / s * s - q))
        have HJa := HG.out _ _ _ (some (D)) J4.out (set2_gr _ _ (.int .i64 r) (.int .i64 s)) (fun _ e => by cases e; exact .inl rfl)
        have HJb := HG.out _ _ _ (some (D + 1)) HJa (set2_gr _ _ (.int .i64 ((o + q) / s * r - p)) (.int .i64 ((o + q) / s * s - q))) (fun _ e => by cases e; exact .inr rfl)
        have HJX := hid (HG.out _ _ _ none HJb (grown_drew _) (fun _ e => by cases e))
        clear HJa HJb
        simp only [Exit.inBlock]
        refine ⟨⟨_, _, _, _, _, _, _, _, _, _, _, _, _, _, _, _, _, _, _, _, _, _, _, _, _, _, _, _, _, _, _, _, _, _, ?rel, rfl⟩, ?measure⟩
        case rel => exact ⟨j, pre ++ [(p, q)], (r, s), _, HG2, HJX.out, HAX.out, HBX.out, by show D + 1 < (World.heap _).size; simp; omega⟩
        case measure =>
          obtain ⟨u0, u1⟩ := ceI_itf HAX.out
          rw [HCI.out.1, HCI.out.2]
          refine Nat.lt_of_le_of_lt (Nat.le_of_eq ?_) HME.out
          exact congr (congrArg meaF u0) u1
      · have hE := hid (show J (far o) wr by rw [hf, good_end hle, List.append_nil]; exact hJ)
        have hd : decide (p ≤ q) = false := decide_eq_false hle
        clear hg hf hJ
        gi_wp2_with (fail)
        refine ⟨fun _ h => (by cases h), ?_⟩
        gi_wp2_with (fail)
        go_end0
        exact ⟨⟨_, rfl⟩, hE.out⟩
  · have T2 := fit_two W (.cells #[.int .i64 1, .int .i64 o] 32) (.cells #[.int .i64 0, .int .i64 1] 32)
    rw [hD] at T2
    obtain ⟨W1, hW1⟩ : ∃ W1, W1 = ((W.alloc (.cells #[.int .i64 1, .int .i64 o] 32)).alloc (.cells #[.int .i64 0, .int .i64 1] 32)).drew := ⟨_, rfl⟩
    have g1 : W.grownBy W1 none := by
      rw [hW1]
      exact ⟨rfl, rfl, rfl, by simp; omega, fun k hk _ => T2.2.2 k (by omega)⟩
    have EA := hid (show ItF W1 (D + 1) (0, 1) by rw [hW1]; exact T2.2.1)
    have EB := hid (show ItF W1 (D) (1, o) by rw [hW1]; exact T2.1)
    have J1 := hid (HG.out _ _ _ none h0 g1 (fun _ e => by cases e))
    have hsz1 : D + 1 < W1.heap.size := by rw [hW1]; simp; omega
    rw [← hW1]
    clear hW1 g1 T2 h0 hbox
    simp only [Exit.then]
    gi_wp2_with (fail)
    gi_loopw [5] (fun _ wr => ∃ (k : Nat) (pre : List (Int × Int)) (e x : Int × Int), Hid (fyGood k o e x = true ∧ far o = pre ++ fyL k o e x) ∧ J pre wr ∧ ItF wr (D + 1) e ∧ ItF wr (D) x ∧ D + 1 < wr.heap.size) (fun _ wr => meaF (ceI wr (D + 1) 0) (ceI wr (D + 1) 1))
    case atStart => exact ⟨600, [], (0, 1), (1, o), hid ⟨fy_start ho ho1, rfl⟩, J1.out, EA.out, EB.out, hsz1⟩
    case round =>
      obtain ⟨k, pre, ⟨p, q⟩, ⟨r, s⟩, hst, hJ, ha, hb, hsz⟩ := hrel
      obtain ⟨hg, hf⟩ := hst.out
      have HJ := hid hJ
      have HA := hid ha
      have HB := hid hb
      have HCI := hid (ceI_itf ha)
      obtain ⟨a0, a1, fa0, fa1, la⟩ := bk2 ha
      clear hst
      by_cases hle : p ≤ q
      · obtain ⟨j, rfl, hL, hs, hg2⟩ := good_step hg hle
        have hS := fyS_of hs
        have hfar : far o = pre ++ (p, q) :: fyL j o (r, s) (fyN o (p, q) (r, s)) := by rw [hf, hL]
        have hst2 : FySt o (pre ++ [(p, q)]) (p, q) (r, s) j := ⟨hS, hg2, by rw [hfar]; simp⟩
        obtain ⟨⟨e1, e2, e3, e4⟩, ⟨x1, x2, x3, x4⟩, ⟨n1, n2, n3, n4⟩, ⟨t1, t2⟩, ⟨p1, p2⟩, ⟨q1, q2⟩⟩ := fySt_nums hst2
        have hme := hS.mea
        dsimp only [fyN, fyT] at e1 e2 e3 e4 x1 x2 x3 x4 n1 n2 n3 n4 t1 t2 p1 p2 q1 q2 hme
        have HME := hid hme
        have HG2 := hid (show fyGood j o (r, s) ((o + q) / s * r - p, (o + q) / s * s - q) = true ∧ far o = (pre ++ [(p, q)]) ++ fyL j o (r, s) ((o + q) / s * r - p, (o + q) / s * s - q) from ⟨hg2, by rw [hfar]; simp only [List.append_assoc, List.cons_append, List.nil_append]; rfl⟩)
        obtain ⟨fn, tmps, assign, body, hy, hR⟩ := HY.out pre p q _ wr hfar hJ hsz
        have HR := hid hR
        clear hg hf hL hs hg2 hS hfar hst2 hme hJ ha hb hR
        gi_wp2_with (fail)
        refine HR.out.mono ?_
        rintro e Y2 ⟨rfl, hJ3, k0, k1⟩
        have J3 := hid hJ3
        have hO3 := HOO.out _ _ hJ3
        have A2 := hid (show ItF Y2 (D + 1) (p, q) from (k1).trans HA.out)
        have B2 := hid (show ItF Y2 (D) (r, s) from (k0).trans HB.out)
        clear hJ3 k0 k1 a0 a1 fa0 fa1 la
        obtain ⟨a0, a1, fa0, fa1, la⟩ := bk2 A2.out
        obtain ⟨b0, b1, fb0, fb1, lb⟩ := bk2 B2.out
        have hne : ¬ D + 1 = D := by omega
        have hne2 : ¬ D = D + 1 := by omega
        clear hy
        gi_wp2_with (fail)
        refine wpIn_wide.2 ?_
        have hsz3 : D + 1 < Y2.heap.size := by omega
        have J4 := J3
        have A3 := A2
        have B3 := B2
        clear hO3 A2 B2 J3 HY HOO HR HA HB HJ
        go_region
        have HAX := hid (itf_other (itf_set A3.out (r, s)) hne2 (.int .i64 ((o + q) / s * r - p)) (.int .i64 ((o + q) / s * s - q)))
        have HBX := hid (itf_set (itf_other B3.out hne (.int .i64 r) (.int .i64 s)) ((o + q) / s * r - p, (o + q) / s * s - q))
        have HJa := HG.out _ _ _ (some (D + 1)) J4.out (set2_gr _ _ (.int .i64 r) (.int .i64 s)) (fun _ e => by cases e; exact .inr rfl)
        have HJb := HG.out _ _ _ (some (D)) HJa (set2_gr _ _ (.int .i64 ((o + q) / s * r - p)) (.int .i64 ((o + q) / s * s - q))) (fun _ e => by cases e; exact .inl rfl)
        have HJX := hid (HG.out _ _ _ none HJb (grown_drew _) (fun _ e => by cases e))
        clear HJa HJb
        simp only [Exit.inBlock]
        refine ⟨⟨_, _, _, _, _, _, _, _, _, _, _, _, _, _, _, _, _, _, _, _, _, _, _, _, _, _, _, _, _, _, _, _, _, _, ?rel, rfl⟩, ?measure⟩
        case rel => exact ⟨j, pre ++ [(p, q)], (r, s), _, HG2, HJX.out, HAX.out, HBX.out, by show D + 1 < (World.heap _).size; simp; omega⟩
        case measure =>
          obtain ⟨u0, u1⟩ := ceI_itf HAX.out
          rw [HCI.out.1, HCI.out.2]
          refine Nat.lt_of_le_of_lt (Nat.le_of_eq ?_) HME.out
          exact congr (congrArg meaF u0) u1
      · have hE := hid (show J (far o) wr by rw [hf, good_end hle, List.append_nil]; exact hJ)
        have hd : decide (p ≤ q) = false := decide_eq_false hle
        clear hg hf hJ
        gi_wp2_with (fail)
        refine ⟨fun _ h => (by cases h), ?_⟩
        gi_wp2_with (fail)
        go_end0
        exact ⟨⟨_, rfl⟩, hE.out⟩

end Go.Proofs.YtjijabfamjhdjaaDoor
