/- Contract: CommonAncestor, by the model. -/
import Derived.Test.YtjijabfamjhdjaaCat
namespace Go.Proofs.Ytjijabfamjhdjaa
open Go.RowKit

set_option maxRecDepth 100000 in
set_option maxHeartbeats 40000000 in
theorem specCan (n d m f : Int) (w : World) :
    Calls Try.prog 29 #[.agg #[.int .i64 n, .int .i64 d], .agg #[.int .i64 m, .int .i64 f]] w fun e w' => e = .returned (tv (comT n d m f)) ∧ Below w.heap.size w w' := by
  have HB := hid (box3_new w n d m f)
  have HC := hid (fun w => specTwoP n d m f w)
  unfold tv
  by_cases hc : chkC 1 [(n, d), (m, f)] = 0
  · obtain ⟨ho1, ho2, hn, hm⟩ := chk2_zero hc
    rw [hc] at HC
    obtain ⟨m', hok, hfo⟩ := comT_at hc
    rw [comT_ok hc, atP_ok hok hfo]
    have HR1 := hid (fun w => specPathL n d w ho1 hn)
    have HR2 := hid (fun w => specPathL m f w ho2 hm)
    have hp1 := path_ok ho1 hn
    have hp2 := path_ok ho2 hm
    have HCR := hid (fun (ga ca gb cb : Nat) (w : World) (h2 : Ints w ga 0 (pathF n d)) (h3 : Ints w gb 0 (pathF m f)) => specCommonL ga ca gb cb (pathF n d) (pathF m f) w hp1 hp2 h2 h3)
    have HAT := hid (fun (g c : Nat) (w : World) (h2 : Ints w g 0 (cmnL (pathF n d) (pathF m f))) => specAt g c (cmnL (pathF n d) (pathF m f)) w hok h2)
    rw [hfo] at HAT
    dsimp only [atB] at HAT
    clear hc ho1 ho2 hn hm hok hp1 hp2 hfo
    generalize mid m' = q at *
    obtain ⟨q0, q1⟩ := q
    dsimp only at HAT ⊢
    generalize cmnL (pathF n d) (pathF m f) = zs at *
    generalize pathF n d = xs at *
    generalize pathF m f = ys at *
    go_enter Try.func29, Try.ntmps29
    go_wp2_with (fail)
    refine (HC.out _).mono ?_
    rintro e w1 ⟨rfl, b⟩
    have BX := hid (box3_below HB.out b)
    obtain ⟨a0, a1, _, _, _⟩ := blk2 BX.out.1
    obtain ⟨b0, b1, _, _, l1⟩ := blk2 BX.out.2.1
    have hw1 : w.heap.size + 1 + 1 < w1.heap.size := (blk2 BX.out.2.2.1).2.2.2.2
    clear b
    go_wp2_with (fail)
    go_region_with (first | (go_at_call_of 50 (Value.agg #[Value.int .i64 n, Value.int .i64 d]); refine (HR1.out _).mono ?_; rintro e u1 ⟨g1, c1, rfl, o1, v1⟩; have hs1 := (below_step (X := w1) (by repeat (first | exact Below.refl _ _ | refine below_drewN ?_ _ | refine Below.drew ?_ | refine Below.alloc ?_ (by first | omega | (simp <;> omega)) _)) v1).size; have BX2 := hid (box3_step BX.out (by repeat (first | exact Below.refl _ _ | refine below_drewN ?_ _ | refine Below.drew ?_ | refine Below.alloc ?_ (by first | omega | (simp <;> omega)) _)) v1); obtain ⟨a0, a1, _, _, _⟩ := blk2 BX2.out.1; obtain ⟨b0, b1, _, _, _⟩ := blk2 BX2.out.2.1; have O1 := hid (own_ints o1); (first | (refine zct v1 (z := w1.heap.size) (O := .cells #[.int .i64 0, .int .i64 0] 25 (0, 0)) ?_ ?_ ?_; simp; (first | exact znew_dr | exact znew_drew | exact new_at _ _); intro Z1) | skip); clear o1 v1) | (go_at_call_of 50 (Value.agg #[Value.int .i64 m, Value.int .i64 f]); refine (HR2.out _).mono ?_; rintro e u2 ⟨g2, c2, rfl, o2, v2⟩; have hs2 := (below_step (X := u1) (by repeat (first | exact Below.refl _ _ | refine below_drewN ?_ _ | refine Below.drew ?_ | refine Below.alloc ?_ (by first | omega | (simp <;> omega)) _)) v2).size; have BX3 := hid (box3_step BX2.out (by repeat (first | exact Below.refl _ _ | refine below_drewN ?_ _ | refine Below.drew ?_ | refine Below.alloc ?_ (by first | omega | (simp <;> omega)) _)) v2); have O1b := hid (ints_below O1.out (below_step (by repeat (first | exact Below.refl _ _ | refine below_drewN ?_ _ | refine Below.drew ?_ | refine Below.alloc ?_ (by first | omega | (simp <;> omega)) _)) v2)); have O2 := hid (own_ints o2); (first | (refine zct v2 ?_ Z1.out ?_; exact (Array.getElem?_eq_some_iff.1 Z1.out).1; intro Z2) | (refine zct v2 (z := u1.heap.size) (O := .cells #[.int .i64 0, .int .i64 0] 25 (0, 0)) ?_ ?_ ?_; simp; (first | exact znew_dr | exact znew_drew | exact new_at _ _); intro Z2) | skip); clear o2 v2) | (go_at_call 75; refine (HCR.out _ _ _ _ _ (ints_below O1b.out (by repeat (first | exact Below.refl _ _ | refine below_drewN ?_ _ | refine Below.drew ?_ | refine Below.alloc ?_ (by first | omega | (simp <;> omega)) _))) (ints_below O2.out (by repeat (first | exact Below.refl _ _ | refine below_drewN ?_ _ | refine Below.drew ?_ | refine Below.alloc ?_ (by first | omega | (simp <;> omega)) _)))).mono ?_; rintro e u3 ⟨g3, c3, rfl, o3, v3⟩; have hs3 := (below_step (X := u2) (by repeat (first | exact Below.refl _ _ | refine below_drewN ?_ _ | refine Below.drew ?_ | refine Below.alloc ?_ (by first | omega | (simp <;> omega)) _)) v3).size; have BX4 := hid (box3_step BX3.out (by repeat (first | exact Below.refl _ _ | refine below_drewN ?_ _ | refine Below.drew ?_ | refine Below.alloc ?_ (by first | omega | (simp <;> omega)) _)) v3); have O3 := hid (own_ints o3); (first | (refine zct v3 ?_ Z2.out ?_; exact (Array.getElem?_eq_some_iff.1 Z2.out).1; intro Z3) | (refine zct v3 (z := u2.heap.size) (O := .cells #[.int .i64 0, .int .i64 0] 25 (0, 0)) ?_ ?_ ?_; simp; (first | exact znew_dr | exact znew_drew | exact new_at _ _); intro Z3) | skip); clear o3 v3) | (go_at_call 61; refine (HAT.out _ _ _ (ints_below O3.out (by repeat (first | exact Below.refl _ _ | refine below_drewN ?_ _ | refine Below.drew ?_ | refine Below.alloc ?_ (by first | omega | (simp <;> omega)) _)))).mono ?_; rintro e u4 ⟨rfl, v4⟩; have hs4 := (below_step (X := u3) (by repeat (first | exact Below.refl _ _ | refine below_drewN ?_ _ | refine Below.drew ?_ | refine Below.alloc ?_ (by first | omega | (simp <;> omega)) _)) v4).size; have BX5 := hid (box3_step BX4.out (by repeat (first | exact Below.refl _ _ | refine below_drewN ?_ _ | refine Below.drew ?_ | refine Below.alloc ?_ (by first | omega | (simp <;> omega)) _)) v4); obtain ⟨y0, y1, h0, h1, yl⟩ := blk2 BX5.out.2.2.1; obtain ⟨a0, a1, _, _, _⟩ := blk2 BX5.out.1; obtain ⟨b0, b1, _, _, _⟩ := blk2 BX5.out.2.1; (first | (refine zct v4 ?_ Z3.out ?_; exact (Array.getElem?_eq_some_iff.1 Z3.out).1; intro Z4) | (refine zct v4 (z := u3.heap.size) (O := .cells #[.int .i64 0, .int .i64 0] 25 (0, 0)) ?_ ?_ ?_; simp; (first | exact znew_dr | exact znew_drew | exact new_at _ _); intro Z4) | skip); (first | (revert Z4; intro Z4; obtain ⟨z0, z1, k0, k1, kl⟩ := blk2 Z4.out) | skip); clear v4))
    all_goals
      go_wp2_with (fail)
      first
        | (obtain ⟨k0, k1, E⟩ := box3_ret BX5.out q0 q1
           obtain ⟨r0, r1⟩ := ret_alloc k0 k1 (.cells #[.int .i64 q0, .int .i64 q1] 25)
           refine bodyPost_ret (v := .tuple #[.agg #[.int .i64 q0, .int .i64 q1], .int .i64 0]) ?_ rfl ⟨rfl, E.alloc E.size _⟩
           simp [results, Try.results29, go_sem, r0, r1])
        | (have BS := box3_set BX5.out (b := u3.heap.size) (by omega) (.int .i64 q0) (.int .i64 q1)
           obtain ⟨r0, r1, E⟩ := box3_ret BS q0 q1
           refine bodyPost_ret (v := .tuple #[.agg #[.int .i64 q0, .int .i64 q1], .int .i64 0]) ?_ rfl ⟨rfl, E⟩
           simp [results, Try.results29, go_sem, r0, r1])
        | (have BS := box3_set BX5.out (b := u2.heap.size) (by omega) (.int .i64 q0) (.int .i64 q1)
           obtain ⟨r0, r1, E⟩ := box3_ret BS q0 q1
           refine bodyPost_ret (v := .tuple #[.agg #[.int .i64 q0, .int .i64 q1], .int .i64 0]) ?_ rfl ⟨rfl, E⟩
           simp [results, Try.results29, go_sem, r0, r1])
        | (have BS := box3_set BX5.out (b := u1.heap.size) (by omega) (.int .i64 q0) (.int .i64 q1)
           obtain ⟨r0, r1, E⟩ := box3_ret BS q0 q1
           refine bodyPost_ret (v := .tuple #[.agg #[.int .i64 q0, .int .i64 q1], .int .i64 0]) ?_ rfl ⟨rfl, E⟩
           simp [results, Try.results29, go_sem, r0, r1])
        | (have BS := box3_set BX5.out (b := w1.heap.size) (by omega) (.int .i64 q0) (.int .i64 q1)
           obtain ⟨r0, r1, E⟩ := box3_ret BS q0 q1
           refine bodyPost_ret (v := .tuple #[.agg #[.int .i64 q0, .int .i64 q1], .int .i64 0]) ?_ rfl ⟨rfl, E⟩
           simp [results, Try.results29, go_sem, r0, r1])
        | (trace_state; sorry)
  · rw [comT_no hc]
    generalize chkC 1 [(n, d), (m, f)] = k at *
    have hk : (k != 0) = true := by simpa using hc
    go_enter Try.func29, Try.ntmps29
    go_wp2_with (fail)
    refine (HC.out _).mono ?_
    rintro e w1 ⟨rfl, b⟩
    have BX := hid (box3_below HB.out b)
    obtain ⟨z0, z1, f0, f1, zl⟩ := blk2 BX.out.2.2.1
    clear b
    go_wp2_with (fail)
    obtain ⟨r0, r1, E⟩ := box3_ret BX.out 0 0
    refine bodyPost_ret (v := .tuple #[.agg #[.int .i64 0, .int .i64 0], .int .i64 k]) (by simp [results, Try.results29, go_sem, r0, r1]) rfl ⟨rfl, E⟩

end Go.Proofs.Ytjijabfamjhdjaa
