/- Contract: IsAncestor, by the model. -/
import Derived.Test.YtjijabfamjhdjaaCat
import Derived.Test.YtjijabfamjhdjaaIsa
namespace Go.Proofs.Ytjijabfamjhdjaa
open Go.RowKit

/-- Both arguments in their blocks. -/
def BoxA (w0 w : World) (n d m f : Int) : Prop := w.heap[w0.heap.size]? = some (.cells #[.int .i64 n, .int .i64 d] 25 (0, 0)) ∧ w.heap[w0.heap.size + 1]? = some (.cells #[.int .i64 m, .int .i64 f] 25 (0, 0)) ∧ Below w0.heap.size w0 w
theorem boxa_below {w0 w w' : World} {n d m f : Int} (h : BoxA w0 w n d m f) (hb : Below w.heap.size w w') : BoxA w0 w' n d m f := by
  obtain ⟨h1, h2, h4⟩ := h
  exact ⟨(hb.block _ (Array.getElem?_eq_some_iff.1 h1).1).trans h1, (hb.block _ (Array.getElem?_eq_some_iff.1 h2).1).trans h2, h4.trans (hb.mono h4.size)⟩
theorem boxa_step {w0 X W w' : World} {n d m f : Int} (h : BoxA w0 X n d m f) (h1 : Below X.heap.size X W) (h2 : Below W.heap.size W w') : BoxA w0 w' n d m f := boxa_below h (below_step h1 h2)

set_option maxRecDepth 100000 in
set_option maxHeartbeats 40000000 in
theorem specIsa (n d m f : Int) (w : World) :
    Calls Try.prog 32 #[.agg #[.int .i64 n, .int .i64 d], .agg #[.int .i64 m, .int .i64 f]] w fun e w' => e = .returned (.tuple #[.bool (isaT n d m f).1, .int .i64 (isaT n d m f).2]) ∧ Below w.heap.size w w' := by
  have HB := hid (show BoxA w _ n d m f from new_two w (.cells #[.int .i64 n, .int .i64 d] 25) (.cells #[.int .i64 m, .int .i64 f] 25))
  have HC := hid (fun w => specTwoP n d m f w)
  by_cases hc : chkC 1 [(n, d), (m, f)] = 0
  · obtain ⟨ho1, ho2, hn, hm⟩ := chk2_zero hc
    rw [hc] at HC
    obtain ⟨m', hok, hfo⟩ := comT_at hc
    rw [isaT_ok hc, comT_ok hc, atP_ok hok hfo]
    have HR1 := hid (fun w => specPathL n d w ho1 hn)
    have HR2 := hid (fun w => specPathL m f w ho2 hm)
    have hp1 := path_ok ho1 hn
    have hp2 := path_ok ho2 hm
    have HCR := hid (fun (ga ca gb cb : Nat) (w : World) (h2 : Ints w ga 0 (pathF n d)) (h3 : Ints w gb 0 (pathF m f)) => specCommonL ga ca gb cb (pathF n d) (pathF m f) w hp1 hp2 h2 h3)
    have HAT := hid (fun (g c : Nat) (w : World) (h2 : Ints w g 0 (cmnL (pathF n d) (pathF m f))) => specAt g c (cmnL (pathF n d) (pathF m f)) w hok h2)
    rw [hfo] at HAT
    dsimp only [atB] at HAT
    clear hc ho1 ho2 hn hm hok hp1 hp2 hfo
    generalize mid m' = q at *
    obtain ⟨q0, q1⟩ := q
    dsimp only at HAT ⊢
    generalize cmnL (pathF n d) (pathF m f) = zs at *
    generalize pathF n d = xs at *
    generalize pathF m f = ys at *
    have HQ := hid (show isaB q0 q1 n d m f = (((q0 == n) && (q1 == d)) && !((n == m) && (d == f))) from rfl)
    obtain ⟨B, hB⟩ : ∃ B, B = isaB q0 q1 n d m f := ⟨_, rfl⟩
    rw [← hB] at HQ ⊢
    clear hB
    go_enter Try.func32, Try.ntmps32
    go_wp2_with (fail)
    refine (HC.out _).mono ?_
    rintro e w1 ⟨rfl, b⟩
    have BX := hid (boxa_below HB.out b)
    obtain ⟨a0, a1, _, _, _⟩ := blk2 BX.out.1
    obtain ⟨b0, b1, _, _, l1⟩ := blk2 BX.out.2.1
    have hw1 : w.heap.size + 1 < w1.heap.size := l1
    clear b
    go_wp2_with (fail)
    go_region_with (first | (go_at_call_of 50 (Value.agg #[Value.int .i64 n, Value.int .i64 d]); refine (HR1.out _).mono ?_; rintro e u1 ⟨g1, c1, rfl, o1, v1⟩; have hs1 := (below_step (X := w1) (by repeat (first | exact Below.refl _ _ | refine below_drewN ?_ _ | refine Below.drew ?_ | refine Below.alloc ?_ (by first | omega | (simp <;> omega)) _)) v1).size; have BX2 := hid (boxa_step BX.out (by repeat (first | exact Below.refl _ _ | refine below_drewN ?_ _ | refine Below.drew ?_ | refine Below.alloc ?_ (by first | omega | (simp <;> omega)) _)) v1); obtain ⟨a0, a1, _, _, _⟩ := blk2 BX2.out.1; obtain ⟨b0, b1, _, _, _⟩ := blk2 BX2.out.2.1; have O1 := hid (own_ints o1); (first | (refine zct v1 (z := w1.heap.size) (O := .cells #[.int .i64 0, .int .i64 0] 25 (0, 0)) ?_ ?_ ?_; simp; (first | exact znew_dr | exact znew_drew | exact new_at _ _); intro Z1) | skip); clear o1 v1) | (go_at_call_of 50 (Value.agg #[Value.int .i64 m, Value.int .i64 f]); refine (HR2.out _).mono ?_; rintro e u2 ⟨g2, c2, rfl, o2, v2⟩; have hs2 := (below_step (X := u1) (by repeat (first | exact Below.refl _ _ | refine below_drewN ?_ _ | refine Below.drew ?_ | refine Below.alloc ?_ (by first | omega | (simp <;> omega)) _)) v2).size; have BX3 := hid (boxa_step BX2.out (by repeat (first | exact Below.refl _ _ | refine below_drewN ?_ _ | refine Below.drew ?_ | refine Below.alloc ?_ (by first | omega | (simp <;> omega)) _)) v2); have O1b := hid (ints_below O1.out (below_step (by repeat (first | exact Below.refl _ _ | refine below_drewN ?_ _ | refine Below.drew ?_ | refine Below.alloc ?_ (by first | omega | (simp <;> omega)) _)) v2)); have O2 := hid (own_ints o2); (first | (refine zct v2 ?_ Z1.out ?_; exact (Array.getElem?_eq_some_iff.1 Z1.out).1; intro Z2) | (refine zct v2 (z := u1.heap.size) (O := .cells #[.int .i64 0, .int .i64 0] 25 (0, 0)) ?_ ?_ ?_; simp; (first | exact znew_dr | exact znew_drew | exact new_at _ _); intro Z2) | skip); clear o2 v2) | (go_at_call 75; refine (HCR.out _ _ _ _ _ (ints_below O1b.out (by repeat (first | exact Below.refl _ _ | refine below_drewN ?_ _ | refine Below.drew ?_ | refine Below.alloc ?_ (by first | omega | (simp <;> omega)) _))) (ints_below O2.out (by repeat (first | exact Below.refl _ _ | refine below_drewN ?_ _ | refine Below.drew ?_ | refine Below.alloc ?_ (by first | omega | (simp <;> omega)) _)))).mono ?_; rintro e u3 ⟨g3, c3, rfl, o3, v3⟩; have hs3 := (below_step (X := u2) (by repeat (first | exact Below.refl _ _ | refine below_drewN ?_ _ | refine Below.drew ?_ | refine Below.alloc ?_ (by first | omega | (simp <;> omega)) _)) v3).size; have BX4 := hid (boxa_step BX3.out (by repeat (first | exact Below.refl _ _ | refine below_drewN ?_ _ | refine Below.drew ?_ | refine Below.alloc ?_ (by first | omega | (simp <;> omega)) _)) v3); have O3 := hid (own_ints o3); (first | (refine zct v3 ?_ Z2.out ?_; exact (Array.getElem?_eq_some_iff.1 Z2.out).1; intro Z3) | (refine zct v3 (z := u2.heap.size) (O := .cells #[.int .i64 0, .int .i64 0] 25 (0, 0)) ?_ ?_ ?_; simp; (first | exact znew_dr | exact znew_drew | exact new_at _ _); intro Z3) | skip); clear o3 v3) | (go_at_call 61; refine (HAT.out _ _ _ (ints_below O3.out (by repeat (first | exact Below.refl _ _ | refine below_drewN ?_ _ | refine Below.drew ?_ | refine Below.alloc ?_ (by first | omega | (simp <;> omega)) _)))).mono ?_; rintro e u4 ⟨rfl, v4⟩; have hs4 := (below_step (X := u3) (by repeat (first | exact Below.refl _ _ | refine below_drewN ?_ _ | refine Below.drew ?_ | refine Below.alloc ?_ (by first | omega | (simp <;> omega)) _)) v4).size; have BX5 := hid (boxa_step BX4.out (by repeat (first | exact Below.refl _ _ | refine below_drewN ?_ _ | refine Below.drew ?_ | refine Below.alloc ?_ (by first | omega | (simp <;> omega)) _)) v4); obtain ⟨a0, a1, _, _, al⟩ := blk2 BX5.out.1; obtain ⟨b0, b1, _, _, bl⟩ := blk2 BX5.out.2.1; (first | (refine zct v4 ?_ Z3.out ?_; exact (Array.getElem?_eq_some_iff.1 Z3.out).1; intro Z4) | (refine zct v4 (z := u3.heap.size) (O := .cells #[.int .i64 0, .int .i64 0] 25 (0, 0)) ?_ ?_ ?_; simp; (first | exact znew_dr | exact znew_drew | exact new_at _ _); intro Z4) | skip); (first | (revert Z4; intro Z4; obtain ⟨z0, z1, k0, k1, kl⟩ := blk2 Z4.out) | skip); clear v4))
    all_goals
      cases p0 : q0 == n
      · have HR := hid (show B = false by rw [HQ.out, p0]; rfl)
        clear HQ
        go_wp2_with (fail)
        go_ret2
        exact ⟨by rw [HR.out] <;> rfl, by repeat (first | exact BX5.out.2.2 | refine below_drewN ?_ _ | refine Below.drew ?_ | refine below_set ?_ (by omega) _ | refine Below.alloc ?_ BX5.out.2.2.size _)⟩
      cases p1 : q1 == d
      · have HR := hid (show B = false by rw [HQ.out, p0, p1]; rfl)
        clear HQ
        go_wp2_with (fail)
        go_ret2
        exact ⟨by rw [HR.out] <;> rfl, by repeat (first | exact BX5.out.2.2 | refine below_drewN ?_ _ | refine Below.drew ?_ | refine below_set ?_ (by omega) _ | refine Below.alloc ?_ BX5.out.2.2.size _)⟩
      cases p2 : n == m
      · have HR := hid (show B = true by rw [HQ.out, p0, p1, p2]; rfl)
        clear HQ
        go_wp2_with (fail)
        go_ret2
        exact ⟨by rw [HR.out] <;> rfl, by repeat (first | exact BX5.out.2.2 | refine below_drewN ?_ _ | refine Below.drew ?_ | refine below_set ?_ (by omega) _ | refine Below.alloc ?_ BX5.out.2.2.size _)⟩
      cases p3 : d == f
      · have HR := hid (show B = true by rw [HQ.out, p0, p1, p2, p3]; rfl)
        clear HQ
        go_wp2_with (fail)
        go_ret2
        exact ⟨by rw [HR.out] <;> rfl, by repeat (first | exact BX5.out.2.2 | refine below_drewN ?_ _ | refine Below.drew ?_ | refine below_set ?_ (by omega) _ | refine Below.alloc ?_ BX5.out.2.2.size _)⟩
      · have HR := hid (show B = false by rw [HQ.out, p0, p1, p2, p3]; rfl)
        clear HQ
        go_wp2_with (fail)
        go_ret2
        exact ⟨by rw [HR.out] <;> rfl, by repeat (first | exact BX5.out.2.2 | refine below_drewN ?_ _ | refine Below.drew ?_ | refine below_set ?_ (by omega) _ | refine Below.alloc ?_ BX5.out.2.2.size _)⟩
  · rw [isaT_no hc]
    generalize chkC 1 [(n, d), (m, f)] = k at *
    have hk : (k != 0) = true := by simpa using hc
    go_enter Try.func32, Try.ntmps32
    go_wp2_with (fail)
    refine (HC.out _).mono ?_
    rintro e w1 ⟨rfl, b⟩
    have BX := hid (boxa_below HB.out b)
    clear b
    go_wp2_with (fail)
    go_ret2
    exact ⟨rfl, BX.out.2.2⟩

end Go.Proofs.Ytjijabfamjhdjaa
