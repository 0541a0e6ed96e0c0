/- Contracts: CommonAncestor, by the program and by the model. -/
import Derived.Test.YtjijabfamjhdjaaCml
namespace Go.Proofs.Ytjijabfamjhdjaa
open Go.RowKit

theorem below_step {X W w' : World} (h1 : Below X.heap.size X W) (h2 : Below W.heap.size W w') : Below X.heap.size X w' := h1.trans (h2.mono h1.size)
theorem box3_step {w0 X W w' : World} {n d m f : Int} (h : Box3 w0 X n d m f) (h1 : Below X.heap.size X W) (h2 : Below W.heap.size W w') : Box3 w0 w' n d m f := box3_below h (below_step h1 h2)

/-- The last fraction on both paths, and a code. -/
def comT (n d m f : Int) : Int × Int × Int := if chkC 1 [(n, d), (m, f)] = 0 then atP (cmnL (pathF n d) (pathF m f)) else (0, 0, chkC 1 [(n, d), (m, f)])
theorem comT_no {n d m f : Int} (h : chkC 1 [(n, d), (m, f)] ≠ 0) : comT n d m f = (0, 0, chkC 1 [(n, d), (m, f)]) := if_neg h
theorem comT_ok {n d m f : Int} (h : chkC 1 [(n, d), (m, f)] = 0) : comT n d m f = atP (cmnL (pathF n d) (pathF m f)) := if_pos h
theorem comT_at {n d m f : Int} (h : chkC 1 [(n, d), (m, f)] = 0) : ∃ m', okP (cmnL (pathF n d) (pathF m f)) = true ∧ fo 1 0 0 1 (cmnL (pathF n d) (pathF m f)) = some m' := by
  obtain ⟨h1, h2, h3, h4⟩ := chk2_zero h
  obtain ⟨ma, ha, _⟩ := path_fo h1 h3
  obtain ⟨mb, hb, _⟩ := path_fo h2 h4
  obtain ⟨e1, m', e2⟩ := cmn_fo (path_ok h1 h3) (path_ok h2 h4) ha hb
  exact ⟨m', e1, e2⟩

set_option maxRecDepth 100000 in
set_option maxHeartbeats 12000000 in
theorem implCan (n d m f : Int) (w : World) :
    Calls Try.prog 28 #[.agg #[.int .i64 n, .int .i64 d], .agg #[.int .i64 m, .int .i64 f]] w fun e w' => e = .returned (tv (comT n d m f)) ∧ Below w.heap.size w w' := by
  have HC := hid (chk2At 1 n d m f w)
  unfold tv
  by_cases hc : chkC 1 [(n, d), (m, f)] = 0
  · obtain ⟨ho1, ho2, hn, hm⟩ := chk2_zero hc
    rw [hc] at HC
    rw [comT_ok hc]
    obtain ⟨_, hok, _⟩ := comT_at hc
    have hl := okP_len hok
    have hl1 := okP_len (path_ok ho1 hn)
    have hl2 := okP_len (path_ok ho2 hm)
    have HR1 := hid (fun w => implRunsTo n d w ho1)
    have HR2 := hid (fun w => implRunsTo m f w ho2)
    have HCR := hid (fun (ga ca gb cb : Nat) (w : World) (h1 : (pathF n d).length ≤ ca) (h2 : Ints w ga 0 (pathF n d)) (h3 : Ints w gb 0 (pathF m f)) => implCommonRuns ga ca gb cb (pathF n d) (pathF m f) w hl1 hl2 h1 h2 h3)
    have HAT := hid (fun (g c : Nat) (w : World) (h1 : (cmnL (pathF n d) (pathF m f)).length ≤ c) (h2 : Ints w g 0 (cmnL (pathF n d) (pathF m f))) => implAt g c (cmnL (pathF n d) (pathF m f)) w (by omega) h1 h2)
    unfold tv at HAT
    clear hc ho1 ho2 hn hm hok hl hl1 hl2
    generalize atP (cmnL (pathF n d) (pathF m f)) = R at *
    obtain ⟨q0, q1, q2⟩ := R
    dsimp only at HAT ⊢
    generalize cmnL (pathF n d) (pathF m f) = zs at *
    generalize pathF n d = xs at *
    generalize pathF m f = ys at *
    go_enter Try.func28, Try.ntmps28
    go_wp2_with (fail)
    refine HC.out.mono ?_
    rintro e w1 ⟨rfl, bx⟩
    have BX := hid bx
    obtain ⟨a0, a1, _, _, _⟩ := blk2 bx.1
    obtain ⟨b0, b1, _, _, _⟩ := blk2 bx.2.1
    clear bx
    go_wp2_with (fail)
    go_region_with (first | (go_at_call_of 48 (Value.agg #[Value.int .i64 n, Value.int .i64 d]); refine (HR1.out _).mono ?_; rintro e u1 ⟨g1, c1, rfl, o1, v1⟩; have BX2 := hid (box3_step BX.out (by repeat (first | exact Below.refl _ _ | refine below_drewN ?_ _ | refine Below.drew ?_ | refine Below.alloc ?_ (by first | omega | (simp <;> omega)) _)) v1); obtain ⟨a0, a1, _, _, _⟩ := blk2 BX2.out.1; obtain ⟨b0, b1, _, _, _⟩ := blk2 BX2.out.2.1; have O1 := hid (own_ints o1); have C1 := hid (own_cap o1); clear o1 v1) | (go_at_call_of 48 (Value.agg #[Value.int .i64 m, Value.int .i64 f]); refine (HR2.out _).mono ?_; rintro e u2 ⟨g2, c2, rfl, o2, v2⟩; have BX3 := hid (box3_step BX2.out (by repeat (first | exact Below.refl _ _ | refine below_drewN ?_ _ | refine Below.drew ?_ | refine Below.alloc ?_ (by first | omega | (simp <;> omega)) _)) v2); have O1b := hid (ints_below O1.out (below_step (by repeat (first | exact Below.refl _ _ | refine below_drewN ?_ _ | refine Below.drew ?_ | refine Below.alloc ?_ (by first | omega | (simp <;> omega)) _)) v2)); have O2 := hid (own_ints o2); clear o2 v2) | (go_at_call 73; refine (HCR.out _ _ _ _ _ C1.out (ints_below O1b.out (by repeat (first | exact Below.refl _ _ | refine below_drewN ?_ _ | refine Below.drew ?_ | refine Below.alloc ?_ (by first | omega | (simp <;> omega)) _))) (ints_below O2.out (by repeat (first | exact Below.refl _ _ | refine below_drewN ?_ _ | refine Below.drew ?_ | refine Below.alloc ?_ (by first | omega | (simp <;> omega)) _)))).mono ?_; rintro e u3 ⟨g3, c3, rfl, o3, v3⟩; have BX4 := hid (box3_step BX3.out (by repeat (first | exact Below.refl _ _ | refine below_drewN ?_ _ | refine Below.drew ?_ | refine Below.alloc ?_ (by first | omega | (simp <;> omega)) _)) v3); have O3 := hid (own_ints o3); have C3 := hid (own_cap o3); clear o3 v3) | (go_at_call 19; refine (HAT.out _ _ _ C3.out (ints_below O3.out (by repeat (first | exact Below.refl _ _ | refine below_drewN ?_ _ | refine Below.drew ?_ | refine Below.alloc ?_ (by first | omega | (simp <;> omega)) _)))).mono ?_; rintro e u4 ⟨rfl, v4⟩; have BX5 := hid (box3_step BX4.out (by repeat (first | exact Below.refl _ _ | refine below_drewN ?_ _ | refine Below.drew ?_ | refine Below.alloc ?_ (by first | omega | (simp <;> omega)) _)) v4); obtain ⟨z0, z1, f0, f1, zl⟩ := blk2 BX5.out.2.2.1; clear v4))
    all_goals
      go_wp2_with (fail)
      obtain ⟨r0, r1, E⟩ := box3_ret BX5.out q0 q1
      refine bodyPost_ret (v := .tuple #[.agg #[.int .i64 q0, .int .i64 q1], .int .i64 q2]) (by simp [results, Try.results28, go_sem, r0, r1]) rfl ⟨rfl, E⟩
  · rw [comT_no hc]
    generalize chkC 1 [(n, d), (m, f)] = k at *
    have hk : (k != 0) = true := by simpa using hc
    go_enter Try.func28, Try.ntmps28
    go_wp2_with (fail)
    refine HC.out.mono ?_
    rintro e w1 ⟨rfl, bx⟩
    have BX := hid bx
    obtain ⟨z0, z1, f0, f1, zl⟩ := blk2 bx.2.2.1
    clear bx
    go_wp2_with (fail)
    obtain ⟨r0, r1, E⟩ := box3_ret BX.out 0 0
    refine bodyPost_ret (v := .tuple #[.agg #[.int .i64 0, .int .i64 0], .int .i64 k]) (by simp [results, Try.results28, go_sem, r0, r1]) rfl ⟨rfl, E⟩

end Go.Proofs.Ytjijabfamjhdjaa
