/- Contracts: the elements next to a fraction, by the program and by the model. -/
import Derived.Test.YthfogmaefhfkoaaNx
namespace Go.Proofs.Ythfogmaefhfkoaa
open Go.RowKit

/-- The next element, and a code. -/
def nxfT (o n d : Int) : Int × Int × Int := if code6 10000 o n d = 0 then (if n = d then (0, 0, 3) else ((nxt n d o.toNat).1, (nxt n d o.toNat).2, 0)) else (0, 0, code6 10000 o n d)
theorem nxfT_no {o n d : Int} (h : code6 10000 o n d ≠ 0) : nxfT o n d = (0, 0, code6 10000 o n d) := if_neg h
theorem nxfT_top {o n d : Int} (h : code6 10000 o n d = 0) (h2 : n = d) : nxfT o n d = (0, 0, 3) := by unfold nxfT; rw [if_pos h, if_pos h2]
theorem nxfT_ok {o n d : Int} (h : code6 10000 o n d = 0) (h2 : n ≠ d) : nxfT o n d = ((nxt n d o.toNat).1, (nxt n d o.toNat).2, 0) := by unfold nxfT; rw [if_pos h, if_neg h2]
/-- The element before, and a code. -/
def bffT (o n d : Int) : Int × Int × Int := if code6 10000 o n d = 0 then (if n = 0 then (0, 0, 3) else ((nxt (d - n) d o.toNat).2 - (nxt (d - n) d o.toNat).1, (nxt (d - n) d o.toNat).2, 0)) else (0, 0, code6 10000 o n d)
theorem bffT_no {o n d : Int} (h : code6 10000 o n d ≠ 0) : bffT o n d = (0, 0, code6 10000 o n d) := if_neg h
theorem bffT_top {o n d : Int} (h : code6 10000 o n d = 0) (h2 : n = 0) : bffT o n d = (0, 0, 3) := by unfold bffT; rw [if_pos h, if_pos h2]
theorem bffT_ok {o n d : Int} (h : code6 10000 o n d = 0) (h2 : n ≠ 0) : bffT o n d = ((nxt (d - n) d o.toNat).2 - (nxt (d - n) d o.toNat).1, (nxt (d - n) d o.toNat).2, 0) := by unfold bffT; rw [if_pos h, if_neg h2]

theorem implMir (n d : Int) (w : World) (h0 : -2000000000 ≤ n) (h1 : n ≤ 2000000000) (h2 : 0 ≤ d) (h3 : d ≤ 2000000000) :
    Calls Try.prog 118 #[.agg #[.int .i64 n, .int .i64 d]] w fun e w' => e = .returned (.agg #[.int .i64 (d - n), .int .i64 d]) ∧ Below w.heap.size w w' := by
  have HB := hid (bo2_new w n d)
  obtain ⟨z0, z1, f0, f1, zl⟩ := bk2 HB.out.2.1
  go_enter Try.func118, Try.ntmps118
  go_wp2_with (fail)
  refine bodyPost_ret (v := .agg #[.int .i64 (d - n), .int .i64 d]) (by simp [results, Try.results118, go_sem]) rfl ⟨rfl, alloc2 _ _ _⟩

theorem specMir (n d : Int) (w : World) (h0 : -2000000000 ≤ n) (h1 : n ≤ 2000000000) (h2 : 0 ≤ d) (h3 : d ≤ 2000000000) :
    Calls Try.prog 119 #[.agg #[.int .i64 n, .int .i64 d]] w fun e w' => e = .returned (.agg #[.int .i64 (d - n), .int .i64 d]) ∧ Below w.heap.size w w' := by
  have HB := hid (bo2_new w n d)
  obtain ⟨z0, z1, f0, f1, zl⟩ := bk2 HB.out.2.1
  go_enter Try.func119, Try.ntmps119
  go_wp2_with (fail)
  refine bodyPost_ret (v := .agg #[.int .i64 (d - n), .int .i64 d]) (by simp [results, Try.results119, go_sem]) rfl ⟨rfl, alloc2 _ _ _⟩

set_option maxHeartbeats 1600000 in
theorem implNxf (o n d : Int) (w : World) :
    Calls Try.prog 50 #[.int .i64 o, .agg #[.int .i64 n, .int .i64 d]] w fun e w' => e = .returned (tv (nxfT o n d)) ∧ Below w.heap.size w w' := by
  have HB := hid (bo2_new w n d)
  have HC := hid (fun w => implChF 10000 o n d w)
  unfold tv
  by_cases hc : code6 10000 o n d = 0
  case neg =>
    rw [nxfT_no hc]
    generalize code6 10000 o n d = k at *
    have hk : (k != 0) = true := by simpa using hc
    go_enter Try.func50, Try.ntmps50
    go_wp2_with (fail)
    refine (HC.out _).mono ?_
    rintro e w1 ⟨rfl, b1⟩
    have BX1 := hid (bo2_below HB.out b1)
    clear b1
    obtain ⟨k0, k1, _, _, _⟩ := bk2 BX1.out.1
    obtain ⟨z0, z1, g0, g1, zl⟩ := bk2 BX1.out.2.1
    go_wp2_with (fail)
    obtain ⟨r0, r1, E⟩ := bo2_ret BX1.out 0 0
    refine bodyPost_ret (v := .tuple #[.agg #[.int .i64 0, .int .i64 0], .int .i64 k]) (by simp [results, Try.results50, go_sem, r0, r1]) rfl ⟨rfl, E⟩
  obtain ⟨ho, ⟨o1, o2⟩, ⟨n1, n2⟩⟩ := code6_zero hc
  obtain ⟨d1, d2, _, _⟩ := ok_bounds ho
  rw [hc] at HC
  by_cases hn : n = d
  case pos =>
    rw [nxfT_top hc hn]
    subst hn
    clear hc ho
    go_enter Try.func50, Try.ntmps50
    go_wp2_with (fail)
    refine (HC.out _).mono ?_
    rintro e w1 ⟨rfl, b1⟩
    have BX1 := hid (bo2_below HB.out b1)
    clear b1
    obtain ⟨k0, k1, _, _, _⟩ := bk2 BX1.out.1
    obtain ⟨z0, z1, g0, g1, zl⟩ := bk2 BX1.out.2.1
    go_wp2_with (fail)
    obtain ⟨r0, r1, E⟩ := bo2_ret BX1.out 0 0
    refine bodyPost_ret (v := .tuple #[.agg #[.int .i64 0, .int .i64 0], .int .i64 3]) (by simp [results, Try.results50, go_sem, r0, r1]) rfl ⟨rfl, E⟩
  rw [nxfT_ok hc hn]
  have HN := hid (fun w => implNx o n d w o1 o2 n1 (by omega) d1 d2)
  generalize nxt n d o.toNat = q at *
  obtain ⟨q0, q1⟩ := q
  dsimp only at HN ⊢
  have hne : (n == d) = false := by simpa using hn
  clear hc ho hn
  go_enter Try.func50, Try.ntmps50
  go_wp2_with (fail)
  refine (HC.out _).mono ?_
  rintro e w1 ⟨rfl, b1⟩
  have BX1 := hid (bo2_below HB.out b1)
  clear b1
  obtain ⟨k0, k1, _, _, _⟩ := bk2 BX1.out.1
  obtain ⟨z0, z1, g0, g1, zl⟩ := bk2 BX1.out.2.1
  go_wp2_with (fail)
  refine (HN.out _).mono ?_
  rintro e w2 ⟨rfl, b2⟩
  have BX2 := hid (bo2_below BX1.out b2)
  clear b2
  obtain ⟨z0, z1, g0, g1, zl⟩ := bk2 BX2.out.2.1
  go_wp2_with (fail)
  obtain ⟨r0, r1, E⟩ := bo2_ret BX2.out q0 q1
  refine bodyPost_ret (v := .tuple #[.agg #[.int .i64 q0, .int .i64 q1], .int .i64 0]) (by simp [results, Try.results50, go_sem, r0, r1]) rfl ⟨rfl, E⟩

set_option maxHeartbeats 1600000 in
theorem specNxf (o n d : Int) (w : World) :
    Calls Try.prog 51 #[.int .i64 o, .agg #[.int .i64 n, .int .i64 d]] w fun e w' => e = .returned (tv (nxfT o n d)) ∧ Below w.heap.size w w' := by
  have HB := hid (bo2_new w n d)
  have HC := hid (fun w => specC6 o n d w)
  unfold tv
  by_cases hc : code6 10000 o n d = 0
  case neg =>
    rw [nxfT_no hc]
    generalize code6 10000 o n d = k at *
    have hk : (k != 0) = true := by simpa using hc
    go_enter Try.func51, Try.ntmps51
    go_wp2_with (fail)
    refine (HC.out _).mono ?_
    rintro e w1 ⟨rfl, b1⟩
    have BX1 := hid (bo2_below HB.out b1)
    clear b1
    obtain ⟨k0, k1, _, _, _⟩ := bk2 BX1.out.1
    obtain ⟨z0, z1, g0, g1, zl⟩ := bk2 BX1.out.2.1
    go_wp2_with (fail)
    obtain ⟨r0, r1, E⟩ := bo2_ret BX1.out 0 0
    refine bodyPost_ret (v := .tuple #[.agg #[.int .i64 0, .int .i64 0], .int .i64 k]) (by simp [results, Try.results51, go_sem, r0, r1]) rfl ⟨rfl, E⟩
  obtain ⟨ho, ⟨o1, o2⟩, ⟨n1, n2⟩⟩ := code6_zero hc
  obtain ⟨d1, d2, _, _⟩ := ok_bounds ho
  rw [hc] at HC
  by_cases hn : n = d
  case pos =>
    rw [nxfT_top hc hn]
    subst hn
    clear hc ho
    go_enter Try.func51, Try.ntmps51
    go_wp2_with (fail)
    refine (HC.out _).mono ?_
    rintro e w1 ⟨rfl, b1⟩
    have BX1 := hid (bo2_below HB.out b1)
    clear b1
    obtain ⟨k0, k1, _, _, _⟩ := bk2 BX1.out.1
    obtain ⟨z0, z1, g0, g1, zl⟩ := bk2 BX1.out.2.1
    go_wp2_with (fail)
    obtain ⟨r0, r1, E⟩ := bo2_ret BX1.out 0 0
    refine bodyPost_ret (v := .tuple #[.agg #[.int .i64 0, .int .i64 0], .int .i64 3]) (by simp [results, Try.results51, go_sem, r0, r1]) rfl ⟨rfl, E⟩
  rw [nxfT_ok hc hn]
  have HN := hid (fun w => specNx o n d w o1 o2 n1 (by omega) d1 d2)
  generalize nxt n d o.toNat = q at *
  obtain ⟨q0, q1⟩ := q
  dsimp only at HN ⊢
  have hne : (n == d) = false := by simpa using hn
  clear hc ho hn
  go_enter Try.func51, Try.ntmps51
  go_wp2_with (fail)
  refine (HC.out _).mono ?_
  rintro e w1 ⟨rfl, b1⟩
  have BX1 := hid (bo2_below HB.out b1)
  clear b1
  obtain ⟨k0, k1, _, _, _⟩ := bk2 BX1.out.1
  obtain ⟨z0, z1, g0, g1, zl⟩ := bk2 BX1.out.2.1
  go_wp2_with (fail)
  refine (HN.out _).mono ?_
  rintro e w2 ⟨rfl, b2⟩
  have BX2 := hid (bo2_below BX1.out b2)
  clear b2
  obtain ⟨z0, z1, g0, g1, zl⟩ := bk2 BX2.out.2.1
  go_wp2_with (fail)
  obtain ⟨r0, r1, E⟩ := bo2_ret BX2.out q0 q1
  refine bodyPost_ret (v := .tuple #[.agg #[.int .i64 q0, .int .i64 q1], .int .i64 0]) (by simp [results, Try.results51, go_sem, r0, r1]) rfl ⟨rfl, E⟩

set_option maxHeartbeats 1600000 in
theorem implBff (o n d : Int) (w : World) :
    Calls Try.prog 52 #[.int .i64 o, .agg #[.int .i64 n, .int .i64 d]] w fun e w' => e = .returned (tv (bffT o n d)) ∧ Below w.heap.size w w' := by
  have HB := hid (bo2_new w n d)
  have HC := hid (fun w => implChF 10000 o n d w)
  unfold tv
  by_cases hc : code6 10000 o n d = 0
  case neg =>
    rw [bffT_no hc]
    generalize code6 10000 o n d = k at *
    have hk : (k != 0) = true := by simpa using hc
    go_enter Try.func52, Try.ntmps52
    go_wp2_with (fail)
    refine (HC.out _).mono ?_
    rintro e w1 ⟨rfl, b1⟩
    have BX1 := hid (bo2_below HB.out b1)
    clear b1
    obtain ⟨k0, k1, _, _, _⟩ := bk2 BX1.out.1
    obtain ⟨z0, z1, g0, g1, zl⟩ := bk2 BX1.out.2.1
    go_wp2_with (fail)
    obtain ⟨r0, r1, E⟩ := bo2_ret BX1.out 0 0
    refine bodyPost_ret (v := .tuple #[.agg #[.int .i64 0, .int .i64 0], .int .i64 k]) (by simp [results, Try.results52, go_sem, r0, r1]) rfl ⟨rfl, E⟩
  obtain ⟨ho, ⟨o1, o2⟩, ⟨n1, n2⟩⟩ := code6_zero hc
  obtain ⟨d1, d2, _, _⟩ := ok_bounds ho
  rw [hc] at HC
  by_cases hn : n = 0
  case pos =>
    rw [bffT_top hc hn]
    subst hn
    clear hc ho
    go_enter Try.func52, Try.ntmps52
    go_wp2_with (fail)
    refine (HC.out _).mono ?_
    rintro e w1 ⟨rfl, b1⟩
    have BX1 := hid (bo2_below HB.out b1)
    clear b1
    obtain ⟨k0, k1, _, _, _⟩ := bk2 BX1.out.1
    obtain ⟨z0, z1, g0, g1, zl⟩ := bk2 BX1.out.2.1
    go_wp2_with (fail)
    obtain ⟨r0, r1, E⟩ := bo2_ret BX1.out 0 0
    refine bodyPost_ret (v := .tuple #[.agg #[.int .i64 0, .int .i64 0], .int .i64 3]) (by simp [results, Try.results52, go_sem, r0, r1]) rfl ⟨rfl, E⟩
  rw [bffT_ok hc hn]
  have HN := hid (fun w => implNx o (d - n) d w o1 o2 (by omega) (by omega) d1 d2)
  have hq := nxt_bd (n := d - n) (d := d) (by omega) (by omega) d1 o.toNat
  have HM1 := hid (fun w => implMir n d w (by omega) (by omega) (by omega) (by omega))
  generalize nxt (d - n) d o.toNat = q at *
  obtain ⟨q0, q1⟩ := q
  dsimp only at HN hq ⊢
  have HM2 := hid (fun w => implMir q0 q1 w (by omega) (by omega) (by omega) (by omega))
  have hne : (n == 0) = false := by simpa using hn
  clear hc ho hn hq
  generalize d - n = m at *
  go_enter Try.func52, Try.ntmps52
  go_wp2_with (fail)
  refine (HC.out _).mono ?_
  rintro e w1 ⟨rfl, b1⟩
  have BX1 := hid (bo2_below HB.out b1)
  clear b1
  obtain ⟨k0, k1, _, _, _⟩ := bk2 BX1.out.1
  obtain ⟨z0, z1, g0, g1, zl⟩ := bk2 BX1.out.2.1
  go_wp2_with (fail)
  refine (HM1.out _).mono ?_
  rintro e w2 ⟨rfl, b2⟩
  have BX2 := hid (bo2_below BX1.out b2)
  clear b2
  go_wp2_with (fail)
  refine (HN.out _).mono ?_
  rintro e w3 ⟨rfl, b3⟩
  have BX3 := hid (bo2_below BX2.out b3)
  clear b3
  go_wp2_with (fail)
  refine (HM2.out _).mono ?_
  rintro e w4 ⟨rfl, b4⟩
  have BX4 := hid (bo2_below BX3.out b4)
  clear b4
  obtain ⟨z0, z1, g0, g1, zl⟩ := bk2 BX4.out.2.1
  go_wp2_with (fail)
  obtain ⟨r0, r1, E⟩ := bo2_ret BX4.out (q1 - q0) q1
  refine bodyPost_ret (v := .tuple #[.agg #[.int .i64 (q1 - q0), .int .i64 q1], .int .i64 0]) (by simp [results, Try.results52, go_sem, r0, r1]) rfl ⟨rfl, E⟩

set_option maxHeartbeats 1600000 in
theorem specBff (o n d : Int) (w : World) :
    Calls Try.prog 53 #[.int .i64 o, .agg #[.int .i64 n, .int .i64 d]] w fun e w' => e = .returned (tv (bffT o n d)) ∧ Below w.heap.size w w' := by
  have HB := hid (bo2_new w n d)
  have HC := hid (fun w => specC6 o n d w)
  unfold tv
  by_cases hc : code6 10000 o n d = 0
  case neg =>
    rw [bffT_no hc]
    generalize code6 10000 o n d = k at *
    have hk : (k != 0) = true := by simpa using hc
    go_enter Try.func53, Try.ntmps53
    go_wp2_with (fail)
    refine (HC.out _).mono ?_
    rintro e w1 ⟨rfl, b1⟩
    have BX1 := hid (bo2_below HB.out b1)
    clear b1
    obtain ⟨k0, k1, _, _, _⟩ := bk2 BX1.out.1
    obtain ⟨z0, z1, g0, g1, zl⟩ := bk2 BX1.out.2.1
    go_wp2_with (fail)
    obtain ⟨r0, r1, E⟩ := bo2_ret BX1.out 0 0
    refine bodyPost_ret (v := .tuple #[.agg #[.int .i64 0, .int .i64 0], .int .i64 k]) (by simp [results, Try.results53, go_sem, r0, r1]) rfl ⟨rfl, E⟩
  obtain ⟨ho, ⟨o1, o2⟩, ⟨n1, n2⟩⟩ := code6_zero hc
  obtain ⟨d1, d2, _, _⟩ := ok_bounds ho
  rw [hc] at HC
  by_cases hn : n = 0
  case pos =>
    rw [bffT_top hc hn]
    subst hn
    clear hc ho
    go_enter Try.func53, Try.ntmps53
    go_wp2_with (fail)
    refine (HC.out _).mono ?_
    rintro e w1 ⟨rfl, b1⟩
    have BX1 := hid (bo2_below HB.out b1)
    clear b1
    obtain ⟨k0, k1, _, _, _⟩ := bk2 BX1.out.1
    obtain ⟨z0, z1, g0, g1, zl⟩ := bk2 BX1.out.2.1
    go_wp2_with (fail)
    obtain ⟨r0, r1, E⟩ := bo2_ret BX1.out 0 0
    refine bodyPost_ret (v := .tuple #[.agg #[.int .i64 0, .int .i64 0], .int .i64 3]) (by simp [results, Try.results53, go_sem, r0, r1]) rfl ⟨rfl, E⟩
  rw [bffT_ok hc hn]
  have HN := hid (fun w => specNx o (d - n) d w o1 o2 (by omega) (by omega) d1 d2)
  have hq := nxt_bd (n := d - n) (d := d) (by omega) (by omega) d1 o.toNat
  have HM1 := hid (fun w => specMir n d w (by omega) (by omega) (by omega) (by omega))
  generalize nxt (d - n) d o.toNat = q at *
  obtain ⟨q0, q1⟩ := q
  dsimp only at HN hq ⊢
  have HM2 := hid (fun w => specMir q0 q1 w (by omega) (by omega) (by omega) (by omega))
  have hne : (n == 0) = false := by simpa using hn
  clear hc ho hn hq
  generalize d - n = m at *
  go_enter Try.func53, Try.ntmps53
  go_wp2_with (fail)
  refine (HC.out _).mono ?_
  rintro e w1 ⟨rfl, b1⟩
  have BX1 := hid (bo2_below HB.out b1)
  clear b1
  obtain ⟨k0, k1, _, _, _⟩ := bk2 BX1.out.1
  obtain ⟨z0, z1, g0, g1, zl⟩ := bk2 BX1.out.2.1
  go_wp2_with (fail)
  refine (HM1.out _).mono ?_
  rintro e w2 ⟨rfl, b2⟩
  have BX2 := hid (bo2_below BX1.out b2)
  clear b2
  go_wp2_with (fail)
  refine (HN.out _).mono ?_
  rintro e w3 ⟨rfl, b3⟩
  have BX3 := hid (bo2_below BX2.out b3)
  clear b3
  go_wp2_with (fail)
  refine (HM2.out _).mono ?_
  rintro e w4 ⟨rfl, b4⟩
  have BX4 := hid (bo2_below BX3.out b4)
  clear b4
  obtain ⟨z0, z1, g0, g1, zl⟩ := bk2 BX4.out.2.1
  go_wp2_with (fail)
  obtain ⟨r0, r1, E⟩ := bo2_ret BX4.out (q1 - q0) q1
  refine bodyPost_ret (v := .tuple #[.agg #[.int .i64 (q1 - q0), .int .i64 q1], .int .i64 0]) (by simp [results, Try.results53, go_sem, r0, r1]) rfl ⟨rfl, E⟩

end Go.Proofs.Ythfogmaefhfkoaa
