/- Contracts: the radius of a circle, by the program and by the model. -/
import Derived.Test.YthfogmaefhfkoaaFy
import Derived.Test.YthfogmaefhfkoaaLow
namespace Go.Proofs.Ythfogmaefhfkoaa
open Go.RowKit

theorem gc_one (D : Int) : gc 1 D = 1 := by unfold gc; simp
theorem low_one {D : Int} (h : 0 < D) : lowN 1 D = 1 ∧ lowD 1 D = D := by
  have a := lowN_pos 1 D (by omega)
  have b := lowD_pos 1 D (by omega)
  rw [gc_one] at a b
  simp only [Int.tdiv_one] at a b
  exact ⟨a.symm, b.symm⟩
/-- The radius of the circle, and a code. -/
def cirT (n d : Int) : Int × Int × Int := if okF n d then (if okF 1 (2 * d * d) then (1, 2 * d * d, 0) else (0, 0, 5)) else (0, 0, 1)
theorem cirT_no {n d : Int} (h : okF n d = false) : cirT n d = (0, 0, 1) := by unfold cirT; rw [h]; rfl
theorem cirT_full {n d : Int} (h : okF n d = true) (h2 : okF 1 (2 * d * d) = false) : cirT n d = (0, 0, 5) := by unfold cirT; rw [h, h2]; rfl
theorem cirT_ok {n d : Int} (h : okF n d = true) (h2 : okF 1 (2 * d * d) = true) : cirT n d = (1, 2 * d * d, 0) := by unfold cirT; rw [h, h2]; rfl
theorem cir_bd {n d : Int} (h : okF n d = true) : 1 ≤ 2 * d ∧ 2 * d ≤ 2000000000 ∧ 1 ≤ 2 * d * d ∧ 2 * d * d ≤ 2000000000000000000 := by
  obtain ⟨h1, h2, _⟩ := ok_bounds h
  have a : 1 * 1 ≤ 2 * d * d := Int.mul_le_mul (by omega) h1 (by omega) (by omega)
  have b : 2 * d * d ≤ 2000000000 * 1000000000 := Int.mul_le_mul (by omega) h2 (by omega) (by omega)
  omega

set_option maxHeartbeats 1600000 in
theorem implCir (n d : Int) (w : World) :
    Calls Try.prog 60 #[.agg #[.int .i64 n, .int .i64 d]] w fun e w' => e = .returned (tv (cirT n d)) ∧ Below w.heap.size w w' := by
  have HB := hid (bo2_new w n d)
  have HV := hid (fun w => implValid n d w)
  unfold tv
  cases ho : okF n d
  · rw [cirT_no ho]
    rw [ho] at HV
    clear ho
    go_enter Try.func60, Try.ntmps60
    go_wp2_with (fail)
    refine (HV.out _).mono ?_
    rintro e w1 ⟨rfl, b1⟩
    have BX := hid (bo2_below HB.out b1)
    obtain ⟨z0, z1, f0, f1, zl⟩ := bk2 BX.out.2.1
    clear b1
    go_wp2_with (fail)
    obtain ⟨r0, r1, E⟩ := bo2_ret BX.out 0 0
    refine bodyPost_ret (v := .tuple #[.agg #[.int .i64 0, .int .i64 0], .int .i64 1]) (by simp [results, Try.results60, go_sem, r0, r1]) rfl ⟨rfl, E⟩
  · obtain ⟨a1, a2, a3, a4⟩ := cir_bd ho
    rw [ho] at HV
    have HL := hid (fun w => implLow 1 (2 * d * d) w (by omega) (by omega) (by omega) (by omega) (by omega))
    unfold lowR at HL
    rw [(low_one (by omega)).1, (low_one (by omega)).2] at HL
    cases h2 : okF 1 (2 * d * d)
    · rw [cirT_full ho h2]
      rw [h2, fullR_no] at HL
      clear ho h2
      go_enter Try.func60, Try.ntmps60
      go_wp2_with (fail)
      refine (HV.out _).mono ?_
      rintro e w1 ⟨rfl, b1⟩
      have BX := hid (bo2_below HB.out b1)
      obtain ⟨z0, z1, _, _, _⟩ := bk2 BX.out.1
      clear b1
      go_wp2_with (fail)
      refine (HL.out _).mono ?_
      rintro e w2 ⟨rfl, b2⟩
      have BX2 := hid (bo2_below BX.out b2)
      obtain ⟨z0, z1, f0, f1, zl⟩ := bk2 BX2.out.2.1
      clear b2
      go_wp2_with (fail)
      obtain ⟨r0, r1, E⟩ := bo2_ret BX2.out 0 0
      refine bodyPost_ret (v := .tuple #[.agg #[.int .i64 0, .int .i64 0], .int .i64 5]) (by simp [results, Try.results60, go_sem, r0, r1]) rfl ⟨rfl, E⟩
    · rw [cirT_ok ho h2]
      rw [h2, fullR_yes] at HL
      clear ho h2
      go_enter Try.func60, Try.ntmps60
      go_wp2_with (fail)
      refine (HV.out _).mono ?_
      rintro e w1 ⟨rfl, b1⟩
      have BX := hid (bo2_below HB.out b1)
      obtain ⟨z0, z1, _, _, _⟩ := bk2 BX.out.1
      clear b1
      go_wp2_with (fail)
      refine (HL.out _).mono ?_
      rintro e w2 ⟨rfl, b2⟩
      have BX2 := hid (bo2_below BX.out b2)
      obtain ⟨z0, z1, f0, f1, zl⟩ := bk2 BX2.out.2.1
      clear b2
      go_wp2_with (fail)
      obtain ⟨r0, r1, E⟩ := bo2_ret BX2.out 1 (2 * d * d)
      refine bodyPost_ret (v := .tuple #[.agg #[.int .i64 1, .int .i64 (2 * d * d)], .int .i64 0]) (by simp [results, Try.results60, go_sem, r0, r1]) rfl ⟨rfl, E⟩

set_option maxHeartbeats 1600000 in
theorem specCir (n d : Int) (w : World) :
    Calls Try.prog 61 #[.agg #[.int .i64 n, .int .i64 d]] w fun e w' => e = .returned (tv (cirT n d)) ∧ Below w.heap.size w w' := by
  have HB := hid (bo2_new w n d)
  have HV := hid (fun w => specOk n d w)
  unfold tv
  cases ho : okF n d
  · rw [cirT_no ho]
    rw [ho] at HV
    clear ho
    go_enter Try.func61, Try.ntmps61
    go_wp2_with (fail)
    refine (HV.out _).mono ?_
    rintro e w1 ⟨rfl, b1⟩
    have BX := hid (bo2_below HB.out b1)
    obtain ⟨z0, z1, f0, f1, zl⟩ := bk2 BX.out.2.1
    clear b1
    go_wp2_with (fail)
    obtain ⟨r0, r1, E⟩ := bo2_ret BX.out 0 0
    refine bodyPost_ret (v := .tuple #[.agg #[.int .i64 0, .int .i64 0], .int .i64 1]) (by simp [results, Try.results61, go_sem, r0, r1]) rfl ⟨rfl, E⟩
  · obtain ⟨a1, a2, a3, a4⟩ := cir_bd ho
    rw [ho] at HV
    have HO := hid (fun w => specOk 1 (2 * d * d) w)
    cases h2 : okF 1 (2 * d * d)
    · rw [cirT_full ho h2]
      rw [h2] at HO
      clear ho h2
      go_enter Try.func61, Try.ntmps61
      go_wp2_with (fail)
      refine (HV.out _).mono ?_
      rintro e w1 ⟨rfl, b1⟩
      have BX := hid (bo2_below HB.out b1)
      obtain ⟨z0, z1, _, _, _⟩ := bk2 BX.out.1
      clear b1
      go_wp2_with (fail)
      refine (HO.out _).mono ?_
      rintro e w2 ⟨rfl, b2⟩
      have BX2 := hid (bo2_below BX.out (((Below.refl _ _).alloc (Nat.le_refl _) _).trans (b2.mono (by simp))))
      obtain ⟨z0, z1, f0, f1, zl⟩ := bk2 BX2.out.2.1
      clear b2
      go_wp2_with (fail)
      obtain ⟨r0, r1, E⟩ := bo2_ret BX2.out 0 0
      refine bodyPost_ret (v := .tuple #[.agg #[.int .i64 0, .int .i64 0], .int .i64 5]) (by simp [results, Try.results61, go_sem, r0, r1]) rfl ⟨rfl, E⟩
    · rw [cirT_ok ho h2]
      rw [h2] at HO
      clear ho h2
      go_enter Try.func61, Try.ntmps61
      go_wp2_with (fail)
      refine (HV.out _).mono ?_
      rintro e w1 ⟨rfl, b1⟩
      have BX := hid (bo2_below HB.out b1)
      obtain ⟨z0, z1, _, _, _⟩ := bk2 BX.out.1
      clear b1
      go_wp2_with (fail)
      have Y := nw_at w1 (.cells #[.int .i64 1, .int .i64 (2 * d * d)] 25)
      refine (HO.out _).mono ?_
      rintro e w2 ⟨rfl, b2⟩
      have BX2 := hid (bo2_below BX.out (((Below.refl _ _).alloc (Nat.le_refl _) _).trans (b2.mono (by simp))))
      obtain ⟨z0, z1, f0, f1, zl⟩ := bk2 BX2.out.2.1
      obtain ⟨y0, y1, _, _, _⟩ := bk2 (bk_kept Y b2 (Nat.le_refl _))
      clear b2 Y
      go_wp2_with (fail)
      obtain ⟨r0, r1, E⟩ := bo2_ret BX2.out 1 (2 * d * d)
      refine bodyPost_ret (v := .tuple #[.agg #[.int .i64 1, .int .i64 (2 * d * d)], .int .i64 0]) (by simp [results, Try.results61, go_sem, r0, r1]) rfl ⟨rfl, E⟩

end Go.Proofs.Ythfogmaefhfkoaa
