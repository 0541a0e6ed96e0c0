/- Contracts: the code of an order and a fraction, by the program and by the model. -/
import Derived.Test.YtjijabfamjhdjaaDoorFy
namespace Go.Proofs.YtjijabfamjhdjaaDoor
open Go.RowKit

def code6 (m o n d : Int) : Int := if okF n d then (if inB 1 m o && inB 0 d n then 0 else 2) else 1
theorem code6_bad {m o n d : Int} (h : okF n d = false) : code6 m o n d = 1 := by unfold code6; rw [h]; rfl
theorem code6_order {m o n d : Int} (h : okF n d = true) (h2 : inB 1 m o = false) : code6 m o n d = 2 := by unfold code6; rw [h, h2]; rfl
theorem code6_out {m o n d : Int} (h : okF n d = true) (h3 : inB 0 d n = false) : code6 m o n d = 2 := by unfold code6; rw [h, h3, Bool.and_false]; rfl
theorem code6_ok {m o n d : Int} (h : okF n d = true) (h2 : inB 1 m o = true) (h3 : inB 0 d n = true) : code6 m o n d = 0 := by unfold code6; rw [h, h2, h3]; rfl
theorem code6_zero {m o n d : Int} (h : code6 m o n d = 0) : okF n d = true ∧ (1 ≤ o ∧ o ≤ m) ∧ (0 ≤ n ∧ n ≤ d) := by
  cases h1 : okF n d
  · rw [code6_bad h1] at h; simp at h
  · cases h2 : inB 1 m o
    · rw [code6_order h1 h2] at h; simp at h
    · cases h3 : inB 0 d n
      · rw [code6_out h1 h3] at h; simp at h
      · exact ⟨rfl, inB_iff.1 h2, inB_iff.1 h3⟩

set_option maxHeartbeats 800000 in
theorem implChF (m o n d : Int) (w : World) :
    Calls Tryd.prog 54 #[.int .i64 o, .int .i64 m, .agg #[.int .i64 n, .int .i64 d]] w fun e w' => e = .returned (.int .i64 (code6 m o n d)) ∧ Below w.heap.size w w' := by
  have HB := hid ((Below.refl w.heap.size w).alloc (Nat.le_refl _) (.cells #[.int .i64 n, .int .i64 d] 32))
  have HN := hid (nw_at w (.cells #[.int .i64 n, .int .i64 d] 32))
  have HV := hid (fun w => implValid n d w)
  have H1 := hid (fun w => within6 1 m o w)
  have H2 := hid (fun w => within6 0 d n w)
  cases ho : okF n d
  · rw [code6_bad ho]
    rw [ho] at HV
    clear ho
    go_enter Tryd.func54, Tryd.ntmps54
    go_wp2_with (fail)
    refine (HV.out _).mono ?_
    rintro e w1 ⟨rfl, b1⟩
    have E1 := hid (HB.out.trans (b1.mono HB.out.size))
    clear b1
    go_wp2_with (fail)
    go_ret
    exact ⟨rfl, E1.out⟩
  rw [ho] at HV
  cases hi : inB 1 m o
  · rw [code6_order ho hi]
    rw [hi] at H1
    clear ho hi
    go_enter Tryd.func54, Tryd.ntmps54
    go_wp2_with (fail)
    refine (HV.out _).mono ?_
    rintro e w1 ⟨rfl, b1⟩
    have E1 := hid (HB.out.trans (b1.mono HB.out.size))
    clear b1
    go_wp2_with (fail)
    refine (H1.out _).mono ?_
    rintro e w2 ⟨rfl, b2⟩
    have E2 := hid (E1.out.trans (b2.mono E1.out.size))
    clear b2
    go_wp2_with (fail)
    go_ret
    exact ⟨rfl, E2.out⟩
  rw [hi] at H1
  cases hj : inB 0 d n
  all_goals
    first
      | rw [code6_out ho hj]
      | rw [code6_ok ho hi hj]
    rw [hj] at H2
    clear ho hi hj
    go_enter Tryd.func54, Tryd.ntmps54
    go_wp2_with (fail)
    refine (HV.out _).mono ?_
    rintro e w1 ⟨rfl, b1⟩
    have E1 := hid (HB.out.trans (b1.mono HB.out.size))
    have K1 := hid (bk_kept HN.out b1 (Nat.le_refl _))
    clear b1
    go_wp2_with (fail)
    refine (H1.out _).mono ?_
    rintro e w2 ⟨rfl, b2⟩
    have E2 := hid (E1.out.trans (b2.mono E1.out.size))
    obtain ⟨k0, k1, _, _, _⟩ := bk2 (bk_kept K1.out b2 (Nat.le_refl _))
    clear b2
    go_wp2_with (fail)
    refine (H2.out _).mono ?_
    rintro e w3 ⟨rfl, b3⟩
    have E3 := hid (E2.out.trans (b3.mono E2.out.size))
    clear b3
    go_wp2_with (fail)
    go_ret
    exact ⟨rfl, E3.out⟩

theorem specO6 (o : Int) (w : World) :
    Calls Tryd.prog 44 #[.int .i64 o] w fun e w' => e = .returned (.bool (inB 1 40 o)) ∧ w' = w := by
  have H1 := hid (fun w => specIn o 1 40 w)
  go_enter Tryd.func44, Tryd.ntmps44
  go_wp2_with (fail)
  refine (H1.out _).mono ?_
  rintro e w2 ⟨rfl, rfl⟩
  go_wp2_with (fail)
  go_ret
  exact ⟨rfl, rfl⟩

end Go.Proofs.YtjijabfamjhdjaaDoor
