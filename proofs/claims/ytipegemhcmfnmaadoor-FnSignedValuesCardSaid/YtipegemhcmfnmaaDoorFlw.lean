/- Contracts: the floor of a quotient of wider numbers, and the terms by each kind, as the program and the model tell them. -/
import Derived.Test.YtipegemhcmfnmaaDoorOk
import Derived.Test.YtipegemhcmfnmaaDoorSgm
namespace Go.Proofs.YtipegemhcmfnmaaDoor
open Go.RowKit

theorem implFloorW (n d : Int) (w : World) (h1 : -4000000000 ≤ n) (h2 : n ≤ 4000000000) (h3 : 1 ≤ d) (h4 : d ≤ 4000000000) :
    Calls Tryd.prog 99 #[.int .i64 n, .int .i64 d] w fun e w' => e = .returned (.int .i64 (n / d)) ∧ w' = w := by
  by_cases hn : n < 0
  · by_cases ht : n.tmod d = 0
    · have e := floor_neg0 h3 ht
      have E := hid e
      have hz : (n.tmod d != 0) = false := by simp [ht]
      clear e ht
      go_enter Tryd.func99, Tryd.ntmps99
      go_wp2
      go_ret
      exact ⟨ret_int E.out, rfl⟩
    · have e := floor_neg1 h3 hn ht
      have E := hid e
      have hz : (n.tmod d != 0) = true := by simpa using ht
      have hd0 : decide (d < 0) = false := by simp; omega
      have hq := tdiv_bd n d
      have b1 : -4000000000 ≤ n.tdiv d := by omega
      have b2 : n.tdiv d ≤ 4000000000 := by omega
      clear e ht
      go_enter Tryd.func99, Tryd.ntmps99
      go_wp2
      go_ret
      exact ⟨ret_int E.out, rfl⟩
  · by_cases ht : n % d = 0
    · have hz : (n % d != 0) = false := by simp [ht]
      clear ht
      go_enter Tryd.func99, Tryd.ntmps99
      go_wp2
      go_ret
      exact ⟨rfl, rfl⟩
    · have hz : (n % d != 0) = true := by simpa using ht
      clear ht
      go_enter Tryd.func99, Tryd.ntmps99
      go_wp2
      go_ret
      exact ⟨rfl, rfl⟩

theorem specFloorW (n d : Int) (w : World) (h1 : -4000000000 ≤ n) (h2 : n ≤ 4000000000) (h3 : 1 ≤ d) (h4 : d ≤ 4000000000) :
    Calls Tryd.prog 100 #[.int .i64 n, .int .i64 d] w fun e w' => e = .returned (.int .i64 (n / d)) ∧ w' = w := by
  by_cases hn : n < 0
  · by_cases ht : n.tmod d = 0
    · have e := floor_neg0 h3 ht
      have E := hid e
      have hz : ¬ n.tmod d < 0 := by omega
      clear e ht
      go_enter Tryd.func100, Tryd.ntmps100
      go_wp2
      go_ret
      exact ⟨ret_int E.out, rfl⟩
    · have e := floor_neg1 h3 hn ht
      have E := hid e
      have hz : n.tmod d < 0 := tmod_neg_of hn ht
      have hq := tdiv_bd n d
      have b1 : -4000000000 ≤ n.tdiv d := by omega
      have b2 : n.tdiv d ≤ 4000000000 := by omega
      clear e ht
      go_enter Tryd.func100, Tryd.ntmps100
      go_wp2
      go_ret
      exact ⟨ret_int E.out, rfl⟩
  · have hz : ¬ n % d < 0 := by have := Int.emod_nonneg n (show d ≠ 0 by omega); omega
    go_enter Tryd.func100, Tryd.ntmps100
    go_wp2
    go_ret
    exact ⟨rfl, rfl⟩

theorem kt_1 (n d : Int) : kt 1 n d = (2 * n + d) / (2 * d) := rfl
theorem kt_2 (n d : Int) : kt 2 n d = 2 * ((n + d) / (2 * d)) := rfl
theorem kt_3 (n d : Int) : kt 3 n d = 2 * (n / (2 * d)) + 1 := rfl
theorem kt_4 (n d : Int) : kt 4 n d = -(-n / d) := rfl

theorem div_bd (a b : Int) (hb : 1 ≤ b) : (a / b).natAbs ≤ a.natAbs := by
  have h := div_facts a b (by omega)
  generalize a / b = q at h ⊢
  by_cases hq : 0 ≤ q
  · have : q ≤ b * q := by have := Int.mul_le_mul_of_nonneg_right hb hq; omega
    omega
  · have h1 : b * (q + 1) ≤ 1 * (q + 1) := Int.mul_le_mul_of_nonpos_right hb (by omega)
    rw [Int.mul_add] at h1
    omega

theorem term1 (n d : Int) (w : World) (h1 : -1000000000 ≤ n) (h2 : n ≤ 1000000000) (h3 : 1 ≤ d) (h4 : d ≤ 1000000000) :
    Calls Tryd.prog 195 #[.agg #[], .agg #[.int .i64 n, .int .i64 d]] w fun e w' => e = .returned (.int .i64 (kt 1 n d)) ∧ Below w.heap.size w w' := by
  have F := hid (fun w => implFloorW (2 * n + d) (2 * d) w (by omega) (by omega) (by omega) (by omega))
  have K := hid (kt_1 n d)
  go_enter Tryd.func195, Tryd.ntmps195
  go_wp2_with (fail)
  refine (F.out _).mono ?_
  rintro e w1 ⟨rfl, rfl⟩
  go_wp2_with (fail)
  go_ret
  exact ⟨ret_int K.out.symm, ((Below.refl _ _).alloc (Nat.le_refl _) _).alloc (by simp) _⟩
theorem term2 (n d : Int) (w : World) (h1 : -1000000000 ≤ n) (h2 : n ≤ 1000000000) (h3 : 1 ≤ d) (h4 : d ≤ 1000000000) :
    Calls Tryd.prog 196 #[.agg #[], .agg #[.int .i64 n, .int .i64 d]] w fun e w' => e = .returned (.int .i64 (kt 2 n d)) ∧ Below w.heap.size w w' := by
  have F := hid (fun w => implFloorW (n + d) (2 * d) w (by omega) (by omega) (by omega) (by omega))
  have K := hid (kt_2 n d)
  have hq := div_bd (n + d) (2 * d) (by omega)
  have q1 : -4000000000 ≤ (n + d) / (2 * d) := by omega
  have q2 : (n + d) / (2 * d) ≤ 4000000000 := by omega
  clear hq
  go_enter Tryd.func196, Tryd.ntmps196
  go_wp2_with (fail)
  refine (F.out _).mono ?_
  rintro e w1 ⟨rfl, rfl⟩
  go_wp2_with (fail)
  go_ret
  exact ⟨ret_int K.out.symm, ((Below.refl _ _).alloc (Nat.le_refl _) _).alloc (by simp) _⟩
theorem term3 (n d : Int) (w : World) (h1 : -1000000000 ≤ n) (h2 : n ≤ 1000000000) (h3 : 1 ≤ d) (h4 : d ≤ 1000000000) :
    Calls Tryd.prog 197 #[.agg #[], .agg #[.int .i64 n, .int .i64 d]] w fun e w' => e = .returned (.int .i64 (kt 3 n d)) ∧ Below w.heap.size w w' := by
  have F := hid (fun w => implFloorW n (2 * d) w (by omega) (by omega) (by omega) (by omega))
  have K := hid (kt_3 n d)
  have hq := div_bd n (2 * d) (by omega)
  have q1 : -4000000000 ≤ n / (2 * d) := by omega
  have q2 : n / (2 * d) ≤ 4000000000 := by omega
  clear hq
  go_enter Tryd.func197, Tryd.ntmps197
  go_wp2_with (fail)
  refine (F.out _).mono ?_
  rintro e w1 ⟨rfl, rfl⟩
  go_wp2_with (fail)
  go_ret
  exact ⟨ret_int K.out.symm, ((Below.refl _ _).alloc (Nat.le_refl _) _).alloc (by simp) _⟩
theorem term4 (n d : Int) (w : World) (h1 : -1000000000 ≤ n) (h2 : n ≤ 1000000000) (h3 : 1 ≤ d) (h4 : d ≤ 1000000000) :
    Calls Tryd.prog 198 #[.agg #[], .agg #[.int .i64 n, .int .i64 d]] w fun e w' => e = .returned (.int .i64 (kt 4 n d)) ∧ Below w.heap.size w w' := by
  have F := hid (fun w => implFloorW (-n) d w (by omega) (by omega) (by omega) (by omega))
  have K := hid (kt_4 n d)
  have hq := div_bd (-n) d (by omega)
  have q1 : -4000000000 ≤ -n / d := by omega
  have q2 : -n / d ≤ 4000000000 := by omega
  clear hq
  go_enter Tryd.func198, Tryd.ntmps198
  go_wp2_with (fail)
  refine (F.out _).mono ?_
  rintro e w1 ⟨rfl, rfl⟩
  go_wp2_with (fail)
  go_ret
  exact ⟨ret_int K.out.symm, ((Below.refl _ _).alloc (Nat.le_refl _) _).alloc (by simp) _⟩

theorem specTerm (k n d : Int) (w : World) (hk : okK k = true) (h1 : -1000000000 ≤ n) (h2 : n ≤ 1000000000) (h3 : 1 ≤ d) (h4 : d ≤ 1000000000) :
    Calls Tryd.prog 112 #[.int .i64 n, .int .i64 d, .int .i64 k] w fun e w' => e = .returned (.int .i64 (kt k n d)) ∧ w' = w := by
  have hk4 := inB_iff.1 hk
  have hk3 : k = 1 ∨ k = 2 ∨ k = 3 ∨ k = 4 := by omega
  clear hk hk4
  rcases hk3 with rfl | rfl | rfl | rfl
  · have F := hid (fun w => specFloorW (2 * n + d) (2 * d) w (by omega) (by omega) (by omega) (by omega))
    have K := hid (kt_1 n d)
    go_enter Tryd.func112, Tryd.ntmps112
    go_wp2_with (fail)
    refine (F.out _).mono ?_
    rintro e w1 ⟨rfl, rfl⟩
    go_wp2_with (fail)
    go_ret
    exact ⟨ret_int K.out.symm, rfl⟩
  · have F := hid (fun w => specFloorW (n + d) (2 * d) w (by omega) (by omega) (by omega) (by omega))
    have K := hid (kt_2 n d)
    have hq := div_bd (n + d) (2 * d) (by omega)
    have q1 : -4000000000 ≤ (n + d) / (2 * d) := by omega
    have q2 : (n + d) / (2 * d) ≤ 4000000000 := by omega
    clear hq
    go_enter Tryd.func112, Tryd.ntmps112
    go_wp2_with (fail)
    refine (F.out _).mono ?_
    rintro e w1 ⟨rfl, rfl⟩
    go_wp2_with (fail)
    go_ret
    exact ⟨ret_int K.out.symm, rfl⟩
  · have F := hid (fun w => specFloorW n (2 * d) w (by omega) (by omega) (by omega) (by omega))
    have K := hid (kt_3 n d)
    have hq := div_bd n (2 * d) (by omega)
    have q1 : -4000000000 ≤ n / (2 * d) := by omega
    have q2 : n / (2 * d) ≤ 4000000000 := by omega
    clear hq
    go_enter Tryd.func112, Tryd.ntmps112
    go_wp2_with (fail)
    refine (F.out _).mono ?_
    rintro e w1 ⟨rfl, rfl⟩
    go_wp2_with (fail)
    go_ret
    exact ⟨ret_int K.out.symm, rfl⟩
  · have F := hid (fun w => specFloorW (-n) d w (by omega) (by omega) (by omega) (by omega))
    have K := hid (kt_4 n d)
    have hq := div_bd (-n) d (by omega)
    have q1 : -4000000000 ≤ -n / d := by omega
    have q2 : -n / d ≤ 4000000000 := by omega
    clear hq
    go_enter Tryd.func112, Tryd.ntmps112
    go_wp2_with (fail)
    refine (F.out _).mono ?_
    rintro e w1 ⟨rfl, rfl⟩
    go_wp2_with (fail)
    go_ret
    exact ⟨ret_int K.out.symm, rfl⟩

end Go.Proofs.YtipegemhcmfnmaaDoor
