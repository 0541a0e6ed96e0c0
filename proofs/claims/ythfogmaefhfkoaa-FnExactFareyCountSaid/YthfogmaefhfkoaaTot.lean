/- Contracts: how many numbers have no common divisor with another one, by the program and by the model. -/
import Derived.Test.YthfogmaefhfkoaaFy
import Derived.Test.YthfogmaefhfkoaaTotm
namespace Go.Proofs.Ythfogmaefhfkoaa
open Go.RowKit

theorem phi_go {n : Int} {k : Nat} {p r c : Int} (h : totL (k + 1) p r c = phi n) (hpr : p * p ≤ r) : totL k (p + 1) (strip 20 p r) (less6 p r c) = phi n := by rw [← h, totL_go hpr]
theorem phi_end {n : Int} {k : Nat} {p r c : Int} (h : totL (k + 1) p r c = phi n) (hpr : ¬ p * p ≤ r) (h1 : 1 < r) : c - c / r = phi n := by rw [← h, totL_end hpr h1]
theorem phi_one {n : Int} {k : Nat} {p r c : Int} (h : totL (k + 1) p r c = phi n) (hpr : ¬ p * p ≤ r) (h1 : ¬ 1 < r) : c = phi n := by rw [← h, totL_one hpr h1]
/-- The number of them, and a code. -/
def totT (n : Int) : Int × Int := if inB 1 1000000 n then (phi n, 0) else (0, 2)
theorem totT_no {n : Int} (h : inB 1 1000000 n = false) : totT n = (0, 2) := by unfold totT; rw [h]; rfl
theorem totT_ok {n : Int} (h : inB 1 1000000 n = true) : totT n = (phi n, 0) := by unfold totT; rw [h]; rfl

set_option maxHeartbeats 1600000 in
theorem implTot (n : Int) (w : World) :
    Calls Try.prog 74 #[.int .i64 n] w fun e w' => e = .returned (.tuple #[.int .i64 (totT n).1, .int .i64 (totT n).2]) ∧ Below w.heap.size w w' := by
  have H1 := hid (fun w => within6 1 1000000 n w)
  cases hi : inB 1 1000000 n
  · rw [totT_no hi]
    rw [hi] at H1
    clear hi
    go_enter Try.func74, Try.ntmps74
    go_wp2_with (fail)
    refine (H1.out _).mono ?_
    rintro e w1 ⟨rfl, b1⟩
    go_wp2_with (fail)
    go_ret2
    exact ⟨rfl, b1⟩
  rw [totT_ok hi]
  rw [hi] at H1
  have hb := inB_iff.1 hi
  have n1 := hb.1
  have n2 := hb.2
  clear hi hb
  go_enter Try.func74, Try.ntmps74
  go_wp2_with (fail)
  refine (H1.out _).mono ?_
  rintro e w1 ⟨rfl, b1⟩
  have E1 := hid b1
  clear b1
  go_wp2_with (fail)
  go_loop [4, 5, 6] (fun c r p => ∃ (k : Nat) (cc rr pp : Int), c = .int .i64 cc ∧ r = .int .i64 rr ∧ p = .int .i64 pp ∧ 2 ≤ pp ∧ pp ≤ 1001 ∧ pp + k = 1002 ∧ 1 ≤ rr ∧ rr ≤ 1000000 ∧ 0 ≤ cc ∧ cc ≤ 1000000 ∧ Hid (totL (k + 1) pp rr cc = phi n)) (fun c r p => 1002 - (RowKit.intOf p).toNat)
  case atStart => exact ⟨1000, n, n, 2, rfl, rfl, rfl, by omega, by omega, by omega, by omega, by omega, by omega, by omega, hid rfl⟩
  case round =>
    obtain ⟨k, cc, rr, pp, rfl, rfl, rfl, hp, hp1, hk, hr, hr1, hc, hc1, hst⟩ := hrel
    obtain ⟨q1, q2⟩ := sq_bd hp hp1
    by_cases hlt : pp * pp ≤ rr
    · have hps := sq_small hp hlt hr1
      have HN := hid (phi_go hst.out hlt)
      obtain ⟨u1, u2⟩ := less_bd (p := pp) (r := rr) (by omega) hc
      obtain ⟨s1, s2⟩ := strip_bd 20 hp hr
      obtain ⟨k, rfl⟩ : ∃ k', k = k' + 1 := ⟨k - 1, by omega⟩
      obtain ⟨v1, v2, v3, v4⟩ := sub_div_bd (c := cc) (p := pp) (by omega) hc
      obtain ⟨R, hR⟩ : ∃ R, R = strip 20 pp rr := ⟨_, rfl⟩
      obtain ⟨C, hC⟩ : ∃ C, C = less6 pp rr cc := ⟨_, rfl⟩
      rw [← hR] at s1 s2 HN
      rw [← hC] at u1 u2 HN
      have HR := hid hR
      have INNER := hid (show ∀ r : Int, 1 ≤ r → r ≤ rr → (r = rr ∨ True) → True from fun _ _ _ _ => trivial)
      clear hR hst INNER
      by_cases hm : rr % pp = 0
      · have HC := hid (show C = cc - cc / pp by rw [hC]; exact if_pos hm)
        clear hC
        go_wp2_with (fail)
        go_loop [5] (fun r => ∃ (j : Nat) (x : Int), r = .int .i64 x ∧ 1 ≤ x ∧ x ≤ rr ∧ x < 2 ^ j ∧ Hid (strip j pp x = R)) (fun r => (RowKit.intOf r).toNat)
        case atStart => exact ⟨20, rr, rfl, hr, Int.le_refl _, by omega, hid HR.out.symm⟩
        case round =>
          obtain ⟨j, x, rfl, hx1, hx2, hxj, hs⟩ := hrel
          by_cases hmx : x % pp = 0
          · obtain ⟨d1, d2⟩ := div_half hp hx1 hmx
            obtain ⟨j, rfl⟩ : ∃ j', j = j' + 1 := by
              cases j with
              | zero => simp at hxj; omega
              | succ j => exact ⟨j, rfl⟩
            have HS := hid (show strip j pp (x / pp) = R by rw [← hs.out, strip_yes hmx])
            have hxj2 : x / pp < 2 ^ j := by rw [Int.pow_succ] at hxj; omega
            have HX := hid hxj2
            clear hs hxj hxj2
            go_wp2_with (fail)
            go_round
            case rel => exact ⟨j, x / pp, by go_num, d1, by omega, HX.out, HS⟩
            case measure => simp [RowKit.intOf]; omega
          · have hm2 : (x % pp == 0) = false := by simpa using hmx
            have HS := hid (show R = x by rw [← hs.out]; exact strip_no hmx)
            clear hs hxj
            go_wp2_with (fail)
            go_round
            case rel => exact ⟨k, cc - cc / pp, x, pp + 1, by go_num, rfl, by go_num, by omega, by omega, by omega, by omega, by omega, by omega, by omega, hid (by have := HN.out; rw [HS.out, HC.out] at this; exact this)⟩
            case measure => simp [RowKit.intOf]; omega
      · have HC := hid (show C = cc by rw [hC]; exact if_neg hm)
        have hm2 : (rr % pp == 0) = false := by simpa using hm
        have HS := hid (show R = rr by rw [HR.out]; exact strip_no hm)
        clear hC
        go_wp2_with (fail)
        go_loop [5] (fun r => r = .int .i64 rr) (fun _ => 0)
        case atStart => rfl
        case round =>
          subst hrel
          go_wp2_with (fail)
          go_round
          case rel => exact ⟨k, cc, rr, pp + 1, rfl, rfl, by go_num, by omega, by omega, by omega, by omega, by omega, by omega, by omega, hid (by have := HN.out; rw [HS.out, HC.out] at this; exact this)⟩
          case measure => simp [RowKit.intOf]; omega
    · by_cases h1 : 1 < rr
      · have HE := hid (phi_end hst.out hlt h1)
        obtain ⟨v1, v2, v3, v4⟩ := sub_div_bd (c := cc) (p := rr) (by omega) hc
        clear hst
        go_wp2_with (fail)
        go_ret2
        exact ⟨by rw [HE.out]; rfl, E1.out⟩
      · have HE := hid (phi_one hst.out hlt h1)
        clear hst
        go_wp2_with (fail)
        go_ret2
        exact ⟨by rw [HE.out]; rfl, E1.out⟩

set_option maxHeartbeats 1600000 in
theorem specPhi (n : Int) (w : World) (n1 : 1 ≤ n) (n2 : n ≤ 1000000) :
    Calls Try.prog 137 #[.int .i64 n] w fun e w' => e = .returned (.int .i64 (phi n)) ∧ w' = w := by
  go_enter Try.func137, Try.ntmps137
  go_wp2_with (fail)
  go_loop [3, 4, 5] (fun c r p => ∃ (k : Nat) (cc rr pp : Int), c = .int .i64 cc ∧ r = .int .i64 rr ∧ p = .int .i64 pp ∧ 2 ≤ pp ∧ pp ≤ 1001 ∧ pp + k = 1002 ∧ 1 ≤ rr ∧ rr ≤ 1000000 ∧ 0 ≤ cc ∧ cc ≤ 1000000 ∧ Hid (totL (k + 1) pp rr cc = phi n)) (fun c r p => 1002 - (RowKit.intOf p).toNat)
  case atStart => exact ⟨1000, n, n, 2, rfl, rfl, rfl, by omega, by omega, by omega, by omega, by omega, by omega, by omega, hid rfl⟩
  case round =>
    obtain ⟨k, cc, rr, pp, rfl, rfl, rfl, hp, hp1, hk, hr, hr1, hc, hc1, hst⟩ := hrel
    obtain ⟨q1, q2⟩ := sq_bd hp hp1
    by_cases hlt : pp * pp ≤ rr
    · have hps := sq_small hp hlt hr1
      have HN := hid (phi_go hst.out hlt)
      obtain ⟨u1, u2⟩ := less_bd (p := pp) (r := rr) (by omega) hc
      obtain ⟨s1, s2⟩ := strip_bd 20 hp hr
      obtain ⟨k, rfl⟩ : ∃ k', k = k' + 1 := ⟨k - 1, by omega⟩
      obtain ⟨v1, v2, v3, v4⟩ := sub_div_bd (c := cc) (p := pp) (by omega) hc
      obtain ⟨R, hR⟩ : ∃ R, R = strip 20 pp rr := ⟨_, rfl⟩
      obtain ⟨C, hC⟩ : ∃ C, C = less6 pp rr cc := ⟨_, rfl⟩
      rw [← hR] at s1 s2 HN
      rw [← hC] at u1 u2 HN
      have HR := hid hR
      have INNER := hid (show ∀ r : Int, 1 ≤ r → r ≤ rr → (r = rr ∨ True) → True from fun _ _ _ _ => trivial)
      clear hR hst INNER
      by_cases hm : rr % pp = 0
      · have HC := hid (show C = cc - cc / pp by rw [hC]; exact if_pos hm)
        clear hC
        go_wp2_with (fail)
        go_loop [4] (fun r => ∃ (j : Nat) (x : Int), r = .int .i64 x ∧ 1 ≤ x ∧ x ≤ rr ∧ x < 2 ^ j ∧ Hid (strip j pp x = R)) (fun r => (RowKit.intOf r).toNat)
        case atStart => exact ⟨20, rr, rfl, hr, Int.le_refl _, by omega, hid HR.out.symm⟩
        case round =>
          obtain ⟨j, x, rfl, hx1, hx2, hxj, hs⟩ := hrel
          by_cases hmx : x % pp = 0
          · obtain ⟨d1, d2⟩ := div_half hp hx1 hmx
            obtain ⟨j, rfl⟩ : ∃ j', j = j' + 1 := by
              cases j with
              | zero => simp at hxj; omega
              | succ j => exact ⟨j, rfl⟩
            have HS := hid (show strip j pp (x / pp) = R by rw [← hs.out, strip_yes hmx])
            have hxj2 : x / pp < 2 ^ j := by rw [Int.pow_succ] at hxj; omega
            have HX := hid hxj2
            clear hs hxj hxj2
            go_wp2_with (fail)
            go_round
            case rel => exact ⟨j, x / pp, by go_num, d1, by omega, HX.out, HS⟩
            case measure => simp [RowKit.intOf]; omega
          · have hm2 : (x % pp == 0) = false := by simpa using hmx
            have HS := hid (show R = x by rw [← hs.out]; exact strip_no hmx)
            clear hs hxj
            go_wp2_with (fail)
            go_round
            case rel => exact ⟨k, cc - cc / pp, x, pp + 1, by go_num, rfl, by go_num, by omega, by omega, by omega, by omega, by omega, by omega, by omega, hid (by have := HN.out; rw [HS.out, HC.out] at this; exact this)⟩
            case measure => simp [RowKit.intOf]; omega
      · have HC := hid (show C = cc by rw [hC]; exact if_neg hm)
        have hm2 : (rr % pp == 0) = false := by simpa using hm
        have HS := hid (show R = rr by rw [HR.out]; exact strip_no hm)
        clear hC
        go_wp2_with (fail)
        go_loop [4] (fun r => r = .int .i64 rr) (fun _ => 0)
        case atStart => rfl
        case round =>
          subst hrel
          go_wp2_with (fail)
          go_round
          case rel => exact ⟨k, cc, rr, pp + 1, rfl, rfl, by go_num, by omega, by omega, by omega, by omega, by omega, by omega, by omega, hid (by have := HN.out; rw [HS.out, HC.out] at this; exact this)⟩
          case measure => simp [RowKit.intOf]; omega
    · by_cases h1 : 1 < rr
      · have HE := hid (phi_end hst.out hlt h1)
        obtain ⟨v1, v2, v3, v4⟩ := sub_div_bd (c := cc) (p := rr) (by omega) hc
        clear hst
        go_wp2_with (fail)
        go_ret
        exact ⟨by rw [HE.out]; rfl, rfl⟩
      · have HE := hid (phi_one hst.out hlt h1)
        clear hst
        go_wp2_with (fail)
        go_ret
        exact ⟨by rw [HE.out]; rfl, rfl⟩

theorem specTot (n : Int) (w : World) :
    Calls Try.prog 73 #[.int .i64 n] w fun e w' => e = .returned (.tuple #[.int .i64 (totT n).1, .int .i64 (totT n).2]) ∧ Below w.heap.size w w' := by
  have H1 := hid (fun w => specIn n 1 1000000 w)
  cases hi : inB 1 1000000 n
  · rw [totT_no hi]
    rw [hi] at H1
    clear hi
    go_enter Try.func73, Try.ntmps73
    go_wp2_with (fail)
    refine (H1.out _).mono ?_
    rintro e w1 ⟨rfl, rfl⟩
    go_wp2_with (fail)
    go_ret2
    exact ⟨rfl, Below.refl _ _⟩
  · rw [totT_ok hi]
    rw [hi] at H1
    have hb := inB_iff.1 hi
    have HP := hid (fun w => specPhi n w hb.1 hb.2)
    generalize phi n = t at *
    clear hi hb
    go_enter Try.func73, Try.ntmps73
    go_wp2_with (fail)
    refine (H1.out _).mono ?_
    rintro e w1 ⟨rfl, rfl⟩
    go_wp2_with (fail)
    refine (HP.out _).mono ?_
    rintro e w1 ⟨rfl, rfl⟩
    go_wp2_with (fail)
    go_ret2
    exact ⟨rfl, Below.refl _ _⟩

end Go.Proofs.Ythfogmaefhfkoaa
