/- Contracts: floor and neighbours, as the program and the model tell them. -/
import Derived.Test.YtipegemhcmfnmaaDoorAr5
namespace Go.Proofs.YtipegemhcmfnmaaDoor
open Go.RowKit

theorem implFloorQ (n d : Int) (w : World) (h1 : -1000000000 ≤ n) (h2 : n ≤ 1000000000) (h3 : 1 ≤ d) (h4 : d ≤ 1000000000) :
    Calls Tryd.prog 99 #[.int .i64 n, .int .i64 d] w fun e w' => e = .returned (.int .i64 (n / d)) ∧ w' = w := by
  by_cases hn : n < 0
  · by_cases ht : n.tmod d = 0
    · have e := floor_neg0 h3 ht
      have E := hid e
      have hz : (n.tmod d != 0) = false := by simp [ht]
      clear e ht
      go_enter Tryd.func99, Tryd.ntmps99
      go_wp2
      go_ret
      exact ⟨ret_int E.out, rfl⟩
    · have e := floor_neg1 h3 hn ht
      have E := hid e
      have hz : (n.tmod d != 0) = true := by simpa using ht
      have hd0 : decide (d < 0) = false := by simp; omega
      have hq := tdiv_bd n d
      have b1 : -1000000000 ≤ n.tdiv d := by omega
      have b2 : n.tdiv d ≤ 1000000000 := by omega
      clear e ht
      go_enter Tryd.func99, Tryd.ntmps99
      go_wp2
      go_ret
      exact ⟨ret_int E.out, rfl⟩
  · by_cases ht : n % d = 0
    · have hz : (n % d != 0) = false := by simp [ht]
      clear ht
      go_enter Tryd.func99, Tryd.ntmps99
      go_wp2
      go_ret
      exact ⟨rfl, rfl⟩
    · have hz : (n % d != 0) = true := by simpa using ht
      clear ht
      go_enter Tryd.func99, Tryd.ntmps99
      go_wp2
      go_ret
      exact ⟨rfl, rfl⟩

theorem specFloorQ (n d : Int) (w : World) (h1 : -1000000000 ≤ n) (h2 : n ≤ 1000000000) (h3 : 1 ≤ d) (h4 : d ≤ 1000000000) :
    Calls Tryd.prog 100 #[.int .i64 n, .int .i64 d] w fun e w' => e = .returned (.int .i64 (n / d)) ∧ w' = w := by
  by_cases hn : n < 0
  · by_cases ht : n.tmod d = 0
    · have e := floor_neg0 h3 ht
      have E := hid e
      have hz : ¬ n.tmod d < 0 := by omega
      clear e ht
      go_enter Tryd.func100, Tryd.ntmps100
      go_wp2
      go_ret
      exact ⟨ret_int E.out, rfl⟩
    · have e := floor_neg1 h3 hn ht
      have E := hid e
      have hz : n.tmod d < 0 := tmod_neg_of hn ht
      have hq := tdiv_bd n d
      have b1 : -1000000000 ≤ n.tdiv d := by omega
      have b2 : n.tdiv d ≤ 1000000000 := by omega
      clear e ht
      go_enter Tryd.func100, Tryd.ntmps100
      go_wp2
      go_ret
      exact ⟨ret_int E.out, rfl⟩
  · have hz : ¬ n % d < 0 := by have := Int.emod_nonneg n (show d ≠ 0 by omega); omega
    go_enter Tryd.func100, Tryd.ntmps100
    go_wp2
    go_ret
    exact ⟨rfl, rfl⟩

/-- The floor of a fraction, and a code. -/
def floorT (n d : Int) : Int × Int := if okF n d then (n / d, 0) else (0, 1)

/-- Are two fractions neighbours? -/
def nbB (n d m f : Int) : Bool := okF n d && okF m f && (n * f - m * d == 1 || n * f - m * d == -1)

end Go.Proofs.YtipegemhcmfnmaaDoor
