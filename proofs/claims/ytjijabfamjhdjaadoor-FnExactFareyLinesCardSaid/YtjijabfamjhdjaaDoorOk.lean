/- Contracts: which numbers are those of a plain fraction, as the program and the model tell it. -/
import Derived.Test.YtjijabfamjhdjaaDoorCd
namespace Go.Proofs.YtjijabfamjhdjaaDoor
open Go.RowKit

theorem ok_gcd {n d : Int} (h1 : inB (-1000000000) 1000000000 n = true) (h2 : inB 1 1000000000 d = true) : okF n d = (gc (n.natAbs : Int) d == 1) := by
  have e : gc (n.natAbs : Int) d = gc n d := by unfold gc Int.gcd; simp
  rw [e, Bool.eq_iff_iff, okF_iff]
  simp [inB_iff] at h1 h2 ⊢
  omega
theorem ok_no1 {n d : Int} (h1 : inB (-1000000000) 1000000000 n = false) : okF n d = false := by
  rw [Bool.eq_false_iff] at h1 ⊢
  intro h
  exact h1 (inB_yes (by rw [okF_iff] at h; omega))
theorem ok_no2 {n d : Int} (h1 : inB 1 1000000000 d = false) : okF n d = false := by
  rw [Bool.eq_false_iff] at h1 ⊢
  intro h
  exact h1 (inB_yes (by rw [okF_iff] at h; omega))


theorem retB {a b : Bool} (h : a = b) : Ending.returned (.bool a) = .returned (.bool b) := by rw [h]

set_option maxHeartbeats 400000 in
theorem implValid (n d : Int) (w : World) :
    Calls Tryd.prog 58 #[.agg #[.int .i64 n, .int .i64 d]] w fun e w' => e = .returned (.bool (okF n d)) ∧ Below w.heap.size w w' := by
  by_cases h : 1 ≤ d ∧ d ≤ 1000000000 ∧ -1000000000 ≤ n ∧ n ≤ 1000000000
  · obtain ⟨h1, h2, h3, h4⟩ := h
    have hg : okF n d = (gc n d == 1) := by
      rw [Bool.eq_iff_iff, okF_iff]
      simp
      omega
    rw [hg]
    clear hg
    go_enter Tryd.func58, Tryd.ntmps58
    go_wp2_with (fail)
    refine (implCd _ _ _ (by omega) (by omega) (by omega) (by omega)).mono ?_
    rintro e w' ⟨rfl, hd⟩
    obtain ⟨k, rfl⟩ := hd
    go_wp2
    go_ret
    exact ⟨rfl, below_drewN ((Below.refl _ _).alloc (Nat.le_refl _) _) _⟩
  · have hg : okF n d = false := by
      rw [Bool.eq_false_iff, Ne, okF_iff]
      omega
    rw [hg]
    clear hg
    by_cases h1 : d < 1
    · go_enter Tryd.func58, Tryd.ntmps58
      go_wp2
      go_ret
      exact ⟨rfl, (Below.refl _ _).alloc (Nat.le_refl _) _⟩
    · by_cases h2 : 1000000000 < d
      · clear h
        go_enter Tryd.func58, Tryd.ntmps58
        go_wp2
        go_ret
        exact ⟨rfl, (Below.refl _ _).alloc (Nat.le_refl _) _⟩
      · by_cases h3 : n < -1000000000
        · clear h
          go_enter Tryd.func58, Tryd.ntmps58
          go_wp2
          go_ret
          exact ⟨rfl, (Below.refl _ _).alloc (Nat.le_refl _) _⟩
        · have h4 : 1000000000 < n := by omega
          clear h
          go_enter Tryd.func58, Tryd.ntmps58
          go_wp2
          go_ret
          exact ⟨rfl, (Below.refl _ _).alloc (Nat.le_refl _) _⟩

end Go.Proofs.YtjijabfamjhdjaaDoor
