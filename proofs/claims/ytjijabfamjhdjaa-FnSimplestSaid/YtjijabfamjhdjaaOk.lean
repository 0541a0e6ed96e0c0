/- Contracts: which numbers are those of a plain fraction, as the program and the model tell it. -/
import Derived.Test.YtjijabfamjhdjaaCd
namespace Go.Proofs.Ytjijabfamjhdjaa
open Go.RowKit

theorem ok_gcd {n d : Int} (h1 : inB (-1000000000) 1000000000 n = true) (h2 : inB 1 1000000000 d = true) : okF n d = (gc (n.natAbs : Int) d == 1) := by
  have e : gc (n.natAbs : Int) d = gc n d := by unfold gc Int.gcd; simp
  rw [e, Bool.eq_iff_iff, okF_iff]
  simp [inB_iff] at h1 h2 ⊢
  omega
theorem ok_no1 {n d : Int} (h1 : inB (-1000000000) 1000000000 n = false) : okF n d = false := by
  rw [Bool.eq_false_iff] at h1 ⊢
  intro h
  exact h1 (inB_yes (by rw [okF_iff] at h; omega))
theorem ok_no2 {n d : Int} (h1 : inB 1 1000000000 d = false) : okF n d = false := by
  rw [Bool.eq_false_iff] at h1 ⊢
  intro h
  exact h1 (inB_yes (by rw [okF_iff] at h; omega))


theorem retB {a b : Bool} (h : a = b) : Ending.returned (.bool a) = .returned (.bool b) := by rw [h]

set_option maxHeartbeats 400000 in
theorem specOk (n d : Int) (w : World) :
    Calls Try.prog 58 #[.agg #[.int .i64 n, .int .i64 d]] w fun e w' => e = .returned (.bool (okF n d)) ∧ Below w.heap.size w w' := by
  cases h1 : inB (-1000000000) 1000000000 n with
  | false =>
    rw [ok_no1 h1]
    have C1 : ∀ w, Calls Try.prog 77 #[.int .i64 n, .int .i64 (-1000000000), .int .i64 1000000000] w fun e w' => e = .returned (.bool false) ∧ w' = w := by
      intro w; rw [← h1]; exact specIn _ _ _ _
    clear h1
    go_enter Try.func58, Try.ntmps58
    go_wp2
    go_quiet ((go_at_call 77; exact Calls.quiet_of_same (C1 _)))
    go_wp2
    go_ret
    exact ⟨rfl, ((Below.refl _ _).alloc (Nat.le_refl _) _).trans (below_drewN (Below.refl _ _) _)⟩
  | true =>
    cases h2 : inB 1 1000000000 d with
    | false =>
      rw [ok_no2 h2]
      have C1 : ∀ w, Calls Try.prog 77 #[.int .i64 n, .int .i64 (-1000000000), .int .i64 1000000000] w fun e w' => e = .returned (.bool true) ∧ w' = w := by
        intro w; rw [← h1]; exact specIn _ _ _ _
      have C2 : ∀ w, Calls Try.prog 77 #[.int .i64 d, .int .i64 1, .int .i64 1000000000] w fun e w' => e = .returned (.bool false) ∧ w' = w := by
        intro w; rw [← h2]; exact specIn _ _ _ _
      clear h1 h2
      go_enter Try.func58, Try.ntmps58
      go_wp2
      go_quiet ((first | (go_at_call_of 77 (Value.int .i64 n); exact Calls.quiet_of_same (C1 _)) | (go_at_call_of 77 (Value.int .i64 d); exact Calls.quiet_of_same (C2 _))))
      go_wp2
      go_ret
      exact ⟨rfl, ((Below.refl _ _).alloc (Nat.le_refl _) _).trans (below_drewN (Below.refl _ _) _)⟩
    | true =>
      have C1 : ∀ w, Calls Try.prog 77 #[.int .i64 n, .int .i64 (-1000000000), .int .i64 1000000000] w fun e w' => e = .returned (.bool true) ∧ w' = w := by
        intro w; rw [← h1]; exact specIn _ _ _ _
      have C2 : ∀ w, Calls Try.prog 77 #[.int .i64 d, .int .i64 1, .int .i64 1000000000] w fun e w' => e = .returned (.bool true) ∧ w' = w := by
        intro w; rw [← h2]; exact specIn _ _ _ _
      have hn := inB_iff.1 h1
      have hd := inB_iff.1 h2
      have C3 : ∀ w, Calls Try.prog 87 #[.int .i64 n] w fun e w' => e = .returned (.int .i64 (n.natAbs : Int)) ∧ w' = w := by
        intro w; exact specSize _ _ (by omega) (by omega)
      obtain ⟨m, hm⟩ : ∃ m : Int, (n.natAbs : Int) = m := ⟨_, rfl⟩
      obtain ⟨b, hb⟩ : ∃ b : Bool, okF n d = b := ⟨_, rfl⟩
      have hg := ok_gcd h1 h2
      rw [hm] at hg C3
      rw [hb] at hg ⊢
      have C4 : ∀ w, Calls Try.prog 86 #[.int .i64 m, .int .i64 d] w fun e w' => e = .returned (.int .i64 (gc m d)) ∧ w' = w := by
        intro w; exact specGcd _ _ _ (by omega) (by omega) (by omega) (by omega)
      have HG := hid hg
      have HB := hid hb
      have HM := hid hm
      clear h1 h2 hg hb hm
      go_enter Try.func58, Try.ntmps58
      go_wp2
      go_quiet ((first | (go_at_call_of 77 (Value.int .i64 n); exact Calls.quiet_of_same (C1 _)) | (go_at_call_of 77 (Value.int .i64 d); exact Calls.quiet_of_same (C2 _)) | (go_at_call 87; exact Calls.quiet_of_same (C3 _)) | (go_at_call 86; exact Calls.quiet_of_same (C4 _))))
      go_wp2
      go_ret
      exact ⟨retB HG.out.symm, ((Below.refl _ _).alloc (Nat.le_refl _) _).trans (below_drewN (Below.refl _ _) _)⟩

set_option maxHeartbeats 400000 in
theorem implValid (n d : Int) (w : World) :
    Calls Try.prog 56 #[.agg #[.int .i64 n, .int .i64 d]] w fun e w' => e = .returned (.bool (okF n d)) ∧ Below w.heap.size w w' := by
  by_cases h : 1 ≤ d ∧ d ≤ 1000000000 ∧ -1000000000 ≤ n ∧ n ≤ 1000000000
  · obtain ⟨h1, h2, h3, h4⟩ := h
    have hg : okF n d = (gc n d == 1) := by
      rw [Bool.eq_iff_iff, okF_iff]
      simp
      omega
    rw [hg]
    clear hg
    go_enter Try.func56, Try.ntmps56
    go_wp2_with (fail)
    refine (implCd _ _ _ (by omega) (by omega) (by omega) (by omega)).mono ?_
    rintro e w' ⟨rfl, hd⟩
    obtain ⟨k, rfl⟩ := hd
    go_wp2
    go_ret
    exact ⟨rfl, below_drewN ((Below.refl _ _).alloc (Nat.le_refl _) _) _⟩
  · have hg : okF n d = false := by
      rw [Bool.eq_false_iff, Ne, okF_iff]
      omega
    rw [hg]
    clear hg
    by_cases h1 : d < 1
    · go_enter Try.func56, Try.ntmps56
      go_wp2
      go_ret
      exact ⟨rfl, (Below.refl _ _).alloc (Nat.le_refl _) _⟩
    · by_cases h2 : 1000000000 < d
      · clear h
        go_enter Try.func56, Try.ntmps56
        go_wp2
        go_ret
        exact ⟨rfl, (Below.refl _ _).alloc (Nat.le_refl _) _⟩
      · by_cases h3 : n < -1000000000
        · clear h
          go_enter Try.func56, Try.ntmps56
          go_wp2
          go_ret
          exact ⟨rfl, (Below.refl _ _).alloc (Nat.le_refl _) _⟩
        · have h4 : 1000000000 < n := by omega
          clear h
          go_enter Try.func56, Try.ntmps56
          go_wp2
          go_ret
          exact ⟨rfl, (Below.refl _ _).alloc (Nat.le_refl _) _⟩

end Go.Proofs.Ytjijabfamjhdjaa
