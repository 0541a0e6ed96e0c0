/- Contracts: the fraction that a text spells, as the model reads it. -/
import Derived.Test.YthdhkjfanhhamaaDoorRf
namespace Go.Proofs.YthdhkjfanhhamaaDoor
open Go.RowKit Go.Lib

set_option maxHeartbeats 1600000 in
theorem specRF1 (s x0 : ByteArray) (n : Int) (bn bv : Bool) (w : World)
    (HS : Hid (∀ w', Calls Tryd.prog 49 #[.string s, .int .u8 47] w' fun e w'' => ∃ g cap, e = .returned (.slice (some ⟨g, 0, none⟩) 1 cap) ∧ w'.heap.size ≤ g ∧ g < w''.heap.size ∧ w''.cell? ⟨g, 0, none⟩ = some (.string x0) ∧ Below w'.heap.size w' w''))
    (HN : Hid (∀ w', Calls Tryd.prog 45 #[.string x0] w' fun e w'' => e = .returned (.tuple #[.int .i64 n, .bool bn]) ∧ Below w'.heap.size w' w''))
    (HV : Hid (∀ w', Calls Tryd.prog 37 #[.agg #[.int .i64 n, .int .i64 1]] w' fun e w'' => e = .returned (.bool bv) ∧ Below w'.heap.size w' w'')) :
    Calls Tryd.prog 29 #[.string s] w fun e w' => e = .returned (pickF (bn && bv) n 1) ∧ Below w.heap.size w w' := by
  cases bn with
  | false =>
    clear HV
    go_enter Tryd.func29, Tryd.ntmps29
    go_wp2_with (fail)
    have hB0 : Below w.heap.size w (w.alloc (.cells #[.int .i64 0, .int .i64 0] 25)) := (Below.refl _ _).alloc (Nat.le_refl _) _
    refine (HS.out _).mono ?_
    rintro e w1 ⟨g, cap, rfl, hg0, hg1, hc0, hb1⟩
    go_wp2_with (fail)
    refine (HN.out _).mono ?_
    rintro e w2 ⟨rfl, hb2⟩
    have hA2 := hb1.trans (hb2.mono hb1.size)
    have hB2 := hB0.trans (hA2.mono hB0.size)
    obtain ⟨hc2, hf2⟩ := bcell hA2
    have hs2 := hA2.size
    simp at hs2
    have zw20 : w2.cell? ⟨w.heap.size, 0, none⟩ = some (.int .i64 0) := by rw [hc2 _ _ (by simp)]; go_simp
    have fw20 : w2.frozen? ⟨w.heap.size, 0, none⟩ = false := by rw [hf2 _ _ (by simp)]; go_simp
    have cw20 : (w2.cell? ⟨w.heap.size, 0, none⟩).isSome = true := by rw [zw20]; rfl
    have zw21 : w2.cell? ⟨w.heap.size, 1, none⟩ = some (.int .i64 0) := by rw [hc2 _ _ (by simp)]; go_simp
    have fw21 : w2.frozen? ⟨w.heap.size, 1, none⟩ = false := by rw [hf2 _ _ (by simp)]; go_simp
    have cw21 : (w2.cell? ⟨w.heap.size, 1, none⟩).isSome = true := by rw [zw21]; rfl
    have n1 : w2.heap.size ≠ w.heap.size := by omega
    have n2 : w.heap.size ≠ w2.heap.size := by omega
    have n3 : w.heap.size < w2.heap.size := by omega
    clear hc2 hf2 hA2 hb2 hb1 hB0 hc0
    go_wp2_with (fail)
    refine bodyPost_ret (v := .tuple #[.agg #[.int .i64 0, .int .i64 0], .bool false]) (by simp [results, Tryd.results29, go_sem, zw20, zw21, n3]) rfl ⟨rfl, ?_⟩
    exact (below_set (below_set hB2 (Nat.le_refl _) _) (Nat.le_refl _) _).alloc (by simpa [World.setCell] using hB2.size) _
  | true =>
    cases bv with
    | false =>
      go_enter Tryd.func29, Tryd.ntmps29
      go_wp2_with (fail)
      have hB0 : Below w.heap.size w (w.alloc (.cells #[.int .i64 0, .int .i64 0] 25)) := (Below.refl _ _).alloc (Nat.le_refl _) _
      refine (HS.out _).mono ?_
      rintro e w1 ⟨g, cap, rfl, hg0, hg1, hc0, hb1⟩
      go_wp2_with (fail)
      refine (HN.out _).mono ?_
      rintro e w2 ⟨rfl, hb2⟩
      have hA2 := hb1.trans (hb2.mono hb1.size)
      have hB2 := hB0.trans (hA2.mono hB0.size)
      obtain ⟨hc2, hf2⟩ := bcell hA2
      have hs2 := hA2.size
      simp at hs2
      have zw20 : w2.cell? ⟨w.heap.size, 0, none⟩ = some (.int .i64 0) := by rw [hc2 _ _ (by simp)]; go_simp
      have fw20 : w2.frozen? ⟨w.heap.size, 0, none⟩ = false := by rw [hf2 _ _ (by simp)]; go_simp
      have cw20 : (w2.cell? ⟨w.heap.size, 0, none⟩).isSome = true := by rw [zw20]; rfl
      have zw21 : w2.cell? ⟨w.heap.size, 1, none⟩ = some (.int .i64 0) := by rw [hc2 _ _ (by simp)]; go_simp
      have fw21 : w2.frozen? ⟨w.heap.size, 1, none⟩ = false := by rw [hf2 _ _ (by simp)]; go_simp
      have cw21 : (w2.cell? ⟨w.heap.size, 1, none⟩).isSome = true := by rw [zw21]; rfl
      have n1 : w2.heap.size ≠ w.heap.size := by omega
      have n2 : w.heap.size ≠ w2.heap.size := by omega
      have n3 : w.heap.size < w2.heap.size := by omega
      clear hc2 hf2 hA2 hb2 hb1 hB0 hc0
      go_wp2_with (fail)
      refine (HV.out _).mono ?_
      rintro e w4 ⟨rfl, hb4⟩
      have hs4 := hb4.size
      simp at hs4
      have x0 : w4.cell? ⟨w2.heap.size, 0, none⟩ = some (.int .i64 n) := (hb4.cell (p := ⟨w2.heap.size, 0, none⟩) (by simp)).trans (by go_simp)
      have x1 : w4.cell? ⟨w2.heap.size, 1, none⟩ = some (.int .i64 1) := (hb4.cell (p := ⟨w2.heap.size, 1, none⟩) (by simp)).trans (by go_simp)
      have zw40 : w4.cell? ⟨w.heap.size, 0, none⟩ = some (.int .i64 0) := (hb4.cell (p := ⟨w.heap.size, 0, none⟩) (by simp; omega)).trans (by go_simp)
      have fw40 : w4.frozen? ⟨w.heap.size, 0, none⟩ = false := (hb4.frozen (p := ⟨w.heap.size, 0, none⟩) (by simp; omega)).trans (by go_simp)
      have cw40 : (w4.cell? ⟨w.heap.size, 0, none⟩).isSome = true := by rw [zw40]; rfl
      have zw41 : w4.cell? ⟨w.heap.size, 1, none⟩ = some (.int .i64 0) := (hb4.cell (p := ⟨w.heap.size, 1, none⟩) (by simp; omega)).trans (by go_simp)
      have fw41 : w4.frozen? ⟨w.heap.size, 1, none⟩ = false := (hb4.frozen (p := ⟨w.heap.size, 1, none⟩) (by simp; omega)).trans (by go_simp)
      have cw41 : (w4.cell? ⟨w.heap.size, 1, none⟩).isSome = true := by rw [zw41]; rfl
      have hB4 := (hB2.alloc hB2.size _).trans (hb4.mono (by simp; omega))
      clear hb4
      go_wp2_with (fail)
      refine bodyPost_ret (v := .tuple #[.agg #[.int .i64 0, .int .i64 0], .bool false]) (by simp [results, Tryd.results29, go_sem, zw40, zw41]) rfl ⟨rfl, ?_⟩
      exact below_set (below_set hB4 (Nat.le_refl _) _) (Nat.le_refl _) _
    | true =>
      go_enter Tryd.func29, Tryd.ntmps29
      go_wp2_with (fail)
      have hB0 : Below w.heap.size w (w.alloc (.cells #[.int .i64 0, .int .i64 0] 25)) := (Below.refl _ _).alloc (Nat.le_refl _) _
      refine (HS.out _).mono ?_
      rintro e w1 ⟨g, cap, rfl, hg0, hg1, hc0, hb1⟩
      go_wp2_with (fail)
      refine (HN.out _).mono ?_
      rintro e w2 ⟨rfl, hb2⟩
      have hA2 := hb1.trans (hb2.mono hb1.size)
      have hB2 := hB0.trans (hA2.mono hB0.size)
      obtain ⟨hc2, hf2⟩ := bcell hA2
      have hs2 := hA2.size
      simp at hs2
      have zw20 : w2.cell? ⟨w.heap.size, 0, none⟩ = some (.int .i64 0) := by rw [hc2 _ _ (by simp)]; go_simp
      have fw20 : w2.frozen? ⟨w.heap.size, 0, none⟩ = false := by rw [hf2 _ _ (by simp)]; go_simp
      have cw20 : (w2.cell? ⟨w.heap.size, 0, none⟩).isSome = true := by rw [zw20]; rfl
      have zw21 : w2.cell? ⟨w.heap.size, 1, none⟩ = some (.int .i64 0) := by rw [hc2 _ _ (by simp)]; go_simp
      have fw21 : w2.frozen? ⟨w.heap.size, 1, none⟩ = false := by rw [hf2 _ _ (by simp)]; go_simp
      have cw21 : (w2.cell? ⟨w.heap.size, 1, none⟩).isSome = true := by rw [zw21]; rfl
      have n1 : w2.heap.size ≠ w.heap.size := by omega
      have n2 : w.heap.size ≠ w2.heap.size := by omega
      have n3 : w.heap.size < w2.heap.size := by omega
      clear hc2 hf2 hA2 hb2 hb1 hB0 hc0
      go_wp2_with (fail)
      refine (HV.out _).mono ?_
      rintro e w4 ⟨rfl, hb4⟩
      have hs4 := hb4.size
      simp at hs4
      have x0 : w4.cell? ⟨w2.heap.size, 0, none⟩ = some (.int .i64 n) := (hb4.cell (p := ⟨w2.heap.size, 0, none⟩) (by simp)).trans (by go_simp)
      have x1 : w4.cell? ⟨w2.heap.size, 1, none⟩ = some (.int .i64 1) := (hb4.cell (p := ⟨w2.heap.size, 1, none⟩) (by simp)).trans (by go_simp)
      have zw40 : w4.cell? ⟨w.heap.size, 0, none⟩ = some (.int .i64 0) := (hb4.cell (p := ⟨w.heap.size, 0, none⟩) (by simp; omega)).trans (by go_simp)
      have fw40 : w4.frozen? ⟨w.heap.size, 0, none⟩ = false := (hb4.frozen (p := ⟨w.heap.size, 0, none⟩) (by simp; omega)).trans (by go_simp)
      have cw40 : (w4.cell? ⟨w.heap.size, 0, none⟩).isSome = true := by rw [zw40]; rfl
      have zw41 : w4.cell? ⟨w.heap.size, 1, none⟩ = some (.int .i64 0) := (hb4.cell (p := ⟨w.heap.size, 1, none⟩) (by simp; omega)).trans (by go_simp)
      have fw41 : w4.frozen? ⟨w.heap.size, 1, none⟩ = false := (hb4.frozen (p := ⟨w.heap.size, 1, none⟩) (by simp; omega)).trans (by go_simp)
      have cw41 : (w4.cell? ⟨w.heap.size, 1, none⟩).isSome = true := by rw [zw41]; rfl
      have hB4 := (hB2.alloc hB2.size _).trans (hb4.mono (by simp; omega))
      clear hb4
      go_wp2_with (fail)
      refine bodyPost_ret (v := .tuple #[.agg #[.int .i64 n, .int .i64 1], .bool true]) (by simp [results, Tryd.results29, go_sem, zw40, zw41]) rfl ⟨rfl, ?_⟩
      exact below_set (below_set hB4 (Nat.le_refl _) _) (Nat.le_refl _) _

set_option maxHeartbeats 1600000 in
theorem specRF2 (s x0 x1 : ByteArray) (n d : Int) (bn bd b1 bv : Bool) (w : World)
    (HS : Hid (∀ w', Calls Tryd.prog 49 #[.string s, .int .u8 47] w' fun e w'' => ∃ g cap, e = .returned (.slice (some ⟨g, 0, none⟩) 2 cap) ∧ w'.heap.size ≤ g ∧ g < w''.heap.size ∧ w''.cell? ⟨g, 0, none⟩ = some (.string x0) ∧ w''.cell? ⟨g, 1, none⟩ = some (.string x1) ∧ Below w'.heap.size w' w''))
    (HN : Hid (∀ w', Calls Tryd.prog 45 #[.string x0] w' fun e w'' => e = .returned (.tuple #[.int .i64 n, .bool bn]) ∧ Below w'.heap.size w' w''))
    (HD : Hid (∀ w', Calls Tryd.prog 45 #[.string x1] w' fun e w'' => e = .returned (.tuple #[.int .i64 d, .bool bd]) ∧ Below w'.heap.size w' w''))
    (HV : Hid (∀ w', Calls Tryd.prog 37 #[.agg #[.int .i64 n, .int .i64 d]] w' fun e w'' => e = .returned (.bool bv) ∧ Below w'.heap.size w' w''))
    (hd : (d != 1) = b1) :
    Calls Tryd.prog 29 #[.string s] w fun e w' => e = .returned (pickF (bn && (bd && b1) && bv) n d) ∧ Below w.heap.size w w' := by
  cases bn with
  | false =>
    clear HV hd
    go_enter Tryd.func29, Tryd.ntmps29
    go_wp2_with (fail)
    have hB0 : Below w.heap.size w (w.alloc (.cells #[.int .i64 0, .int .i64 0] 25)) := (Below.refl _ _).alloc (Nat.le_refl _) _
    refine (HS.out _).mono ?_
    rintro e w1 ⟨g, cap, rfl, hg0, hg1, hc0, hc1, hb1⟩
    go_wp2_with (fail)
    refine (HN.out _).mono ?_
    rintro e w2 ⟨rfl, hb2⟩
    have hA2 := hb1.trans (hb2.mono hb1.size)
    have hB2 := hB0.trans (hA2.mono hB0.size)
    obtain ⟨hc2, hf2⟩ := bcell hA2
    have hs2 := hA2.size
    simp at hs2
    have zw20 : w2.cell? ⟨w.heap.size, 0, none⟩ = some (.int .i64 0) := by rw [hc2 _ _ (by simp)]; go_simp
    have fw20 : w2.frozen? ⟨w.heap.size, 0, none⟩ = false := by rw [hf2 _ _ (by simp)]; go_simp
    have cw20 : (w2.cell? ⟨w.heap.size, 0, none⟩).isSome = true := by rw [zw20]; rfl
    have zw21 : w2.cell? ⟨w.heap.size, 1, none⟩ = some (.int .i64 0) := by rw [hc2 _ _ (by simp)]; go_simp
    have fw21 : w2.frozen? ⟨w.heap.size, 1, none⟩ = false := by rw [hf2 _ _ (by simp)]; go_simp
    have cw21 : (w2.cell? ⟨w.heap.size, 1, none⟩).isSome = true := by rw [zw21]; rfl
    have n1 : w2.heap.size ≠ w.heap.size := by omega
    have n2 : w.heap.size ≠ w2.heap.size := by omega
    have n3 : w.heap.size < w2.heap.size := by omega
    have g1 := (hb2.cell (p := ⟨g, 1, none⟩) hg1).trans hc1
    have g2 : g < w2.heap.size := Nat.lt_of_lt_of_le hg1 hb2.size
    clear hc1
    clear hc2 hf2 hA2 hb2 hb1 hB0 hc0
    go_wp2_with (fail)
    refine (HD.out _).mono ?_
    rintro e w3 ⟨rfl, hb3⟩
    have hs3 := hb3.size
    simp at hs3
    have n4 : w2.heap.size < w3.heap.size := by omega
    have n5 : w.heap.size < w3.heap.size := by omega
    have y0 : w3.cell? ⟨w2.heap.size, 0, none⟩ = some (.int .i64 n) := (hb3.cell (p := ⟨w2.heap.size, 0, none⟩) (by simp)).trans (by go_simp)
    have u0 : w3.frozen? ⟨w2.heap.size, 0, none⟩ = false := (hb3.frozen (p := ⟨w2.heap.size, 0, none⟩) (by simp)).trans (by go_simp)
    have y1 : w3.cell? ⟨w2.heap.size, 1, none⟩ = some (.int .i64 1) := (hb3.cell (p := ⟨w2.heap.size, 1, none⟩) (by simp)).trans (by go_simp)
    have u1 : w3.frozen? ⟨w2.heap.size, 1, none⟩ = false := (hb3.frozen (p := ⟨w2.heap.size, 1, none⟩) (by simp)).trans (by go_simp)
    have zw30 : w3.cell? ⟨w.heap.size, 0, none⟩ = some (.int .i64 0) := (hb3.cell (p := ⟨w.heap.size, 0, none⟩) (by simp; omega)).trans (by go_simp)
    have fw30 : w3.frozen? ⟨w.heap.size, 0, none⟩ = false := (hb3.frozen (p := ⟨w.heap.size, 0, none⟩) (by simp; omega)).trans (by go_simp)
    have cw30 : (w3.cell? ⟨w.heap.size, 0, none⟩).isSome = true := by rw [zw30]; rfl
    have zw31 : w3.cell? ⟨w.heap.size, 1, none⟩ = some (.int .i64 0) := (hb3.cell (p := ⟨w.heap.size, 1, none⟩) (by simp; omega)).trans (by go_simp)
    have fw31 : w3.frozen? ⟨w.heap.size, 1, none⟩ = false := (hb3.frozen (p := ⟨w.heap.size, 1, none⟩) (by simp; omega)).trans (by go_simp)
    have cw31 : (w3.cell? ⟨w.heap.size, 1, none⟩).isSome = true := by rw [zw31]; rfl
    have hB3 := (hB2.alloc hB2.size _).trans (hb3.mono (by simp; omega))
    clear hb3 hB2
    go_wp2_with (fail)
    refine bodyPost_ret (v := .tuple #[.agg #[.int .i64 0, .int .i64 0], .bool false]) (by simp [results, Tryd.results29, go_sem, zw30, zw31]) rfl ⟨rfl, ?_⟩
    exact below_set (below_set (below_set hB3 (by omega) _) (Nat.le_refl _) _) (Nat.le_refl _) _
  | true =>
    cases bd with
    | false =>
      clear HV hd
      go_enter Tryd.func29, Tryd.ntmps29
      go_wp2_with (fail)
      have hB0 : Below w.heap.size w (w.alloc (.cells #[.int .i64 0, .int .i64 0] 25)) := (Below.refl _ _).alloc (Nat.le_refl _) _
      refine (HS.out _).mono ?_
      rintro e w1 ⟨g, cap, rfl, hg0, hg1, hc0, hc1, hb1⟩
      go_wp2_with (fail)
      refine (HN.out _).mono ?_
      rintro e w2 ⟨rfl, hb2⟩
      have hA2 := hb1.trans (hb2.mono hb1.size)
      have hB2 := hB0.trans (hA2.mono hB0.size)
      obtain ⟨hc2, hf2⟩ := bcell hA2
      have hs2 := hA2.size
      simp at hs2
      have zw20 : w2.cell? ⟨w.heap.size, 0, none⟩ = some (.int .i64 0) := by rw [hc2 _ _ (by simp)]; go_simp
      have fw20 : w2.frozen? ⟨w.heap.size, 0, none⟩ = false := by rw [hf2 _ _ (by simp)]; go_simp
      have cw20 : (w2.cell? ⟨w.heap.size, 0, none⟩).isSome = true := by rw [zw20]; rfl
      have zw21 : w2.cell? ⟨w.heap.size, 1, none⟩ = some (.int .i64 0) := by rw [hc2 _ _ (by simp)]; go_simp
      have fw21 : w2.frozen? ⟨w.heap.size, 1, none⟩ = false := by rw [hf2 _ _ (by simp)]; go_simp
      have cw21 : (w2.cell? ⟨w.heap.size, 1, none⟩).isSome = true := by rw [zw21]; rfl
      have n1 : w2.heap.size ≠ w.heap.size := by omega
      have n2 : w.heap.size ≠ w2.heap.size := by omega
      have n3 : w.heap.size < w2.heap.size := by omega
      have g1 := (hb2.cell (p := ⟨g, 1, none⟩) hg1).trans hc1
      have g2 : g < w2.heap.size := Nat.lt_of_lt_of_le hg1 hb2.size
      clear hc1
      clear hc2 hf2 hA2 hb2 hb1 hB0 hc0
      go_wp2_with (fail)
      refine (HD.out _).mono ?_
      rintro e w3 ⟨rfl, hb3⟩
      have hs3 := hb3.size
      simp at hs3
      have n4 : w2.heap.size < w3.heap.size := by omega
      have n5 : w.heap.size < w3.heap.size := by omega
      have y0 : w3.cell? ⟨w2.heap.size, 0, none⟩ = some (.int .i64 n) := (hb3.cell (p := ⟨w2.heap.size, 0, none⟩) (by simp)).trans (by go_simp)
      have u0 : w3.frozen? ⟨w2.heap.size, 0, none⟩ = false := (hb3.frozen (p := ⟨w2.heap.size, 0, none⟩) (by simp)).trans (by go_simp)
      have y1 : w3.cell? ⟨w2.heap.size, 1, none⟩ = some (.int .i64 1) := (hb3.cell (p := ⟨w2.heap.size, 1, none⟩) (by simp)).trans (by go_simp)
      have u1 : w3.frozen? ⟨w2.heap.size, 1, none⟩ = false := (hb3.frozen (p := ⟨w2.heap.size, 1, none⟩) (by simp)).trans (by go_simp)
      have zw30 : w3.cell? ⟨w.heap.size, 0, none⟩ = some (.int .i64 0) := (hb3.cell (p := ⟨w.heap.size, 0, none⟩) (by simp; omega)).trans (by go_simp)
      have fw30 : w3.frozen? ⟨w.heap.size, 0, none⟩ = false := (hb3.frozen (p := ⟨w.heap.size, 0, none⟩) (by simp; omega)).trans (by go_simp)
      have cw30 : (w3.cell? ⟨w.heap.size, 0, none⟩).isSome = true := by rw [zw30]; rfl
      have zw31 : w3.cell? ⟨w.heap.size, 1, none⟩ = some (.int .i64 0) := (hb3.cell (p := ⟨w.heap.size, 1, none⟩) (by simp; omega)).trans (by go_simp)
      have fw31 : w3.frozen? ⟨w.heap.size, 1, none⟩ = false := (hb3.frozen (p := ⟨w.heap.size, 1, none⟩) (by simp; omega)).trans (by go_simp)
      have cw31 : (w3.cell? ⟨w.heap.size, 1, none⟩).isSome = true := by rw [zw31]; rfl
      have hB3 := (hB2.alloc hB2.size _).trans (hb3.mono (by simp; omega))
      clear hb3 hB2
      go_wp2_with (fail)
      refine bodyPost_ret (v := .tuple #[.agg #[.int .i64 0, .int .i64 0], .bool false]) (by simp [results, Tryd.results29, go_sem, zw30, zw31]) rfl ⟨rfl, ?_⟩
      exact below_set (below_set (below_set hB3 (by omega) _) (Nat.le_refl _) _) (Nat.le_refl _) _
    | true =>
      cases b1 with
      | false =>
        clear HV
        go_enter Tryd.func29, Tryd.ntmps29
        go_wp2_with (fail)
        have hB0 : Below w.heap.size w (w.alloc (.cells #[.int .i64 0, .int .i64 0] 25)) := (Below.refl _ _).alloc (Nat.le_refl _) _
        refine (HS.out _).mono ?_
        rintro e w1 ⟨g, cap, rfl, hg0, hg1, hc0, hc1, hb1⟩
        go_wp2_with (fail)
        refine (HN.out _).mono ?_
        rintro e w2 ⟨rfl, hb2⟩
        have hA2 := hb1.trans (hb2.mono hb1.size)
        have hB2 := hB0.trans (hA2.mono hB0.size)
        obtain ⟨hc2, hf2⟩ := bcell hA2
        have hs2 := hA2.size
        simp at hs2
        have zw20 : w2.cell? ⟨w.heap.size, 0, none⟩ = some (.int .i64 0) := by rw [hc2 _ _ (by simp)]; go_simp
        have fw20 : w2.frozen? ⟨w.heap.size, 0, none⟩ = false := by rw [hf2 _ _ (by simp)]; go_simp
        have cw20 : (w2.cell? ⟨w.heap.size, 0, none⟩).isSome = true := by rw [zw20]; rfl
        have zw21 : w2.cell? ⟨w.heap.size, 1, none⟩ = some (.int .i64 0) := by rw [hc2 _ _ (by simp)]; go_simp
        have fw21 : w2.frozen? ⟨w.heap.size, 1, none⟩ = false := by rw [hf2 _ _ (by simp)]; go_simp
        have cw21 : (w2.cell? ⟨w.heap.size, 1, none⟩).isSome = true := by rw [zw21]; rfl
        have n1 : w2.heap.size ≠ w.heap.size := by omega
        have n2 : w.heap.size ≠ w2.heap.size := by omega
        have n3 : w.heap.size < w2.heap.size := by omega
        have g1 := (hb2.cell (p := ⟨g, 1, none⟩) hg1).trans hc1
        have g2 : g < w2.heap.size := Nat.lt_of_lt_of_le hg1 hb2.size
        clear hc1
        clear hc2 hf2 hA2 hb2 hb1 hB0 hc0
        go_wp2_with (fail)
        refine (HD.out _).mono ?_
        rintro e w3 ⟨rfl, hb3⟩
        have hs3 := hb3.size
        simp at hs3
        have n4 : w2.heap.size < w3.heap.size := by omega
        have n5 : w.heap.size < w3.heap.size := by omega
        have y0 : w3.cell? ⟨w2.heap.size, 0, none⟩ = some (.int .i64 n) := (hb3.cell (p := ⟨w2.heap.size, 0, none⟩) (by simp)).trans (by go_simp)
        have u0 : w3.frozen? ⟨w2.heap.size, 0, none⟩ = false := (hb3.frozen (p := ⟨w2.heap.size, 0, none⟩) (by simp)).trans (by go_simp)
        have y1 : w3.cell? ⟨w2.heap.size, 1, none⟩ = some (.int .i64 1) := (hb3.cell (p := ⟨w2.heap.size, 1, none⟩) (by simp)).trans (by go_simp)
        have u1 : w3.frozen? ⟨w2.heap.size, 1, none⟩ = false := (hb3.frozen (p := ⟨w2.heap.size, 1, none⟩) (by simp)).trans (by go_simp)
        have zw30 : w3.cell? ⟨w.heap.size, 0, none⟩ = some (.int .i64 0) := (hb3.cell (p := ⟨w.heap.size, 0, none⟩) (by simp; omega)).trans (by go_simp)
        have fw30 : w3.frozen? ⟨w.heap.size, 0, none⟩ = false := (hb3.frozen (p := ⟨w.heap.size, 0, none⟩) (by simp; omega)).trans (by go_simp)
        have cw30 : (w3.cell? ⟨w.heap.size, 0, none⟩).isSome = true := by rw [zw30]; rfl
        have zw31 : w3.cell? ⟨w.heap.size, 1, none⟩ = some (.int .i64 0) := (hb3.cell (p := ⟨w.heap.size, 1, none⟩) (by simp; omega)).trans (by go_simp)
        have fw31 : w3.frozen? ⟨w.heap.size, 1, none⟩ = false := (hb3.frozen (p := ⟨w.heap.size, 1, none⟩) (by simp; omega)).trans (by go_simp)
        have cw31 : (w3.cell? ⟨w.heap.size, 1, none⟩).isSome = true := by rw [zw31]; rfl
        have hB3 := (hB2.alloc hB2.size _).trans (hb3.mono (by simp; omega))
        clear hb3 hB2
        go_wp2_with (fail)
        refine bodyPost_ret (v := .tuple #[.agg #[.int .i64 0, .int .i64 0], .bool false]) (by simp [results, Tryd.results29, go_sem, zw30, zw31]) rfl ⟨rfl, ?_⟩
        exact below_set (below_set (below_set hB3 (by omega) _) (Nat.le_refl _) _) (Nat.le_refl _) _
      | true =>
        cases bv with
        | false =>
          go_enter Tryd.func29, Tryd.ntmps29
          go_wp2_with (fail)
          have hB0 : Below w.heap.size w (w.alloc (.cells #[.int .i64 0, .int .i64 0] 25)) := (Below.refl _ _).alloc (Nat.le_refl _) _
          refine (HS.out _).mono ?_
          rintro e w1 ⟨g, cap, rfl, hg0, hg1, hc0, hc1, hb1⟩
          go_wp2_with (fail)
          refine (HN.out _).mono ?_
          rintro e w2 ⟨rfl, hb2⟩
          have hA2 := hb1.trans (hb2.mono hb1.size)
          have hB2 := hB0.trans (hA2.mono hB0.size)
          obtain ⟨hc2, hf2⟩ := bcell hA2
          have hs2 := hA2.size
          simp at hs2
          have zw20 : w2.cell? ⟨w.heap.size, 0, none⟩ = some (.int .i64 0) := by rw [hc2 _ _ (by simp)]; go_simp
          have fw20 : w2.frozen? ⟨w.heap.size, 0, none⟩ = false := by rw [hf2 _ _ (by simp)]; go_simp
          have cw20 : (w2.cell? ⟨w.heap.size, 0, none⟩).isSome = true := by rw [zw20]; rfl
          have zw21 : w2.cell? ⟨w.heap.size, 1, none⟩ = some (.int .i64 0) := by rw [hc2 _ _ (by simp)]; go_simp
          have fw21 : w2.frozen? ⟨w.heap.size, 1, none⟩ = false := by rw [hf2 _ _ (by simp)]; go_simp
          have cw21 : (w2.cell? ⟨w.heap.size, 1, none⟩).isSome = true := by rw [zw21]; rfl
          have n1 : w2.heap.size ≠ w.heap.size := by omega
          have n2 : w.heap.size ≠ w2.heap.size := by omega
          have n3 : w.heap.size < w2.heap.size := by omega
          have g1 := (hb2.cell (p := ⟨g, 1, none⟩) hg1).trans hc1
          have g2 : g < w2.heap.size := Nat.lt_of_lt_of_le hg1 hb2.size
          clear hc1
          clear hc2 hf2 hA2 hb2 hb1 hB0 hc0
          go_wp2_with (fail)
          refine (HD.out _).mono ?_
          rintro e w3 ⟨rfl, hb3⟩
          have hs3 := hb3.size
          simp at hs3
          have n4 : w2.heap.size < w3.heap.size := by omega
          have n5 : w.heap.size < w3.heap.size := by omega
          have y0 : w3.cell? ⟨w2.heap.size, 0, none⟩ = some (.int .i64 n) := (hb3.cell (p := ⟨w2.heap.size, 0, none⟩) (by simp)).trans (by go_simp)
          have u0 : w3.frozen? ⟨w2.heap.size, 0, none⟩ = false := (hb3.frozen (p := ⟨w2.heap.size, 0, none⟩) (by simp)).trans (by go_simp)
          have y1 : w3.cell? ⟨w2.heap.size, 1, none⟩ = some (.int .i64 1) := (hb3.cell (p := ⟨w2.heap.size, 1, none⟩) (by simp)).trans (by go_simp)
          have u1 : w3.frozen? ⟨w2.heap.size, 1, none⟩ = false := (hb3.frozen (p := ⟨w2.heap.size, 1, none⟩) (by simp)).trans (by go_simp)
          have zw30 : w3.cell? ⟨w.heap.size, 0, none⟩ = some (.int .i64 0) := (hb3.cell (p := ⟨w.heap.size, 0, none⟩) (by simp; omega)).trans (by go_simp)
          have fw30 : w3.frozen? ⟨w.heap.size, 0, none⟩ = false := (hb3.frozen (p := ⟨w.heap.size, 0, none⟩) (by simp; omega)).trans (by go_simp)
          have cw30 : (w3.cell? ⟨w.heap.size, 0, none⟩).isSome = true := by rw [zw30]; rfl
          have zw31 : w3.cell? ⟨w.heap.size, 1, none⟩ = some (.int .i64 0) := (hb3.cell (p := ⟨w.heap.size, 1, none⟩) (by simp; omega)).trans (by go_simp)
          have fw31 : w3.frozen? ⟨w.heap.size, 1, none⟩ = false := (hb3.frozen (p := ⟨w.heap.size, 1, none⟩) (by simp; omega)).trans (by go_simp)
          have cw31 : (w3.cell? ⟨w.heap.size, 1, none⟩).isSome = true := by rw [zw31]; rfl
          have hB3 := (hB2.alloc hB2.size _).trans (hb3.mono (by simp; omega))
          clear hb3 hB2
          go_wp2_with (fail)
          refine (HV.out _).mono ?_
          rintro e w4 ⟨rfl, hb4⟩
          have hs4 := hb4.size
          simp at hs4
          have x0 : w4.cell? ⟨w2.heap.size, 0, none⟩ = some (.int .i64 n) := (hb4.cell (p := ⟨w2.heap.size, 0, none⟩) (by simp; omega)).trans (by go_simp)
          have x1 : w4.cell? ⟨w2.heap.size, 1, none⟩ = some (.int .i64 d) := (hb4.cell (p := ⟨w2.heap.size, 1, none⟩) (by simp; omega)).trans (by go_simp)
          have zw40 : w4.cell? ⟨w.heap.size, 0, none⟩ = some (.int .i64 0) := (hb4.cell (p := ⟨w.heap.size, 0, none⟩) (by simp; omega)).trans (by go_simp)
          have fw40 : w4.frozen? ⟨w.heap.size, 0, none⟩ = false := (hb4.frozen (p := ⟨w.heap.size, 0, none⟩) (by simp; omega)).trans (by go_simp)
          have cw40 : (w4.cell? ⟨w.heap.size, 0, none⟩).isSome = true := by rw [zw40]; rfl
          have zw41 : w4.cell? ⟨w.heap.size, 1, none⟩ = some (.int .i64 0) := (hb4.cell (p := ⟨w.heap.size, 1, none⟩) (by simp; omega)).trans (by go_simp)
          have fw41 : w4.frozen? ⟨w.heap.size, 1, none⟩ = false := (hb4.frozen (p := ⟨w.heap.size, 1, none⟩) (by simp; omega)).trans (by go_simp)
          have cw41 : (w4.cell? ⟨w.heap.size, 1, none⟩).isSome = true := by rw [zw41]; rfl
          have hB4 := (below_set hB3 (by omega) _).trans (hb4.mono (by simp; omega))
          clear hb4
          go_wp2_with (fail)
          refine bodyPost_ret (v := .tuple #[.agg #[.int .i64 0, .int .i64 0], .bool false]) (by simp [results, Tryd.results29, go_sem, zw40, zw41]) rfl ⟨rfl, ?_⟩
          exact below_set (below_set hB4 (Nat.le_refl _) _) (Nat.le_refl _) _
        | true =>
          go_enter Tryd.func29, Tryd.ntmps29
          go_wp2_with (fail)
          have hB0 : Below w.heap.size w (w.alloc (.cells #[.int .i64 0, .int .i64 0] 25)) := (Below.refl _ _).alloc (Nat.le_refl _) _
          refine (HS.out _).mono ?_
          rintro e w1 ⟨g, cap, rfl, hg0, hg1, hc0, hc1, hb1⟩
          go_wp2_with (fail)
          refine (HN.out _).mono ?_
          rintro e w2 ⟨rfl, hb2⟩
          have hA2 := hb1.trans (hb2.mono hb1.size)
          have hB2 := hB0.trans (hA2.mono hB0.size)
          obtain ⟨hc2, hf2⟩ := bcell hA2
          have hs2 := hA2.size
          simp at hs2
          have zw20 : w2.cell? ⟨w.heap.size, 0, none⟩ = some (.int .i64 0) := by rw [hc2 _ _ (by simp)]; go_simp
          have fw20 : w2.frozen? ⟨w.heap.size, 0, none⟩ = false := by rw [hf2 _ _ (by simp)]; go_simp
          have cw20 : (w2.cell? ⟨w.heap.size, 0, none⟩).isSome = true := by rw [zw20]; rfl
          have zw21 : w2.cell? ⟨w.heap.size, 1, none⟩ = some (.int .i64 0) := by rw [hc2 _ _ (by simp)]; go_simp
          have fw21 : w2.frozen? ⟨w.heap.size, 1, none⟩ = false := by rw [hf2 _ _ (by simp)]; go_simp
          have cw21 : (w2.cell? ⟨w.heap.size, 1, none⟩).isSome = true := by rw [zw21]; rfl
          have n1 : w2.heap.size ≠ w.heap.size := by omega
          have n2 : w.heap.size ≠ w2.heap.size := by omega
          have n3 : w.heap.size < w2.heap.size := by omega
          have g1 := (hb2.cell (p := ⟨g, 1, none⟩) hg1).trans hc1
          have g2 : g < w2.heap.size := Nat.lt_of_lt_of_le hg1 hb2.size
          clear hc1
          clear hc2 hf2 hA2 hb2 hb1 hB0 hc0
          go_wp2_with (fail)
          refine (HD.out _).mono ?_
          rintro e w3 ⟨rfl, hb3⟩
          have hs3 := hb3.size
          simp at hs3
          have n4 : w2.heap.size < w3.heap.size := by omega
          have n5 : w.heap.size < w3.heap.size := by omega
          have y0 : w3.cell? ⟨w2.heap.size, 0, none⟩ = some (.int .i64 n) := (hb3.cell (p := ⟨w2.heap.size, 0, none⟩) (by simp)).trans (by go_simp)
          have u0 : w3.frozen? ⟨w2.heap.size, 0, none⟩ = false := (hb3.frozen (p := ⟨w2.heap.size, 0, none⟩) (by simp)).trans (by go_simp)
          have y1 : w3.cell? ⟨w2.heap.size, 1, none⟩ = some (.int .i64 1) := (hb3.cell (p := ⟨w2.heap.size, 1, none⟩) (by simp)).trans (by go_simp)
          have u1 : w3.frozen? ⟨w2.heap.size, 1, none⟩ = false := (hb3.frozen (p := ⟨w2.heap.size, 1, none⟩) (by simp)).trans (by go_simp)
          have zw30 : w3.cell? ⟨w.heap.size, 0, none⟩ = some (.int .i64 0) := (hb3.cell (p := ⟨w.heap.size, 0, none⟩) (by simp; omega)).trans (by go_simp)
          have fw30 : w3.frozen? ⟨w.heap.size, 0, none⟩ = false := (hb3.frozen (p := ⟨w.heap.size, 0, none⟩) (by simp; omega)).trans (by go_simp)
          have cw30 : (w3.cell? ⟨w.heap.size, 0, none⟩).isSome = true := by rw [zw30]; rfl
          have zw31 : w3.cell? ⟨w.heap.size, 1, none⟩ = some (.int .i64 0) := (hb3.cell (p := ⟨w.heap.size, 1, none⟩) (by simp; omega)).trans (by go_simp)
          have fw31 : w3.frozen? ⟨w.heap.size, 1, none⟩ = false := (hb3.frozen (p := ⟨w.heap.size, 1, none⟩) (by simp; omega)).trans (by go_simp)
          have cw31 : (w3.cell? ⟨w.heap.size, 1, none⟩).isSome = true := by rw [zw31]; rfl
          have hB3 := (hB2.alloc hB2.size _).trans (hb3.mono (by simp; omega))
          clear hb3 hB2
          go_wp2_with (fail)
          refine (HV.out _).mono ?_
          rintro e w4 ⟨rfl, hb4⟩
          have hs4 := hb4.size
          simp at hs4
          have x0 : w4.cell? ⟨w2.heap.size, 0, none⟩ = some (.int .i64 n) := (hb4.cell (p := ⟨w2.heap.size, 0, none⟩) (by simp; omega)).trans (by go_simp)
          have x1 : w4.cell? ⟨w2.heap.size, 1, none⟩ = some (.int .i64 d) := (hb4.cell (p := ⟨w2.heap.size, 1, none⟩) (by simp; omega)).trans (by go_simp)
          have zw40 : w4.cell? ⟨w.heap.size, 0, none⟩ = some (.int .i64 0) := (hb4.cell (p := ⟨w.heap.size, 0, none⟩) (by simp; omega)).trans (by go_simp)
          have fw40 : w4.frozen? ⟨w.heap.size, 0, none⟩ = false := (hb4.frozen (p := ⟨w.heap.size, 0, none⟩) (by simp; omega)).trans (by go_simp)
          have cw40 : (w4.cell? ⟨w.heap.size, 0, none⟩).isSome = true := by rw [zw40]; rfl
          have zw41 : w4.cell? ⟨w.heap.size, 1, none⟩ = some (.int .i64 0) := (hb4.cell (p := ⟨w.heap.size, 1, none⟩) (by simp; omega)).trans (by go_simp)
          have fw41 : w4.frozen? ⟨w.heap.size, 1, none⟩ = false := (hb4.frozen (p := ⟨w.heap.size, 1, none⟩) (by simp; omega)).trans (by go_simp)
          have cw41 : (w4.cell? ⟨w.heap.size, 1, none⟩).isSome = true := by rw [zw41]; rfl
          have hB4 := (below_set hB3 (by omega) _).trans (hb4.mono (by simp; omega))
          clear hb4
          go_wp2_with (fail)
          refine bodyPost_ret (v := .tuple #[.agg #[.int .i64 n, .int .i64 d], .bool true]) (by simp [results, Tryd.results29, go_sem, zw40, zw41]) rfl ⟨rfl, ?_⟩
          exact below_set (below_set hB4 (Nat.le_refl _) _) (Nat.le_refl _) _

set_option maxHeartbeats 1600000 in
theorem specRF3 (s x0 : ByteArray) (m : Nat) (n : Int) (bn : Bool) (w : World) (hm : 2 < m)
    (HS : Hid (∀ w', Calls Tryd.prog 49 #[.string s, .int .u8 47] w' fun e w'' => ∃ g cap, e = .returned (.slice (some ⟨g, 0, none⟩) m cap) ∧ w'.heap.size ≤ g ∧ g < w''.heap.size ∧ w''.cell? ⟨g, 0, none⟩ = some (.string x0) ∧ Below w'.heap.size w' w''))
    (HN : Hid (∀ w', Calls Tryd.prog 45 #[.string x0] w' fun e w'' => e = .returned (.tuple #[.int .i64 n, .bool bn]) ∧ Below w'.heap.size w' w'')) :
    Calls Tryd.prog 29 #[.string s] w fun e w' => e = .returned (pickF (false) 0 0) ∧ Below w.heap.size w w' := by
  have m1 : ((m : Int) == 2) = false := by rw [beq_eq_false_iff_ne]; omega
  have m2 : (2 : Int) < (m : Int) := by omega
  have m3 : (0 : Int) < (m : Int) := by omega
  cases bn with
  | false =>
    go_enter Tryd.func29, Tryd.ntmps29
    go_wp2_with (fail)
    have hB0 : Below w.heap.size w (w.alloc (.cells #[.int .i64 0, .int .i64 0] 25)) := (Below.refl _ _).alloc (Nat.le_refl _) _
    refine (HS.out _).mono ?_
    rintro e w1 ⟨g, cap, rfl, hg0, hg1, hc0, hb1⟩
    go_wp2_with (fail)
    refine (HN.out _).mono ?_
    rintro e w2 ⟨rfl, hb2⟩
    have hA2 := hb1.trans (hb2.mono hb1.size)
    have hB2 := hB0.trans (hA2.mono hB0.size)
    obtain ⟨hc2, hf2⟩ := bcell hA2
    have hs2 := hA2.size
    simp at hs2
    have zw20 : w2.cell? ⟨w.heap.size, 0, none⟩ = some (.int .i64 0) := by rw [hc2 _ _ (by simp)]; go_simp
    have fw20 : w2.frozen? ⟨w.heap.size, 0, none⟩ = false := by rw [hf2 _ _ (by simp)]; go_simp
    have cw20 : (w2.cell? ⟨w.heap.size, 0, none⟩).isSome = true := by rw [zw20]; rfl
    have zw21 : w2.cell? ⟨w.heap.size, 1, none⟩ = some (.int .i64 0) := by rw [hc2 _ _ (by simp)]; go_simp
    have fw21 : w2.frozen? ⟨w.heap.size, 1, none⟩ = false := by rw [hf2 _ _ (by simp)]; go_simp
    have cw21 : (w2.cell? ⟨w.heap.size, 1, none⟩).isSome = true := by rw [zw21]; rfl
    have n1 : w2.heap.size ≠ w.heap.size := by omega
    have n2 : w.heap.size ≠ w2.heap.size := by omega
    have n3 : w.heap.size < w2.heap.size := by omega
    clear hc2 hf2 hA2 hb2 hb1 hB0 hc0
    go_wp2_with (fail)
    refine bodyPost_ret (v := .tuple #[.agg #[.int .i64 0, .int .i64 0], .bool false]) (by simp [results, Tryd.results29, go_sem, zw20, zw21, n3]) rfl ⟨rfl, ?_⟩
    exact (below_set (below_set hB2 (Nat.le_refl _) _) (Nat.le_refl _) _).alloc (by simpa [World.setCell] using hB2.size) _
  | true =>
    go_enter Tryd.func29, Tryd.ntmps29
    go_wp2_with (fail)
    have hB0 : Below w.heap.size w (w.alloc (.cells #[.int .i64 0, .int .i64 0] 25)) := (Below.refl _ _).alloc (Nat.le_refl _) _
    refine (HS.out _).mono ?_
    rintro e w1 ⟨g, cap, rfl, hg0, hg1, hc0, hb1⟩
    go_wp2_with (fail)
    refine (HN.out _).mono ?_
    rintro e w2 ⟨rfl, hb2⟩
    have hA2 := hb1.trans (hb2.mono hb1.size)
    have hB2 := hB0.trans (hA2.mono hB0.size)
    obtain ⟨hc2, hf2⟩ := bcell hA2
    have hs2 := hA2.size
    simp at hs2
    have zw20 : w2.cell? ⟨w.heap.size, 0, none⟩ = some (.int .i64 0) := by rw [hc2 _ _ (by simp)]; go_simp
    have fw20 : w2.frozen? ⟨w.heap.size, 0, none⟩ = false := by rw [hf2 _ _ (by simp)]; go_simp
    have cw20 : (w2.cell? ⟨w.heap.size, 0, none⟩).isSome = true := by rw [zw20]; rfl
    have zw21 : w2.cell? ⟨w.heap.size, 1, none⟩ = some (.int .i64 0) := by rw [hc2 _ _ (by simp)]; go_simp
    have fw21 : w2.frozen? ⟨w.heap.size, 1, none⟩ = false := by rw [hf2 _ _ (by simp)]; go_simp
    have cw21 : (w2.cell? ⟨w.heap.size, 1, none⟩).isSome = true := by rw [zw21]; rfl
    have n1 : w2.heap.size ≠ w.heap.size := by omega
    have n2 : w.heap.size ≠ w2.heap.size := by omega
    have n3 : w.heap.size < w2.heap.size := by omega
    clear hc2 hf2 hA2 hb2 hb1 hB0 hc0
    go_wp2_with (fail)
    refine bodyPost_ret (v := .tuple #[.agg #[.int .i64 0, .int .i64 0], .bool false]) (by simp [results, Tryd.results29, go_sem, zw20, zw21, n3]) rfl ⟨rfl, ?_⟩
    exact (below_set (below_set hB2 (Nat.le_refl _) _) (Nat.le_refl _) _).alloc (by simpa [World.setCell] using hB2.size) _


end Go.Proofs.YthdhkjfanhhamaaDoor
