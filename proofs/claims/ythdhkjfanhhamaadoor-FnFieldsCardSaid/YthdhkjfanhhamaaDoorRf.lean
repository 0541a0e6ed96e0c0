/- Contracts: the fraction that a text spells, as the program and the model read it. -/
import Derived.Test.YthdhkjfanhhamaaDoorRfm
import Derived.Test.YthdhkjfanhhamaaDoorRd2
namespace Go.Proofs.YthdhkjfanhhamaaDoor
open Go.RowKit Go.Lib

def resV (r : Int × Int × Bool) : Value := .tuple #[.agg #[.int .i64 r.1, .int .i64 r.2.1], .bool r.2.2]
def pickF (b : Bool) (n d : Int) : Value := if b = true then .tuple #[.agg #[.int .i64 n, .int .i64 d], .bool true] else .tuple #[.agg #[.int .i64 0, .int .i64 0], .bool false]
theorem resV_if (b : Bool) (n d : Int) : resV (if b = true then (n, d, true) else (0, 0, false)) = pickF b n d := by cases b <;> rfl

set_option maxHeartbeats 1600000 in
theorem implRFwalkF (s a b0 t : ByteArray) (n d : Int) (bn bd bv bt : Bool) (w : World)
    (HC : Hid (∀ w', Below w.heap.size w w' → Calls Tryd.prog 40 #[.string s, .string ⟨#[47]⟩] w' fun e w'' => e = .returned (.tuple #[.string a, .string b0, .bool false]) ∧ ∃ k, w'' = w'.drewN k))
    (HN : Hid (∀ w', Below w.heap.size w w' → Calls Tryd.prog 26 #[.string a] w' fun e w'' => e = .returned (.tuple #[.int .i64 n, .bool bn]) ∧ Below w'.heap.size w' w''))
    (HD : Hid (∀ w', Below w.heap.size w w' → Calls Tryd.prog 26 #[.string ⟨#[49]⟩] w' fun e w'' => e = .returned (.tuple #[.int .i64 d, .bool bd]) ∧ Below w'.heap.size w' w''))
    (HV : Hid (∀ w', Calls Tryd.prog 33 #[.agg #[.int .i64 n, .int .i64 d]] w' fun e w'' => e = .returned (.bool bv) ∧ Below w'.heap.size w' w''))
    (HT : Hid (∀ w', Below w.heap.size w w' → Calls Tryd.prog 19 #[.agg #[.int .i64 n, .int .i64 d]] w' fun e w'' => e = .returned (.string t) ∧ Below w'.heap.size w' w''))
    (ht : (t.toList == s.toList) = bt) :
    Calls Tryd.prog 18 #[.string s] w fun e w' => e = .returned (pickF (bn && bd && bv && bt) n d) ∧ Below w.heap.size w w' := by
  cases bn with
  | false =>
    clear HV HT ht
    go_enter Tryd.func18, Tryd.ntmps18
    go_wp2_with (fail)
    have hB0 : Below w.heap.size w (w.alloc (.cells #[.int .i64 0, .int .i64 0] 25)) := (Below.refl _ _).alloc (Nat.le_refl _) _
    refine (HC.out _ hB0).mono ?_
    rintro e w1 ⟨rfl, k, rfl⟩
    have hA1 : Below (w.alloc (.cells #[.int .i64 0, .int .i64 0] 25)).heap.size (w.alloc (.cells #[.int .i64 0, .int .i64 0] 25)) ((w.alloc (.cells #[.int .i64 0, .int .i64 0] 25)).drewN k) := below_drewN (Below.refl _ _) _
    have hB1 := hB0.trans (hA1.mono hB0.size)
    go_wp2_with (fail)
    refine (HN.out _ hB1).mono ?_
    rintro e w2 ⟨rfl, hb2⟩
    have hA2 := hA1.trans (hb2.mono hA1.size)
    have hB2 := hB0.trans (hA2.mono hB0.size)
    go_wp2_with (fail)
    refine (HD.out _ hB2).mono ?_
    rintro e w3 ⟨rfl, hb3⟩
    have hA3 := hA2.trans (hb3.mono hA2.size)
    have hB3 := hB0.trans (hA3.mono hB0.size)
    obtain ⟨hc3, hf3⟩ := bcell hA3
    have hs3 := hA3.size
    simp at hs3
    have zw30 : w3.cell? ⟨w.heap.size, 0, none⟩ = some (.int .i64 0) := by rw [hc3 _ _ (by simp)]; go_simp
    have fw30 : w3.frozen? ⟨w.heap.size, 0, none⟩ = false := by rw [hf3 _ _ (by simp)]; go_simp
    have cw30 : (w3.cell? ⟨w.heap.size, 0, none⟩).isSome = true := by rw [zw30]; rfl
    have zw31 : w3.cell? ⟨w.heap.size, 1, none⟩ = some (.int .i64 0) := by rw [hc3 _ _ (by simp)]; go_simp
    have fw31 : w3.frozen? ⟨w.heap.size, 1, none⟩ = false := by rw [hf3 _ _ (by simp)]; go_simp
    have cw31 : (w3.cell? ⟨w.heap.size, 1, none⟩).isSome = true := by rw [zw31]; rfl
    have n1 : w3.heap.size ≠ w.heap.size := by omega
    have n2 : w.heap.size ≠ w3.heap.size := by omega
    have n3 : w.heap.size < w3.heap.size := by omega
    clear hc3 hf3 hA1 hA2 hA3 hb2 hb3 hB1 hB2 hB0
    go_wp2_with (fail)
    refine bodyPost_ret (v := .tuple #[.agg #[.int .i64 0, .int .i64 0], .bool false]) (by simp [results, Tryd.results18, go_sem, zw30, zw31, n3]) rfl ⟨rfl, ?_⟩
    exact (below_set (below_set hB3 (Nat.le_refl _) _) (Nat.le_refl _) _).alloc (by simpa [World.setCell] using hB3.size) _
  | true =>
    cases bd with
    | false =>
      clear HV HT ht
      go_enter Tryd.func18, Tryd.ntmps18
      go_wp2_with (fail)
      have hB0 : Below w.heap.size w (w.alloc (.cells #[.int .i64 0, .int .i64 0] 25)) := (Below.refl _ _).alloc (Nat.le_refl _) _
      refine (HC.out _ hB0).mono ?_
      rintro e w1 ⟨rfl, k, rfl⟩
      have hA1 : Below (w.alloc (.cells #[.int .i64 0, .int .i64 0] 25)).heap.size (w.alloc (.cells #[.int .i64 0, .int .i64 0] 25)) ((w.alloc (.cells #[.int .i64 0, .int .i64 0] 25)).drewN k) := below_drewN (Below.refl _ _) _
      have hB1 := hB0.trans (hA1.mono hB0.size)
      go_wp2_with (fail)
      refine (HN.out _ hB1).mono ?_
      rintro e w2 ⟨rfl, hb2⟩
      have hA2 := hA1.trans (hb2.mono hA1.size)
      have hB2 := hB0.trans (hA2.mono hB0.size)
      go_wp2_with (fail)
      refine (HD.out _ hB2).mono ?_
      rintro e w3 ⟨rfl, hb3⟩
      have hA3 := hA2.trans (hb3.mono hA2.size)
      have hB3 := hB0.trans (hA3.mono hB0.size)
      obtain ⟨hc3, hf3⟩ := bcell hA3
      have hs3 := hA3.size
      simp at hs3
      have zw30 : w3.cell? ⟨w.heap.size, 0, none⟩ = some (.int .i64 0) := by rw [hc3 _ _ (by simp)]; go_simp
      have fw30 : w3.frozen? ⟨w.heap.size, 0, none⟩ = false := by rw [hf3 _ _ (by simp)]; go_simp
      have cw30 : (w3.cell? ⟨w.heap.size, 0, none⟩).isSome = true := by rw [zw30]; rfl
      have zw31 : w3.cell? ⟨w.heap.size, 1, none⟩ = some (.int .i64 0) := by rw [hc3 _ _ (by simp)]; go_simp
      have fw31 : w3.frozen? ⟨w.heap.size, 1, none⟩ = false := by rw [hf3 _ _ (by simp)]; go_simp
      have cw31 : (w3.cell? ⟨w.heap.size, 1, none⟩).isSome = true := by rw [zw31]; rfl
      have n1 : w3.heap.size ≠ w.heap.size := by omega
      have n2 : w.heap.size ≠ w3.heap.size := by omega
      have n3 : w.heap.size < w3.heap.size := by omega
      clear hc3 hf3 hA1 hA2 hA3 hb2 hb3 hB1 hB2 hB0
      go_wp2_with (fail)
      refine bodyPost_ret (v := .tuple #[.agg #[.int .i64 0, .int .i64 0], .bool false]) (by simp [results, Tryd.results18, go_sem, zw30, zw31, n3]) rfl ⟨rfl, ?_⟩
      exact (below_set (below_set hB3 (Nat.le_refl _) _) (Nat.le_refl _) _).alloc (by simpa [World.setCell] using hB3.size) _
    | true =>
      cases bv with
      | false =>
        clear HT ht
        go_enter Tryd.func18, Tryd.ntmps18
        go_wp2_with (fail)
        have hB0 : Below w.heap.size w (w.alloc (.cells #[.int .i64 0, .int .i64 0] 25)) := (Below.refl _ _).alloc (Nat.le_refl _) _
        refine (HC.out _ hB0).mono ?_
        rintro e w1 ⟨rfl, k, rfl⟩
        have hA1 : Below (w.alloc (.cells #[.int .i64 0, .int .i64 0] 25)).heap.size (w.alloc (.cells #[.int .i64 0, .int .i64 0] 25)) ((w.alloc (.cells #[.int .i64 0, .int .i64 0] 25)).drewN k) := below_drewN (Below.refl _ _) _
        have hB1 := hB0.trans (hA1.mono hB0.size)
        go_wp2_with (fail)
        refine (HN.out _ hB1).mono ?_
        rintro e w2 ⟨rfl, hb2⟩
        have hA2 := hA1.trans (hb2.mono hA1.size)
        have hB2 := hB0.trans (hA2.mono hB0.size)
        go_wp2_with (fail)
        refine (HD.out _ hB2).mono ?_
        rintro e w3 ⟨rfl, hb3⟩
        have hA3 := hA2.trans (hb3.mono hA2.size)
        have hB3 := hB0.trans (hA3.mono hB0.size)
        obtain ⟨hc3, hf3⟩ := bcell hA3
        have hs3 := hA3.size
        simp at hs3
        have zw30 : w3.cell? ⟨w.heap.size, 0, none⟩ = some (.int .i64 0) := by rw [hc3 _ _ (by simp)]; go_simp
        have fw30 : w3.frozen? ⟨w.heap.size, 0, none⟩ = false := by rw [hf3 _ _ (by simp)]; go_simp
        have cw30 : (w3.cell? ⟨w.heap.size, 0, none⟩).isSome = true := by rw [zw30]; rfl
        have zw31 : w3.cell? ⟨w.heap.size, 1, none⟩ = some (.int .i64 0) := by rw [hc3 _ _ (by simp)]; go_simp
        have fw31 : w3.frozen? ⟨w.heap.size, 1, none⟩ = false := by rw [hf3 _ _ (by simp)]; go_simp
        have cw31 : (w3.cell? ⟨w.heap.size, 1, none⟩).isSome = true := by rw [zw31]; rfl
        have n1 : w3.heap.size ≠ w.heap.size := by omega
        have n2 : w.heap.size ≠ w3.heap.size := by omega
        have n3 : w.heap.size < w3.heap.size := by omega
        clear hc3 hf3 hA1 hA2 hA3 hb2 hb3 hB1 hB2 hB0
        go_wp2_with (fail)
        refine (HV.out _).mono ?_
        rintro e w4 ⟨rfl, hb4⟩
        have hs4 := hb4.size
        simp at hs4
        have y0 : w4.cell? ⟨w3.heap.size, 0, none⟩ = some (.int .i64 n) := (hb4.cell (p := ⟨w3.heap.size, 0, none⟩) (by simp)).trans (by go_simp)
        have y1 : w4.cell? ⟨w3.heap.size, 1, none⟩ = some (.int .i64 d) := (hb4.cell (p := ⟨w3.heap.size, 1, none⟩) (by simp)).trans (by go_simp)
        have zw40 : w4.cell? ⟨w.heap.size, 0, none⟩ = some (.int .i64 0) := (hb4.cell (p := ⟨w.heap.size, 0, none⟩) (by simp; omega)).trans (by go_simp)
        have fw40 : w4.frozen? ⟨w.heap.size, 0, none⟩ = false := (hb4.frozen (p := ⟨w.heap.size, 0, none⟩) (by simp; omega)).trans (by go_simp)
        have cw40 : (w4.cell? ⟨w.heap.size, 0, none⟩).isSome = true := by rw [zw40]; rfl
        have zw41 : w4.cell? ⟨w.heap.size, 1, none⟩ = some (.int .i64 0) := (hb4.cell (p := ⟨w.heap.size, 1, none⟩) (by simp; omega)).trans (by go_simp)
        have fw41 : w4.frozen? ⟨w.heap.size, 1, none⟩ = false := (hb4.frozen (p := ⟨w.heap.size, 1, none⟩) (by simp; omega)).trans (by go_simp)
        have cw41 : (w4.cell? ⟨w.heap.size, 1, none⟩).isSome = true := by rw [zw41]; rfl
        have hB4 := (hB3.alloc hB3.size _).trans (hb4.mono (by simp; omega))
        clear hb4
        go_wp2_with (fail)
        refine bodyPost_ret (v := .tuple #[.agg #[.int .i64 0, .int .i64 0], .bool false]) (by simp [results, Tryd.results18, go_sem, zw40, zw41]) rfl ⟨rfl, ?_⟩
        exact below_set (below_set hB4 (Nat.le_refl _) _) (Nat.le_refl _) _
      | true =>
        cases bt with
        | false =>
          go_enter Tryd.func18, Tryd.ntmps18
          go_wp2_with (fail)
          have hB0 : Below w.heap.size w (w.alloc (.cells #[.int .i64 0, .int .i64 0] 25)) := (Below.refl _ _).alloc (Nat.le_refl _) _
          refine (HC.out _ hB0).mono ?_
          rintro e w1 ⟨rfl, k, rfl⟩
          have hA1 : Below (w.alloc (.cells #[.int .i64 0, .int .i64 0] 25)).heap.size (w.alloc (.cells #[.int .i64 0, .int .i64 0] 25)) ((w.alloc (.cells #[.int .i64 0, .int .i64 0] 25)).drewN k) := below_drewN (Below.refl _ _) _
          have hB1 := hB0.trans (hA1.mono hB0.size)
          go_wp2_with (fail)
          refine (HN.out _ hB1).mono ?_
          rintro e w2 ⟨rfl, hb2⟩
          have hA2 := hA1.trans (hb2.mono hA1.size)
          have hB2 := hB0.trans (hA2.mono hB0.size)
          go_wp2_with (fail)
          refine (HD.out _ hB2).mono ?_
          rintro e w3 ⟨rfl, hb3⟩
          have hA3 := hA2.trans (hb3.mono hA2.size)
          have hB3 := hB0.trans (hA3.mono hB0.size)
          obtain ⟨hc3, hf3⟩ := bcell hA3
          have hs3 := hA3.size
          simp at hs3
          have zw30 : w3.cell? ⟨w.heap.size, 0, none⟩ = some (.int .i64 0) := by rw [hc3 _ _ (by simp)]; go_simp
          have fw30 : w3.frozen? ⟨w.heap.size, 0, none⟩ = false := by rw [hf3 _ _ (by simp)]; go_simp
          have cw30 : (w3.cell? ⟨w.heap.size, 0, none⟩).isSome = true := by rw [zw30]; rfl
          have zw31 : w3.cell? ⟨w.heap.size, 1, none⟩ = some (.int .i64 0) := by rw [hc3 _ _ (by simp)]; go_simp
          have fw31 : w3.frozen? ⟨w.heap.size, 1, none⟩ = false := by rw [hf3 _ _ (by simp)]; go_simp
          have cw31 : (w3.cell? ⟨w.heap.size, 1, none⟩).isSome = true := by rw [zw31]; rfl
          have n1 : w3.heap.size ≠ w.heap.size := by omega
          have n2 : w.heap.size ≠ w3.heap.size := by omega
          have n3 : w.heap.size < w3.heap.size := by omega
          clear hc3 hf3 hA1 hA2 hA3 hb2 hb3 hB1 hB2 hB0
          go_wp2_with (fail)
          refine (HV.out _).mono ?_
          rintro e w4 ⟨rfl, hb4⟩
          have hs4 := hb4.size
          simp at hs4
          have y0 : w4.cell? ⟨w3.heap.size, 0, none⟩ = some (.int .i64 n) := (hb4.cell (p := ⟨w3.heap.size, 0, none⟩) (by simp)).trans (by go_simp)
          have y1 : w4.cell? ⟨w3.heap.size, 1, none⟩ = some (.int .i64 d) := (hb4.cell (p := ⟨w3.heap.size, 1, none⟩) (by simp)).trans (by go_simp)
          have zw40 : w4.cell? ⟨w.heap.size, 0, none⟩ = some (.int .i64 0) := (hb4.cell (p := ⟨w.heap.size, 0, none⟩) (by simp; omega)).trans (by go_simp)
          have fw40 : w4.frozen? ⟨w.heap.size, 0, none⟩ = false := (hb4.frozen (p := ⟨w.heap.size, 0, none⟩) (by simp; omega)).trans (by go_simp)
          have cw40 : (w4.cell? ⟨w.heap.size, 0, none⟩).isSome = true := by rw [zw40]; rfl
          have zw41 : w4.cell? ⟨w.heap.size, 1, none⟩ = some (.int .i64 0) := (hb4.cell (p := ⟨w.heap.size, 1, none⟩) (by simp; omega)).trans (by go_simp)
          have fw41 : w4.frozen? ⟨w.heap.size, 1, none⟩ = false := (hb4.frozen (p := ⟨w.heap.size, 1, none⟩) (by simp; omega)).trans (by go_simp)
          have cw41 : (w4.cell? ⟨w.heap.size, 1, none⟩).isSome = true := by rw [zw41]; rfl
          have hB4 := (hB3.alloc hB3.size _).trans (hb4.mono (by simp; omega))
          clear hb4
          go_wp2_with (fail)
          refine (HT.out _ hB4).mono ?_
          rintro e w5 ⟨rfl, hb5⟩
          have hs5 := hb5.size
          have x0 : w5.cell? ⟨w3.heap.size, 0, none⟩ = some (.int .i64 n) := (hb5.cell (p := ⟨w3.heap.size, 0, none⟩) (by simp; omega)).trans (by go_simp)
          have x1 : w5.cell? ⟨w3.heap.size, 1, none⟩ = some (.int .i64 d) := (hb5.cell (p := ⟨w3.heap.size, 1, none⟩) (by simp; omega)).trans (by go_simp)
          have zw50 : w5.cell? ⟨w.heap.size, 0, none⟩ = some (.int .i64 0) := (hb5.cell (p := ⟨w.heap.size, 0, none⟩) (by simp; omega)).trans (by go_simp)
          have fw50 : w5.frozen? ⟨w.heap.size, 0, none⟩ = false := (hb5.frozen (p := ⟨w.heap.size, 0, none⟩) (by simp; omega)).trans (by go_simp)
          have cw50 : (w5.cell? ⟨w.heap.size, 0, none⟩).isSome = true := by rw [zw50]; rfl
          have zw51 : w5.cell? ⟨w.heap.size, 1, none⟩ = some (.int .i64 0) := (hb5.cell (p := ⟨w.heap.size, 1, none⟩) (by simp; omega)).trans (by go_simp)
          have fw51 : w5.frozen? ⟨w.heap.size, 1, none⟩ = false := (hb5.frozen (p := ⟨w.heap.size, 1, none⟩) (by simp; omega)).trans (by go_simp)
          have cw51 : (w5.cell? ⟨w.heap.size, 1, none⟩).isSome = true := by rw [zw51]; rfl
          have hB5 := hB4.trans (hb5.mono hB4.size)
          clear hb5
          go_wp2_with (fail)
          refine bodyPost_ret (v := .tuple #[.agg #[.int .i64 0, .int .i64 0], .bool false]) (by simp [results, Tryd.results18, go_sem, zw50, zw51]) rfl ⟨rfl, ?_⟩
          exact below_set (below_set hB5 (Nat.le_refl _) _) (Nat.le_refl _) _
        | true =>
          go_enter Tryd.func18, Tryd.ntmps18
          go_wp2_with (fail)
          have hB0 : Below w.heap.size w (w.alloc (.cells #[.int .i64 0, .int .i64 0] 25)) := (Below.refl _ _).alloc (Nat.le_refl _) _
          refine (HC.out _ hB0).mono ?_
          rintro e w1 ⟨rfl, k, rfl⟩
          have hA1 : Below (w.alloc (.cells #[.int .i64 0, .int .i64 0] 25)).heap.size (w.alloc (.cells #[.int .i64 0, .int .i64 0] 25)) ((w.alloc (.cells #[.int .i64 0, .int .i64 0] 25)).drewN k) := below_drewN (Below.refl _ _) _
          have hB1 := hB0.trans (hA1.mono hB0.size)
          go_wp2_with (fail)
          refine (HN.out _ hB1).mono ?_
          rintro e w2 ⟨rfl, hb2⟩
          have hA2 := hA1.trans (hb2.mono hA1.size)
          have hB2 := hB0.trans (hA2.mono hB0.size)
          go_wp2_with (fail)
          refine (HD.out _ hB2).mono ?_
          rintro e w3 ⟨rfl, hb3⟩
          have hA3 := hA2.trans (hb3.mono hA2.size)
          have hB3 := hB0.trans (hA3.mono hB0.size)
          obtain ⟨hc3, hf3⟩ := bcell hA3
          have hs3 := hA3.size
          simp at hs3
          have zw30 : w3.cell? ⟨w.heap.size, 0, none⟩ = some (.int .i64 0) := by rw [hc3 _ _ (by simp)]; go_simp
          have fw30 : w3.frozen? ⟨w.heap.size, 0, none⟩ = false := by rw [hf3 _ _ (by simp)]; go_simp
          have cw30 : (w3.cell? ⟨w.heap.size, 0, none⟩).isSome = true := by rw [zw30]; rfl
          have zw31 : w3.cell? ⟨w.heap.size, 1, none⟩ = some (.int .i64 0) := by rw [hc3 _ _ (by simp)]; go_simp
          have fw31 : w3.frozen? ⟨w.heap.size, 1, none⟩ = false := by rw [hf3 _ _ (by simp)]; go_simp
          have cw31 : (w3.cell? ⟨w.heap.size, 1, none⟩).isSome = true := by rw [zw31]; rfl
          have n1 : w3.heap.size ≠ w.heap.size := by omega
          have n2 : w.heap.size ≠ w3.heap.size := by omega
          have n3 : w.heap.size < w3.heap.size := by omega
          clear hc3 hf3 hA1 hA2 hA3 hb2 hb3 hB1 hB2 hB0
          go_wp2_with (fail)
          refine (HV.out _).mono ?_
          rintro e w4 ⟨rfl, hb4⟩
          have hs4 := hb4.size
          simp at hs4
          have y0 : w4.cell? ⟨w3.heap.size, 0, none⟩ = some (.int .i64 n) := (hb4.cell (p := ⟨w3.heap.size, 0, none⟩) (by simp)).trans (by go_simp)
          have y1 : w4.cell? ⟨w3.heap.size, 1, none⟩ = some (.int .i64 d) := (hb4.cell (p := ⟨w3.heap.size, 1, none⟩) (by simp)).trans (by go_simp)
          have zw40 : w4.cell? ⟨w.heap.size, 0, none⟩ = some (.int .i64 0) := (hb4.cell (p := ⟨w.heap.size, 0, none⟩) (by simp; omega)).trans (by go_simp)
          have fw40 : w4.frozen? ⟨w.heap.size, 0, none⟩ = false := (hb4.frozen (p := ⟨w.heap.size, 0, none⟩) (by simp; omega)).trans (by go_simp)
          have cw40 : (w4.cell? ⟨w.heap.size, 0, none⟩).isSome = true := by rw [zw40]; rfl
          have zw41 : w4.cell? ⟨w.heap.size, 1, none⟩ = some (.int .i64 0) := (hb4.cell (p := ⟨w.heap.size, 1, none⟩) (by simp; omega)).trans (by go_simp)
          have fw41 : w4.frozen? ⟨w.heap.size, 1, none⟩ = false := (hb4.frozen (p := ⟨w.heap.size, 1, none⟩) (by simp; omega)).trans (by go_simp)
          have cw41 : (w4.cell? ⟨w.heap.size, 1, none⟩).isSome = true := by rw [zw41]; rfl
          have hB4 := (hB3.alloc hB3.size _).trans (hb4.mono (by simp; omega))
          clear hb4
          go_wp2_with (fail)
          refine (HT.out _ hB4).mono ?_
          rintro e w5 ⟨rfl, hb5⟩
          have hs5 := hb5.size
          have x0 : w5.cell? ⟨w3.heap.size, 0, none⟩ = some (.int .i64 n) := (hb5.cell (p := ⟨w3.heap.size, 0, none⟩) (by simp; omega)).trans (by go_simp)
          have x1 : w5.cell? ⟨w3.heap.size, 1, none⟩ = some (.int .i64 d) := (hb5.cell (p := ⟨w3.heap.size, 1, none⟩) (by simp; omega)).trans (by go_simp)
          have zw50 : w5.cell? ⟨w.heap.size, 0, none⟩ = some (.int .i64 0) := (hb5.cell (p := ⟨w.heap.size, 0, none⟩) (by simp; omega)).trans (by go_simp)
          have fw50 : w5.frozen? ⟨w.heap.size, 0, none⟩ = false := (hb5.frozen (p := ⟨w.heap.size, 0, none⟩) (by simp; omega)).trans (by go_simp)
          have cw50 : (w5.cell? ⟨w.heap.size, 0, none⟩).isSome = true := by rw [zw50]; rfl
          have zw51 : w5.cell? ⟨w.heap.size, 1, none⟩ = some (.int .i64 0) := (hb5.cell (p := ⟨w.heap.size, 1, none⟩) (by simp; omega)).trans (by go_simp)
          have fw51 : w5.frozen? ⟨w.heap.size, 1, none⟩ = false := (hb5.frozen (p := ⟨w.heap.size, 1, none⟩) (by simp; omega)).trans (by go_simp)
          have cw51 : (w5.cell? ⟨w.heap.size, 1, none⟩).isSome = true := by rw [zw51]; rfl
          have hB5 := hB4.trans (hb5.mono hB4.size)
          clear hb5
          go_wp2_with (fail)
          refine bodyPost_ret (v := .tuple #[.agg #[.int .i64 n, .int .i64 d], .bool true]) (by simp [results, Tryd.results18, go_sem, zw50, zw51]) rfl ⟨rfl, ?_⟩
          exact below_set (below_set hB5 (Nat.le_refl _) _) (Nat.le_refl _) _

set_option maxHeartbeats 1600000 in
theorem implRFwalkT (s a b0 t : ByteArray) (n d : Int) (bn bd bv bt : Bool) (w : World)
    (HC : Hid (∀ w', Below w.heap.size w w' → Calls Tryd.prog 40 #[.string s, .string ⟨#[47]⟩] w' fun e w'' => e = .returned (.tuple #[.string a, .string b0, .bool true]) ∧ ∃ k, w'' = w'.drewN k))
    (HN : Hid (∀ w', Below w.heap.size w w' → Calls Tryd.prog 26 #[.string a] w' fun e w'' => e = .returned (.tuple #[.int .i64 n, .bool bn]) ∧ Below w'.heap.size w' w''))
    (HD : Hid (∀ w', Below w.heap.size w w' → Calls Tryd.prog 26 #[.string b0] w' fun e w'' => e = .returned (.tuple #[.int .i64 d, .bool bd]) ∧ Below w'.heap.size w' w''))
    (HV : Hid (∀ w', Calls Tryd.prog 33 #[.agg #[.int .i64 n, .int .i64 d]] w' fun e w'' => e = .returned (.bool bv) ∧ Below w'.heap.size w' w''))
    (HT : Hid (∀ w', Below w.heap.size w w' → Calls Tryd.prog 19 #[.agg #[.int .i64 n, .int .i64 d]] w' fun e w'' => e = .returned (.string t) ∧ Below w'.heap.size w' w''))
    (ht : (t.toList == s.toList) = bt) :
    Calls Tryd.prog 18 #[.string s] w fun e w' => e = .returned (pickF (bn && bd && bv && bt) n d) ∧ Below w.heap.size w w' := by
  cases bn with
  | false =>
    clear HV HT ht
    go_enter Tryd.func18, Tryd.ntmps18
    go_wp2_with (fail)
    have hB0 : Below w.heap.size w (w.alloc (.cells #[.int .i64 0, .int .i64 0] 25)) := (Below.refl _ _).alloc (Nat.le_refl _) _
    refine (HC.out _ hB0).mono ?_
    rintro e w1 ⟨rfl, k, rfl⟩
    have hA1 : Below (w.alloc (.cells #[.int .i64 0, .int .i64 0] 25)).heap.size (w.alloc (.cells #[.int .i64 0, .int .i64 0] 25)) ((w.alloc (.cells #[.int .i64 0, .int .i64 0] 25)).drewN k) := below_drewN (Below.refl _ _) _
    have hB1 := hB0.trans (hA1.mono hB0.size)
    go_wp2_with (fail)
    refine (HN.out _ hB1).mono ?_
    rintro e w2 ⟨rfl, hb2⟩
    have hA2 := hA1.trans (hb2.mono hA1.size)
    have hB2 := hB0.trans (hA2.mono hB0.size)
    go_wp2_with (fail)
    refine (HD.out _ hB2).mono ?_
    rintro e w3 ⟨rfl, hb3⟩
    have hA3 := hA2.trans (hb3.mono hA2.size)
    have hB3 := hB0.trans (hA3.mono hB0.size)
    obtain ⟨hc3, hf3⟩ := bcell hA3
    have hs3 := hA3.size
    simp at hs3
    have zw30 : w3.cell? ⟨w.heap.size, 0, none⟩ = some (.int .i64 0) := by rw [hc3 _ _ (by simp)]; go_simp
    have fw30 : w3.frozen? ⟨w.heap.size, 0, none⟩ = false := by rw [hf3 _ _ (by simp)]; go_simp
    have cw30 : (w3.cell? ⟨w.heap.size, 0, none⟩).isSome = true := by rw [zw30]; rfl
    have zw31 : w3.cell? ⟨w.heap.size, 1, none⟩ = some (.int .i64 0) := by rw [hc3 _ _ (by simp)]; go_simp
    have fw31 : w3.frozen? ⟨w.heap.size, 1, none⟩ = false := by rw [hf3 _ _ (by simp)]; go_simp
    have cw31 : (w3.cell? ⟨w.heap.size, 1, none⟩).isSome = true := by rw [zw31]; rfl
    have n1 : w3.heap.size ≠ w.heap.size := by omega
    have n2 : w.heap.size ≠ w3.heap.size := by omega
    have n3 : w.heap.size < w3.heap.size := by omega
    clear hc3 hf3 hA1 hA2 hA3 hb2 hb3 hB1 hB2 hB0
    go_wp2_with (fail)
    refine bodyPost_ret (v := .tuple #[.agg #[.int .i64 0, .int .i64 0], .bool false]) (by simp [results, Tryd.results18, go_sem, zw30, zw31, n3]) rfl ⟨rfl, ?_⟩
    exact (below_set (below_set hB3 (Nat.le_refl _) _) (Nat.le_refl _) _).alloc (by simpa [World.setCell] using hB3.size) _
  | true =>
    cases bd with
    | false =>
      clear HV HT ht
      go_enter Tryd.func18, Tryd.ntmps18
      go_wp2_with (fail)
      have hB0 : Below w.heap.size w (w.alloc (.cells #[.int .i64 0, .int .i64 0] 25)) := (Below.refl _ _).alloc (Nat.le_refl _) _
      refine (HC.out _ hB0).mono ?_
      rintro e w1 ⟨rfl, k, rfl⟩
      have hA1 : Below (w.alloc (.cells #[.int .i64 0, .int .i64 0] 25)).heap.size (w.alloc (.cells #[.int .i64 0, .int .i64 0] 25)) ((w.alloc (.cells #[.int .i64 0, .int .i64 0] 25)).drewN k) := below_drewN (Below.refl _ _) _
      have hB1 := hB0.trans (hA1.mono hB0.size)
      go_wp2_with (fail)
      refine (HN.out _ hB1).mono ?_
      rintro e w2 ⟨rfl, hb2⟩
      have hA2 := hA1.trans (hb2.mono hA1.size)
      have hB2 := hB0.trans (hA2.mono hB0.size)
      go_wp2_with (fail)
      refine (HD.out _ hB2).mono ?_
      rintro e w3 ⟨rfl, hb3⟩
      have hA3 := hA2.trans (hb3.mono hA2.size)
      have hB3 := hB0.trans (hA3.mono hB0.size)
      obtain ⟨hc3, hf3⟩ := bcell hA3
      have hs3 := hA3.size
      simp at hs3
      have zw30 : w3.cell? ⟨w.heap.size, 0, none⟩ = some (.int .i64 0) := by rw [hc3 _ _ (by simp)]; go_simp
      have fw30 : w3.frozen? ⟨w.heap.size, 0, none⟩ = false := by rw [hf3 _ _ (by simp)]; go_simp
      have cw30 : (w3.cell? ⟨w.heap.size, 0, none⟩).isSome = true := by rw [zw30]; rfl
      have zw31 : w3.cell? ⟨w.heap.size, 1, none⟩ = some (.int .i64 0) := by rw [hc3 _ _ (by simp)]; go_simp
      have fw31 : w3.frozen? ⟨w.heap.size, 1, none⟩ = false := by rw [hf3 _ _ (by simp)]; go_simp
      have cw31 : (w3.cell? ⟨w.heap.size, 1, none⟩).isSome = true := by rw [zw31]; rfl
      have n1 : w3.heap.size ≠ w.heap.size := by omega
      have n2 : w.heap.size ≠ w3.heap.size := by omega
      have n3 : w.heap.size < w3.heap.size := by omega
      clear hc3 hf3 hA1 hA2 hA3 hb2 hb3 hB1 hB2 hB0
      go_wp2_with (fail)
      refine bodyPost_ret (v := .tuple #[.agg #[.int .i64 0, .int .i64 0], .bool false]) (by simp [results, Tryd.results18, go_sem, zw30, zw31, n3]) rfl ⟨rfl, ?_⟩
      exact (below_set (below_set hB3 (Nat.le_refl _) _) (Nat.le_refl _) _).alloc (by simpa [World.setCell] using hB3.size) _
    | true =>
      cases bv with
      | false =>
        clear HT ht
        go_enter Tryd.func18, Tryd.ntmps18
        go_wp2_with (fail)
        have hB0 : Below w.heap.size w (w.alloc (.cells #[.int .i64 0, .int .i64 0] 25)) := (Below.refl _ _).alloc (Nat.le_refl _) _
        refine (HC.out _ hB0).mono ?_
        rintro e w1 ⟨rfl, k, rfl⟩
        have hA1 : Below (w.alloc (.cells #[.int .i64 0, .int .i64 0] 25)).heap.size (w.alloc (.cells #[.int .i64 0, .int .i64 0] 25)) ((w.alloc (.cells #[.int .i64 0, .int .i64 0] 25)).drewN k) := below_drewN (Below.refl _ _) _
        have hB1 := hB0.trans (hA1.mono hB0.size)
        go_wp2_with (fail)
        refine (HN.out _ hB1).mono ?_
        rintro e w2 ⟨rfl, hb2⟩
        have hA2 := hA1.trans (hb2.mono hA1.size)
        have hB2 := hB0.trans (hA2.mono hB0.size)
        go_wp2_with (fail)
        refine (HD.out _ hB2).mono ?_
        rintro e w3 ⟨rfl, hb3⟩
        have hA3 := hA2.trans (hb3.mono hA2.size)
        have hB3 := hB0.trans (hA3.mono hB0.size)
        obtain ⟨hc3, hf3⟩ := bcell hA3
        have hs3 := hA3.size
        simp at hs3
        have zw30 : w3.cell? ⟨w.heap.size, 0, none⟩ = some (.int .i64 0) := by rw [hc3 _ _ (by simp)]; go_simp
        have fw30 : w3.frozen? ⟨w.heap.size, 0, none⟩ = false := by rw [hf3 _ _ (by simp)]; go_simp
        have cw30 : (w3.cell? ⟨w.heap.size, 0, none⟩).isSome = true := by rw [zw30]; rfl
        have zw31 : w3.cell? ⟨w.heap.size, 1, none⟩ = some (.int .i64 0) := by rw [hc3 _ _ (by simp)]; go_simp
        have fw31 : w3.frozen? ⟨w.heap.size, 1, none⟩ = false := by rw [hf3 _ _ (by simp)]; go_simp
        have cw31 : (w3.cell? ⟨w.heap.size, 1, none⟩).isSome = true := by rw [zw31]; rfl
        have n1 : w3.heap.size ≠ w.heap.size := by omega
        have n2 : w.heap.size ≠ w3.heap.size := by omega
        have n3 : w.heap.size < w3.heap.size := by omega
        clear hc3 hf3 hA1 hA2 hA3 hb2 hb3 hB1 hB2 hB0
        go_wp2_with (fail)
        refine (HV.out _).mono ?_
        rintro e w4 ⟨rfl, hb4⟩
        have hs4 := hb4.size
        simp at hs4
        have y0 : w4.cell? ⟨w3.heap.size, 0, none⟩ = some (.int .i64 n) := (hb4.cell (p := ⟨w3.heap.size, 0, none⟩) (by simp)).trans (by go_simp)
        have y1 : w4.cell? ⟨w3.heap.size, 1, none⟩ = some (.int .i64 d) := (hb4.cell (p := ⟨w3.heap.size, 1, none⟩) (by simp)).trans (by go_simp)
        have zw40 : w4.cell? ⟨w.heap.size, 0, none⟩ = some (.int .i64 0) := (hb4.cell (p := ⟨w.heap.size, 0, none⟩) (by simp; omega)).trans (by go_simp)
        have fw40 : w4.frozen? ⟨w.heap.size, 0, none⟩ = false := (hb4.frozen (p := ⟨w.heap.size, 0, none⟩) (by simp; omega)).trans (by go_simp)
        have cw40 : (w4.cell? ⟨w.heap.size, 0, none⟩).isSome = true := by rw [zw40]; rfl
        have zw41 : w4.cell? ⟨w.heap.size, 1, none⟩ = some (.int .i64 0) := (hb4.cell (p := ⟨w.heap.size, 1, none⟩) (by simp; omega)).trans (by go_simp)
        have fw41 : w4.frozen? ⟨w.heap.size, 1, none⟩ = false := (hb4.frozen (p := ⟨w.heap.size, 1, none⟩) (by simp; omega)).trans (by go_simp)
        have cw41 : (w4.cell? ⟨w.heap.size, 1, none⟩).isSome = true := by rw [zw41]; rfl
        have hB4 := (hB3.alloc hB3.size _).trans (hb4.mono (by simp; omega))
        clear hb4
        go_wp2_with (fail)
        refine bodyPost_ret (v := .tuple #[.agg #[.int .i64 0, .int .i64 0], .bool false]) (by simp [results, Tryd.results18, go_sem, zw40, zw41]) rfl ⟨rfl, ?_⟩
        exact below_set (below_set hB4 (Nat.le_refl _) _) (Nat.le_refl _) _
      | true =>
        cases bt with
        | false =>
          go_enter Tryd.func18, Tryd.ntmps18
          go_wp2_with (fail)
          have hB0 : Below w.heap.size w (w.alloc (.cells #[.int .i64 0, .int .i64 0] 25)) := (Below.refl _ _).alloc (Nat.le_refl _) _
          refine (HC.out _ hB0).mono ?_
          rintro e w1 ⟨rfl, k, rfl⟩
          have hA1 : Below (w.alloc (.cells #[.int .i64 0, .int .i64 0] 25)).heap.size (w.alloc (.cells #[.int .i64 0, .int .i64 0] 25)) ((w.alloc (.cells #[.int .i64 0, .int .i64 0] 25)).drewN k) := below_drewN (Below.refl _ _) _
          have hB1 := hB0.trans (hA1.mono hB0.size)
          go_wp2_with (fail)
          refine (HN.out _ hB1).mono ?_
          rintro e w2 ⟨rfl, hb2⟩
          have hA2 := hA1.trans (hb2.mono hA1.size)
          have hB2 := hB0.trans (hA2.mono hB0.size)
          go_wp2_with (fail)
          refine (HD.out _ hB2).mono ?_
          rintro e w3 ⟨rfl, hb3⟩
          have hA3 := hA2.trans (hb3.mono hA2.size)
          have hB3 := hB0.trans (hA3.mono hB0.size)
          obtain ⟨hc3, hf3⟩ := bcell hA3
          have hs3 := hA3.size
          simp at hs3
          have zw30 : w3.cell? ⟨w.heap.size, 0, none⟩ = some (.int .i64 0) := by rw [hc3 _ _ (by simp)]; go_simp
          have fw30 : w3.frozen? ⟨w.heap.size, 0, none⟩ = false := by rw [hf3 _ _ (by simp)]; go_simp
          have cw30 : (w3.cell? ⟨w.heap.size, 0, none⟩).isSome = true := by rw [zw30]; rfl
          have zw31 : w3.cell? ⟨w.heap.size, 1, none⟩ = some (.int .i64 0) := by rw [hc3 _ _ (by simp)]; go_simp
          have fw31 : w3.frozen? ⟨w.heap.size, 1, none⟩ = false := by rw [hf3 _ _ (by simp)]; go_simp
          have cw31 : (w3.cell? ⟨w.heap.size, 1, none⟩).isSome = true := by rw [zw31]; rfl
          have n1 : w3.heap.size ≠ w.heap.size := by omega
          have n2 : w.heap.size ≠ w3.heap.size := by omega
          have n3 : w.heap.size < w3.heap.size := by omega
          clear hc3 hf3 hA1 hA2 hA3 hb2 hb3 hB1 hB2 hB0
          go_wp2_with (fail)
          refine (HV.out _).mono ?_
          rintro e w4 ⟨rfl, hb4⟩
          have hs4 := hb4.size
          simp at hs4
          have y0 : w4.cell? ⟨w3.heap.size, 0, none⟩ = some (.int .i64 n) := (hb4.cell (p := ⟨w3.heap.size, 0, none⟩) (by simp)).trans (by go_simp)
          have y1 : w4.cell? ⟨w3.heap.size, 1, none⟩ = some (.int .i64 d) := (hb4.cell (p := ⟨w3.heap.size, 1, none⟩) (by simp)).trans (by go_simp)
          have zw40 : w4.cell? ⟨w.heap.size, 0, none⟩ = some (.int .i64 0) := (hb4.cell (p := ⟨w.heap.size, 0, none⟩) (by simp; omega)).trans (by go_simp)
          have fw40 : w4.frozen? ⟨w.heap.size, 0, none⟩ = false := (hb4.frozen (p := ⟨w.heap.size, 0, none⟩) (by simp; omega)).trans (by go_simp)
          have cw40 : (w4.cell? ⟨w.heap.size, 0, none⟩).isSome = true := by rw [zw40]; rfl
          have zw41 : w4.cell? ⟨w.heap.size, 1, none⟩ = some (.int .i64 0) := (hb4.cell (p := ⟨w.heap.size, 1, none⟩) (by simp; omega)).trans (by go_simp)
          have fw41 : w4.frozen? ⟨w.heap.size, 1, none⟩ = false := (hb4.frozen (p := ⟨w.heap.size, 1, none⟩) (by simp; omega)).trans (by go_simp)
          have cw41 : (w4.cell? ⟨w.heap.size, 1, none⟩).isSome = true := by rw [zw41]; rfl
          have hB4 := (hB3.alloc hB3.size _).trans (hb4.mono (by simp; omega))
          clear hb4
          go_wp2_with (fail)
          refine (HT.out _ hB4).mono ?_
          rintro e w5 ⟨rfl, hb5⟩
          have hs5 := hb5.size
          have x0 : w5.cell? ⟨w3.heap.size, 0, none⟩ = some (.int .i64 n) := (hb5.cell (p := ⟨w3.heap.size, 0, none⟩) (by simp; omega)).trans (by go_simp)
          have x1 : w5.cell? ⟨w3.heap.size, 1, none⟩ = some (.int .i64 d) := (hb5.cell (p := ⟨w3.heap.size, 1, none⟩) (by simp; omega)).trans (by go_simp)
          have zw50 : w5.cell? ⟨w.heap.size, 0, none⟩ = some (.int .i64 0) := (hb5.cell (p := ⟨w.heap.size, 0, none⟩) (by simp; omega)).trans (by go_simp)
          have fw50 : w5.frozen? ⟨w.heap.size, 0, none⟩ = false := (hb5.frozen (p := ⟨w.heap.size, 0, none⟩) (by simp; omega)).trans (by go_simp)
          have cw50 : (w5.cell? ⟨w.heap.size, 0, none⟩).isSome = true := by rw [zw50]; rfl
          have zw51 : w5.cell? ⟨w.heap.size, 1, none⟩ = some (.int .i64 0) := (hb5.cell (p := ⟨w.heap.size, 1, none⟩) (by simp; omega)).trans (by go_simp)
          have fw51 : w5.frozen? ⟨w.heap.size, 1, none⟩ = false := (hb5.frozen (p := ⟨w.heap.size, 1, none⟩) (by simp; omega)).trans (by go_simp)
          have cw51 : (w5.cell? ⟨w.heap.size, 1, none⟩).isSome = true := by rw [zw51]; rfl
          have hB5 := hB4.trans (hb5.mono hB4.size)
          clear hb5
          go_wp2_with (fail)
          refine bodyPost_ret (v := .tuple #[.agg #[.int .i64 0, .int .i64 0], .bool false]) (by simp [results, Tryd.results18, go_sem, zw50, zw51]) rfl ⟨rfl, ?_⟩
          exact below_set (below_set hB5 (Nat.le_refl _) _) (Nat.le_refl _) _
        | true =>
          go_enter Tryd.func18, Tryd.ntmps18
          go_wp2_with (fail)
          have hB0 : Below w.heap.size w (w.alloc (.cells #[.int .i64 0, .int .i64 0] 25)) := (Below.refl _ _).alloc (Nat.le_refl _) _
          refine (HC.out _ hB0).mono ?_
          rintro e w1 ⟨rfl, k, rfl⟩
          have hA1 : Below (w.alloc (.cells #[.int .i64 0, .int .i64 0] 25)).heap.size (w.alloc (.cells #[.int .i64 0, .int .i64 0] 25)) ((w.alloc (.cells #[.int .i64 0, .int .i64 0] 25)).drewN k) := below_drewN (Below.refl _ _) _
          have hB1 := hB0.trans (hA1.mono hB0.size)
          go_wp2_with (fail)
          refine (HN.out _ hB1).mono ?_
          rintro e w2 ⟨rfl, hb2⟩
          have hA2 := hA1.trans (hb2.mono hA1.size)
          have hB2 := hB0.trans (hA2.mono hB0.size)
          go_wp2_with (fail)
          refine (HD.out _ hB2).mono ?_
          rintro e w3 ⟨rfl, hb3⟩
          have hA3 := hA2.trans (hb3.mono hA2.size)
          have hB3 := hB0.trans (hA3.mono hB0.size)
          obtain ⟨hc3, hf3⟩ := bcell hA3
          have hs3 := hA3.size
          simp at hs3
          have zw30 : w3.cell? ⟨w.heap.size, 0, none⟩ = some (.int .i64 0) := by rw [hc3 _ _ (by simp)]; go_simp
          have fw30 : w3.frozen? ⟨w.heap.size, 0, none⟩ = false := by rw [hf3 _ _ (by simp)]; go_simp
          have cw30 : (w3.cell? ⟨w.heap.size, 0, none⟩).isSome = true := by rw [zw30]; rfl
          have zw31 : w3.cell? ⟨w.heap.size, 1, none⟩ = some (.int .i64 0) := by rw [hc3 _ _ (by simp)]; go_simp
          have fw31 : w3.frozen? ⟨w.heap.size, 1, none⟩ = false := by rw [hf3 _ _ (by simp)]; go_simp
          have cw31 : (w3.cell? ⟨w.heap.size, 1, none⟩).isSome = true := by rw [zw31]; rfl
          have n1 : w3.heap.size ≠ w.heap.size := by omega
          have n2 : w.heap.size ≠ w3.heap.size := by omega
          have n3 : w.heap.size < w3.heap.size := by omega
          clear hc3 hf3 hA1 hA2 hA3 hb2 hb3 hB1 hB2 hB0
          go_wp2_with (fail)
          refine (HV.out _).mono ?_
          rintro e w4 ⟨rfl, hb4⟩
          have hs4 := hb4.size
          simp at hs4
          have y0 : w4.cell? ⟨w3.heap.size, 0, none⟩ = some (.int .i64 n) := (hb4.cell (p := ⟨w3.heap.size, 0, none⟩) (by simp)).trans (by go_simp)
          have y1 : w4.cell? ⟨w3.heap.size, 1, none⟩ = some (.int .i64 d) := (hb4.cell (p := ⟨w3.heap.size, 1, none⟩) (by simp)).trans (by go_simp)
          have zw40 : w4.cell? ⟨w.heap.size, 0, none⟩ = some (.int .i64 0) := (hb4.cell (p := ⟨w.heap.size, 0, none⟩) (by simp; omega)).trans (by go_simp)
          have fw40 : w4.frozen? ⟨w.heap.size, 0, none⟩ = false := (hb4.frozen (p := ⟨w.heap.size, 0, none⟩) (by simp; omega)).trans (by go_simp)
          have cw40 : (w4.cell? ⟨w.heap.size, 0, none⟩).isSome = true := by rw [zw40]; rfl
          have zw41 : w4.cell? ⟨w.heap.size, 1, none⟩ = some (.int .i64 0) := (hb4.cell (p := ⟨w.heap.size, 1, none⟩) (by simp; omega)).trans (by go_simp)
          have fw41 : w4.frozen? ⟨w.heap.size, 1, none⟩ = false := (hb4.frozen (p := ⟨w.heap.size, 1, none⟩) (by simp; omega)).trans (by go_simp)
          have cw41 : (w4.cell? ⟨w.heap.size, 1, none⟩).isSome = true := by rw [zw41]; rfl
          have hB4 := (hB3.alloc hB3.size _).trans (hb4.mono (by simp; omega))
          clear hb4
          go_wp2_with (fail)
          refine (HT.out _ hB4).mono ?_
          rintro e w5 ⟨rfl, hb5⟩
          have hs5 := hb5.size
          have x0 : w5.cell? ⟨w3.heap.size, 0, none⟩ = some (.int .i64 n) := (hb5.cell (p := ⟨w3.heap.size, 0, none⟩) (by simp; omega)).trans (by go_simp)
          have x1 : w5.cell? ⟨w3.heap.size, 1, none⟩ = some (.int .i64 d) := (hb5.cell (p := ⟨w3.heap.size, 1, none⟩) (by simp; omega)).trans (by go_simp)
          have zw50 : w5.cell? ⟨w.heap.size, 0, none⟩ = some (.int .i64 0) := (hb5.cell (p := ⟨w.heap.size, 0, none⟩) (by simp; omega)).trans (by go_simp)
          have fw50 : w5.frozen? ⟨w.heap.size, 0, none⟩ = false := (hb5.frozen (p := ⟨w.heap.size, 0, none⟩) (by simp; omega)).trans (by go_simp)
          have cw50 : (w5.cell? ⟨w.heap.size, 0, none⟩).isSome = true := by rw [zw50]; rfl
          have zw51 : w5.cell? ⟨w.heap.size, 1, none⟩ = some (.int .i64 0) := (hb5.cell (p := ⟨w.heap.size, 1, none⟩) (by simp; omega)).trans (by go_simp)
          have fw51 : w5.frozen? ⟨w.heap.size, 1, none⟩ = false := (hb5.frozen (p := ⟨w.heap.size, 1, none⟩) (by simp; omega)).trans (by go_simp)
          have cw51 : (w5.cell? ⟨w.heap.size, 1, none⟩).isSome = true := by rw [zw51]; rfl
          have hB5 := hB4.trans (hb5.mono hB4.size)
          clear hb5
          go_wp2_with (fail)
          refine bodyPost_ret (v := .tuple #[.agg #[.int .i64 n, .int .i64 d], .bool true]) (by simp [results, Tryd.results18, go_sem, zw50, zw51]) rfl ⟨rfl, ?_⟩
          exact below_set (below_set hB5 (Nat.le_refl _) _) (Nat.le_refl _) _

end Go.Proofs.YthdhkjfanhhamaaDoor
