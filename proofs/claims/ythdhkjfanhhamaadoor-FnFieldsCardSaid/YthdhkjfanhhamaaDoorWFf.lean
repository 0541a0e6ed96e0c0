/- The law on fields, walked. -/
import Derived.Test.YthdhkjfanhhamaaDoorFfc
import Derived.Test.YthdhkjfanhhamaaDoorA2f
import Derived.Test.YthdhkjfanhhamaaDoorRfc
import Derived.Test.YthdhkjfanhhamaaDoorRt
namespace Go.Proofs.YthdhkjfanhhamaaDoor.pFields
open Go.RowKit Go.Lib

set_option maxRecDepth 100000 in
set_option maxHeartbeats 8000000 in
theorem walk (ca : Option Addr) (la pa : Nat) (w : World) (hl0 : laidMet Tryd.prog Rows.fnFieldsRow.laid w) (hsh : w.ShapedOpen Tryd.prog) (ha : ByI w ca la) :
    Calls Tryd.prog 3 #[.slice ca la pa] w fun e w' => e = .returned (.bool true) ∧ Below w.heap.size w w' := by
  have hw : Wants w := ⟨pow10_of hl0 (by simp [Rows.fnFieldsRow]), sentS_of hl0 (by simp [Rows.fnFieldsRow]), sentR_of hl0 (by simp [Rows.fnFieldsRow]), max_of hsh⟩
  have HW := hid hw
  clear hw hl0 hsh
  have CL := fun w => a2Long ca none la pa 0 0 w
  cases hl : decide (3000 < la ∨ 3000 < 0) with
  | true =>
    rw [hl] at CL
    have HL := hid CL
    clear CL hl ha
    go_enter Tryd.func3, Tryd.ntmps3
    go_wp2_with (fail)
    refine (HL.out _).mono ?_
    rintro e w1 ⟨rfl, rfl⟩
    go_wp2
    go_ret
    exact ⟨rfl, Below.refl _ _⟩
  | false =>
    rw [hl] at CL
    have HL := hid CL
    have hla : la ≤ 3000 := by simp at hl; omega
    have HA := hid ha
    clear CL hl ha
    go_enter Tryd.func3, Tryd.ntmps3
    go_wp2_with (fail)
    refine (HL.out _).mono ?_
    rintro e w1 ⟨rfl, rfl⟩
    go_wp2_with (fail)
    refine (a2Fractions _ _ _ _ HA.out hla).mono ?_
    rintro e w1 ⟨n, d, m, f, n3, d3, rfl, s1, s2, s3, e1⟩
    have hs1 := e1.size
    obtain ⟨o1, x1, x2, x3⟩ := s1
    obtain ⟨o2, y1, y2, y3⟩ := s2
    obtain ⟨o3, -, -, -⟩ := s3
    obtain ⟨S, D, P, Q, M, E, s, t, cadd, csub, cmul, cmed, cc1, cc2, cv1, cv2, cv3, cs1, cs2, cd0, cd1, ht, heq⟩ := fields o1 x1 x2 x3 o2 y1 y2 y3
    have HADD := hid cadd
    have HSUB := hid csub
    have HMUL := hid cmul
    have HMED := hid cmed
    have HC1 := hid cc1
    have HC2 := hid cc2
    have HV1 := hid cv1
    have HV2 := hid cv2
    have HV3 := hid cv3
    have HS1 := hid cs1
    have HS2 := hid cs2
    have HD0 := hid cd0
    have HD1 := hid cd1
    have HEQ := hid heq
    obtain ⟨T, hT⟩ : ∃ T : ByteArray, T = ⟨(txO n3 d3).toArray⟩ := ⟨_, rfl⟩
    have HTX := hid (show ∀ w, Wants w → Calls Tryd.prog 19 #[.agg #[.int .i64 n3, .int .i64 d3]] w fun e w' => e = .returned (.string T) ∧ Below w.heap.size w w' from fun w h => by rw [hT]; exact implText n3 d3 w h.1)
    have HRF := hid (show ∀ w, Wants w → Calls Tryd.prog 18 #[.string T] w fun e w' => e = .returned (.tuple #[.agg #[.int .i64 n3, .int .i64 d3], .bool true]) ∧ Below w.heap.size w w' from fun w h => by
      have := implRF T w (by rw [hT, size_list]; exact text_size o3) h
      rw [show T.data.toList = txO n3 d3 by rw [hT], rfR_text o3] at this
      exact this)
    clear hT
    have E1 := hid e1
    clear cadd csub cmul cmed cc1 cc2 cv1 cv2 cv3 cs1 cs2 cd0 cd1 heq o1 o2 o3 x1 x2 x3 y1 y2 y3 e1 HA hla HL
    go_wp2_with (fail)
    refine (HADD.out _).mono ?_
    rintro e w2 ⟨rfl, hb2⟩
    have hz2 := hb2.size
    (try simp at hz2)
    have hs2 : w.heap.size ≤ w2.heap.size := by omega
    have E2 := hid (((((E1.out).alloc (by first | omega | (simp <;> omega)) _).alloc (by first | omega | (simp <;> omega)) _).alloc (by first | omega | (simp <;> omega)) _).trans (hb2.mono (by first | omega | (simp <;> omega))))
    have ka0_2 : w2.cell? ⟨w1.heap.size, 0, none⟩ = some (.int .i64 n) := (hb2.cell (p := ⟨w1.heap.size, 0, none⟩) (by first | omega | (simp <;> omega))).trans (by go_simp)
    have ka1_2 : w2.cell? ⟨w1.heap.size, 1, none⟩ = some (.int .i64 d) := (hb2.cell (p := ⟨w1.heap.size, 1, none⟩) (by first | omega | (simp <;> omega))).trans (by go_simp)
    have la_2 : w1.heap.size < w2.heap.size := by omega
    have kb0_2 : w2.cell? ⟨w1.heap.size + 1, 0, none⟩ = some (.int .i64 m) := (hb2.cell (p := ⟨w1.heap.size + 1, 0, none⟩) (by first | omega | (simp <;> omega))).trans (by go_simp)
    have kb1_2 : w2.cell? ⟨w1.heap.size + 1, 1, none⟩ = some (.int .i64 f) := (hb2.cell (p := ⟨w1.heap.size + 1, 1, none⟩) (by first | omega | (simp <;> omega))).trans (by go_simp)
    have lb_2 : w1.heap.size + 1 < w2.heap.size := by omega
    have kc0_2 : w2.cell? ⟨w1.heap.size + 1 + 1, 0, none⟩ = some (.int .i64 n3) := (hb2.cell (p := ⟨w1.heap.size + 1 + 1, 0, none⟩) (by first | omega | (simp <;> omega))).trans (by go_simp)
    have kc1_2 : w2.cell? ⟨w1.heap.size + 1 + 1, 1, none⟩ = some (.int .i64 d3) := (hb2.cell (p := ⟨w1.heap.size + 1 + 1, 1, none⟩) (by first | omega | (simp <;> omega))).trans (by go_simp)
    have lc_2 : w1.heap.size + 1 + 1 < w2.heap.size := by omega
    clear hb2 E1 
    go_wp2_with (fail)
    refine (HSUB.out _).mono ?_
    rintro e w3 ⟨rfl, hb3⟩
    have hz3 := hb3.size
    (try simp at hz3)
    have hs3 : w.heap.size ≤ w3.heap.size := by omega
    have E3 := hid (((E2.out).alloc (by first | omega | (simp <;> omega)) _).trans (hb3.mono (by first | omega | (simp <;> omega))))
    have ka0_3 : w3.cell? ⟨w1.heap.size, 0, none⟩ = some (.int .i64 n) := (hb3.cell (p := ⟨w1.heap.size, 0, none⟩) (by first | omega | (simp <;> omega))).trans (by go_simp)
    have ka1_3 : w3.cell? ⟨w1.heap.size, 1, none⟩ = some (.int .i64 d) := (hb3.cell (p := ⟨w1.heap.size, 1, none⟩) (by first | omega | (simp <;> omega))).trans (by go_simp)
    have la_3 : w1.heap.size < w3.heap.size := by omega
    have kb0_3 : w3.cell? ⟨w1.heap.size + 1, 0, none⟩ = some (.int .i64 m) := (hb3.cell (p := ⟨w1.heap.size + 1, 0, none⟩) (by first | omega | (simp <;> omega))).trans (by go_simp)
    have kb1_3 : w3.cell? ⟨w1.heap.size + 1, 1, none⟩ = some (.int .i64 f) := (hb3.cell (p := ⟨w1.heap.size + 1, 1, none⟩) (by first | omega | (simp <;> omega))).trans (by go_simp)
    have lb_3 : w1.heap.size + 1 < w3.heap.size := by omega
    have kc0_3 : w3.cell? ⟨w1.heap.size + 1 + 1, 0, none⟩ = some (.int .i64 n3) := (hb3.cell (p := ⟨w1.heap.size + 1 + 1, 0, none⟩) (by first | omega | (simp <;> omega))).trans (by go_simp)
    have kc1_3 : w3.cell? ⟨w1.heap.size + 1 + 1, 1, none⟩ = some (.int .i64 d3) := (hb3.cell (p := ⟨w1.heap.size + 1 + 1, 1, none⟩) (by first | omega | (simp <;> omega))).trans (by go_simp)
    have lc_3 : w1.heap.size + 1 + 1 < w3.heap.size := by omega
    have ks0_3 : w3.cell? ⟨w2.heap.size, 0, none⟩ = some (.int .i64 S) := (hb3.cell (p := ⟨w2.heap.size, 0, none⟩) (by first | omega | (simp <;> omega))).trans (by go_simp)
    have ks1_3 : w3.cell? ⟨w2.heap.size, 1, none⟩ = some (.int .i64 D) := (hb3.cell (p := ⟨w2.heap.size, 1, none⟩) (by first | omega | (simp <;> omega))).trans (by go_simp)
    have ls_3 : w2.heap.size < w3.heap.size := by omega
    clear hb3 E2 ka0_2 ka1_2 la_2 kb0_2 kb1_2 lb_2 kc0_2 kc1_2 lc_2
    go_wp2_with (fail)
    refine (HMUL.out _).mono ?_
    rintro e w4 ⟨rfl, hb4⟩
    have hz4 := hb4.size
    (try simp at hz4)
    have hs4 : w.heap.size ≤ w4.heap.size := by omega
    have E4 := hid (((E3.out).alloc (by first | omega | (simp <;> omega)) _).trans (hb4.mono (by first | omega | (simp <;> omega))))
    have ka0_4 : w4.cell? ⟨w1.heap.size, 0, none⟩ = some (.int .i64 n) := (hb4.cell (p := ⟨w1.heap.size, 0, none⟩) (by first | omega | (simp <;> omega))).trans (by go_simp)
    have ka1_4 : w4.cell? ⟨w1.heap.size, 1, none⟩ = some (.int .i64 d) := (hb4.cell (p := ⟨w1.heap.size, 1, none⟩) (by first | omega | (simp <;> omega))).trans (by go_simp)
    have la_4 : w1.heap.size < w4.heap.size := by omega
    have kb0_4 : w4.cell? ⟨w1.heap.size + 1, 0, none⟩ = some (.int .i64 m) := (hb4.cell (p := ⟨w1.heap.size + 1, 0, none⟩) (by first | omega | (simp <;> omega))).trans (by go_simp)
    have kb1_4 : w4.cell? ⟨w1.heap.size + 1, 1, none⟩ = some (.int .i64 f) := (hb4.cell (p := ⟨w1.heap.size + 1, 1, none⟩) (by first | omega | (simp <;> omega))).trans (by go_simp)
    have lb_4 : w1.heap.size + 1 < w4.heap.size := by omega
    have kc0_4 : w4.cell? ⟨w1.heap.size + 1 + 1, 0, none⟩ = some (.int .i64 n3) := (hb4.cell (p := ⟨w1.heap.size + 1 + 1, 0, none⟩) (by first | omega | (simp <;> omega))).trans (by go_simp)
    have kc1_4 : w4.cell? ⟨w1.heap.size + 1 + 1, 1, none⟩ = some (.int .i64 d3) := (hb4.cell (p := ⟨w1.heap.size + 1 + 1, 1, none⟩) (by first | omega | (simp <;> omega))).trans (by go_simp)
    have lc_4 : w1.heap.size + 1 + 1 < w4.heap.size := by omega
    have ks0_4 : w4.cell? ⟨w2.heap.size, 0, none⟩ = some (.int .i64 S) := (hb4.cell (p := ⟨w2.heap.size, 0, none⟩) (by first | omega | (simp <;> omega))).trans (by go_simp)
    have ks1_4 : w4.cell? ⟨w2.heap.size, 1, none⟩ = some (.int .i64 D) := (hb4.cell (p := ⟨w2.heap.size, 1, none⟩) (by first | omega | (simp <;> omega))).trans (by go_simp)
    have ls_4 : w2.heap.size < w4.heap.size := by omega
    have kk0_4 : w4.cell? ⟨w3.heap.size, 0, none⟩ = some (.int .i64 n) := (hb4.cell (p := ⟨w3.heap.size, 0, none⟩) (by first | omega | (simp <;> omega))).trans (by go_simp)
    have kk1_4 : w4.cell? ⟨w3.heap.size, 1, none⟩ = some (.int .i64 d) := (hb4.cell (p := ⟨w3.heap.size, 1, none⟩) (by first | omega | (simp <;> omega))).trans (by go_simp)
    have lk_4 : w3.heap.size < w4.heap.size := by omega
    clear hb4 E3 ka0_3 ka1_3 la_3 kb0_3 kb1_3 lb_3 kc0_3 kc1_3 lc_3 ks0_3 ks1_3 ls_3
    go_wp2_with (fail)
    refine (HMED.out _).mono ?_
    rintro e w5 ⟨rfl, hb5⟩
    have hz5 := hb5.size
    (try simp at hz5)
    have hs5 : w.heap.size ≤ w5.heap.size := by omega
    have E5 := hid (((E4.out).alloc (by first | omega | (simp <;> omega)) _).trans (hb5.mono (by first | omega | (simp <;> omega))))
    have ka0_5 : w5.cell? ⟨w1.heap.size, 0, none⟩ = some (.int .i64 n) := (hb5.cell (p := ⟨w1.heap.size, 0, none⟩) (by first | omega | (simp <;> omega))).trans (by go_simp)
    have ka1_5 : w5.cell? ⟨w1.heap.size, 1, none⟩ = some (.int .i64 d) := (hb5.cell (p := ⟨w1.heap.size, 1, none⟩) (by first | omega | (simp <;> omega))).trans (by go_simp)
    have la_5 : w1.heap.size < w5.heap.size := by omega
    have kb0_5 : w5.cell? ⟨w1.heap.size + 1, 0, none⟩ = some (.int .i64 m) := (hb5.cell (p := ⟨w1.heap.size + 1, 0, none⟩) (by first | omega | (simp <;> omega))).trans (by go_simp)
    have kb1_5 : w5.cell? ⟨w1.heap.size + 1, 1, none⟩ = some (.int .i64 f) := (hb5.cell (p := ⟨w1.heap.size + 1, 1, none⟩) (by first | omega | (simp <;> omega))).trans (by go_simp)
    have lb_5 : w1.heap.size + 1 < w5.heap.size := by omega
    have kc0_5 : w5.cell? ⟨w1.heap.size + 1 + 1, 0, none⟩ = some (.int .i64 n3) := (hb5.cell (p := ⟨w1.heap.size + 1 + 1, 0, none⟩) (by first | omega | (simp <;> omega))).trans (by go_simp)
    have kc1_5 : w5.cell? ⟨w1.heap.size + 1 + 1, 1, none⟩ = some (.int .i64 d3) := (hb5.cell (p := ⟨w1.heap.size + 1 + 1, 1, none⟩) (by first | omega | (simp <;> omega))).trans (by go_simp)
    have lc_5 : w1.heap.size + 1 + 1 < w5.heap.size := by omega
    have ks0_5 : w5.cell? ⟨w2.heap.size, 0, none⟩ = some (.int .i64 S) := (hb5.cell (p := ⟨w2.heap.size, 0, none⟩) (by first | omega | (simp <;> omega))).trans (by go_simp)
    have ks1_5 : w5.cell? ⟨w2.heap.size, 1, none⟩ = some (.int .i64 D) := (hb5.cell (p := ⟨w2.heap.size, 1, none⟩) (by first | omega | (simp <;> omega))).trans (by go_simp)
    have ls_5 : w2.heap.size < w5.heap.size := by omega
    have kk0_5 : w5.cell? ⟨w3.heap.size, 0, none⟩ = some (.int .i64 n) := (hb5.cell (p := ⟨w3.heap.size, 0, none⟩) (by first | omega | (simp <;> omega))).trans (by go_simp)
    have kk1_5 : w5.cell? ⟨w3.heap.size, 1, none⟩ = some (.int .i64 d) := (hb5.cell (p := ⟨w3.heap.size, 1, none⟩) (by first | omega | (simp <;> omega))).trans (by go_simp)
    have lk_5 : w3.heap.size < w5.heap.size := by omega
    have kp0_5 : w5.cell? ⟨w4.heap.size, 0, none⟩ = some (.int .i64 P) := (hb5.cell (p := ⟨w4.heap.size, 0, none⟩) (by first | omega | (simp <;> omega))).trans (by go_simp)
    have kp1_5 : w5.cell? ⟨w4.heap.size, 1, none⟩ = some (.int .i64 Q) := (hb5.cell (p := ⟨w4.heap.size, 1, none⟩) (by first | omega | (simp <;> omega))).trans (by go_simp)
    have lp_5 : w4.heap.size < w5.heap.size := by omega
    clear hb5 E4 ka0_4 ka1_4 la_4 kb0_4 kb1_4 lb_4 kc0_4 kc1_4 lc_4 ks0_4 ks1_4 ls_4 kk0_4 kk1_4 lk_4
    go_wp2_with (fail)
    refine (HC1.out _).mono ?_
    rintro e w6 ⟨rfl, hb6⟩
    have hz6 := hb6.size
    (try simp at hz6)
    have hs6 : w.heap.size ≤ w6.heap.size := by omega
    have E6 := hid (((E5.out).alloc (by first | omega | (simp <;> omega)) _).trans (hb6.mono (by first | omega | (simp <;> omega))))
    have ka0_6 : w6.cell? ⟨w1.heap.size, 0, none⟩ = some (.int .i64 n) := (hb6.cell (p := ⟨w1.heap.size, 0, none⟩) (by first | omega | (simp <;> omega))).trans (by go_simp)
    have ka1_6 : w6.cell? ⟨w1.heap.size, 1, none⟩ = some (.int .i64 d) := (hb6.cell (p := ⟨w1.heap.size, 1, none⟩) (by first | omega | (simp <;> omega))).trans (by go_simp)
    have la_6 : w1.heap.size < w6.heap.size := by omega
    have kb0_6 : w6.cell? ⟨w1.heap.size + 1, 0, none⟩ = some (.int .i64 m) := (hb6.cell (p := ⟨w1.heap.size + 1, 0, none⟩) (by first | omega | (simp <;> omega))).trans (by go_simp)
    have kb1_6 : w6.cell? ⟨w1.heap.size + 1, 1, none⟩ = some (.int .i64 f) := (hb6.cell (p := ⟨w1.heap.size + 1, 1, none⟩) (by first | omega | (simp <;> omega))).trans (by go_simp)
    have lb_6 : w1.heap.size + 1 < w6.heap.size := by omega
    have kc0_6 : w6.cell? ⟨w1.heap.size + 1 + 1, 0, none⟩ = some (.int .i64 n3) := (hb6.cell (p := ⟨w1.heap.size + 1 + 1, 0, none⟩) (by first | omega | (simp <;> omega))).trans (by go_simp)
    have kc1_6 : w6.cell? ⟨w1.heap.size + 1 + 1, 1, none⟩ = some (.int .i64 d3) := (hb6.cell (p := ⟨w1.heap.size + 1 + 1, 1, none⟩) (by first | omega | (simp <;> omega))).trans (by go_simp)
    have lc_6 : w1.heap.size + 1 + 1 < w6.heap.size := by omega
    have ks0_6 : w6.cell? ⟨w2.heap.size, 0, none⟩ = some (.int .i64 S) := (hb6.cell (p := ⟨w2.heap.size, 0, none⟩) (by first | omega | (simp <;> omega))).trans (by go_simp)
    have ks1_6 : w6.cell? ⟨w2.heap.size, 1, none⟩ = some (.int .i64 D) := (hb6.cell (p := ⟨w2.heap.size, 1, none⟩) (by first | omega | (simp <;> omega))).trans (by go_simp)
    have ls_6 : w2.heap.size < w6.heap.size := by omega
    have kk0_6 : w6.cell? ⟨w3.heap.size, 0, none⟩ = some (.int .i64 n) := (hb6.cell (p := ⟨w3.heap.size, 0, none⟩) (by first | omega | (simp <;> omega))).trans (by go_simp)
    have kk1_6 : w6.cell? ⟨w3.heap.size, 1, none⟩ = some (.int .i64 d) := (hb6.cell (p := ⟨w3.heap.size, 1, none⟩) (by first | omega | (simp <;> omega))).trans (by go_simp)
    have lk_6 : w3.heap.size < w6.heap.size := by omega
    have kp0_6 : w6.cell? ⟨w4.heap.size, 0, none⟩ = some (.int .i64 P) := (hb6.cell (p := ⟨w4.heap.size, 0, none⟩) (by first | omega | (simp <;> omega))).trans (by go_simp)
    have kp1_6 : w6.cell? ⟨w4.heap.size, 1, none⟩ = some (.int .i64 Q) := (hb6.cell (p := ⟨w4.heap.size, 1, none⟩) (by first | omega | (simp <;> omega))).trans (by go_simp)
    have lp_6 : w4.heap.size < w6.heap.size := by omega
    have ke0_6 : w6.cell? ⟨w5.heap.size, 0, none⟩ = some (.int .i64 M) := (hb6.cell (p := ⟨w5.heap.size, 0, none⟩) (by first | omega | (simp <;> omega))).trans (by go_simp)
    have ke1_6 : w6.cell? ⟨w5.heap.size, 1, none⟩ = some (.int .i64 E) := (hb6.cell (p := ⟨w5.heap.size, 1, none⟩) (by first | omega | (simp <;> omega))).trans (by go_simp)
    have le_6 : w5.heap.size < w6.heap.size := by omega
    clear hb6 E5 ka0_5 ka1_5 la_5 kb0_5 kb1_5 lb_5 kc0_5 kc1_5 lc_5 ks0_5 ks1_5 ls_5 kk0_5 kk1_5 lk_5 kp0_5 kp1_5 lp_5
    go_wp2_with (fail)
    refine (HC2.out _).mono ?_
    rintro e w7 ⟨rfl, hb7⟩
    have hz7 := hb7.size
    (try simp at hz7)
    have hs7 : w.heap.size ≤ w7.heap.size := by omega
    have E7 := hid ((E6.out).trans (hb7.mono (by first | omega | (simp <;> omega))))
    have ka0_7 : w7.cell? ⟨w1.heap.size, 0, none⟩ = some (.int .i64 n) := (hb7.cell (p := ⟨w1.heap.size, 0, none⟩) (by first | omega | (simp <;> omega))).trans (by go_simp)
    have ka1_7 : w7.cell? ⟨w1.heap.size, 1, none⟩ = some (.int .i64 d) := (hb7.cell (p := ⟨w1.heap.size, 1, none⟩) (by first | omega | (simp <;> omega))).trans (by go_simp)
    have la_7 : w1.heap.size < w7.heap.size := by omega
    have kb0_7 : w7.cell? ⟨w1.heap.size + 1, 0, none⟩ = some (.int .i64 m) := (hb7.cell (p := ⟨w1.heap.size + 1, 0, none⟩) (by first | omega | (simp <;> omega))).trans (by go_simp)
    have kb1_7 : w7.cell? ⟨w1.heap.size + 1, 1, none⟩ = some (.int .i64 f) := (hb7.cell (p := ⟨w1.heap.size + 1, 1, none⟩) (by first | omega | (simp <;> omega))).trans (by go_simp)
    have lb_7 : w1.heap.size + 1 < w7.heap.size := by omega
    have kc0_7 : w7.cell? ⟨w1.heap.size + 1 + 1, 0, none⟩ = some (.int .i64 n3) := (hb7.cell (p := ⟨w1.heap.size + 1 + 1, 0, none⟩) (by first | omega | (simp <;> omega))).trans (by go_simp)
    have kc1_7 : w7.cell? ⟨w1.heap.size + 1 + 1, 1, none⟩ = some (.int .i64 d3) := (hb7.cell (p := ⟨w1.heap.size + 1 + 1, 1, none⟩) (by first | omega | (simp <;> omega))).trans (by go_simp)
    have lc_7 : w1.heap.size + 1 + 1 < w7.heap.size := by omega
    have ks0_7 : w7.cell? ⟨w2.heap.size, 0, none⟩ = some (.int .i64 S) := (hb7.cell (p := ⟨w2.heap.size, 0, none⟩) (by first | omega | (simp <;> omega))).trans (by go_simp)
    have ks1_7 : w7.cell? ⟨w2.heap.size, 1, none⟩ = some (.int .i64 D) := (hb7.cell (p := ⟨w2.heap.size, 1, none⟩) (by first | omega | (simp <;> omega))).trans (by go_simp)
    have ls_7 : w2.heap.size < w7.heap.size := by omega
    have kk0_7 : w7.cell? ⟨w3.heap.size, 0, none⟩ = some (.int .i64 n) := (hb7.cell (p := ⟨w3.heap.size, 0, none⟩) (by first | omega | (simp <;> omega))).trans (by go_simp)
    have kk1_7 : w7.cell? ⟨w3.heap.size, 1, none⟩ = some (.int .i64 d) := (hb7.cell (p := ⟨w3.heap.size, 1, none⟩) (by first | omega | (simp <;> omega))).trans (by go_simp)
    have lk_7 : w3.heap.size < w7.heap.size := by omega
    have kp0_7 : w7.cell? ⟨w4.heap.size, 0, none⟩ = some (.int .i64 P) := (hb7.cell (p := ⟨w4.heap.size, 0, none⟩) (by first | omega | (simp <;> omega))).trans (by go_simp)
    have kp1_7 : w7.cell? ⟨w4.heap.size, 1, none⟩ = some (.int .i64 Q) := (hb7.cell (p := ⟨w4.heap.size, 1, none⟩) (by first | omega | (simp <;> omega))).trans (by go_simp)
    have lp_7 : w4.heap.size < w7.heap.size := by omega
    have ke0_7 : w7.cell? ⟨w5.heap.size, 0, none⟩ = some (.int .i64 M) := (hb7.cell (p := ⟨w5.heap.size, 0, none⟩) (by first | omega | (simp <;> omega))).trans (by go_simp)
    have ke1_7 : w7.cell? ⟨w5.heap.size, 1, none⟩ = some (.int .i64 E) := (hb7.cell (p := ⟨w5.heap.size, 1, none⟩) (by first | omega | (simp <;> omega))).trans (by go_simp)
    have le_7 : w5.heap.size < w7.heap.size := by omega
    clear hb7 E6 ka0_6 ka1_6 la_6 kb0_6 kb1_6 lb_6 kc0_6 kc1_6 lc_6 ks0_6 ks1_6 ls_6 kk0_6 kk1_6 lk_6 kp0_6 kp1_6 lp_6 ke0_6 ke1_6 le_6
    by_cases h0 : s = 0
    · obtain ⟨rfl, rfl⟩ := HEQ.out.1 h0
      subst h0
      clear HEQ
      go_wp2_with (fail)
      refine (HV1.out _).mono ?_
      rintro e w8 ⟨rfl, hb8⟩
      have hz8 := hb8.size
      (try simp at hz8)
      have hs8 : w.heap.size ≤ w8.heap.size := by omega
      have E8 := hid ((E7.out).trans (hb8.mono (by first | omega | (simp <;> omega))))
      have ka0_8 : w8.cell? ⟨w1.heap.size, 0, none⟩ = some (.int .i64 n) := (hb8.cell (p := ⟨w1.heap.size, 0, none⟩) (by first | omega | (simp <;> omega))).trans (by go_simp)
      have ka1_8 : w8.cell? ⟨w1.heap.size, 1, none⟩ = some (.int .i64 d) := (hb8.cell (p := ⟨w1.heap.size, 1, none⟩) (by first | omega | (simp <;> omega))).trans (by go_simp)
      have la_8 : w1.heap.size < w8.heap.size := by omega
      have kb0_8 : w8.cell? ⟨w1.heap.size + 1, 0, none⟩ = some (.int .i64 n) := (hb8.cell (p := ⟨w1.heap.size + 1, 0, none⟩) (by first | omega | (simp <;> omega))).trans (by go_simp)
      have kb1_8 : w8.cell? ⟨w1.heap.size + 1, 1, none⟩ = some (.int .i64 d) := (hb8.cell (p := ⟨w1.heap.size + 1, 1, none⟩) (by first | omega | (simp <;> omega))).trans (by go_simp)
      have lb_8 : w1.heap.size + 1 < w8.heap.size := by omega
      have kc0_8 : w8.cell? ⟨w1.heap.size + 1 + 1, 0, none⟩ = some (.int .i64 n3) := (hb8.cell (p := ⟨w1.heap.size + 1 + 1, 0, none⟩) (by first | omega | (simp <;> omega))).trans (by go_simp)
      have kc1_8 : w8.cell? ⟨w1.heap.size + 1 + 1, 1, none⟩ = some (.int .i64 d3) := (hb8.cell (p := ⟨w1.heap.size + 1 + 1, 1, none⟩) (by first | omega | (simp <;> omega))).trans (by go_simp)
      have lc_8 : w1.heap.size + 1 + 1 < w8.heap.size := by omega
      have ks0_8 : w8.cell? ⟨w2.heap.size, 0, none⟩ = some (.int .i64 S) := (hb8.cell (p := ⟨w2.heap.size, 0, none⟩) (by first | omega | (simp <;> omega))).trans (by go_simp)
      have ks1_8 : w8.cell? ⟨w2.heap.size, 1, none⟩ = some (.int .i64 D) := (hb8.cell (p := ⟨w2.heap.size, 1, none⟩) (by first | omega | (simp <;> omega))).trans (by go_simp)
      have ls_8 : w2.heap.size < w8.heap.size := by omega
      have kk0_8 : w8.cell? ⟨w3.heap.size, 0, none⟩ = some (.int .i64 n) := (hb8.cell (p := ⟨w3.heap.size, 0, none⟩) (by first | omega | (simp <;> omega))).trans (by go_simp)
      have kk1_8 : w8.cell? ⟨w3.heap.size, 1, none⟩ = some (.int .i64 d) := (hb8.cell (p := ⟨w3.heap.size, 1, none⟩) (by first | omega | (simp <;> omega))).trans (by go_simp)
      have lk_8 : w3.heap.size < w8.heap.size := by omega
      have kp0_8 : w8.cell? ⟨w4.heap.size, 0, none⟩ = some (.int .i64 P) := (hb8.cell (p := ⟨w4.heap.size, 0, none⟩) (by first | omega | (simp <;> omega))).trans (by go_simp)
      have kp1_8 : w8.cell? ⟨w4.heap.size, 1, none⟩ = some (.int .i64 Q) := (hb8.cell (p := ⟨w4.heap.size, 1, none⟩) (by first | omega | (simp <;> omega))).trans (by go_simp)
      have lp_8 : w4.heap.size < w8.heap.size := by omega
      have ke0_8 : w8.cell? ⟨w5.heap.size, 0, none⟩ = some (.int .i64 M) := (hb8.cell (p := ⟨w5.heap.size, 0, none⟩) (by first | omega | (simp <;> omega))).trans (by go_simp)
      have ke1_8 : w8.cell? ⟨w5.heap.size, 1, none⟩ = some (.int .i64 E) := (hb8.cell (p := ⟨w5.heap.size, 1, none⟩) (by first | omega | (simp <;> omega))).trans (by go_simp)
      have le_8 : w5.heap.size < w8.heap.size := by omega
      clear hb8 E7 ka0_7 ka1_7 la_7 kb0_7 kb1_7 lb_7 kc0_7 kc1_7 lc_7 ks0_7 ks1_7 ls_7 kk0_7 kk1_7 lk_7 kp0_7 kp1_7 lp_7 ke0_7 ke1_7 le_7
      go_wp2_with (fail)
      refine (HV2.out _).mono ?_
      rintro e w9 ⟨rfl, hb9⟩
      have hz9 := hb9.size
      (try simp at hz9)
      have hs9 : w.heap.size ≤ w9.heap.size := by omega
      have E9 := hid ((E8.out).trans (hb9.mono (by first | omega | (simp <;> omega))))
      have ka0_9 : w9.cell? ⟨w1.heap.size, 0, none⟩ = some (.int .i64 n) := (hb9.cell (p := ⟨w1.heap.size, 0, none⟩) (by first | omega | (simp <;> omega))).trans (by go_simp)
      have ka1_9 : w9.cell? ⟨w1.heap.size, 1, none⟩ = some (.int .i64 d) := (hb9.cell (p := ⟨w1.heap.size, 1, none⟩) (by first | omega | (simp <;> omega))).trans (by go_simp)
      have la_9 : w1.heap.size < w9.heap.size := by omega
      have kb0_9 : w9.cell? ⟨w1.heap.size + 1, 0, none⟩ = some (.int .i64 n) := (hb9.cell (p := ⟨w1.heap.size + 1, 0, none⟩) (by first | omega | (simp <;> omega))).trans (by go_simp)
      have kb1_9 : w9.cell? ⟨w1.heap.size + 1, 1, none⟩ = some (.int .i64 d) := (hb9.cell (p := ⟨w1.heap.size + 1, 1, none⟩) (by first | omega | (simp <;> omega))).trans (by go_simp)
      have lb_9 : w1.heap.size + 1 < w9.heap.size := by omega
      have kc0_9 : w9.cell? ⟨w1.heap.size + 1 + 1, 0, none⟩ = some (.int .i64 n3) := (hb9.cell (p := ⟨w1.heap.size + 1 + 1, 0, none⟩) (by first | omega | (simp <;> omega))).trans (by go_simp)
      have kc1_9 : w9.cell? ⟨w1.heap.size + 1 + 1, 1, none⟩ = some (.int .i64 d3) := (hb9.cell (p := ⟨w1.heap.size + 1 + 1, 1, none⟩) (by first | omega | (simp <;> omega))).trans (by go_simp)
      have lc_9 : w1.heap.size + 1 + 1 < w9.heap.size := by omega
      have ks0_9 : w9.cell? ⟨w2.heap.size, 0, none⟩ = some (.int .i64 S) := (hb9.cell (p := ⟨w2.heap.size, 0, none⟩) (by first | omega | (simp <;> omega))).trans (by go_simp)
      have ks1_9 : w9.cell? ⟨w2.heap.size, 1, none⟩ = some (.int .i64 D) := (hb9.cell (p := ⟨w2.heap.size, 1, none⟩) (by first | omega | (simp <;> omega))).trans (by go_simp)
      have ls_9 : w2.heap.size < w9.heap.size := by omega
      have kp0_9 : w9.cell? ⟨w4.heap.size, 0, none⟩ = some (.int .i64 P) := (hb9.cell (p := ⟨w4.heap.size, 0, none⟩) (by first | omega | (simp <;> omega))).trans (by go_simp)
      have kp1_9 : w9.cell? ⟨w4.heap.size, 1, none⟩ = some (.int .i64 Q) := (hb9.cell (p := ⟨w4.heap.size, 1, none⟩) (by first | omega | (simp <;> omega))).trans (by go_simp)
      have lp_9 : w4.heap.size < w9.heap.size := by omega
      have ke0_9 : w9.cell? ⟨w5.heap.size, 0, none⟩ = some (.int .i64 M) := (hb9.cell (p := ⟨w5.heap.size, 0, none⟩) (by first | omega | (simp <;> omega))).trans (by go_simp)
      have ke1_9 : w9.cell? ⟨w5.heap.size, 1, none⟩ = some (.int .i64 E) := (hb9.cell (p := ⟨w5.heap.size, 1, none⟩) (by first | omega | (simp <;> omega))).trans (by go_simp)
      have le_9 : w5.heap.size < w9.heap.size := by omega
      clear hb9 E8 ka0_8 ka1_8 la_8 kb0_8 kb1_8 lb_8 kc0_8 kc1_8 lc_8 ks0_8 ks1_8 ls_8 kk0_8 kk1_8 lk_8 kp0_8 kp1_8 lp_8 ke0_8 ke1_8 le_8
      go_wp2_with (fail)
      refine (HV3.out _).mono ?_
      rintro e w10 ⟨rfl, hb10⟩
      have hz10 := hb10.size
      (try simp at hz10)
      have hs10 : w.heap.size ≤ w10.heap.size := by omega
      have E10 := hid ((E9.out).trans (hb10.mono (by first | omega | (simp <;> omega))))
      have ka0_10 : w10.cell? ⟨w1.heap.size, 0, none⟩ = some (.int .i64 n) := (hb10.cell (p := ⟨w1.heap.size, 0, none⟩) (by first | omega | (simp <;> omega))).trans (by go_simp)
      have ka1_10 : w10.cell? ⟨w1.heap.size, 1, none⟩ = some (.int .i64 d) := (hb10.cell (p := ⟨w1.heap.size, 1, none⟩) (by first | omega | (simp <;> omega))).trans (by go_simp)
      have la_10 : w1.heap.size < w10.heap.size := by omega
      have kb0_10 : w10.cell? ⟨w1.heap.size + 1, 0, none⟩ = some (.int .i64 n) := (hb10.cell (p := ⟨w1.heap.size + 1, 0, none⟩) (by first | omega | (simp <;> omega))).trans (by go_simp)
      have kb1_10 : w10.cell? ⟨w1.heap.size + 1, 1, none⟩ = some (.int .i64 d) := (hb10.cell (p := ⟨w1.heap.size + 1, 1, none⟩) (by first | omega | (simp <;> omega))).trans (by go_simp)
      have lb_10 : w1.heap.size + 1 < w10.heap.size := by omega
      have kc0_10 : w10.cell? ⟨w1.heap.size + 1 + 1, 0, none⟩ = some (.int .i64 n3) := (hb10.cell (p := ⟨w1.heap.size + 1 + 1, 0, none⟩) (by first | omega | (simp <;> omega))).trans (by go_simp)
      have kc1_10 : w10.cell? ⟨w1.heap.size + 1 + 1, 1, none⟩ = some (.int .i64 d3) := (hb10.cell (p := ⟨w1.heap.size + 1 + 1, 1, none⟩) (by first | omega | (simp <;> omega))).trans (by go_simp)
      have lc_10 : w1.heap.size + 1 + 1 < w10.heap.size := by omega
      have kp0_10 : w10.cell? ⟨w4.heap.size, 0, none⟩ = some (.int .i64 P) := (hb10.cell (p := ⟨w4.heap.size, 0, none⟩) (by first | omega | (simp <;> omega))).trans (by go_simp)
      have kp1_10 : w10.cell? ⟨w4.heap.size, 1, none⟩ = some (.int .i64 Q) := (hb10.cell (p := ⟨w4.heap.size, 1, none⟩) (by first | omega | (simp <;> omega))).trans (by go_simp)
      have lp_10 : w4.heap.size < w10.heap.size := by omega
      have ke0_10 : w10.cell? ⟨w5.heap.size, 0, none⟩ = some (.int .i64 M) := (hb10.cell (p := ⟨w5.heap.size, 0, none⟩) (by first | omega | (simp <;> omega))).trans (by go_simp)
      have ke1_10 : w10.cell? ⟨w5.heap.size, 1, none⟩ = some (.int .i64 E) := (hb10.cell (p := ⟨w5.heap.size, 1, none⟩) (by first | omega | (simp <;> omega))).trans (by go_simp)
      have le_10 : w5.heap.size < w10.heap.size := by omega
      clear hb10 E9 ka0_9 ka1_9 la_9 kb0_9 kb1_9 lb_9 kc0_9 kc1_9 lc_9 ks0_9 ks1_9 ls_9 kp0_9 kp1_9 lp_9 ke0_9 ke1_9 le_9
      go_wp2_with (fail)
      refine (HS1.out _).mono ?_
      rintro e w11 ⟨rfl, hb11⟩
      have hz11 := hb11.size
      (try simp at hz11)
      have hs11 : w.heap.size ≤ w11.heap.size := by omega
      have E11 := hid ((E10.out).trans (hb11.mono (by first | omega | (simp <;> omega))))
      have ka0_11 : w11.cell? ⟨w1.heap.size, 0, none⟩ = some (.int .i64 n) := (hb11.cell (p := ⟨w1.heap.size, 0, none⟩) (by first | omega | (simp <;> omega))).trans (by go_simp)
      have ka1_11 : w11.cell? ⟨w1.heap.size, 1, none⟩ = some (.int .i64 d) := (hb11.cell (p := ⟨w1.heap.size, 1, none⟩) (by first | omega | (simp <;> omega))).trans (by go_simp)
      have la_11 : w1.heap.size < w11.heap.size := by omega
      have kb0_11 : w11.cell? ⟨w1.heap.size + 1, 0, none⟩ = some (.int .i64 n) := (hb11.cell (p := ⟨w1.heap.size + 1, 0, none⟩) (by first | omega | (simp <;> omega))).trans (by go_simp)
      have kb1_11 : w11.cell? ⟨w1.heap.size + 1, 1, none⟩ = some (.int .i64 d) := (hb11.cell (p := ⟨w1.heap.size + 1, 1, none⟩) (by first | omega | (simp <;> omega))).trans (by go_simp)
      have lb_11 : w1.heap.size + 1 < w11.heap.size := by omega
      have kc0_11 : w11.cell? ⟨w1.heap.size + 1 + 1, 0, none⟩ = some (.int .i64 n3) := (hb11.cell (p := ⟨w1.heap.size + 1 + 1, 0, none⟩) (by first | omega | (simp <;> omega))).trans (by go_simp)
      have kc1_11 : w11.cell? ⟨w1.heap.size + 1 + 1, 1, none⟩ = some (.int .i64 d3) := (hb11.cell (p := ⟨w1.heap.size + 1 + 1, 1, none⟩) (by first | omega | (simp <;> omega))).trans (by go_simp)
      have lc_11 : w1.heap.size + 1 + 1 < w11.heap.size := by omega
      have kp0_11 : w11.cell? ⟨w4.heap.size, 0, none⟩ = some (.int .i64 P) := (hb11.cell (p := ⟨w4.heap.size, 0, none⟩) (by first | omega | (simp <;> omega))).trans (by go_simp)
      have kp1_11 : w11.cell? ⟨w4.heap.size, 1, none⟩ = some (.int .i64 Q) := (hb11.cell (p := ⟨w4.heap.size, 1, none⟩) (by first | omega | (simp <;> omega))).trans (by go_simp)
      have lp_11 : w4.heap.size < w11.heap.size := by omega
      have ke0_11 : w11.cell? ⟨w5.heap.size, 0, none⟩ = some (.int .i64 M) := (hb11.cell (p := ⟨w5.heap.size, 0, none⟩) (by first | omega | (simp <;> omega))).trans (by go_simp)
      have ke1_11 : w11.cell? ⟨w5.heap.size, 1, none⟩ = some (.int .i64 E) := (hb11.cell (p := ⟨w5.heap.size, 1, none⟩) (by first | omega | (simp <;> omega))).trans (by go_simp)
      have le_11 : w5.heap.size < w11.heap.size := by omega
      clear hb11 E10 ka0_10 ka1_10 la_10 kb0_10 kb1_10 lb_10 kc0_10 kc1_10 lc_10 kp0_10 kp1_10 lp_10 ke0_10 ke1_10 le_10
      go_wp2_with (fail)
      refine (HS2.out _).mono ?_
      rintro e w12 ⟨rfl, hb12⟩
      have hz12 := hb12.size
      (try simp at hz12)
      have hs12 : w.heap.size ≤ w12.heap.size := by omega
      have E12 := hid ((E11.out).trans (hb12.mono (by first | omega | (simp <;> omega))))
      have ka0_12 : w12.cell? ⟨w1.heap.size, 0, none⟩ = some (.int .i64 n) := (hb12.cell (p := ⟨w1.heap.size, 0, none⟩) (by first | omega | (simp <;> omega))).trans (by go_simp)
      have ka1_12 : w12.cell? ⟨w1.heap.size, 1, none⟩ = some (.int .i64 d) := (hb12.cell (p := ⟨w1.heap.size, 1, none⟩) (by first | omega | (simp <;> omega))).trans (by go_simp)
      have la_12 : w1.heap.size < w12.heap.size := by omega
      have kb0_12 : w12.cell? ⟨w1.heap.size + 1, 0, none⟩ = some (.int .i64 n) := (hb12.cell (p := ⟨w1.heap.size + 1, 0, none⟩) (by first | omega | (simp <;> omega))).trans (by go_simp)
      have kb1_12 : w12.cell? ⟨w1.heap.size + 1, 1, none⟩ = some (.int .i64 d) := (hb12.cell (p := ⟨w1.heap.size + 1, 1, none⟩) (by first | omega | (simp <;> omega))).trans (by go_simp)
      have lb_12 : w1.heap.size + 1 < w12.heap.size := by omega
      have kc0_12 : w12.cell? ⟨w1.heap.size + 1 + 1, 0, none⟩ = some (.int .i64 n3) := (hb12.cell (p := ⟨w1.heap.size + 1 + 1, 0, none⟩) (by first | omega | (simp <;> omega))).trans (by go_simp)
      have kc1_12 : w12.cell? ⟨w1.heap.size + 1 + 1, 1, none⟩ = some (.int .i64 d3) := (hb12.cell (p := ⟨w1.heap.size + 1 + 1, 1, none⟩) (by first | omega | (simp <;> omega))).trans (by go_simp)
      have lc_12 : w1.heap.size + 1 + 1 < w12.heap.size := by omega
      have kp0_12 : w12.cell? ⟨w4.heap.size, 0, none⟩ = some (.int .i64 P) := (hb12.cell (p := ⟨w4.heap.size, 0, none⟩) (by first | omega | (simp <;> omega))).trans (by go_simp)
      have kp1_12 : w12.cell? ⟨w4.heap.size, 1, none⟩ = some (.int .i64 Q) := (hb12.cell (p := ⟨w4.heap.size, 1, none⟩) (by first | omega | (simp <;> omega))).trans (by go_simp)
      have lp_12 : w4.heap.size < w12.heap.size := by omega
      have ke0_12 : w12.cell? ⟨w5.heap.size, 0, none⟩ = some (.int .i64 M) := (hb12.cell (p := ⟨w5.heap.size, 0, none⟩) (by first | omega | (simp <;> omega))).trans (by go_simp)
      have ke1_12 : w12.cell? ⟨w5.heap.size, 1, none⟩ = some (.int .i64 E) := (hb12.cell (p := ⟨w5.heap.size, 1, none⟩) (by first | omega | (simp <;> omega))).trans (by go_simp)
      have le_12 : w5.heap.size < w12.heap.size := by omega
      clear hb12 E11 ka0_11 ka1_11 la_11 kb0_11 kb1_11 lb_11 kc0_11 kc1_11 lc_11 kp0_11 kp1_11 lp_11 ke0_11 ke1_11 le_11
      go_wp2_with (fail)
      refine (HTX.out _ (wants_below HW.out E12.out)).mono ?_
      rintro e w13 ⟨rfl, hb13⟩
      have hz13 := hb13.size
      (try simp at hz13)
      have hs13 : w.heap.size ≤ w13.heap.size := by omega
      have E13 := hid ((E12.out).trans (hb13.mono (by first | omega | (simp <;> omega))))
      have ka0_13 : w13.cell? ⟨w1.heap.size, 0, none⟩ = some (.int .i64 n) := (hb13.cell (p := ⟨w1.heap.size, 0, none⟩) (by first | omega | (simp <;> omega))).trans (by go_simp)
      have ka1_13 : w13.cell? ⟨w1.heap.size, 1, none⟩ = some (.int .i64 d) := (hb13.cell (p := ⟨w1.heap.size, 1, none⟩) (by first | omega | (simp <;> omega))).trans (by go_simp)
      have la_13 : w1.heap.size < w13.heap.size := by omega
      have kb0_13 : w13.cell? ⟨w1.heap.size + 1, 0, none⟩ = some (.int .i64 n) := (hb13.cell (p := ⟨w1.heap.size + 1, 0, none⟩) (by first | omega | (simp <;> omega))).trans (by go_simp)
      have kb1_13 : w13.cell? ⟨w1.heap.size + 1, 1, none⟩ = some (.int .i64 d) := (hb13.cell (p := ⟨w1.heap.size + 1, 1, none⟩) (by first | omega | (simp <;> omega))).trans (by go_simp)
      have lb_13 : w1.heap.size + 1 < w13.heap.size := by omega
      have kc0_13 : w13.cell? ⟨w1.heap.size + 1 + 1, 0, none⟩ = some (.int .i64 n3) := (hb13.cell (p := ⟨w1.heap.size + 1 + 1, 0, none⟩) (by first | omega | (simp <;> omega))).trans (by go_simp)
      have kc1_13 : w13.cell? ⟨w1.heap.size + 1 + 1, 1, none⟩ = some (.int .i64 d3) := (hb13.cell (p := ⟨w1.heap.size + 1 + 1, 1, none⟩) (by first | omega | (simp <;> omega))).trans (by go_simp)
      have lc_13 : w1.heap.size + 1 + 1 < w13.heap.size := by omega
      have kp0_13 : w13.cell? ⟨w4.heap.size, 0, none⟩ = some (.int .i64 P) := (hb13.cell (p := ⟨w4.heap.size, 0, none⟩) (by first | omega | (simp <;> omega))).trans (by go_simp)
      have kp1_13 : w13.cell? ⟨w4.heap.size, 1, none⟩ = some (.int .i64 Q) := (hb13.cell (p := ⟨w4.heap.size, 1, none⟩) (by first | omega | (simp <;> omega))).trans (by go_simp)
      have lp_13 : w4.heap.size < w13.heap.size := by omega
      clear hb13 E12 ka0_12 ka1_12 la_12 kb0_12 kb1_12 lb_12 kc0_12 kc1_12 lc_12 kp0_12 kp1_12 lp_12 ke0_12 ke1_12 le_12
      go_wp2_with (fail)
      refine (HRF.out _ (wants_below HW.out E13.out)).mono ?_
      rintro e w14 ⟨rfl, hb14⟩
      have hz14 := hb14.size
      (try simp at hz14)
      have hs14 : w.heap.size ≤ w14.heap.size := by omega
      have E14 := hid ((E13.out).trans (hb14.mono (by first | omega | (simp <;> omega))))
      have ka0_14 : w14.cell? ⟨w1.heap.size, 0, none⟩ = some (.int .i64 n) := (hb14.cell (p := ⟨w1.heap.size, 0, none⟩) (by first | omega | (simp <;> omega))).trans (by go_simp)
      have ka1_14 : w14.cell? ⟨w1.heap.size, 1, none⟩ = some (.int .i64 d) := (hb14.cell (p := ⟨w1.heap.size, 1, none⟩) (by first | omega | (simp <;> omega))).trans (by go_simp)
      have la_14 : w1.heap.size < w14.heap.size := by omega
      have kb0_14 : w14.cell? ⟨w1.heap.size + 1, 0, none⟩ = some (.int .i64 n) := (hb14.cell (p := ⟨w1.heap.size + 1, 0, none⟩) (by first | omega | (simp <;> omega))).trans (by go_simp)
      have kb1_14 : w14.cell? ⟨w1.heap.size + 1, 1, none⟩ = some (.int .i64 d) := (hb14.cell (p := ⟨w1.heap.size + 1, 1, none⟩) (by first | omega | (simp <;> omega))).trans (by go_simp)
      have lb_14 : w1.heap.size + 1 < w14.heap.size := by omega
      have kc0_14 : w14.cell? ⟨w1.heap.size + 1 + 1, 0, none⟩ = some (.int .i64 n3) := (hb14.cell (p := ⟨w1.heap.size + 1 + 1, 0, none⟩) (by first | omega | (simp <;> omega))).trans (by go_simp)
      have kc1_14 : w14.cell? ⟨w1.heap.size + 1 + 1, 1, none⟩ = some (.int .i64 d3) := (hb14.cell (p := ⟨w1.heap.size + 1 + 1, 1, none⟩) (by first | omega | (simp <;> omega))).trans (by go_simp)
      have lc_14 : w1.heap.size + 1 + 1 < w14.heap.size := by omega
      have kp0_14 : w14.cell? ⟨w4.heap.size, 0, none⟩ = some (.int .i64 P) := (hb14.cell (p := ⟨w4.heap.size, 0, none⟩) (by first | omega | (simp <;> omega))).trans (by go_simp)
      have kp1_14 : w14.cell? ⟨w4.heap.size, 1, none⟩ = some (.int .i64 Q) := (hb14.cell (p := ⟨w4.heap.size, 1, none⟩) (by first | omega | (simp <;> omega))).trans (by go_simp)
      have lp_14 : w4.heap.size < w14.heap.size := by omega
      clear hb14 E13 ka0_13 ka1_13 la_13 kb0_13 kb1_13 lb_13 kc0_13 kc1_13 lc_13 kp0_13 kp1_13 lp_13
      by_cases hm0 : n = 0
      · have HM := hid hm0
        clear hm0
        go_wp2_with (fail)
        refine (HD0.out HM.out _).mono ?_
        rintro e w15 ⟨rfl, hb15⟩
        have hz15 := hb15.size
        (try simp at hz15)
        have hs15 : w.heap.size ≤ w15.heap.size := by omega
        have E15 := hid (((E14.out).alloc (by first | omega | (simp <;> omega)) _).trans (hb15.mono (by first | omega | (simp <;> omega))))
        have ka0_15 : w15.cell? ⟨w1.heap.size, 0, none⟩ = some (.int .i64 n) := (hb15.cell (p := ⟨w1.heap.size, 0, none⟩) (by first | omega | (simp <;> omega))).trans (by go_simp)
        have ka1_15 : w15.cell? ⟨w1.heap.size, 1, none⟩ = some (.int .i64 d) := (hb15.cell (p := ⟨w1.heap.size, 1, none⟩) (by first | omega | (simp <;> omega))).trans (by go_simp)
        have la_15 : w1.heap.size < w15.heap.size := by omega
        have kb0_15 : w15.cell? ⟨w1.heap.size + 1, 0, none⟩ = some (.int .i64 n) := (hb15.cell (p := ⟨w1.heap.size + 1, 0, none⟩) (by first | omega | (simp <;> omega))).trans (by go_simp)
        have kb1_15 : w15.cell? ⟨w1.heap.size + 1, 1, none⟩ = some (.int .i64 d) := (hb15.cell (p := ⟨w1.heap.size + 1, 1, none⟩) (by first | omega | (simp <;> omega))).trans (by go_simp)
        have lb_15 : w1.heap.size + 1 < w15.heap.size := by omega
        have kc0_15 : w15.cell? ⟨w1.heap.size + 1 + 1, 0, none⟩ = some (.int .i64 n3) := (hb15.cell (p := ⟨w1.heap.size + 1 + 1, 0, none⟩) (by first | omega | (simp <;> omega))).trans (by go_simp)
        have kc1_15 : w15.cell? ⟨w1.heap.size + 1 + 1, 1, none⟩ = some (.int .i64 d3) := (hb15.cell (p := ⟨w1.heap.size + 1 + 1, 1, none⟩) (by first | omega | (simp <;> omega))).trans (by go_simp)
        have lc_15 : w1.heap.size + 1 + 1 < w15.heap.size := by omega
        have kp0_15 : w15.cell? ⟨w4.heap.size, 0, none⟩ = some (.int .i64 P) := (hb15.cell (p := ⟨w4.heap.size, 0, none⟩) (by first | omega | (simp <;> omega))).trans (by go_simp)
        have kp1_15 : w15.cell? ⟨w4.heap.size, 1, none⟩ = some (.int .i64 Q) := (hb15.cell (p := ⟨w4.heap.size, 1, none⟩) (by first | omega | (simp <;> omega))).trans (by go_simp)
        have lp_15 : w4.heap.size < w15.heap.size := by omega
        have kf0_15 : w15.cell? ⟨w14.heap.size, 0, none⟩ = some (.int .i64 n3) := (hb15.cell (p := ⟨w14.heap.size, 0, none⟩) (by first | omega | (simp <;> omega))).trans (by go_simp)
        have kf1_15 : w15.cell? ⟨w14.heap.size, 1, none⟩ = some (.int .i64 d3) := (hb15.cell (p := ⟨w14.heap.size, 1, none⟩) (by first | omega | (simp <;> omega))).trans (by go_simp)
        have lf_15 : w14.heap.size < w15.heap.size := by omega
        clear hb15 E14 ka0_14 ka1_14 la_14 kb0_14 kb1_14 lb_14 kc0_14 kc1_14 lc_14 kp0_14 kp1_14 lp_14
        have hm1 : (n == 0) = true := by rw [HM.out]; rfl
        go_wp2_with (fail)
        go_ret
        exact ⟨rfl, E15.out.alloc (by omega) _⟩
      · have HM := hid hm0
        clear hm0
        go_wp2_with (fail)
        refine (HD1.out HM.out _).mono ?_
        rintro e w15 ⟨rfl, hb15⟩
        have hz15 := hb15.size
        (try simp at hz15)
        have hs15 : w.heap.size ≤ w15.heap.size := by omega
        have E15 := hid (((E14.out).alloc (by first | omega | (simp <;> omega)) _).trans (hb15.mono (by first | omega | (simp <;> omega))))
        have ka0_15 : w15.cell? ⟨w1.heap.size, 0, none⟩ = some (.int .i64 n) := (hb15.cell (p := ⟨w1.heap.size, 0, none⟩) (by first | omega | (simp <;> omega))).trans (by go_simp)
        have ka1_15 : w15.cell? ⟨w1.heap.size, 1, none⟩ = some (.int .i64 d) := (hb15.cell (p := ⟨w1.heap.size, 1, none⟩) (by first | omega | (simp <;> omega))).trans (by go_simp)
        have la_15 : w1.heap.size < w15.heap.size := by omega
        have kb0_15 : w15.cell? ⟨w1.heap.size + 1, 0, none⟩ = some (.int .i64 n) := (hb15.cell (p := ⟨w1.heap.size + 1, 0, none⟩) (by first | omega | (simp <;> omega))).trans (by go_simp)
        have kb1_15 : w15.cell? ⟨w1.heap.size + 1, 1, none⟩ = some (.int .i64 d) := (hb15.cell (p := ⟨w1.heap.size + 1, 1, none⟩) (by first | omega | (simp <;> omega))).trans (by go_simp)
        have lb_15 : w1.heap.size + 1 < w15.heap.size := by omega
        have kc0_15 : w15.cell? ⟨w1.heap.size + 1 + 1, 0, none⟩ = some (.int .i64 n3) := (hb15.cell (p := ⟨w1.heap.size + 1 + 1, 0, none⟩) (by first | omega | (simp <;> omega))).trans (by go_simp)
        have kc1_15 : w15.cell? ⟨w1.heap.size + 1 + 1, 1, none⟩ = some (.int .i64 d3) := (hb15.cell (p := ⟨w1.heap.size + 1 + 1, 1, none⟩) (by first | omega | (simp <;> omega))).trans (by go_simp)
        have lc_15 : w1.heap.size + 1 + 1 < w15.heap.size := by omega
        have kp0_15 : w15.cell? ⟨w4.heap.size, 0, none⟩ = some (.int .i64 P) := (hb15.cell (p := ⟨w4.heap.size, 0, none⟩) (by first | omega | (simp <;> omega))).trans (by go_simp)
        have kp1_15 : w15.cell? ⟨w4.heap.size, 1, none⟩ = some (.int .i64 Q) := (hb15.cell (p := ⟨w4.heap.size, 1, none⟩) (by first | omega | (simp <;> omega))).trans (by go_simp)
        have lp_15 : w4.heap.size < w15.heap.size := by omega
        have kf0_15 : w15.cell? ⟨w14.heap.size, 0, none⟩ = some (.int .i64 n3) := (hb15.cell (p := ⟨w14.heap.size, 0, none⟩) (by first | omega | (simp <;> omega))).trans (by go_simp)
        have kf1_15 : w15.cell? ⟨w14.heap.size, 1, none⟩ = some (.int .i64 d3) := (hb15.cell (p := ⟨w14.heap.size, 1, none⟩) (by first | omega | (simp <;> omega))).trans (by go_simp)
        have lf_15 : w14.heap.size < w15.heap.size := by omega
        clear hb15 E14 ka0_14 ka1_14 la_14 kb0_14 kb1_14 lb_14 kc0_14 kc1_14 lc_14 kp0_14 kp1_14 lp_14
        have hm1 : (n == 0) = false := beq_eq_false_iff_ne.2 HM.out
        go_wp2_with (fail)
        go_ret
        exact ⟨rfl, E15.out.alloc (by omega) _⟩
    have hs0 : (s == 0) = false := beq_eq_false_iff_ne.2 h0
    have hss : (s != s) = false := by simp
    by_cases hn : n = m
    · have hd : ¬ d = f := fun h => h0 (HEQ.out.2 ⟨hn, h⟩)
      subst hn
      clear HEQ h0
      go_wp2_with (fail)
      refine (HV1.out _).mono ?_
      rintro e w8 ⟨rfl, hb8⟩
      have hz8 := hb8.size
      (try simp at hz8)
      have hs8 : w.heap.size ≤ w8.heap.size := by omega
      have E8 := hid ((E7.out).trans (hb8.mono (by first | omega | (simp <;> omega))))
      have ka0_8 : w8.cell? ⟨w1.heap.size, 0, none⟩ = some (.int .i64 n) := (hb8.cell (p := ⟨w1.heap.size, 0, none⟩) (by first | omega | (simp <;> omega))).trans (by go_simp)
      have ka1_8 : w8.cell? ⟨w1.heap.size, 1, none⟩ = some (.int .i64 d) := (hb8.cell (p := ⟨w1.heap.size, 1, none⟩) (by first | omega | (simp <;> omega))).trans (by go_simp)
      have la_8 : w1.heap.size < w8.heap.size := by omega
      have kb0_8 : w8.cell? ⟨w1.heap.size + 1, 0, none⟩ = some (.int .i64 n) := (hb8.cell (p := ⟨w1.heap.size + 1, 0, none⟩) (by first | omega | (simp <;> omega))).trans (by go_simp)
      have kb1_8 : w8.cell? ⟨w1.heap.size + 1, 1, none⟩ = some (.int .i64 f) := (hb8.cell (p := ⟨w1.heap.size + 1, 1, none⟩) (by first | omega | (simp <;> omega))).trans (by go_simp)
      have lb_8 : w1.heap.size + 1 < w8.heap.size := by omega
      have kc0_8 : w8.cell? ⟨w1.heap.size + 1 + 1, 0, none⟩ = some (.int .i64 n3) := (hb8.cell (p := ⟨w1.heap.size + 1 + 1, 0, none⟩) (by first | omega | (simp <;> omega))).trans (by go_simp)
      have kc1_8 : w8.cell? ⟨w1.heap.size + 1 + 1, 1, none⟩ = some (.int .i64 d3) := (hb8.cell (p := ⟨w1.heap.size + 1 + 1, 1, none⟩) (by first | omega | (simp <;> omega))).trans (by go_simp)
      have lc_8 : w1.heap.size + 1 + 1 < w8.heap.size := by omega
      have ks0_8 : w8.cell? ⟨w2.heap.size, 0, none⟩ = some (.int .i64 S) := (hb8.cell (p := ⟨w2.heap.size, 0, none⟩) (by first | omega | (simp <;> omega))).trans (by go_simp)
      have ks1_8 : w8.cell? ⟨w2.heap.size, 1, none⟩ = some (.int .i64 D) := (hb8.cell (p := ⟨w2.heap.size, 1, none⟩) (by first | omega | (simp <;> omega))).trans (by go_simp)
      have ls_8 : w2.heap.size < w8.heap.size := by omega
      have kk0_8 : w8.cell? ⟨w3.heap.size, 0, none⟩ = some (.int .i64 n) := (hb8.cell (p := ⟨w3.heap.size, 0, none⟩) (by first | omega | (simp <;> omega))).trans (by go_simp)
      have kk1_8 : w8.cell? ⟨w3.heap.size, 1, none⟩ = some (.int .i64 d) := (hb8.cell (p := ⟨w3.heap.size, 1, none⟩) (by first | omega | (simp <;> omega))).trans (by go_simp)
      have lk_8 : w3.heap.size < w8.heap.size := by omega
      have kp0_8 : w8.cell? ⟨w4.heap.size, 0, none⟩ = some (.int .i64 P) := (hb8.cell (p := ⟨w4.heap.size, 0, none⟩) (by first | omega | (simp <;> omega))).trans (by go_simp)
      have kp1_8 : w8.cell? ⟨w4.heap.size, 1, none⟩ = some (.int .i64 Q) := (hb8.cell (p := ⟨w4.heap.size, 1, none⟩) (by first | omega | (simp <;> omega))).trans (by go_simp)
      have lp_8 : w4.heap.size < w8.heap.size := by omega
      have ke0_8 : w8.cell? ⟨w5.heap.size, 0, none⟩ = some (.int .i64 M) := (hb8.cell (p := ⟨w5.heap.size, 0, none⟩) (by first | omega | (simp <;> omega))).trans (by go_simp)
      have ke1_8 : w8.cell? ⟨w5.heap.size, 1, none⟩ = some (.int .i64 E) := (hb8.cell (p := ⟨w5.heap.size, 1, none⟩) (by first | omega | (simp <;> omega))).trans (by go_simp)
      have le_8 : w5.heap.size < w8.heap.size := by omega
      clear hb8 E7 ka0_7 ka1_7 la_7 kb0_7 kb1_7 lb_7 kc0_7 kc1_7 lc_7 ks0_7 ks1_7 ls_7 kk0_7 kk1_7 lk_7 kp0_7 kp1_7 lp_7 ke0_7 ke1_7 le_7
      go_wp2_with (fail)
      refine (HV2.out _).mono ?_
      rintro e w9 ⟨rfl, hb9⟩
      have hz9 := hb9.size
      (try simp at hz9)
      have hs9 : w.heap.size ≤ w9.heap.size := by omega
      have E9 := hid ((E8.out).trans (hb9.mono (by first | omega | (simp <;> omega))))
      have ka0_9 : w9.cell? ⟨w1.heap.size, 0, none⟩ = some (.int .i64 n) := (hb9.cell (p := ⟨w1.heap.size, 0, none⟩) (by first | omega | (simp <;> omega))).trans (by go_simp)
      have ka1_9 : w9.cell? ⟨w1.heap.size, 1, none⟩ = some (.int .i64 d) := (hb9.cell (p := ⟨w1.heap.size, 1, none⟩) (by first | omega | (simp <;> omega))).trans (by go_simp)
      have la_9 : w1.heap.size < w9.heap.size := by omega
      have kb0_9 : w9.cell? ⟨w1.heap.size + 1, 0, none⟩ = some (.int .i64 n) := (hb9.cell (p := ⟨w1.heap.size + 1, 0, none⟩) (by first | omega | (simp <;> omega))).trans (by go_simp)
      have kb1_9 : w9.cell? ⟨w1.heap.size + 1, 1, none⟩ = some (.int .i64 f) := (hb9.cell (p := ⟨w1.heap.size + 1, 1, none⟩) (by first | omega | (simp <;> omega))).trans (by go_simp)
      have lb_9 : w1.heap.size + 1 < w9.heap.size := by omega
      have kc0_9 : w9.cell? ⟨w1.heap.size + 1 + 1, 0, none⟩ = some (.int .i64 n3) := (hb9.cell (p := ⟨w1.heap.size + 1 + 1, 0, none⟩) (by first | omega | (simp <;> omega))).trans (by go_simp)
      have kc1_9 : w9.cell? ⟨w1.heap.size + 1 + 1, 1, none⟩ = some (.int .i64 d3) := (hb9.cell (p := ⟨w1.heap.size + 1 + 1, 1, none⟩) (by first | omega | (simp <;> omega))).trans (by go_simp)
      have lc_9 : w1.heap.size + 1 + 1 < w9.heap.size := by omega
      have ks0_9 : w9.cell? ⟨w2.heap.size, 0, none⟩ = some (.int .i64 S) := (hb9.cell (p := ⟨w2.heap.size, 0, none⟩) (by first | omega | (simp <;> omega))).trans (by go_simp)
      have ks1_9 : w9.cell? ⟨w2.heap.size, 1, none⟩ = some (.int .i64 D) := (hb9.cell (p := ⟨w2.heap.size, 1, none⟩) (by first | omega | (simp <;> omega))).trans (by go_simp)
      have ls_9 : w2.heap.size < w9.heap.size := by omega
      have kp0_9 : w9.cell? ⟨w4.heap.size, 0, none⟩ = some (.int .i64 P) := (hb9.cell (p := ⟨w4.heap.size, 0, none⟩) (by first | omega | (simp <;> omega))).trans (by go_simp)
      have kp1_9 : w9.cell? ⟨w4.heap.size, 1, none⟩ = some (.int .i64 Q) := (hb9.cell (p := ⟨w4.heap.size, 1, none⟩) (by first | omega | (simp <;> omega))).trans (by go_simp)
      have lp_9 : w4.heap.size < w9.heap.size := by omega
      have ke0_9 : w9.cell? ⟨w5.heap.size, 0, none⟩ = some (.int .i64 M) := (hb9.cell (p := ⟨w5.heap.size, 0, none⟩) (by first | omega | (simp <;> omega))).trans (by go_simp)
      have ke1_9 : w9.cell? ⟨w5.heap.size, 1, none⟩ = some (.int .i64 E) := (hb9.cell (p := ⟨w5.heap.size, 1, none⟩) (by first | omega | (simp <;> omega))).trans (by go_simp)
      have le_9 : w5.heap.size < w9.heap.size := by omega
      clear hb9 E8 ka0_8 ka1_8 la_8 kb0_8 kb1_8 lb_8 kc0_8 kc1_8 lc_8 ks0_8 ks1_8 ls_8 kk0_8 kk1_8 lk_8 kp0_8 kp1_8 lp_8 ke0_8 ke1_8 le_8
      go_wp2_with (fail)
      refine (HV3.out _).mono ?_
      rintro e w10 ⟨rfl, hb10⟩
      have hz10 := hb10.size
      (try simp at hz10)
      have hs10 : w.heap.size ≤ w10.heap.size := by omega
      have E10 := hid ((E9.out).trans (hb10.mono (by first | omega | (simp <;> omega))))
      have ka0_10 : w10.cell? ⟨w1.heap.size, 0, none⟩ = some (.int .i64 n) := (hb10.cell (p := ⟨w1.heap.size, 0, none⟩) (by first | omega | (simp <;> omega))).trans (by go_simp)
      have ka1_10 : w10.cell? ⟨w1.heap.size, 1, none⟩ = some (.int .i64 d) := (hb10.cell (p := ⟨w1.heap.size, 1, none⟩) (by first | omega | (simp <;> omega))).trans (by go_simp)
      have la_10 : w1.heap.size < w10.heap.size := by omega
      have kb0_10 : w10.cell? ⟨w1.heap.size + 1, 0, none⟩ = some (.int .i64 n) := (hb10.cell (p := ⟨w1.heap.size + 1, 0, none⟩) (by first | omega | (simp <;> omega))).trans (by go_simp)
      have kb1_10 : w10.cell? ⟨w1.heap.size + 1, 1, none⟩ = some (.int .i64 f) := (hb10.cell (p := ⟨w1.heap.size + 1, 1, none⟩) (by first | omega | (simp <;> omega))).trans (by go_simp)
      have lb_10 : w1.heap.size + 1 < w10.heap.size := by omega
      have kc0_10 : w10.cell? ⟨w1.heap.size + 1 + 1, 0, none⟩ = some (.int .i64 n3) := (hb10.cell (p := ⟨w1.heap.size + 1 + 1, 0, none⟩) (by first | omega | (simp <;> omega))).trans (by go_simp)
      have kc1_10 : w10.cell? ⟨w1.heap.size + 1 + 1, 1, none⟩ = some (.int .i64 d3) := (hb10.cell (p := ⟨w1.heap.size + 1 + 1, 1, none⟩) (by first | omega | (simp <;> omega))).trans (by go_simp)
      have lc_10 : w1.heap.size + 1 + 1 < w10.heap.size := by omega
      have kp0_10 : w10.cell? ⟨w4.heap.size, 0, none⟩ = some (.int .i64 P) := (hb10.cell (p := ⟨w4.heap.size, 0, none⟩) (by first | omega | (simp <;> omega))).trans (by go_simp)
      have kp1_10 : w10.cell? ⟨w4.heap.size, 1, none⟩ = some (.int .i64 Q) := (hb10.cell (p := ⟨w4.heap.size, 1, none⟩) (by first | omega | (simp <;> omega))).trans (by go_simp)
      have lp_10 : w4.heap.size < w10.heap.size := by omega
      have ke0_10 : w10.cell? ⟨w5.heap.size, 0, none⟩ = some (.int .i64 M) := (hb10.cell (p := ⟨w5.heap.size, 0, none⟩) (by first | omega | (simp <;> omega))).trans (by go_simp)
      have ke1_10 : w10.cell? ⟨w5.heap.size, 1, none⟩ = some (.int .i64 E) := (hb10.cell (p := ⟨w5.heap.size, 1, none⟩) (by first | omega | (simp <;> omega))).trans (by go_simp)
      have le_10 : w5.heap.size < w10.heap.size := by omega
      clear hb10 E9 ka0_9 ka1_9 la_9 kb0_9 kb1_9 lb_9 kc0_9 kc1_9 lc_9 ks0_9 ks1_9 ls_9 kp0_9 kp1_9 lp_9 ke0_9 ke1_9 le_9
      go_wp2_with (fail)
      refine (HS1.out _).mono ?_
      rintro e w11 ⟨rfl, hb11⟩
      have hz11 := hb11.size
      (try simp at hz11)
      have hs11 : w.heap.size ≤ w11.heap.size := by omega
      have E11 := hid ((E10.out).trans (hb11.mono (by first | omega | (simp <;> omega))))
      have ka0_11 : w11.cell? ⟨w1.heap.size, 0, none⟩ = some (.int .i64 n) := (hb11.cell (p := ⟨w1.heap.size, 0, none⟩) (by first | omega | (simp <;> omega))).trans (by go_simp)
      have ka1_11 : w11.cell? ⟨w1.heap.size, 1, none⟩ = some (.int .i64 d) := (hb11.cell (p := ⟨w1.heap.size, 1, none⟩) (by first | omega | (simp <;> omega))).trans (by go_simp)
      have la_11 : w1.heap.size < w11.heap.size := by omega
      have kb0_11 : w11.cell? ⟨w1.heap.size + 1, 0, none⟩ = some (.int .i64 n) := (hb11.cell (p := ⟨w1.heap.size + 1, 0, none⟩) (by first | omega | (simp <;> omega))).trans (by go_simp)
      have kb1_11 : w11.cell? ⟨w1.heap.size + 1, 1, none⟩ = some (.int .i64 f) := (hb11.cell (p := ⟨w1.heap.size + 1, 1, none⟩) (by first | omega | (simp <;> omega))).trans (by go_simp)
      have lb_11 : w1.heap.size + 1 < w11.heap.size := by omega
      have kc0_11 : w11.cell? ⟨w1.heap.size + 1 + 1, 0, none⟩ = some (.int .i64 n3) := (hb11.cell (p := ⟨w1.heap.size + 1 + 1, 0, none⟩) (by first | omega | (simp <;> omega))).trans (by go_simp)
      have kc1_11 : w11.cell? ⟨w1.heap.size + 1 + 1, 1, none⟩ = some (.int .i64 d3) := (hb11.cell (p := ⟨w1.heap.size + 1 + 1, 1, none⟩) (by first | omega | (simp <;> omega))).trans (by go_simp)
      have lc_11 : w1.heap.size + 1 + 1 < w11.heap.size := by omega
      have kp0_11 : w11.cell? ⟨w4.heap.size, 0, none⟩ = some (.int .i64 P) := (hb11.cell (p := ⟨w4.heap.size, 0, none⟩) (by first | omega | (simp <;> omega))).trans (by go_simp)
      have kp1_11 : w11.cell? ⟨w4.heap.size, 1, none⟩ = some (.int .i64 Q) := (hb11.cell (p := ⟨w4.heap.size, 1, none⟩) (by first | omega | (simp <;> omega))).trans (by go_simp)
      have lp_11 : w4.heap.size < w11.heap.size := by omega
      have ke0_11 : w11.cell? ⟨w5.heap.size, 0, none⟩ = some (.int .i64 M) := (hb11.cell (p := ⟨w5.heap.size, 0, none⟩) (by first | omega | (simp <;> omega))).trans (by go_simp)
      have ke1_11 : w11.cell? ⟨w5.heap.size, 1, none⟩ = some (.int .i64 E) := (hb11.cell (p := ⟨w5.heap.size, 1, none⟩) (by first | omega | (simp <;> omega))).trans (by go_simp)
      have le_11 : w5.heap.size < w11.heap.size := by omega
      clear hb11 E10 ka0_10 ka1_10 la_10 kb0_10 kb1_10 lb_10 kc0_10 kc1_10 lc_10 kp0_10 kp1_10 lp_10 ke0_10 ke1_10 le_10
      go_wp2_with (fail)
      refine (HS2.out _).mono ?_
      rintro e w12 ⟨rfl, hb12⟩
      have hz12 := hb12.size
      (try simp at hz12)
      have hs12 : w.heap.size ≤ w12.heap.size := by omega
      have E12 := hid ((E11.out).trans (hb12.mono (by first | omega | (simp <;> omega))))
      have ka0_12 : w12.cell? ⟨w1.heap.size, 0, none⟩ = some (.int .i64 n) := (hb12.cell (p := ⟨w1.heap.size, 0, none⟩) (by first | omega | (simp <;> omega))).trans (by go_simp)
      have ka1_12 : w12.cell? ⟨w1.heap.size, 1, none⟩ = some (.int .i64 d) := (hb12.cell (p := ⟨w1.heap.size, 1, none⟩) (by first | omega | (simp <;> omega))).trans (by go_simp)
      have la_12 : w1.heap.size < w12.heap.size := by omega
      have kb0_12 : w12.cell? ⟨w1.heap.size + 1, 0, none⟩ = some (.int .i64 n) := (hb12.cell (p := ⟨w1.heap.size + 1, 0, none⟩) (by first | omega | (simp <;> omega))).trans (by go_simp)
      have kb1_12 : w12.cell? ⟨w1.heap.size + 1, 1, none⟩ = some (.int .i64 f) := (hb12.cell (p := ⟨w1.heap.size + 1, 1, none⟩) (by first | omega | (simp <;> omega))).trans (by go_simp)
      have lb_12 : w1.heap.size + 1 < w12.heap.size := by omega
      have kc0_12 : w12.cell? ⟨w1.heap.size + 1 + 1, 0, none⟩ = some (.int .i64 n3) := (hb12.cell (p := ⟨w1.heap.size + 1 + 1, 0, none⟩) (by first | omega | (simp <;> omega))).trans (by go_simp)
      have kc1_12 : w12.cell? ⟨w1.heap.size + 1 + 1, 1, none⟩ = some (.int .i64 d3) := (hb12.cell (p := ⟨w1.heap.size + 1 + 1, 1, none⟩) (by first | omega | (simp <;> omega))).trans (by go_simp)
      have lc_12 : w1.heap.size + 1 + 1 < w12.heap.size := by omega
      have kp0_12 : w12.cell? ⟨w4.heap.size, 0, none⟩ = some (.int .i64 P) := (hb12.cell (p := ⟨w4.heap.size, 0, none⟩) (by first | omega | (simp <;> omega))).trans (by go_simp)
      have kp1_12 : w12.cell? ⟨w4.heap.size, 1, none⟩ = some (.int .i64 Q) := (hb12.cell (p := ⟨w4.heap.size, 1, none⟩) (by first | omega | (simp <;> omega))).trans (by go_simp)
      have lp_12 : w4.heap.size < w12.heap.size := by omega
      have ke0_12 : w12.cell? ⟨w5.heap.size, 0, none⟩ = some (.int .i64 M) := (hb12.cell (p := ⟨w5.heap.size, 0, none⟩) (by first | omega | (simp <;> omega))).trans (by go_simp)
      have ke1_12 : w12.cell? ⟨w5.heap.size, 1, none⟩ = some (.int .i64 E) := (hb12.cell (p := ⟨w5.heap.size, 1, none⟩) (by first | omega | (simp <;> omega))).trans (by go_simp)
      have le_12 : w5.heap.size < w12.heap.size := by omega
      clear hb12 E11 ka0_11 ka1_11 la_11 kb0_11 kb1_11 lb_11 kc0_11 kc1_11 lc_11 kp0_11 kp1_11 lp_11 ke0_11 ke1_11 le_11
      go_wp2_with (fail)
      refine (HTX.out _ (wants_below HW.out E12.out)).mono ?_
      rintro e w13 ⟨rfl, hb13⟩
      have hz13 := hb13.size
      (try simp at hz13)
      have hs13 : w.heap.size ≤ w13.heap.size := by omega
      have E13 := hid ((E12.out).trans (hb13.mono (by first | omega | (simp <;> omega))))
      have ka0_13 : w13.cell? ⟨w1.heap.size, 0, none⟩ = some (.int .i64 n) := (hb13.cell (p := ⟨w1.heap.size, 0, none⟩) (by first | omega | (simp <;> omega))).trans (by go_simp)
      have ka1_13 : w13.cell? ⟨w1.heap.size, 1, none⟩ = some (.int .i64 d) := (hb13.cell (p := ⟨w1.heap.size, 1, none⟩) (by first | omega | (simp <;> omega))).trans (by go_simp)
      have la_13 : w1.heap.size < w13.heap.size := by omega
      have kb0_13 : w13.cell? ⟨w1.heap.size + 1, 0, none⟩ = some (.int .i64 n) := (hb13.cell (p := ⟨w1.heap.size + 1, 0, none⟩) (by first | omega | (simp <;> omega))).trans (by go_simp)
      have kb1_13 : w13.cell? ⟨w1.heap.size + 1, 1, none⟩ = some (.int .i64 f) := (hb13.cell (p := ⟨w1.heap.size + 1, 1, none⟩) (by first | omega | (simp <;> omega))).trans (by go_simp)
      have lb_13 : w1.heap.size + 1 < w13.heap.size := by omega
      have kc0_13 : w13.cell? ⟨w1.heap.size + 1 + 1, 0, none⟩ = some (.int .i64 n3) := (hb13.cell (p := ⟨w1.heap.size + 1 + 1, 0, none⟩) (by first | omega | (simp <;> omega))).trans (by go_simp)
      have kc1_13 : w13.cell? ⟨w1.heap.size + 1 + 1, 1, none⟩ = some (.int .i64 d3) := (hb13.cell (p := ⟨w1.heap.size + 1 + 1, 1, none⟩) (by first | omega | (simp <;> omega))).trans (by go_simp)
      have lc_13 : w1.heap.size + 1 + 1 < w13.heap.size := by omega
      have kp0_13 : w13.cell? ⟨w4.heap.size, 0, none⟩ = some (.int .i64 P) := (hb13.cell (p := ⟨w4.heap.size, 0, none⟩) (by first | omega | (simp <;> omega))).trans (by go_simp)
      have kp1_13 : w13.cell? ⟨w4.heap.size, 1, none⟩ = some (.int .i64 Q) := (hb13.cell (p := ⟨w4.heap.size, 1, none⟩) (by first | omega | (simp <;> omega))).trans (by go_simp)
      have lp_13 : w4.heap.size < w13.heap.size := by omega
      clear hb13 E12 ka0_12 ka1_12 la_12 kb0_12 kb1_12 lb_12 kc0_12 kc1_12 lc_12 kp0_12 kp1_12 lp_12 ke0_12 ke1_12 le_12
      go_wp2_with (fail)
      refine (HRF.out _ (wants_below HW.out E13.out)).mono ?_
      rintro e w14 ⟨rfl, hb14⟩
      have hz14 := hb14.size
      (try simp at hz14)
      have hs14 : w.heap.size ≤ w14.heap.size := by omega
      have E14 := hid ((E13.out).trans (hb14.mono (by first | omega | (simp <;> omega))))
      have ka0_14 : w14.cell? ⟨w1.heap.size, 0, none⟩ = some (.int .i64 n) := (hb14.cell (p := ⟨w1.heap.size, 0, none⟩) (by first | omega | (simp <;> omega))).trans (by go_simp)
      have ka1_14 : w14.cell? ⟨w1.heap.size, 1, none⟩ = some (.int .i64 d) := (hb14.cell (p := ⟨w1.heap.size, 1, none⟩) (by first | omega | (simp <;> omega))).trans (by go_simp)
      have la_14 : w1.heap.size < w14.heap.size := by omega
      have kb0_14 : w14.cell? ⟨w1.heap.size + 1, 0, none⟩ = some (.int .i64 n) := (hb14.cell (p := ⟨w1.heap.size + 1, 0, none⟩) (by first | omega | (simp <;> omega))).trans (by go_simp)
      have kb1_14 : w14.cell? ⟨w1.heap.size + 1, 1, none⟩ = some (.int .i64 f) := (hb14.cell (p := ⟨w1.heap.size + 1, 1, none⟩) (by first | omega | (simp <;> omega))).trans (by go_simp)
      have lb_14 : w1.heap.size + 1 < w14.heap.size := by omega
      have kc0_14 : w14.cell? ⟨w1.heap.size + 1 + 1, 0, none⟩ = some (.int .i64 n3) := (hb14.cell (p := ⟨w1.heap.size + 1 + 1, 0, none⟩) (by first | omega | (simp <;> omega))).trans (by go_simp)
      have kc1_14 : w14.cell? ⟨w1.heap.size + 1 + 1, 1, none⟩ = some (.int .i64 d3) := (hb14.cell (p := ⟨w1.heap.size + 1 + 1, 1, none⟩) (by first | omega | (simp <;> omega))).trans (by go_simp)
      have lc_14 : w1.heap.size + 1 + 1 < w14.heap.size := by omega
      have kp0_14 : w14.cell? ⟨w4.heap.size, 0, none⟩ = some (.int .i64 P) := (hb14.cell (p := ⟨w4.heap.size, 0, none⟩) (by first | omega | (simp <;> omega))).trans (by go_simp)
      have kp1_14 : w14.cell? ⟨w4.heap.size, 1, none⟩ = some (.int .i64 Q) := (hb14.cell (p := ⟨w4.heap.size, 1, none⟩) (by first | omega | (simp <;> omega))).trans (by go_simp)
      have lp_14 : w4.heap.size < w14.heap.size := by omega
      clear hb14 E13 ka0_13 ka1_13 la_13 kb0_13 kb1_13 lb_13 kc0_13 kc1_13 lc_13 kp0_13 kp1_13 lp_13
      by_cases hm0 : n = 0
      · have HM := hid hm0
        clear hm0
        go_wp2_with (fail)
        refine (HD0.out HM.out _).mono ?_
        rintro e w15 ⟨rfl, hb15⟩
        have hz15 := hb15.size
        (try simp at hz15)
        have hs15 : w.heap.size ≤ w15.heap.size := by omega
        have E15 := hid (((E14.out).alloc (by first | omega | (simp <;> omega)) _).trans (hb15.mono (by first | omega | (simp <;> omega))))
        have ka0_15 : w15.cell? ⟨w1.heap.size, 0, none⟩ = some (.int .i64 n) := (hb15.cell (p := ⟨w1.heap.size, 0, none⟩) (by first | omega | (simp <;> omega))).trans (by go_simp)
        have ka1_15 : w15.cell? ⟨w1.heap.size, 1, none⟩ = some (.int .i64 d) := (hb15.cell (p := ⟨w1.heap.size, 1, none⟩) (by first | omega | (simp <;> omega))).trans (by go_simp)
        have la_15 : w1.heap.size < w15.heap.size := by omega
        have kb0_15 : w15.cell? ⟨w1.heap.size + 1, 0, none⟩ = some (.int .i64 n) := (hb15.cell (p := ⟨w1.heap.size + 1, 0, none⟩) (by first | omega | (simp <;> omega))).trans (by go_simp)
        have kb1_15 : w15.cell? ⟨w1.heap.size + 1, 1, none⟩ = some (.int .i64 f) := (hb15.cell (p := ⟨w1.heap.size + 1, 1, none⟩) (by first | omega | (simp <;> omega))).trans (by go_simp)
        have lb_15 : w1.heap.size + 1 < w15.heap.size := by omega
        have kc0_15 : w15.cell? ⟨w1.heap.size + 1 + 1, 0, none⟩ = some (.int .i64 n3) := (hb15.cell (p := ⟨w1.heap.size + 1 + 1, 0, none⟩) (by first | omega | (simp <;> omega))).trans (by go_simp)
        have kc1_15 : w15.cell? ⟨w1.heap.size + 1 + 1, 1, none⟩ = some (.int .i64 d3) := (hb15.cell (p := ⟨w1.heap.size + 1 + 1, 1, none⟩) (by first | omega | (simp <;> omega))).trans (by go_simp)
        have lc_15 : w1.heap.size + 1 + 1 < w15.heap.size := by omega
        have kp0_15 : w15.cell? ⟨w4.heap.size, 0, none⟩ = some (.int .i64 P) := (hb15.cell (p := ⟨w4.heap.size, 0, none⟩) (by first | omega | (simp <;> omega))).trans (by go_simp)
        have kp1_15 : w15.cell? ⟨w4.heap.size, 1, none⟩ = some (.int .i64 Q) := (hb15.cell (p := ⟨w4.heap.size, 1, none⟩) (by first | omega | (simp <;> omega))).trans (by go_simp)
        have lp_15 : w4.heap.size < w15.heap.size := by omega
        have kf0_15 : w15.cell? ⟨w14.heap.size, 0, none⟩ = some (.int .i64 n3) := (hb15.cell (p := ⟨w14.heap.size, 0, none⟩) (by first | omega | (simp <;> omega))).trans (by go_simp)
        have kf1_15 : w15.cell? ⟨w14.heap.size, 1, none⟩ = some (.int .i64 d3) := (hb15.cell (p := ⟨w14.heap.size, 1, none⟩) (by first | omega | (simp <;> omega))).trans (by go_simp)
        have lf_15 : w14.heap.size < w15.heap.size := by omega
        clear hb15 E14 ka0_14 ka1_14 la_14 kb0_14 kb1_14 lb_14 kc0_14 kc1_14 lc_14 kp0_14 kp1_14 lp_14
        have hm1 : (n == 0) = true := by rw [HM.out]; rfl
        go_wp2_with (fail)
        go_ret
        exact ⟨rfl, E15.out.alloc (by omega) _⟩
      · have HM := hid hm0
        clear hm0
        go_wp2_with (fail)
        refine (HD1.out HM.out _).mono ?_
        rintro e w15 ⟨rfl, hb15⟩
        have hz15 := hb15.size
        (try simp at hz15)
        have hs15 : w.heap.size ≤ w15.heap.size := by omega
        have E15 := hid (((E14.out).alloc (by first | omega | (simp <;> omega)) _).trans (hb15.mono (by first | omega | (simp <;> omega))))
        have ka0_15 : w15.cell? ⟨w1.heap.size, 0, none⟩ = some (.int .i64 n) := (hb15.cell (p := ⟨w1.heap.size, 0, none⟩) (by first | omega | (simp <;> omega))).trans (by go_simp)
        have ka1_15 : w15.cell? ⟨w1.heap.size, 1, none⟩ = some (.int .i64 d) := (hb15.cell (p := ⟨w1.heap.size, 1, none⟩) (by first | omega | (simp <;> omega))).trans (by go_simp)
        have la_15 : w1.heap.size < w15.heap.size := by omega
        have kb0_15 : w15.cell? ⟨w1.heap.size + 1, 0, none⟩ = some (.int .i64 n) := (hb15.cell (p := ⟨w1.heap.size + 1, 0, none⟩) (by first | omega | (simp <;> omega))).trans (by go_simp)
        have kb1_15 : w15.cell? ⟨w1.heap.size + 1, 1, none⟩ = some (.int .i64 f) := (hb15.cell (p := ⟨w1.heap.size + 1, 1, none⟩) (by first | omega | (simp <;> omega))).trans (by go_simp)
        have lb_15 : w1.heap.size + 1 < w15.heap.size := by omega
        have kc0_15 : w15.cell? ⟨w1.heap.size + 1 + 1, 0, none⟩ = some (.int .i64 n3) := (hb15.cell (p := ⟨w1.heap.size + 1 + 1, 0, none⟩) (by first | omega | (simp <;> omega))).trans (by go_simp)
        have kc1_15 : w15.cell? ⟨w1.heap.size + 1 + 1, 1, none⟩ = some (.int .i64 d3) := (hb15.cell (p := ⟨w1.heap.size + 1 + 1, 1, none⟩) (by first | omega | (simp <;> omega))).trans (by go_simp)
        have lc_15 : w1.heap.size + 1 + 1 < w15.heap.size := by omega
        have kp0_15 : w15.cell? ⟨w4.heap.size, 0, none⟩ = some (.int .i64 P) := (hb15.cell (p := ⟨w4.heap.size, 0, none⟩) (by first | omega | (simp <;> omega))).trans (by go_simp)
        have kp1_15 : w15.cell? ⟨w4.heap.size, 1, none⟩ = some (.int .i64 Q) := (hb15.cell (p := ⟨w4.heap.size, 1, none⟩) (by first | omega | (simp <;> omega))).trans (by go_simp)
        have lp_15 : w4.heap.size < w15.heap.size := by omega
        have kf0_15 : w15.cell? ⟨w14.heap.size, 0, none⟩ = some (.int .i64 n3) := (hb15.cell (p := ⟨w14.heap.size, 0, none⟩) (by first | omega | (simp <;> omega))).trans (by go_simp)
        have kf1_15 : w15.cell? ⟨w14.heap.size, 1, none⟩ = some (.int .i64 d3) := (hb15.cell (p := ⟨w14.heap.size, 1, none⟩) (by first | omega | (simp <;> omega))).trans (by go_simp)
        have lf_15 : w14.heap.size < w15.heap.size := by omega
        clear hb15 E14 ka0_14 ka1_14 la_14 kb0_14 kb1_14 lb_14 kc0_14 kc1_14 lc_14 kp0_14 kp1_14 lp_14
        have hm1 : (n == 0) = false := beq_eq_false_iff_ne.2 HM.out
        go_wp2_with (fail)
        go_ret
        exact ⟨rfl, E15.out.alloc (by omega) _⟩
    · clear HEQ h0
      go_wp2_with (fail)
      refine (HV1.out _).mono ?_
      rintro e w8 ⟨rfl, hb8⟩
      have hz8 := hb8.size
      (try simp at hz8)
      have hs8 : w.heap.size ≤ w8.heap.size := by omega
      have E8 := hid ((E7.out).trans (hb8.mono (by first | omega | (simp <;> omega))))
      have ka0_8 : w8.cell? ⟨w1.heap.size, 0, none⟩ = some (.int .i64 n) := (hb8.cell (p := ⟨w1.heap.size, 0, none⟩) (by first | omega | (simp <;> omega))).trans (by go_simp)
      have ka1_8 : w8.cell? ⟨w1.heap.size, 1, none⟩ = some (.int .i64 d) := (hb8.cell (p := ⟨w1.heap.size, 1, none⟩) (by first | omega | (simp <;> omega))).trans (by go_simp)
      have la_8 : w1.heap.size < w8.heap.size := by omega
      have kb0_8 : w8.cell? ⟨w1.heap.size + 1, 0, none⟩ = some (.int .i64 m) := (hb8.cell (p := ⟨w1.heap.size + 1, 0, none⟩) (by first | omega | (simp <;> omega))).trans (by go_simp)
      have kb1_8 : w8.cell? ⟨w1.heap.size + 1, 1, none⟩ = some (.int .i64 f) := (hb8.cell (p := ⟨w1.heap.size + 1, 1, none⟩) (by first | omega | (simp <;> omega))).trans (by go_simp)
      have lb_8 : w1.heap.size + 1 < w8.heap.size := by omega
      have kc0_8 : w8.cell? ⟨w1.heap.size + 1 + 1, 0, none⟩ = some (.int .i64 n3) := (hb8.cell (p := ⟨w1.heap.size + 1 + 1, 0, none⟩) (by first | omega | (simp <;> omega))).trans (by go_simp)
      have kc1_8 : w8.cell? ⟨w1.heap.size + 1 + 1, 1, none⟩ = some (.int .i64 d3) := (hb8.cell (p := ⟨w1.heap.size + 1 + 1, 1, none⟩) (by first | omega | (simp <;> omega))).trans (by go_simp)
      have lc_8 : w1.heap.size + 1 + 1 < w8.heap.size := by omega
      have ks0_8 : w8.cell? ⟨w2.heap.size, 0, none⟩ = some (.int .i64 S) := (hb8.cell (p := ⟨w2.heap.size, 0, none⟩) (by first | omega | (simp <;> omega))).trans (by go_simp)
      have ks1_8 : w8.cell? ⟨w2.heap.size, 1, none⟩ = some (.int .i64 D) := (hb8.cell (p := ⟨w2.heap.size, 1, none⟩) (by first | omega | (simp <;> omega))).trans (by go_simp)
      have ls_8 : w2.heap.size < w8.heap.size := by omega
      have kk0_8 : w8.cell? ⟨w3.heap.size, 0, none⟩ = some (.int .i64 n) := (hb8.cell (p := ⟨w3.heap.size, 0, none⟩) (by first | omega | (simp <;> omega))).trans (by go_simp)
      have kk1_8 : w8.cell? ⟨w3.heap.size, 1, none⟩ = some (.int .i64 d) := (hb8.cell (p := ⟨w3.heap.size, 1, none⟩) (by first | omega | (simp <;> omega))).trans (by go_simp)
      have lk_8 : w3.heap.size < w8.heap.size := by omega
      have kp0_8 : w8.cell? ⟨w4.heap.size, 0, none⟩ = some (.int .i64 P) := (hb8.cell (p := ⟨w4.heap.size, 0, none⟩) (by first | omega | (simp <;> omega))).trans (by go_simp)
      have kp1_8 : w8.cell? ⟨w4.heap.size, 1, none⟩ = some (.int .i64 Q) := (hb8.cell (p := ⟨w4.heap.size, 1, none⟩) (by first | omega | (simp <;> omega))).trans (by go_simp)
      have lp_8 : w4.heap.size < w8.heap.size := by omega
      have ke0_8 : w8.cell? ⟨w5.heap.size, 0, none⟩ = some (.int .i64 M) := (hb8.cell (p := ⟨w5.heap.size, 0, none⟩) (by first | omega | (simp <;> omega))).trans (by go_simp)
      have ke1_8 : w8.cell? ⟨w5.heap.size, 1, none⟩ = some (.int .i64 E) := (hb8.cell (p := ⟨w5.heap.size, 1, none⟩) (by first | omega | (simp <;> omega))).trans (by go_simp)
      have le_8 : w5.heap.size < w8.heap.size := by omega
      clear hb8 E7 ka0_7 ka1_7 la_7 kb0_7 kb1_7 lb_7 kc0_7 kc1_7 lc_7 ks0_7 ks1_7 ls_7 kk0_7 kk1_7 lk_7 kp0_7 kp1_7 lp_7 ke0_7 ke1_7 le_7
      go_wp2_with (fail)
      refine (HV2.out _).mono ?_
      rintro e w9 ⟨rfl, hb9⟩
      have hz9 := hb9.size
      (try simp at hz9)
      have hs9 : w.heap.size ≤ w9.heap.size := by omega
      have E9 := hid ((E8.out).trans (hb9.mono (by first | omega | (simp <;> omega))))
      have ka0_9 : w9.cell? ⟨w1.heap.size, 0, none⟩ = some (.int .i64 n) := (hb9.cell (p := ⟨w1.heap.size, 0, none⟩) (by first | omega | (simp <;> omega))).trans (by go_simp)
      have ka1_9 : w9.cell? ⟨w1.heap.size, 1, none⟩ = some (.int .i64 d) := (hb9.cell (p := ⟨w1.heap.size, 1, none⟩) (by first | omega | (simp <;> omega))).trans (by go_simp)
      have la_9 : w1.heap.size < w9.heap.size := by omega
      have kb0_9 : w9.cell? ⟨w1.heap.size + 1, 0, none⟩ = some (.int .i64 m) := (hb9.cell (p := ⟨w1.heap.size + 1, 0, none⟩) (by first | omega | (simp <;> omega))).trans (by go_simp)
      have kb1_9 : w9.cell? ⟨w1.heap.size + 1, 1, none⟩ = some (.int .i64 f) := (hb9.cell (p := ⟨w1.heap.size + 1, 1, none⟩) (by first | omega | (simp <;> omega))).trans (by go_simp)
      have lb_9 : w1.heap.size + 1 < w9.heap.size := by omega
      have kc0_9 : w9.cell? ⟨w1.heap.size + 1 + 1, 0, none⟩ = some (.int .i64 n3) := (hb9.cell (p := ⟨w1.heap.size + 1 + 1, 0, none⟩) (by first | omega | (simp <;> omega))).trans (by go_simp)
      have kc1_9 : w9.cell? ⟨w1.heap.size + 1 + 1, 1, none⟩ = some (.int .i64 d3) := (hb9.cell (p := ⟨w1.heap.size + 1 + 1, 1, none⟩) (by first | omega | (simp <;> omega))).trans (by go_simp)
      have lc_9 : w1.heap.size + 1 + 1 < w9.heap.size := by omega
      have ks0_9 : w9.cell? ⟨w2.heap.size, 0, none⟩ = some (.int .i64 S) := (hb9.cell (p := ⟨w2.heap.size, 0, none⟩) (by first | omega | (simp <;> omega))).trans (by go_simp)
      have ks1_9 : w9.cell? ⟨w2.heap.size, 1, none⟩ = some (.int .i64 D) := (hb9.cell (p := ⟨w2.heap.size, 1, none⟩) (by first | omega | (simp <;> omega))).trans (by go_simp)
      have ls_9 : w2.heap.size < w9.heap.size := by omega
      have kp0_9 : w9.cell? ⟨w4.heap.size, 0, none⟩ = some (.int .i64 P) := (hb9.cell (p := ⟨w4.heap.size, 0, none⟩) (by first | omega | (simp <;> omega))).trans (by go_simp)
      have kp1_9 : w9.cell? ⟨w4.heap.size, 1, none⟩ = some (.int .i64 Q) := (hb9.cell (p := ⟨w4.heap.size, 1, none⟩) (by first | omega | (simp <;> omega))).trans (by go_simp)
      have lp_9 : w4.heap.size < w9.heap.size := by omega
      have ke0_9 : w9.cell? ⟨w5.heap.size, 0, none⟩ = some (.int .i64 M) := (hb9.cell (p := ⟨w5.heap.size, 0, none⟩) (by first | omega | (simp <;> omega))).trans (by go_simp)
      have ke1_9 : w9.cell? ⟨w5.heap.size, 1, none⟩ = some (.int .i64 E) := (hb9.cell (p := ⟨w5.heap.size, 1, none⟩) (by first | omega | (simp <;> omega))).trans (by go_simp)
      have le_9 : w5.heap.size < w9.heap.size := by omega
      clear hb9 E8 ka0_8 ka1_8 la_8 kb0_8 kb1_8 lb_8 kc0_8 kc1_8 lc_8 ks0_8 ks1_8 ls_8 kk0_8 kk1_8 lk_8 kp0_8 kp1_8 lp_8 ke0_8 ke1_8 le_8
      go_wp2_with (fail)
      refine (HV3.out _).mono ?_
      rintro e w10 ⟨rfl, hb10⟩
      have hz10 := hb10.size
      (try simp at hz10)
      have hs10 : w.heap.size ≤ w10.heap.size := by omega
      have E10 := hid ((E9.out).trans (hb10.mono (by first | omega | (simp <;> omega))))
      have ka0_10 : w10.cell? ⟨w1.heap.size, 0, none⟩ = some (.int .i64 n) := (hb10.cell (p := ⟨w1.heap.size, 0, none⟩) (by first | omega | (simp <;> omega))).trans (by go_simp)
      have ka1_10 : w10.cell? ⟨w1.heap.size, 1, none⟩ = some (.int .i64 d) := (hb10.cell (p := ⟨w1.heap.size, 1, none⟩) (by first | omega | (simp <;> omega))).trans (by go_simp)
      have la_10 : w1.heap.size < w10.heap.size := by omega
      have kb0_10 : w10.cell? ⟨w1.heap.size + 1, 0, none⟩ = some (.int .i64 m) := (hb10.cell (p := ⟨w1.heap.size + 1, 0, none⟩) (by first | omega | (simp <;> omega))).trans (by go_simp)
      have kb1_10 : w10.cell? ⟨w1.heap.size + 1, 1, none⟩ = some (.int .i64 f) := (hb10.cell (p := ⟨w1.heap.size + 1, 1, none⟩) (by first | omega | (simp <;> omega))).trans (by go_simp)
      have lb_10 : w1.heap.size + 1 < w10.heap.size := by omega
      have kc0_10 : w10.cell? ⟨w1.heap.size + 1 + 1, 0, none⟩ = some (.int .i64 n3) := (hb10.cell (p := ⟨w1.heap.size + 1 + 1, 0, none⟩) (by first | omega | (simp <;> omega))).trans (by go_simp)
      have kc1_10 : w10.cell? ⟨w1.heap.size + 1 + 1, 1, none⟩ = some (.int .i64 d3) := (hb10.cell (p := ⟨w1.heap.size + 1 + 1, 1, none⟩) (by first | omega | (simp <;> omega))).trans (by go_simp)
      have lc_10 : w1.heap.size + 1 + 1 < w10.heap.size := by omega
      have kp0_10 : w10.cell? ⟨w4.heap.size, 0, none⟩ = some (.int .i64 P) := (hb10.cell (p := ⟨w4.heap.size, 0, none⟩) (by first | omega | (simp <;> omega))).trans (by go_simp)
      have kp1_10 : w10.cell? ⟨w4.heap.size, 1, none⟩ = some (.int .i64 Q) := (hb10.cell (p := ⟨w4.heap.size, 1, none⟩) (by first | omega | (simp <;> omega))).trans (by go_simp)
      have lp_10 : w4.heap.size < w10.heap.size := by omega
      have ke0_10 : w10.cell? ⟨w5.heap.size, 0, none⟩ = some (.int .i64 M) := (hb10.cell (p := ⟨w5.heap.size, 0, none⟩) (by first | omega | (simp <;> omega))).trans (by go_simp)
      have ke1_10 : w10.cell? ⟨w5.heap.size, 1, none⟩ = some (.int .i64 E) := (hb10.cell (p := ⟨w5.heap.size, 1, none⟩) (by first | omega | (simp <;> omega))).trans (by go_simp)
      have le_10 : w5.heap.size < w10.heap.size := by omega
      clear hb10 E9 ka0_9 ka1_9 la_9 kb0_9 kb1_9 lb_9 kc0_9 kc1_9 lc_9 ks0_9 ks1_9 ls_9 kp0_9 kp1_9 lp_9 ke0_9 ke1_9 le_9
      go_wp2_with (fail)
      refine (HS1.out _).mono ?_
      rintro e w11 ⟨rfl, hb11⟩
      have hz11 := hb11.size
      (try simp at hz11)
      have hs11 : w.heap.size ≤ w11.heap.size := by omega
      have E11 := hid ((E10.out).trans (hb11.mono (by first | omega | (simp <;> omega))))
      have ka0_11 : w11.cell? ⟨w1.heap.size, 0, none⟩ = some (.int .i64 n) := (hb11.cell (p := ⟨w1.heap.size, 0, none⟩) (by first | omega | (simp <;> omega))).trans (by go_simp)
      have ka1_11 : w11.cell? ⟨w1.heap.size, 1, none⟩ = some (.int .i64 d) := (hb11.cell (p := ⟨w1.heap.size, 1, none⟩) (by first | omega | (simp <;> omega))).trans (by go_simp)
      have la_11 : w1.heap.size < w11.heap.size := by omega
      have kb0_11 : w11.cell? ⟨w1.heap.size + 1, 0, none⟩ = some (.int .i64 m) := (hb11.cell (p := ⟨w1.heap.size + 1, 0, none⟩) (by first | omega | (simp <;> omega))).trans (by go_simp)
      have kb1_11 : w11.cell? ⟨w1.heap.size + 1, 1, none⟩ = some (.int .i64 f) := (hb11.cell (p := ⟨w1.heap.size + 1, 1, none⟩) (by first | omega | (simp <;> omega))).trans (by go_simp)
      have lb_11 : w1.heap.size + 1 < w11.heap.size := by omega
      have kc0_11 : w11.cell? ⟨w1.heap.size + 1 + 1, 0, none⟩ = some (.int .i64 n3) := (hb11.cell (p := ⟨w1.heap.size + 1 + 1, 0, none⟩) (by first | omega | (simp <;> omega))).trans (by go_simp)
      have kc1_11 : w11.cell? ⟨w1.heap.size + 1 + 1, 1, none⟩ = some (.int .i64 d3) := (hb11.cell (p := ⟨w1.heap.size + 1 + 1, 1, none⟩) (by first | omega | (simp <;> omega))).trans (by go_simp)
      have lc_11 : w1.heap.size + 1 + 1 < w11.heap.size := by omega
      have kp0_11 : w11.cell? ⟨w4.heap.size, 0, none⟩ = some (.int .i64 P) := (hb11.cell (p := ⟨w4.heap.size, 0, none⟩) (by first | omega | (simp <;> omega))).trans (by go_simp)
      have kp1_11 : w11.cell? ⟨w4.heap.size, 1, none⟩ = some (.int .i64 Q) := (hb11.cell (p := ⟨w4.heap.size, 1, none⟩) (by first | omega | (simp <;> omega))).trans (by go_simp)
      have lp_11 : w4.heap.size < w11.heap.size := by omega
      have ke0_11 : w11.cell? ⟨w5.heap.size, 0, none⟩ = some (.int .i64 M) := (hb11.cell (p := ⟨w5.heap.size, 0, none⟩) (by first | omega | (simp <;> omega))).trans (by go_simp)
      have ke1_11 : w11.cell? ⟨w5.heap.size, 1, none⟩ = some (.int .i64 E) := (hb11.cell (p := ⟨w5.heap.size, 1, none⟩) (by first | omega | (simp <;> omega))).trans (by go_simp)
      have le_11 : w5.heap.size < w11.heap.size := by omega
      clear hb11 E10 ka0_10 ka1_10 la_10 kb0_10 kb1_10 lb_10 kc0_10 kc1_10 lc_10 kp0_10 kp1_10 lp_10 ke0_10 ke1_10 le_10
      go_wp2_with (fail)
      refine (HS2.out _).mono ?_
      rintro e w12 ⟨rfl, hb12⟩
      have hz12 := hb12.size
      (try simp at hz12)
      have hs12 : w.heap.size ≤ w12.heap.size := by omega
      have E12 := hid ((E11.out).trans (hb12.mono (by first | omega | (simp <;> omega))))
      have ka0_12 : w12.cell? ⟨w1.heap.size, 0, none⟩ = some (.int .i64 n) := (hb12.cell (p := ⟨w1.heap.size, 0, none⟩) (by first | omega | (simp <;> omega))).trans (by go_simp)
      have ka1_12 : w12.cell? ⟨w1.heap.size, 1, none⟩ = some (.int .i64 d) := (hb12.cell (p := ⟨w1.heap.size, 1, none⟩) (by first | omega | (simp <;> omega))).trans (by go_simp)
      have la_12 : w1.heap.size < w12.heap.size := by omega
      have kb0_12 : w12.cell? ⟨w1.heap.size + 1, 0, none⟩ = some (.int .i64 m) := (hb12.cell (p := ⟨w1.heap.size + 1, 0, none⟩) (by first | omega | (simp <;> omega))).trans (by go_simp)
      have kb1_12 : w12.cell? ⟨w1.heap.size + 1, 1, none⟩ = some (.int .i64 f) := (hb12.cell (p := ⟨w1.heap.size + 1, 1, none⟩) (by first | omega | (simp <;> omega))).trans (by go_simp)
      have lb_12 : w1.heap.size + 1 < w12.heap.size := by omega
      have kc0_12 : w12.cell? ⟨w1.heap.size + 1 + 1, 0, none⟩ = some (.int .i64 n3) := (hb12.cell (p := ⟨w1.heap.size + 1 + 1, 0, none⟩) (by first | omega | (simp <;> omega))).trans (by go_simp)
      have kc1_12 : w12.cell? ⟨w1.heap.size + 1 + 1, 1, none⟩ = some (.int .i64 d3) := (hb12.cell (p := ⟨w1.heap.size + 1 + 1, 1, none⟩) (by first | omega | (simp <;> omega))).trans (by go_simp)
      have lc_12 : w1.heap.size + 1 + 1 < w12.heap.size := by omega
      have kp0_12 : w12.cell? ⟨w4.heap.size, 0, none⟩ = some (.int .i64 P) := (hb12.cell (p := ⟨w4.heap.size, 0, none⟩) (by first | omega | (simp <;> omega))).trans (by go_simp)
      have kp1_12 : w12.cell? ⟨w4.heap.size, 1, none⟩ = some (.int .i64 Q) := (hb12.cell (p := ⟨w4.heap.size, 1, none⟩) (by first | omega | (simp <;> omega))).trans (by go_simp)
      have lp_12 : w4.heap.size < w12.heap.size := by omega
      have ke0_12 : w12.cell? ⟨w5.heap.size, 0, none⟩ = some (.int .i64 M) := (hb12.cell (p := ⟨w5.heap.size, 0, none⟩) (by first | omega | (simp <;> omega))).trans (by go_simp)
      have ke1_12 : w12.cell? ⟨w5.heap.size, 1, none⟩ = some (.int .i64 E) := (hb12.cell (p := ⟨w5.heap.size, 1, none⟩) (by first | omega | (simp <;> omega))).trans (by go_simp)
      have le_12 : w5.heap.size < w12.heap.size := by omega
      clear hb12 E11 ka0_11 ka1_11 la_11 kb0_11 kb1_11 lb_11 kc0_11 kc1_11 lc_11 kp0_11 kp1_11 lp_11 ke0_11 ke1_11 le_11
      go_wp2_with (fail)
      refine (HTX.out _ (wants_below HW.out E12.out)).mono ?_
      rintro e w13 ⟨rfl, hb13⟩
      have hz13 := hb13.size
      (try simp at hz13)
      have hs13 : w.heap.size ≤ w13.heap.size := by omega
      have E13 := hid ((E12.out).trans (hb13.mono (by first | omega | (simp <;> omega))))
      have ka0_13 : w13.cell? ⟨w1.heap.size, 0, none⟩ = some (.int .i64 n) := (hb13.cell (p := ⟨w1.heap.size, 0, none⟩) (by first | omega | (simp <;> omega))).trans (by go_simp)
      have ka1_13 : w13.cell? ⟨w1.heap.size, 1, none⟩ = some (.int .i64 d) := (hb13.cell (p := ⟨w1.heap.size, 1, none⟩) (by first | omega | (simp <;> omega))).trans (by go_simp)
      have la_13 : w1.heap.size < w13.heap.size := by omega
      have kb0_13 : w13.cell? ⟨w1.heap.size + 1, 0, none⟩ = some (.int .i64 m) := (hb13.cell (p := ⟨w1.heap.size + 1, 0, none⟩) (by first | omega | (simp <;> omega))).trans (by go_simp)
      have kb1_13 : w13.cell? ⟨w1.heap.size + 1, 1, none⟩ = some (.int .i64 f) := (hb13.cell (p := ⟨w1.heap.size + 1, 1, none⟩) (by first | omega | (simp <;> omega))).trans (by go_simp)
      have lb_13 : w1.heap.size + 1 < w13.heap.size := by omega
      have kc0_13 : w13.cell? ⟨w1.heap.size + 1 + 1, 0, none⟩ = some (.int .i64 n3) := (hb13.cell (p := ⟨w1.heap.size + 1 + 1, 0, none⟩) (by first | omega | (simp <;> omega))).trans (by go_simp)
      have kc1_13 : w13.cell? ⟨w1.heap.size + 1 + 1, 1, none⟩ = some (.int .i64 d3) := (hb13.cell (p := ⟨w1.heap.size + 1 + 1, 1, none⟩) (by first | omega | (simp <;> omega))).trans (by go_simp)
      have lc_13 : w1.heap.size + 1 + 1 < w13.heap.size := by omega
      have kp0_13 : w13.cell? ⟨w4.heap.size, 0, none⟩ = some (.int .i64 P) := (hb13.cell (p := ⟨w4.heap.size, 0, none⟩) (by first | omega | (simp <;> omega))).trans (by go_simp)
      have kp1_13 : w13.cell? ⟨w4.heap.size, 1, none⟩ = some (.int .i64 Q) := (hb13.cell (p := ⟨w4.heap.size, 1, none⟩) (by first | omega | (simp <;> omega))).trans (by go_simp)
      have lp_13 : w4.heap.size < w13.heap.size := by omega
      clear hb13 E12 ka0_12 ka1_12 la_12 kb0_12 kb1_12 lb_12 kc0_12 kc1_12 lc_12 kp0_12 kp1_12 lp_12 ke0_12 ke1_12 le_12
      go_wp2_with (fail)
      refine (HRF.out _ (wants_below HW.out E13.out)).mono ?_
      rintro e w14 ⟨rfl, hb14⟩
      have hz14 := hb14.size
      (try simp at hz14)
      have hs14 : w.heap.size ≤ w14.heap.size := by omega
      have E14 := hid ((E13.out).trans (hb14.mono (by first | omega | (simp <;> omega))))
      have ka0_14 : w14.cell? ⟨w1.heap.size, 0, none⟩ = some (.int .i64 n) := (hb14.cell (p := ⟨w1.heap.size, 0, none⟩) (by first | omega | (simp <;> omega))).trans (by go_simp)
      have ka1_14 : w14.cell? ⟨w1.heap.size, 1, none⟩ = some (.int .i64 d) := (hb14.cell (p := ⟨w1.heap.size, 1, none⟩) (by first | omega | (simp <;> omega))).trans (by go_simp)
      have la_14 : w1.heap.size < w14.heap.size := by omega
      have kb0_14 : w14.cell? ⟨w1.heap.size + 1, 0, none⟩ = some (.int .i64 m) := (hb14.cell (p := ⟨w1.heap.size + 1, 0, none⟩) (by first | omega | (simp <;> omega))).trans (by go_simp)
      have kb1_14 : w14.cell? ⟨w1.heap.size + 1, 1, none⟩ = some (.int .i64 f) := (hb14.cell (p := ⟨w1.heap.size + 1, 1, none⟩) (by first | omega | (simp <;> omega))).trans (by go_simp)
      have lb_14 : w1.heap.size + 1 < w14.heap.size := by omega
      have kc0_14 : w14.cell? ⟨w1.heap.size + 1 + 1, 0, none⟩ = some (.int .i64 n3) := (hb14.cell (p := ⟨w1.heap.size + 1 + 1, 0, none⟩) (by first | omega | (simp <;> omega))).trans (by go_simp)
      have kc1_14 : w14.cell? ⟨w1.heap.size + 1 + 1, 1, none⟩ = some (.int .i64 d3) := (hb14.cell (p := ⟨w1.heap.size + 1 + 1, 1, none⟩) (by first | omega | (simp <;> omega))).trans (by go_simp)
      have lc_14 : w1.heap.size + 1 + 1 < w14.heap.size := by omega
      have kp0_14 : w14.cell? ⟨w4.heap.size, 0, none⟩ = some (.int .i64 P) := (hb14.cell (p := ⟨w4.heap.size, 0, none⟩) (by first | omega | (simp <;> omega))).trans (by go_simp)
      have kp1_14 : w14.cell? ⟨w4.heap.size, 1, none⟩ = some (.int .i64 Q) := (hb14.cell (p := ⟨w4.heap.size, 1, none⟩) (by first | omega | (simp <;> omega))).trans (by go_simp)
      have lp_14 : w4.heap.size < w14.heap.size := by omega
      clear hb14 E13 ka0_13 ka1_13 la_13 kb0_13 kb1_13 lb_13 kc0_13 kc1_13 lc_13 kp0_13 kp1_13 lp_13
      by_cases hm0 : m = 0
      · have HM := hid hm0
        clear hm0
        go_wp2_with (fail)
        refine (HD0.out HM.out _).mono ?_
        rintro e w15 ⟨rfl, hb15⟩
        have hz15 := hb15.size
        (try simp at hz15)
        have hs15 : w.heap.size ≤ w15.heap.size := by omega
        have E15 := hid (((E14.out).alloc (by first | omega | (simp <;> omega)) _).trans (hb15.mono (by first | omega | (simp <;> omega))))
        have ka0_15 : w15.cell? ⟨w1.heap.size, 0, none⟩ = some (.int .i64 n) := (hb15.cell (p := ⟨w1.heap.size, 0, none⟩) (by first | omega | (simp <;> omega))).trans (by go_simp)
        have ka1_15 : w15.cell? ⟨w1.heap.size, 1, none⟩ = some (.int .i64 d) := (hb15.cell (p := ⟨w1.heap.size, 1, none⟩) (by first | omega | (simp <;> omega))).trans (by go_simp)
        have la_15 : w1.heap.size < w15.heap.size := by omega
        have kb0_15 : w15.cell? ⟨w1.heap.size + 1, 0, none⟩ = some (.int .i64 m) := (hb15.cell (p := ⟨w1.heap.size + 1, 0, none⟩) (by first | omega | (simp <;> omega))).trans (by go_simp)
        have kb1_15 : w15.cell? ⟨w1.heap.size + 1, 1, none⟩ = some (.int .i64 f) := (hb15.cell (p := ⟨w1.heap.size + 1, 1, none⟩) (by first | omega | (simp <;> omega))).trans (by go_simp)
        have lb_15 : w1.heap.size + 1 < w15.heap.size := by omega
        have kc0_15 : w15.cell? ⟨w1.heap.size + 1 + 1, 0, none⟩ = some (.int .i64 n3) := (hb15.cell (p := ⟨w1.heap.size + 1 + 1, 0, none⟩) (by first | omega | (simp <;> omega))).trans (by go_simp)
        have kc1_15 : w15.cell? ⟨w1.heap.size + 1 + 1, 1, none⟩ = some (.int .i64 d3) := (hb15.cell (p := ⟨w1.heap.size + 1 + 1, 1, none⟩) (by first | omega | (simp <;> omega))).trans (by go_simp)
        have lc_15 : w1.heap.size + 1 + 1 < w15.heap.size := by omega
        have kp0_15 : w15.cell? ⟨w4.heap.size, 0, none⟩ = some (.int .i64 P) := (hb15.cell (p := ⟨w4.heap.size, 0, none⟩) (by first | omega | (simp <;> omega))).trans (by go_simp)
        have kp1_15 : w15.cell? ⟨w4.heap.size, 1, none⟩ = some (.int .i64 Q) := (hb15.cell (p := ⟨w4.heap.size, 1, none⟩) (by first | omega | (simp <;> omega))).trans (by go_simp)
        have lp_15 : w4.heap.size < w15.heap.size := by omega
        have kf0_15 : w15.cell? ⟨w14.heap.size, 0, none⟩ = some (.int .i64 n3) := (hb15.cell (p := ⟨w14.heap.size, 0, none⟩) (by first | omega | (simp <;> omega))).trans (by go_simp)
        have kf1_15 : w15.cell? ⟨w14.heap.size, 1, none⟩ = some (.int .i64 d3) := (hb15.cell (p := ⟨w14.heap.size, 1, none⟩) (by first | omega | (simp <;> omega))).trans (by go_simp)
        have lf_15 : w14.heap.size < w15.heap.size := by omega
        clear hb15 E14 ka0_14 ka1_14 la_14 kb0_14 kb1_14 lb_14 kc0_14 kc1_14 lc_14 kp0_14 kp1_14 lp_14
        have hm1 : (m == 0) = true := by rw [HM.out]; rfl
        go_wp2_with (fail)
        go_ret
        exact ⟨rfl, E15.out.alloc (by omega) _⟩
      · have HM := hid hm0
        clear hm0
        go_wp2_with (fail)
        refine (HD1.out HM.out _).mono ?_
        rintro e w15 ⟨rfl, hb15⟩
        have hz15 := hb15.size
        (try simp at hz15)
        have hs15 : w.heap.size ≤ w15.heap.size := by omega
        have E15 := hid (((E14.out).alloc (by first | omega | (simp <;> omega)) _).trans (hb15.mono (by first | omega | (simp <;> omega))))
        have ka0_15 : w15.cell? ⟨w1.heap.size, 0, none⟩ = some (.int .i64 n) := (hb15.cell (p := ⟨w1.heap.size, 0, none⟩) (by first | omega | (simp <;> omega))).trans (by go_simp)
        have ka1_15 : w15.cell? ⟨w1.heap.size, 1, none⟩ = some (.int .i64 d) := (hb15.cell (p := ⟨w1.heap.size, 1, none⟩) (by first | omega | (simp <;> omega))).trans (by go_simp)
        have la_15 : w1.heap.size < w15.heap.size := by omega
        have kb0_15 : w15.cell? ⟨w1.heap.size + 1, 0, none⟩ = some (.int .i64 m) := (hb15.cell (p := ⟨w1.heap.size + 1, 0, none⟩) (by first | omega | (simp <;> omega))).trans (by go_simp)
        have kb1_15 : w15.cell? ⟨w1.heap.size + 1, 1, none⟩ = some (.int .i64 f) := (hb15.cell (p := ⟨w1.heap.size + 1, 1, none⟩) (by first | omega | (simp <;> omega))).trans (by go_simp)
        have lb_15 : w1.heap.size + 1 < w15.heap.size := by omega
        have kc0_15 : w15.cell? ⟨w1.heap.size + 1 + 1, 0, none⟩ = some (.int .i64 n3) := (hb15.cell (p := ⟨w1.heap.size + 1 + 1, 0, none⟩) (by first | omega | (simp <;> omega))).trans (by go_simp)
        have kc1_15 : w15.cell? ⟨w1.heap.size + 1 + 1, 1, none⟩ = some (.int .i64 d3) := (hb15.cell (p := ⟨w1.heap.size + 1 + 1, 1, none⟩) (by first | omega | (simp <;> omega))).trans (by go_simp)
        have lc_15 : w1.heap.size + 1 + 1 < w15.heap.size := by omega
        have kp0_15 : w15.cell? ⟨w4.heap.size, 0, none⟩ = some (.int .i64 P) := (hb15.cell (p := ⟨w4.heap.size, 0, none⟩) (by first | omega | (simp <;> omega))).trans (by go_simp)
        have kp1_15 : w15.cell? ⟨w4.heap.size, 1, none⟩ = some (.int .i64 Q) := (hb15.cell (p := ⟨w4.heap.size, 1, none⟩) (by first | omega | (simp <;> omega))).trans (by go_simp)
        have lp_15 : w4.heap.size < w15.heap.size := by omega
        have kf0_15 : w15.cell? ⟨w14.heap.size, 0, none⟩ = some (.int .i64 n3) := (hb15.cell (p := ⟨w14.heap.size, 0, none⟩) (by first | omega | (simp <;> omega))).trans (by go_simp)
        have kf1_15 : w15.cell? ⟨w14.heap.size, 1, none⟩ = some (.int .i64 d3) := (hb15.cell (p := ⟨w14.heap.size, 1, none⟩) (by first | omega | (simp <;> omega))).trans (by go_simp)
        have lf_15 : w14.heap.size < w15.heap.size := by omega
        clear hb15 E14 ka0_14 ka1_14 la_14 kb0_14 kb1_14 lb_14 kc0_14 kc1_14 lc_14 kp0_14 kp1_14 lp_14
        have hm1 : (m == 0) = false := beq_eq_false_iff_ne.2 HM.out
        go_wp2_with (fail)
        go_ret
        exact ⟨rfl, E15.out.alloc (by omega) _⟩

end Go.Proofs.YthdhkjfanhhamaaDoor.pFields
