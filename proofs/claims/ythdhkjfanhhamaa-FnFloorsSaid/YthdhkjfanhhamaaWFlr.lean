/- The law FnFloors, walked. -/
import Derived.Test.YthdhkjfanhhamaaA2f
namespace Go.Proofs.Ythdhkjfanhhamaa.pFloors
open Go.RowKit

theorem mkT_mul {n d k : Int} (hk : 1 ≤ k) (hk2 : k ≤ 200) (h : Sml n d 300) : mkT (-k * n) (-k * d) = (n, d, 0) := by
  obtain ⟨ho, h1, h2, h3⟩ := h
  have hb := ok_bounds ho
  have hg := (okF_iff.1 ho).2.2.2.2
  have p1 := mul_bd (a := k) (b := n) (by omega) (by omega) (by omega) (by omega)
  have p2 := mul_bd (a := k) (b := d) (by omega) (by omega) (by omega) (by omega)
  have p3 : 0 < k * d := Int.mul_pos (by omega) (by omega)
  obtain ⟨l1, l2⟩ := low_mul hk hb.1 hg
  rw [mkT_yes (by rw [Int.neg_mul, Int.neg_mul]; omega)]
  unfold lowT
  rw [l1, l2, ho]; rfl

theorem nb_symm {n d m f : Int} (h1 : okF n d = true) (h2 : okF m f = true) : nbB m f n d = nbB n d m f ∧ nbB n d m f = (n * f - m * d == 1 || n * f - m * d == -1) := by
  unfold nbB
  rw [h1, h2]
  simp only [Bool.and_self, Bool.true_and, and_true]
  rw [show m * d - n * f = -(n * f - m * d) by omega]
  generalize n * f - m * d = t
  rw [Bool.eq_iff_iff]
  simp
  omega

set_option maxHeartbeats 1600000 in
theorem walk (ca : Option Addr) (la pa : Nat) (cb : Option Addr) (lb pb : Nat) (w : World) (ha : ByI w ca la) (hb : ByI w cb lb) :
    Calls Try.prog 3 #[.slice ca la pa, .slice cb lb pb] w fun e w' => e = .returned (.bool true) ∧ Below w.heap.size w w' := by
  have CL := fun w => a2Long ca cb la pa lb pb w
  cases hl : decide (3000 < la ∨ 3000 < lb) with
  | true =>
    rw [hl] at CL
    have HL := hid CL
    clear CL hl ha hb
    go_enter Try.func3, Try.ntmps3
    go_wp2_with (fail)
    refine (HL.out _).mono ?_
    rintro e w1 ⟨rfl, rfl⟩
    go_wp2
    go_ret
    exact ⟨rfl, Below.refl _ _⟩
  | false =>
    rw [hl] at CL
    have HL := hid CL
    have hla : la ≤ 3000 := by simp at hl; omega
    have hlb : lb ≤ 3000 := by simp at hl; omega
    have HA := hid ha
    have HB := hid hb
    clear CL hl ha hb
    go_enter Try.func3, Try.ntmps3
    go_wp2_with (fail)
    refine (HL.out _).mono ?_
    rintro e w1 ⟨rfl, rfl⟩
    go_wp2_with (fail)
    refine (a2Fractions _ _ _ _ HA.out hla).mono ?_
    rintro e w1 ⟨n, d, m, f, n3, d3, rfl, s1, s2, s3, e1⟩
    have hz1 := e1.size
    obtain ⟨o1, x1, x2, x3⟩ := s1
    obtain ⟨o2, y1, y2, y3⟩ := s2
    have x4 := (ok_bounds o1).1
    have y4 := (ok_bounds o2).1
    have CF : ∀ w, _ := fun w => implFloor n d w
    have ef : floorT n d = (n / d, 0) := by unfold floorT; rw [o1]; rfl
    rw [ef] at CF
    obtain ⟨q1, q2⟩ := floor_bd (M := 300) x4 x1 x2 (by omega)
    obtain ⟨q3, q4⟩ := floor_le (n := n) x4
    obtain ⟨nb1, nb2⟩ := nb_symm o1 o2
    have CN := fun w => implNb n d m f w
    have CM := fun w => implNb m f n d w
    rw [nb1] at CM
    have MK := hid (fun (k : Int) h1 h2 => @mkT_mul n d k h1 h2 ⟨o1, x1, x2, x3⟩)
    generalize n / d = q at CF q1 q2 q3 q4
    generalize nbB n d m f = bb at CN CM nb2
    have NB := hid nb2
    have HF := hid CF
    have HN := hid CN
    have HM := hid CM
    have p1 := mul_bd (a := q) (b := d) (by omega) (by omega) (by omega) (by omega)
    have p2 := mul_bd (a := q + 1) (b := d) (by omega) (by omega) (by omega) (by omega)
    have p3 := mul_bd (a := n) (b := f) (by omega) (by omega) (by omega) (by omega)
    have p4 := mul_bd (a := m) (b := d) (by omega) (by omega) (by omega) (by omega)
    have O1 := hid o1
    have O2 := hid o2
    have E1 := hid e1
    clear CF CN CM nb1 nb2 ef o1 o2 s3 e1
    go_wp2_with (fail)
    refine (HF.out _).mono ?_
    rintro e w2 ⟨rfl, hb2⟩
    have hz2 := hb2.size
    simp at hz2
    have e2 : Below w.heap.size w w2 := (((E1.out.alloc (by omega) _).alloc (by simp; omega) _).alloc (by simp; omega) _).trans (hb2.mono (by simp; omega))
    have E2 := hid e2
    have B2 := hid (byi_below HB.out e2)
    clear e2
    obtain ⟨hc2, hf2⟩ := bcell hb2
    go_wp2_with (fail)
    refine (a2At _ _ _ 0 200 _ B2.out (by omega) hlb (by omega) (by omega)).mono ?_
    rintro e w3 ⟨r, rfl, r1, r2, rfl⟩
    have r3 : r ≤ 199 := by omega
    clear r2
    have p5 := mul_bd (a := -(1 + r)) (b := n) (by omega) (by omega) (by omega) (by omega)
    have p6 := mul_bd (a := -(1 + r)) (b := d) (by omega) (by omega) (by omega) (by omega)
    go_wp2_with (fail)
    have CK := fun w => implMake (-(1 + r) * n) (-(1 + r) * d) w
    rw [MK.out (1 + r) (by omega) (by omega)] at CK
    have HK := hid CK
    clear CK
    refine (HK.out _).mono ?_
    rintro e w3 ⟨rfl, hb3⟩
    dsimp only [tv]
    have hz3 := hb3.size
    have hB3 := hb2.trans (hb3.mono hb2.size)
    clear hc2 hf2
    obtain ⟨hc3, hf3⟩ := bcell hB3
    have l1 : w1.heap.size < w3.heap.size := by omega
    have l2 : w1.heap.size + 1 < w3.heap.size := by omega
    have l3 : w1.heap.size + 1 + 1 < w3.heap.size := by omega
    go_wp2_with (fail)
    refine (HN.out _).mono ?_
    rintro e w4 ⟨rfl, hb4⟩
    have hz4 : w3.heap.size < w4.heap.size := by have := hb4.size; simp at this; omega
    have hB4 : Below w2.heap.size w2 w4 := (hb3.alloc hz3 _).trans (hb4.mono (by simp; omega))
    have hC4 := hb2.trans (hB4.mono hb2.size)
    clear hc3 hf3
    obtain ⟨hc4, hf4⟩ := bcell hC4
    have l4 : w1.heap.size < w4.heap.size := by omega
    have l5 : w1.heap.size + 1 < w4.heap.size := by omega
    have e4 : Below w.heap.size w w4 := E2.out.trans (hB4.mono (by omega))
    have E4 := hid e4
    clear e4
    go_wp2_with (fail)
    refine (HM.out _).mono ?_
    rintro e w5 ⟨rfl, hb5⟩
    have e5 : Below w.heap.size w w5 := E4.out.trans (hb5.mono E4.out.size)
    have E5 := hid e5
    clear e5
    have hnb := NB.out
    have hbb : (bb == bb) = true := by simp
    cases bb
    · have t1 : (n * f - m * d == 1) = false := by
        rcases Bool.or_eq_false_iff.1 hnb.symm with ⟨t1, _⟩; exact t1
      have t2 : (n * f - m * d == -1) = false := by
        rcases Bool.or_eq_false_iff.1 hnb.symm with ⟨_, t2⟩; exact t2
      clear hnb
      go_wp2
      go_ret
      exact ⟨rfl, E5.out⟩
    · rcases Bool.or_eq_true_iff.1 hnb.symm with t1 | t1
      · clear hnb
        go_wp2
        go_ret
        exact ⟨rfl, E5.out⟩
      · have t2 : (n * f - m * d == 1) = false := by
          rw [beq_eq_false_iff_ne]; rw [beq_iff_eq] at t1; omega
        clear hnb
        go_wp2
        go_ret
        exact ⟨rfl, E5.out⟩

end Go.Proofs.Ythdhkjfanhhamaa.pFloors
