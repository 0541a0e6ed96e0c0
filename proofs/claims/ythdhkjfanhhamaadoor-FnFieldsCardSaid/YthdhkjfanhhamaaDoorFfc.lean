/- The law on fields: what its calls answer at the fractions that it draws. -/
import Derived.Test.YthdhkjfanhhamaaDoorFfm
import Derived.Test.YthdhkjfanhhamaaDoorAr6
namespace Go.Proofs.YthdhkjfanhhamaaDoor
open Go.RowKit

theorem bd300 {a b : Int} (h1 : -300 ≤ a) (h2 : a ≤ 300) (h3 : -300 ≤ b) (h4 : b ≤ 300) : (a * b).natAbs ≤ 90000 := by
  rw [Int.natAbs_mul]
  exact Nat.mul_le_mul (show a.natAbs ≤ 300 by omega) (show b.natAbs ≤ 300 by omega)
theorem twoT_yes {n d m f : Int} (h1 : okF n d = true) (h2 : okF m f = true) (t : Int × Int × Int) : twoT n d m f t = t := by unfold twoT; rw [h1, h2]; rfl
theorem cmpT_yes {n d m f : Int} (h1 : okF n d = true) (h2 : okF m f = true) : cmpT n d m f = (sgn (n * f - m * d), 0) := by unfold cmpT; rw [h1, h2]; rfl
theorem sgn_bd (x : Int) : -1 ≤ sgn x ∧ sgn x ≤ 1 := by
  unfold sgn
  split
  · omega
  · split <;> omega

def Ans2 (fn : Nat) (n d m f x y c : Int) : Prop := ∀ w, Calls Tryd.prog fn #[.agg #[.int .i64 n, .int .i64 d], .agg #[.int .i64 m, .int .i64 f]] w fun e w' => e = .returned (.tuple #[.agg #[.int .i64 x, .int .i64 y], .int .i64 c]) ∧ Below w.heap.size w w'
def AnsC (fn : Nat) (n d m f x : Int) : Prop := ∀ w, Calls Tryd.prog fn #[.agg #[.int .i64 n, .int .i64 d], .agg #[.int .i64 m, .int .i64 f]] w fun e w' => e = .returned (.tuple #[.int .i64 x, .int .i64 0]) ∧ Below w.heap.size w w'
def AnsV (n d : Int) : Prop := ∀ w, Calls Tryd.prog 16 #[.agg #[.int .i64 n, .int .i64 d]] w fun e w' => e = .returned (.bool true) ∧ Below w.heap.size w w'

theorem ansV {n d : Int} (h : okF n d = true) : AnsV n d := fun w => by
  have := specValid n d w
  rw [h] at this
  exact this

theorem fields {n d m f : Int} (o1 : okF n d = true) (x1 : -300 ≤ n) (x2 : n ≤ 300) (x3 : d ≤ 300) (o2 : okF m f = true) (y1 : -300 ≤ m) (y2 : m ≤ 300) (y3 : f ≤ 300) :
    ∃ S D P Q M E s t : Int, Ans2 11 n d m f S D 0 ∧ Ans2 12 S D m f n d 0 ∧ Ans2 13 n d m f P Q 0 ∧ Ans2 14 n d m f M E 0 ∧
      AnsC 15 n d m f s ∧ AnsC 15 m f n d t ∧ AnsV S D ∧ AnsV P Q ∧ AnsV M E ∧ AnsC 17 n d M E s ∧ AnsC 17 M E m f s ∧
      (m = 0 → Ans2 20 P Q m f 0 0 6) ∧ (m ≠ 0 → Ans2 20 P Q m f n d 0) ∧ wrap64 (-t) = s ∧ (s = 0 ↔ n = m ∧ d = f) := by
  have hd := (ok_bounds o1).1
  have hf := (ok_bounds o2).1
  have b1 := bd300 (a := n) (b := f) x1 x2 (by omega) y3
  have b2 := bd300 (a := m) (b := d) y1 y2 (by omega) x3
  have b3 := bd300 (a := d) (b := f) (by omega) x3 (by omega) y3
  have b4 := bd300 (a := n) (b := m) x1 x2 y1 y2
  have p := mul_pos1 hd hf
  obtain ⟨oS, eS⟩ := low_ok (x := n * f + m * d) (y := d * f) p (by omega) (by omega)
  obtain ⟨oP, eP⟩ := low_ok (x := n * m) (y := d * f) p (by omega) (by omega)
  obtain ⟨oM, eM⟩ := low_ok (x := n + m) (y := d + f) (by omega) (by omega) (by omega)
  have fS := (low_form (x := n * f + m * d) (y := d * f) p).1
  have fP := (low_form (x := n * m) (y := d * f) p).1
  have fM := (low_form (x := n + m) (y := d + f) (by omega)).1
  have hE := (ok_bounds oM).1
  have e1 : m * d - n * f = -(n * f - m * d) := by omega
  have sb := sgn_bd (n * f - m * d)
  refine ⟨_, _, _, _, _, _, sgn (n * f - m * d), -sgn (n * f - m * d), fun w => ?_, fun w => ?_, fun w => ?_, fun w => ?_, fun w => ?_, fun w => ?_, ansV oS, ansV oP, ansV oM, fun w => ?_, fun w => ?_, fun h0 w => ?_, fun h0 w => ?_, ?_, ?_⟩
  · have := implAdd n d m f w
    rw [twoT_yes o1 o2, eS] at this
    exact this
  · have := implSub (lowN (n * f + m * d) (d * f)) (lowD (n * f + m * d) (d * f)) m f w (by omega) (by omega)
    rw [add_sub o1 o2 oS fS] at this
    exact this
  · have := implMul n d m f w
    rw [twoT_yes o1 o2, eP] at this
    exact this
  · have := implMed n d m f w
    rw [twoT_yes o1 o2, eM] at this
    exact this
  · have := implCompare n d m f w
    rw [cmpT_yes o1 o2] at this
    exact this
  · have := implCompare m f n d w
    rw [cmpT_yes o2 o1, e1, sgn_neg] at this
    exact this
  · have := specCompare n d (lowN (n + m) (d + f)) (lowD (n + m) (d + f)) w
    rw [cmpT_yes o1 oM, mid_left hd hf hE fM] at this
    exact this
  · have := specCompare (lowN (n + m) (d + f)) (lowD (n + m) (d + f)) m f w
    rw [cmpT_yes oM o2, mid_right hd hf hE fM] at this
    exact this
  · have := implDiv (lowN (n * m) (d * f)) (lowD (n * m) (d * f)) m f w
    unfold divT at this
    rw [twoT_yes oP o2, if_pos h0] at this
    exact this
  · have := implDiv (lowN (n * m) (d * f)) (lowD (n * m) (d * f)) m f w
    rw [mul_div o1 o2 oP h0 fP] at this
    exact this
  · rw [Int.neg_neg, IntWalk.wrap64_in _ ⟨by omega, by omega⟩]
  · rw [sgn_zero]
    constructor
    · intro h
      exact plain_unique (okF_iff.1 o1).2.2.2.2 (okF_iff.1 o2).2.2.2.2 (by omega) (by omega) (by omega)
    · rintro ⟨rfl, rfl⟩; omega

end Go.Proofs.YthdhkjfanhhamaaDoor
