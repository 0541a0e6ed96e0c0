/- Contract: drawn terms: few of them, small ones. -/
import Derived.Test.YtbbgkflkabkoeaaA2f
import Derived.Test.YtbbgkflkabkoeaaExp
namespace Go.Proofs.Ytbbgkflkabkoeaa
open Go.RowKit

/-- Drawn terms: the first one from -10 to 10, the others from 1 to 60. -/
def Few (xs : List Int) : Prop := (∀ x, xs[0]? = some x → -10 ≤ x ∧ x ≤ 10) ∧ ∀ (j : Nat) (x : Int), 1 ≤ j → xs[j]? = some x → 1 ≤ x ∧ x ≤ 60
theorem few_one {x : Int} (h : -10 ≤ x ∧ x ≤ 10) : Few [x] := by
  refine ⟨fun y hy => ?_, fun j y hj hy => ?_⟩
  · have : x = y := by simpa using hy
    rw [← this]; exact h
  · have := (List.getElem?_eq_some_iff.1 hy).1
    simp at this; omega
theorem few_more {xs : List Int} {t : Int} (h : Few xs) (h0 : 1 ≤ xs.length) (ht : 1 ≤ t ∧ t ≤ 60) : Few (xs ++ [t]) := by
  refine ⟨fun y hy => ?_, fun j y hj hy => ?_⟩
  · rw [List.getElem?_append_left (by omega)] at hy
    exact h.1 y hy
  · by_cases hl : j < xs.length
    · rw [List.getElem?_append_left hl] at hy
      exact h.2 j y hj hy
    · rw [List.getElem?_append_right (by omega)] at hy
      have := List.mem_of_getElem? hy
      have : y = t := by simpa using this
      rw [this]; exact ht
theorem row_only {B b : Nat} {w w' : World} {v : Value} {n : Nat} {xs : List Value} {e : TypeId} {z : Nat} (h : w.ownsRow B e z v n xs) (hb : b < B) (hg : w.grownBy w' (some b)) : w'.ownsRow B e z v n xs :=
  h.kept hg (.inr fun e => by have := (h.lt b e).1; omega)
theorem grown_of {a b : World} {g : Nat} (h : Below a.heap.size a b) : a.grownBy b (some g) := only_below h g
theorem grown_app {a b c : World} {g B : Nat} {v : Value} (h : a.grownBy b (some g)) (hB : B = a.heap.size) (k : b.grownBy c v.ownBlock) (hv : ∀ i, v.ownBlock = some i → B ≤ i) : a.grownBy c (some g) := by
  subst hB
  refine ⟨k.os.trans h.os, k.tape.trans h.tape, k.output.trans h.output, Nat.le_trans h.size k.size, fun i hi hn => ?_⟩
  exact (k.block i (Nat.lt_of_lt_of_le hi h.size) (fun e => by have := hv i e.symm; omega)).trans (h.block i hi hn)

theorem src_grown {a w : World} {b : Nat} {ca : Option Addr} {len cap k : Nat} {z : Int} {row : Option Nat} (hlt : b < a.heap.size) (hg : a.grownBy w row) (hn : row ≠ some b) (hs : Src a b ca len cap k z) : Src w b ca len cap k z := by
  obtain ⟨s1, s2, s3, s4, s5, s6⟩ := hs
  have hc : ∀ o, w.cell? ⟨b, o, none⟩ = a.cell? ⟨b, o, none⟩ := fun o => World.cell?_of_block (hg.block b hlt (fun e => hn e.symm))
  have hf : ∀ o, w.frozen? ⟨b, o, none⟩ = a.frozen? ⟨b, o, none⟩ := fun o => World.frozen?_of_block (hg.block b hlt (fun e => hn e.symm))
  exact ⟨(hc 0).trans s1, (hc 1).trans s2, (hc 2).trans s3, (hf 0).trans s4, (hf 1).trans s5, (hf 2).trans s6⟩

def DtPost (w : World) (b : Nat) (ca : Option Addr) (len cap : Nat) (M : Int) (e : Ending) (w' : World) : Prop :=
  ∃ (xs : List Int) (v : Value) (z' : Int) (k' : Nat), e = .returned v ∧ 1 ≤ xs.length ∧ (xs.length : Int) ≤ max M 1 ∧ Few xs ∧ w'.ownsRow w.heap.size 2 1 v xs.length (intCells xs) ∧ k' ≤ 100000 ∧ Src w' b ca len cap k' z' ∧ w.grownBy w' (some b)

set_option maxHeartbeats 1600000 in
theorem specDrawT (b : Nat) (ca : Option Addr) (len cap k : Nat) (z M : Int) (w : World) (hs : Src w b ca len cap k z) (hb : Bys w b ca len) (hk : k ≤ 1000) (hl : len ≤ 3000) (h1 : 1 ≤ M) (h2 : M ≤ 1000) :
    Calls Try.prog 57 #[.pointer (some ⟨b, 0, none⟩), .int .i64 M] w (DtPost w b ca len cap M) := by
  obtain ⟨i0, hi, hz0, hz1, hz2'⟩ := info_parts infoI
  have hlt := src_lt hs
  have HS := hid hs
  have HB := hid hb
  clear hs hb
  go_enter Try.func57, Try.ntmps57
  go_wp2_with (fail)
  refine (srcPick b ca len cap k z _ _ HS.out HB.out (by omega) hl (by omega) (by omega)).mono ?_
  rintro e w1 ⟨r1, z1, k1, rfl, p1, p2, p3, p4, S1, g1⟩
  have hw1 : w.heap.size ≤ w1.heap.size := g1.size
  have HR0 := hid (show (w1.alloc (.cells #[.int .i64 (r1 - 10)] 2)).ownsRow w.heap.size 2 1 (.slice (some ⟨w1.heap.size, 0, none⟩) 1 1) 1 (intCells [r1 - 10]) from World.ownsRow_lit w1 #[.int .i64 (r1 - 10)] 1 hw1 (by decide) rfl)
  have e1 : Below w1.heap.size w1 (w1.alloc (.cells #[.int .i64 (r1 - 10)] 2)) := (Below.refl _ _).alloc (Nat.le_refl _) _
  have HS1 := hid (src_only (src_lt S1) e1 S1)
  have HG1 := hid (only_trans g1 (only_below e1 b))
  have HB1 := hid (bys_only HG1.out HB.out)
  have HF1 := hid (few_one (x := r1 - 10) (by omega))
  clear S1 g1 e1
  go_wp2_with (fail)
  refine (srcPick b ca len cap k1 z1 _ _ HS1.out HB1.out (by omega) hl (by omega) (by omega)).mono ?_
  rintro e w2 ⟨r2, z2, k2, rfl, p5, p6, p7, p8, S2, g2⟩
  have HS2 := hid S2
  have HG2 := hid (only_trans HG1.out g2)
  have HB2 := hid (bys_only g2 HB1.out)
  have HR2 := hid (row_only HR0.out hlt g2)
  clear S2 g2 HR0
  have HSZ := hid HG2.out.size
  go_wp2_with (fail)
  go_loopw [5, 6, 7] (fun v c u wr => ∃ (xs : List Int) (r z3 : Int) (k3 : Nat), c = .int .i64 r ∧ 0 ≤ r ∧ (xs.length : Int) + r ≤ M ∧ 1 ≤ xs.length ∧ (k3 : Int) ≤ 1004 + 20 * (xs.length : Int) ∧ Hid (Few xs) ∧ wr.ownsRow w.heap.size 2 1 v xs.length (intCells xs) ∧ Src wr b ca len cap k3 z3 ∧ Bys wr b ca len ∧ w.grownBy wr (some b)) (fun _ c _ _ => (RowKit.intOf c).toNat)
  case atStart => exact ⟨[r1 - 10], r2, z2, k2, rfl, by omega, by simp; omega, by simp, by simp; omega, HF1, HR2.out, HS2.out, HB2.out, HG2.out⟩
  case round =>
    obtain ⟨xs, r, z3, k3, rfl, hr0, hr1, hx1, hk3, hfew, hown, hsrc, hbys, hgr⟩ := hrel
    have HOWN := hid hown
    have HSRC := hid hsrc
    have HBYS := hid hbys
    have HGR := hid hgr
    clear hown hsrc hbys hgr HS HS1 HB1 HS2 HB2 HG1 HG2 HR2 HF1
    by_cases hr : 0 < r
    · go_wp2_with (fail)
      refine (srcPick b ca len cap k3 z3 _ _ HSRC.out HBYS.out (by omega) hl (by omega) (by omega)).mono ?_
      rintro e w3 ⟨t1, z4, k4, rfl, a1, a2, a3, a4, S3, g3⟩
      have HS3 := hid S3
      have HG3 := hid (only_trans HGR.out g3)
      have HB3 := hid (bys_only g3 HBYS.out)
      have HR3 := hid (row_only HOWN.out hlt g3)
      clear S3 g3 HOWN HSRC HBYS HGR
      go_wp2_with (fail)
      refine (srcOne b ca len cap k4 z4 _ _ HS3.out HB3.out (by omega) hl (by omega) (by omega)).mono ?_
      rintro e w4 ⟨y1, z5, k5, rfl, a5, a6, S4, g4⟩
      have HS4 := hid S4
      have HG4 := hid (only_trans HG3.out g4)
      have HB4 := hid (bys_only g4 HB3.out)
      have HR4 := hid (row_only HR3.out hlt g4)
      clear S4 g4 HS3 HG3 HB3 HR3
      cases y1
      · skip
        go_wp2_with (fail)
        refine (srcOne b ca len cap k5 z5 _ _ HS4.out HB4.out (by omega) hl (by omega) (by omega)).mono ?_
        rintro e w6 ⟨y2, z7, k7, rfl, d5, d6, S6, g6⟩
        have HS6 := hid S6
        have HG6 := hid (only_trans HG4.out g6)
        have HR6 := hid (row_only HR4.out hlt g6)
        clear S6 g6 HS4 HG4 HB4 HR4
        cases y2
        · skip
          go_wp2_with (at_builtin; refine wpList_append_own _ rfl _ _ 28 rfl w.heap.size 2 i0 (.int .i64 0) 1 8 Try.underlying28 hi hz0 hz1 hz2' rfl (by decide) _ xs.length (intCells xs) (by rfl) ?k10 ⟨w6.heap.size, 0, none⟩ 1 1 [.int .i64 (1 + t1)] (by rfl) ?k11 ?k12 ?k13 ?k14 ?k15 ?k16 ?k17)
          case k10 => exact HR6.out.alloc _
          case k11 => rfl
          case k12 => exact news1 _ _ _
          case k13 => intro u hu; obtain rfl := List.mem_singleton.1 hu; rfl
          case k14 => unfold maxLen; omega
          case k15 => omega
          case k16 => have := HG6.out.size; (first | omega | (simp <;> omega) | (simp; omega))
          intro v2 w7 hown2 hgrow2 _
          have HO2 := hid (show w7.ownsRow w.heap.size 2 1 v2 (xs ++ [1 + t1]).length (intCells (xs ++ [1 + t1])) by
            rw [← intCells_more, List.length_append]; exact hown2)
          have e6 : Below w6.heap.size w6 (w6.alloc (.cells #[.int .i64 (1 + t1)] 2)) := (Below.refl _ _).alloc (Nat.le_refl _) _
          have hg7 := grown_app (only_trans HG6.out (only_below e6 b)) rfl hgrow2 (fun i hi => (HR6.out.lt i hi).1)
          have HG7 := hid hg7
          have hs6 := src_only (src_lt HS6.out) e6 HS6.out
          have HS7 := hid (src_grown (src_lt hs6) hgrow2 (fun e => by have := (HR6.out.lt b e).1; omega) hs6)
          have HB7 := hid (bys_only hg7 HB.out)
          have HF7 := hid (few_more hfew.out hx1 (t := 1 + t1) (by omega))
          have HL7 := hid (show ((xs ++ [1 + t1]).length : Int) = (xs.length : Int) + 1 by simp)
          obtain ⟨zs, hzs⟩ : ∃ zs, zs = xs ++ [1 + t1] := ⟨_, rfl⟩
          rw [← hzs] at HO2 HF7 HL7
          clear hown2 hgrow2 hzs e6 hg7 hs6
          go_wp2_with (fail)
          go_roundw
          case rel => exact ⟨zs, r - 1, _, _, by go_num, by omega, by have := HL7.out; omega, by have := HL7.out; omega, by have := HL7.out; omega, HF7, HO2.out, HS7.out, HB7.out, HG7.out⟩
          case measure => simp only [RowKit.intOf]; omega
        · skip
          go_wp2_with (at_builtin; refine wpList_append_own _ rfl _ _ 28 rfl w.heap.size 2 i0 (.int .i64 0) 1 8 Try.underlying28 hi hz0 hz1 hz2' rfl (by decide) _ xs.length (intCells xs) (by rfl) ?k20 ⟨w6.heap.size, 0, none⟩ 1 1 [.int .i64 (1)] (by rfl) ?k21 ?k22 ?k23 ?k24 ?k25 ?k26 ?k27)
          case k20 => exact HR6.out.alloc _
          case k21 => rfl
          case k22 => exact news1 _ _ _
          case k23 => intro u hu; obtain rfl := List.mem_singleton.1 hu; rfl
          case k24 => unfold maxLen; omega
          case k25 => omega
          case k26 => have := HG6.out.size; (first | omega | (simp <;> omega) | (simp; omega))
          intro v2 w7 hown2 hgrow2 _
          have HO2 := hid (show w7.ownsRow w.heap.size 2 1 v2 (xs ++ [1]).length (intCells (xs ++ [1])) by
            rw [← intCells_more, List.length_append]; exact hown2)
          have e6 : Below w6.heap.size w6 (w6.alloc (.cells #[.int .i64 (1)] 2)) := (Below.refl _ _).alloc (Nat.le_refl _) _
          have hg7 := grown_app (only_trans HG6.out (only_below e6 b)) rfl hgrow2 (fun i hi => (HR6.out.lt i hi).1)
          have HG7 := hid hg7
          have hs6 := src_only (src_lt HS6.out) e6 HS6.out
          have HS7 := hid (src_grown (src_lt hs6) hgrow2 (fun e => by have := (HR6.out.lt b e).1; omega) hs6)
          have HB7 := hid (bys_only hg7 HB.out)
          have HF7 := hid (few_more hfew.out hx1 (t := 1) (by omega))
          have HL7 := hid (show ((xs ++ [1]).length : Int) = (xs.length : Int) + 1 by simp)
          obtain ⟨zs, hzs⟩ : ∃ zs, zs = xs ++ [1] := ⟨_, rfl⟩
          rw [← hzs] at HO2 HF7 HL7
          clear hown2 hgrow2 hzs e6 hg7 hs6
          go_wp2_with (fail)
          go_roundw
          case rel => exact ⟨zs, r - 1, _, _, by go_num, by omega, by have := HL7.out; omega, by have := HL7.out; omega, by have := HL7.out; omega, HF7, HO2.out, HS7.out, HB7.out, HG7.out⟩
          case measure => simp only [RowKit.intOf]; omega
      · go_wp2_with (fail)
        refine (srcPick b ca len cap k5 z5 _ _ HS4.out HB4.out (by omega) hl (by omega) (by omega)).mono ?_
        rintro e w5 ⟨t2, z6, k6, rfl, m1, m2, m3, m4, S5, g5⟩
        have HS5 := hid S5
        have HG5 := hid (only_trans HG4.out g5)
        have HB5 := hid (bys_only g5 HB4.out)
        have HR5 := hid (row_only HR4.out hlt g5)
        clear S5 g5 HS4 HG4 HB4 HR4
        go_wp2_with (fail)
        refine (srcOne b ca len cap k6 z6 _ _ HS5.out HB5.out (by omega) hl (by omega) (by omega)).mono ?_
        rintro e w6 ⟨y2, z7, k7, rfl, d5, d6, S6, g6⟩
        have HS6 := hid S6
        have HG6 := hid (only_trans HG5.out g6)
        have HR6 := hid (row_only HR5.out hlt g6)
        clear S6 g6 HS5 HG5 HB5 HR5
        cases y2
        · skip
          go_wp2_with (at_builtin; refine wpList_append_own _ rfl _ _ 28 rfl w.heap.size 2 i0 (.int .i64 0) 1 8 Try.underlying28 hi hz0 hz1 hz2' rfl (by decide) _ xs.length (intCells xs) (by rfl) ?k30 ⟨w6.heap.size, 0, none⟩ 1 1 [.int .i64 (1 + t2)] (by rfl) ?k31 ?k32 ?k33 ?k34 ?k35 ?k36 ?k37)
          case k30 => exact HR6.out.alloc _
          case k31 => rfl
          case k32 => exact news1 _ _ _
          case k33 => intro u hu; obtain rfl := List.mem_singleton.1 hu; rfl
          case k34 => unfold maxLen; omega
          case k35 => omega
          case k36 => have := HG6.out.size; (first | omega | (simp <;> omega) | (simp; omega))
          intro v2 w7 hown2 hgrow2 _
          have HO2 := hid (show w7.ownsRow w.heap.size 2 1 v2 (xs ++ [1 + t2]).length (intCells (xs ++ [1 + t2])) by
            rw [← intCells_more, List.length_append]; exact hown2)
          have e6 : Below w6.heap.size w6 (w6.alloc (.cells #[.int .i64 (1 + t2)] 2)) := (Below.refl _ _).alloc (Nat.le_refl _) _
          have hg7 := grown_app (only_trans HG6.out (only_below e6 b)) rfl hgrow2 (fun i hi => (HR6.out.lt i hi).1)
          have HG7 := hid hg7
          have hs6 := src_only (src_lt HS6.out) e6 HS6.out
          have HS7 := hid (src_grown (src_lt hs6) hgrow2 (fun e => by have := (HR6.out.lt b e).1; omega) hs6)
          have HB7 := hid (bys_only hg7 HB.out)
          have HF7 := hid (few_more hfew.out hx1 (t := 1 + t2) (by omega))
          have HL7 := hid (show ((xs ++ [1 + t2]).length : Int) = (xs.length : Int) + 1 by simp)
          obtain ⟨zs, hzs⟩ : ∃ zs, zs = xs ++ [1 + t2] := ⟨_, rfl⟩
          rw [← hzs] at HO2 HF7 HL7
          clear hown2 hgrow2 hzs e6 hg7 hs6
          go_wp2_with (fail)
          go_roundw
          case rel => exact ⟨zs, r - 1, _, _, by go_num, by omega, by have := HL7.out; omega, by have := HL7.out; omega, by have := HL7.out; omega, HF7, HO2.out, HS7.out, HB7.out, HG7.out⟩
          case measure => simp only [RowKit.intOf]; omega
        · skip
          go_wp2_with (at_builtin; refine wpList_append_own _ rfl _ _ 28 rfl w.heap.size 2 i0 (.int .i64 0) 1 8 Try.underlying28 hi hz0 hz1 hz2' rfl (by decide) _ xs.length (intCells xs) (by rfl) ?k40 ⟨w6.heap.size, 0, none⟩ 1 1 [.int .i64 (1)] (by rfl) ?k41 ?k42 ?k43 ?k44 ?k45 ?k46 ?k47)
          case k40 => exact HR6.out.alloc _
          case k41 => rfl
          case k42 => exact news1 _ _ _
          case k43 => intro u hu; obtain rfl := List.mem_singleton.1 hu; rfl
          case k44 => unfold maxLen; omega
          case k45 => omega
          case k46 => have := HG6.out.size; (first | omega | (simp <;> omega) | (simp; omega))
          intro v2 w7 hown2 hgrow2 _
          have HO2 := hid (show w7.ownsRow w.heap.size 2 1 v2 (xs ++ [1]).length (intCells (xs ++ [1])) by
            rw [← intCells_more, List.length_append]; exact hown2)
          have e6 : Below w6.heap.size w6 (w6.alloc (.cells #[.int .i64 (1)] 2)) := (Below.refl _ _).alloc (Nat.le_refl _) _
          have hg7 := grown_app (only_trans HG6.out (only_below e6 b)) rfl hgrow2 (fun i hi => (HR6.out.lt i hi).1)
          have HG7 := hid hg7
          have hs6 := src_only (src_lt HS6.out) e6 HS6.out
          have HS7 := hid (src_grown (src_lt hs6) hgrow2 (fun e => by have := (HR6.out.lt b e).1; omega) hs6)
          have HB7 := hid (bys_only hg7 HB.out)
          have HF7 := hid (few_more hfew.out hx1 (t := 1) (by omega))
          have HL7 := hid (show ((xs ++ [1]).length : Int) = (xs.length : Int) + 1 by simp)
          obtain ⟨zs, hzs⟩ : ∃ zs, zs = xs ++ [1] := ⟨_, rfl⟩
          rw [← hzs] at HO2 HF7 HL7
          clear hown2 hgrow2 hzs e6 hg7 hs6
          go_wp2_with (fail)
          go_roundw
          case rel => exact ⟨zs, r - 1, _, _, by go_num, by omega, by have := HL7.out; omega, by have := HL7.out; omega, by have := HL7.out; omega, HF7, HO2.out, HS7.out, HB7.out, HG7.out⟩
          case measure => simp only [RowKit.intOf]; omega
    · go_wp2_with (fail)
      go_ret
      exact ⟨xs, _, z3, k3, rfl, hx1, by omega, hfew.out, HOWN.out, by omega, HSRC.out, HGR.out⟩

theorem a2Terms (ca : Option Addr) (len cap : Nat) (w : World) (hb : ByI w ca len) (hl : len ≤ 3000) :
    Calls Try.prog 20 #[.slice ca len cap] w fun e w' => ∃ (xs : List Int) (g c : Nat), e = .returned (.slice (some ⟨g, 0, none⟩) xs.length c) ∧ 1 ≤ xs.length ∧ xs.length ≤ 8 ∧ Few xs ∧ Own w.heap.size w' g c xs ∧ Below w.heap.size w w' := by
  have eV : Below w.heap.size w (w.alloc (.cells #[.slice ca len cap, .int .i64 0, .int .u64 0] 74)) := (Below.refl _ _).alloc (Nat.le_refl _) _
  have HE := hid eV
  have HS := hid (src_new ca len cap w 74)
  have HB := hid (byi_bys hb (b := w.heap.size) (Nat.le_refl _) eV)
  clear eV hb
  go_enter Try.func20, Try.ntmps20
  go_wp2_with (fail)
  refine (specFrom _ _ _ _).mono ?_
  rintro e W0 ⟨rfl, rfl⟩
  go_wp2_with (fail)
  refine (specDrawT w.heap.size ca len cap 0 0 8 _ HS.out HB.out (by omega) hl (by omega) (by omega)).mono ?_
  rintro e w1 ⟨xs, v, z', k', rfl, x1, x2, x3, x4, _, _, x7⟩
  obtain ⟨g, c, rfl, o⟩ := own_more x4 rfl rfl (by omega)
  have O := hid (own_mono o (A := w.heap.size) (by simp))
  have E := hid (HE.out.trans (grown_below (B := w.heap.size) x7 (by simp) (Nat.le_refl _)))
  have F := hid x3
  clear x3 x4 x7 o
  go_wp2_with (fail)
  go_ret
  exact ⟨xs, g, c, rfl, x1, by omega, F.out, O.out, E.out⟩

end Go.Proofs.Ytbbgkflkabkoeaa
