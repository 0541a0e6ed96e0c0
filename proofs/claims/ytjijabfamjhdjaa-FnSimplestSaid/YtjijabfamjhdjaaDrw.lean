/- Contracts: drawn fractions are plain and not too great. -/
import Derived.Test.YtjijabfamjhdjaaSrc
import Derived.Test.YtjijabfamjhdjaaMath2
namespace Go.Proofs.Ytjijabfamjhdjaa
open Go.RowKit

/-- A plain fraction with numbers up to M. -/
def Sml (n d M : Int) : Prop := okF n d = true ∧ -M ≤ n ∧ n ≤ M ∧ d ≤ M

def DrawPost (w : World) (b : Nat) (ca : Option Addr) (len cap k : Nat) (M : Int) (e : Ending) (w' : World) : Prop :=
  ∃ (n d z' : Int) (k' : Nat), e = .returned (.agg #[.int .i64 n, .int .i64 d]) ∧ Sml n d M ∧ k ≤ k' ∧ k' ≤ k + 8 ∧ Src w' b ca len cap k' z' ∧ w.grownBy w' (some b)

theorem src_only {a w : World} {b : Nat} (hb : b < a.heap.size) {ca : Option Addr} {len cap k : Nat} {z : Int} (h : Below a.heap.size a w) (hs : Src a b ca len cap k z) : Src w b ca len cap k z := by
  obtain ⟨s1, s2, s3, s4, s5, s6⟩ := hs
  exact ⟨(h.cell (p := ⟨b, 0, none⟩) hb).trans s1, (h.cell (p := ⟨b, 1, none⟩) hb).trans s2, (h.cell (p := ⟨b, 2, none⟩) hb).trans s3, (h.frozen (p := ⟨b, 0, none⟩) hb).trans s4, (h.frozen (p := ⟨b, 1, none⟩) hb).trans s5, (h.frozen (p := ⟨b, 2, none⟩) hb).trans s6⟩
theorem src_lt {w : World} {b : Nat} {ca : Option Addr} {len cap k : Nat} {z : Int} (hs : Src w b ca len cap k z) : b < w.heap.size := World.block_lt_of_cell? _ _ hs.1

theorem only_set {a w : World} {g p o : Nat} (h : a.grownBy w (some g)) (hp : a.heap.size ≤ p) (u : Value) : a.grownBy (w.setCell ⟨p, o, none⟩ u) (some g) :=
  ⟨h.os, h.tape, h.output, by simpa [World.setCell] using h.size, fun i hi hn => (Below.heap_setCell _ _ _ _ (by simp; omega)).trans (h.block i hi hn)⟩
theorem src_set {w : World} {b p o : Nat} {ca : Option Addr} {len cap k : Nat} {z : Int} (hs : Src w b ca len cap k z) (hp : b ≠ p) (u : Value) : Src (w.setCell ⟨p, o, none⟩ u) b ca len cap k z := by
  obtain ⟨s1, s2, s3, s4, s5, s6⟩ := hs
  refine ⟨?_, ?_, ?_, ?_, ?_, ?_⟩
  · rw [World.cell?_setCell_other _ _ _ _ (by simp; try omega)]; exact s1
  · rw [World.cell?_setCell_other _ _ _ _ (by simp; try omega)]; exact s2
  · rw [World.cell?_setCell_other _ _ _ _ (by simp; try omega)]; exact s3
  · simp [s4]
  · simp [s5]
  · simp [s6]

set_option maxHeartbeats 400000 in
theorem specDraw (b : Nat) (ca : Option Addr) (len cap k : Nat) (z M : Int) (w : World) (hs : Src w b ca len cap k z) (hb : Bys w b ca len) (hk : k + 8 < 1000000) (hl : len ≤ 5000) (h1 : 1 ≤ M) (h2 : M ≤ 1000000) :
    Calls Try.prog 99 #[.pointer (some ⟨b, 0, none⟩), .int .i64 M] w (DrawPost w b ca len cap k M) := by
  have hlt := src_lt hs
  have e0 : Below w.heap.size w (w.alloc (.cells #[.int .i64 0, .int .i64 0] 25)) := (Below.refl _ _).alloc (Nat.le_refl _) _
  have HS := hid (src_only hlt e0 hs)
  have HB := hid (bys_only (only_below e0 b) hb)
  have HE := hid e0
  clear hs hb e0
  go_enter Try.func99, Try.ntmps99
  go_wp2_with (fail)
  refine (srcPick b ca len cap k z _ _ HS.out HB.out (by omega) hl (by omega) (by omega)).mono ?_
  rintro e w1 ⟨r1, z1, k1, rfl, p1, p2, p3, p4, S1, g1⟩
  have HS1 := hid S1
  have HG1 := hid g1
  have HB1 := hid (bys_only g1 HB.out)
  clear S1 g1
  have q1 : r1 ≤ 2 * M := by omega
  go_wp2_with (fail)
  refine (srcOne b ca len cap k1 z1 _ _ HS1.out HB1.out (by omega) hl (by omega) (by omega)).mono ?_
  rintro e w2 ⟨r2, z2, k2, rfl, p5, p6, S2, g2⟩
  have HS2 := hid S2
  have HG2 := hid (only_trans HG1.out g2)
  have HB2 := hid (bys_only g2 HB1.out)
  clear S2 g2
  cases r2
  · go_wp2_with (fail)
    refine (srcPick b ca len cap k2 z2 _ _ HS2.out HB2.out (by omega) hl (by omega) (by omega)).mono ?_
    rintro e w3 ⟨r3, z3, k3, rfl, p7, p8, p9, p10, S3, g3⟩
    have HS3 := hid S3
    have HG3 := hid (only_trans HG2.out g3)
    clear S3 g3
    have q3 : 0 ≤ r3 ∧ r3 + 1 ≤ M := by omega
    obtain ⟨q4, q5⟩ := q3
    go_wp2_with (fail)
    refine (specMake _ _ _ (by omega) (by omega) (by omega) (by omega)).mono ?_
    rintro e w4 ⟨rfl, hb4⟩
    obtain ⟨lp1, lp2, lp3⟩ := low_plain (n := r1 - M) (d := 1 + r3) (by omega) (by omega) (by omega) (by omega)
    have hsm : Sml (lowN (r1 - M) (1 + r3)) (lowD (r1 - M) (1 + r3)) M := ⟨lp1, by omega, by omega, by omega⟩
    generalize lowN (r1 - M) (1 + r3) = X at hsm ⊢
    generalize lowD (r1 - M) (1 + r3) = Y at hsm ⊢
    clear lp1 lp2 lp3
    have HSM := hid hsm
    have hg4 := only_trans (only_trans (only_below HE.out b) HG3.out) (only_below hb4 b)
    have hs4 := src_only (src_lt HS3.out) hb4 HS3.out
    have hlz : w.heap.size < w3.heap.size := by have := HG3.out.size; simp at this; omega
    have c0 : w4.cell? ⟨w.heap.size, 0, none⟩ = some (.int .i64 0) := by
      rw [hb4.cell (p := ⟨w.heap.size, 0, none⟩) hlz, only_cell HG3.out (by simp) (by omega)]; go_simp
    have c1 : w4.cell? ⟨w.heap.size, 1, none⟩ = some (.int .i64 0) := by
      rw [hb4.cell (p := ⟨w.heap.size, 1, none⟩) hlz, only_cell HG3.out (by simp) (by omega)]; go_simp
    have f0 : w4.frozen? ⟨w.heap.size, 0, none⟩ = false := by
      rw [hb4.frozen (p := ⟨w.heap.size, 0, none⟩) hlz, only_frozen HG3.out (by simp) (by omega)]; go_simp
    have f1 : w4.frozen? ⟨w.heap.size, 1, none⟩ = false := by
      rw [hb4.frozen (p := ⟨w.heap.size, 1, none⟩) hlz, only_frozen HG3.out (by simp) (by omega)]; go_simp
    have HG4 := hid hg4
    have HS4 := hid hs4
    clear hg4 hs4 hsm
    go_wp2
    refine bodyPost_ret (v := .agg #[.int .i64 X, .int .i64 Y]) (by simp [results, Try.results99, go_sem, c0, c1]) rfl ?_
    exact ⟨X, Y, _, _, rfl, HSM.out, by omega, by omega, src_set (src_set HS4.out (by omega) _) (by omega) _, only_set (only_set HG4.out (by omega) _) (by omega) _⟩
  · go_wp2_with (fail)
    refine (srcPick b ca len cap k2 z2 _ _ HS2.out HB2.out (by omega) hl (by omega) (by omega)).mono ?_
    rintro e w2b ⟨r2b, z2b, k2b, rfl, p5b, p6b, p7b, p8b, S2b, g2b⟩
    have HS2b := hid S2b
    have HG2b := hid (only_trans HG2.out g2b)
    have HB2b := hid (bys_only g2b HB2.out)
    clear S2b g2b
    have q2b : r2b ≤ M := by omega
    go_wp2_with (fail)
    refine (srcPick b ca len cap k2b z2b _ _ HS2b.out HB2b.out (by omega) hl (by omega) (by omega)).mono ?_
    rintro e w3 ⟨r3, z3, k3, rfl, p7, p8, p9, p10, S3, g3⟩
    have HS3 := hid S3
    have HG3 := hid (only_trans HG2b.out g3)
    clear S3 g3
    have q3 : 0 ≤ r3 ∧ r3 + 1 ≤ M := by omega
    obtain ⟨q4, q5⟩ := q3
    go_wp2_with (fail)
    refine (specMake _ _ _ (by omega) (by omega) (by omega) (by omega)).mono ?_
    rintro e w4 ⟨rfl, hb4⟩
    obtain ⟨lp1, lp2, lp3⟩ := low_plain (n := r2b) (d := 1 + r3) (by omega) (by omega) (by omega) (by omega)
    have hsm : Sml (lowN (r2b) (1 + r3)) (lowD (r2b) (1 + r3)) M := ⟨lp1, by omega, by omega, by omega⟩
    generalize lowN (r2b) (1 + r3) = X at hsm ⊢
    generalize lowD (r2b) (1 + r3) = Y at hsm ⊢
    clear lp1 lp2 lp3
    have HSM := hid hsm
    have hg4 := only_trans (only_trans (only_below HE.out b) HG3.out) (only_below hb4 b)
    have hs4 := src_only (src_lt HS3.out) hb4 HS3.out
    have hlz : w.heap.size < w3.heap.size := by have := HG3.out.size; simp at this; omega
    have c0 : w4.cell? ⟨w.heap.size, 0, none⟩ = some (.int .i64 0) := by
      rw [hb4.cell (p := ⟨w.heap.size, 0, none⟩) hlz, only_cell HG3.out (by simp) (by omega)]; go_simp
    have c1 : w4.cell? ⟨w.heap.size, 1, none⟩ = some (.int .i64 0) := by
      rw [hb4.cell (p := ⟨w.heap.size, 1, none⟩) hlz, only_cell HG3.out (by simp) (by omega)]; go_simp
    have f0 : w4.frozen? ⟨w.heap.size, 0, none⟩ = false := by
      rw [hb4.frozen (p := ⟨w.heap.size, 0, none⟩) hlz, only_frozen HG3.out (by simp) (by omega)]; go_simp
    have f1 : w4.frozen? ⟨w.heap.size, 1, none⟩ = false := by
      rw [hb4.frozen (p := ⟨w.heap.size, 1, none⟩) hlz, only_frozen HG3.out (by simp) (by omega)]; go_simp
    have HG4 := hid hg4
    have HS4 := hid hs4
    clear hg4 hs4 hsm
    go_wp2
    refine bodyPost_ret (v := .agg #[.int .i64 X, .int .i64 Y]) (by simp [results, Try.results99, go_sem, c0, c1]) rfl ?_
    exact ⟨X, Y, _, _, rfl, HSM.out, by omega, by omega, src_set (src_set HS4.out (by omega) _) (by omega) _, only_set (only_set HG4.out (by omega) _) (by omega) _⟩

end Go.Proofs.Ytjijabfamjhdjaa
