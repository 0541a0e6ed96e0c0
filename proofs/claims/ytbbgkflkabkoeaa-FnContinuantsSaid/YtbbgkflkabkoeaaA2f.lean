/- Contract: three drawn fractions; the laws' own small helpers. -/
import Derived.Test.YtbbgkflkabkoeaaDrw
import Derived.Test.YtbbgkflkabkoeaaLv
import Derived.Test.YtbbgkflkabkoeaaAr6
import Derived.OpenShut
namespace Go.Proofs.Ytbbgkflkabkoeaa
open Go.RowKit

/-- The bytes of an argument. -/
def ByI (w : World) (ca : Option Addr) (len : Nat) : Prop :=
  len = 0 ∨ ∃ (c off : Nat) (zs : Nat → Int), ca = some ⟨c, off, none⟩ ∧ ∀ i, i < len → w.cell? ⟨c, off + i, none⟩ = some (.int .u8 (zs i)) ∧ 0 ≤ zs i ∧ zs i ≤ 255

theorem byi_bys {a w : World} {ca : Option Addr} {len : Nat} (h : ByI a ca len) {b : Nat} (hB : a.heap.size ≤ b) (hb : Below a.heap.size a w) : Bys w b ca len := by
  rcases h with h | ⟨c, off, zs, hc, hz⟩
  · exact .inl h
  · by_cases h0 : len = 0
    · exact .inl h0
    · have hlt := World.block_lt_of_cell? _ _ (hz 0 (by omega)).1
      simp only at hlt
      refine .inr ⟨c, off, zs, hc, by omega, fun i hi => ?_⟩
      obtain ⟨h1, h2, h3⟩ := hz i hi
      exact ⟨(hb.cell (p := ⟨c, off + i, none⟩) hlt).trans h1, h2, h3⟩
theorem byi_below {a w : World} {ca : Option Addr} {len : Nat} (h : ByI a ca len) (hb : Below a.heap.size a w) : ByI w ca len := by
  rcases h with h | ⟨c, off, zs, hc, hz⟩
  · exact .inl h
  · refine .inr ⟨c, off, zs, hc, fun i hi => ?_⟩
    obtain ⟨h1, h2, h3⟩ := hz i hi
    have hlt := World.block_lt_of_cell? _ _ h1
    exact ⟨(hb.cell (p := ⟨c, off + i, none⟩) hlt).trans h1, h2, h3⟩

theorem specFrom (ca : Option Addr) (len cap : Nat) (w : World) :
    Calls Try.prog 45 #[.slice ca len cap] w fun e w' => e = .returned (.pointer (some ⟨w.heap.size, 0, none⟩)) ∧ w' = w.alloc (.cells #[.slice ca len cap, .int .i64 0, .int .u64 0] 74) := by
  go_enter Try.func45, Try.ntmps45
  go_wp2
  go_ret
  exact ⟨rfl, rfl⟩

theorem src_new (ca : Option Addr) (len cap : Nat) (w : World) (t : TypeId) : Src (w.alloc (.cells #[.slice ca len cap, .int .i64 0, .int .u64 0] t)) w.heap.size ca len cap 0 0 := by
  refine ⟨?_, ?_, ?_, ?_, ?_, ?_⟩ <;> go_simp

def Zr (w : World) (p : Nat) : Prop := w.cell? ⟨p, 0, none⟩ = some (.int .i64 0) ∧ w.cell? ⟨p, 1, none⟩ = some (.int .i64 0) ∧ w.frozen? ⟨p, 0, none⟩ = false ∧ w.frozen? ⟨p, 1, none⟩ = false
def Tw (w : World) (p : Nat) (x y : Int) : Prop := w.cell? ⟨p, 0, none⟩ = some (.int .i64 x) ∧ w.cell? ⟨p, 1, none⟩ = some (.int .i64 y)
theorem zr_only {a w : World} {g p : Nat} (h : a.grownBy w (some g)) (hp : p < a.heap.size) (hn : p ≠ g) (z : Zr a p) : Zr w p :=
  ⟨(only_cell h hp hn).trans z.1, (only_cell h hp hn).trans z.2.1, (only_frozen h hp hn).trans z.2.2.1, (only_frozen h hp hn).trans z.2.2.2⟩
theorem tw_only {a w : World} {g p : Nat} {x y : Int} (h : a.grownBy w (some g)) (hp : p < a.heap.size) (hn : p ≠ g) (z : Tw a p x y) : Tw w p x y :=
  ⟨(only_cell h hp hn).trans z.1, (only_cell h hp hn).trans z.2⟩
theorem four_of {w : World} {p q : Nat} {a b c d : Int} (h : Tw w p a b) (k : Tw w q c d) :
    w.cell? ⟨p, 0, none⟩ = some (.int .i64 a) ∧ w.cell? ⟨p, 1, none⟩ = some (.int .i64 b) ∧ w.cell? ⟨q, 0, none⟩ = some (.int .i64 c) ∧ w.cell? ⟨q, 1, none⟩ = some (.int .i64 d) := ⟨h.1, h.2, k.1, k.2⟩
theorem tw_new (w : World) (t : TypeId) (x y : Int) : Tw (w.alloc (.cells #[.int .i64 x, .int .i64 y] t)) w.heap.size x y := two_new w t _ _
theorem only_new (w : World) (o : Obj) (g : Nat) : w.grownBy (w.alloc o) (some g) := only_below ((Below.refl _ _).alloc (Nat.le_refl _) _) g
theorem src_on {a : World} {b : Nat} {ca : Option Addr} {len cap k : Nat} {z : Int} (o : Obj) (hs : Src a b ca len cap k z) : Src (a.alloc o) b ca len cap k z :=
  src_only (src_lt hs) ((Below.refl _ _).alloc (Nat.le_refl _) _) hs

def A2Post (w : World) (e : Ending) (w' : World) : Prop :=
  ∃ n1 d1 n2 d2 n3 d3 : Int, e = .returned (.tuple #[.agg #[.int .i64 n1, .int .i64 d1], .agg #[.int .i64 n2, .int .i64 d2], .agg #[.int .i64 n3, .int .i64 d3]]) ∧ Sml n1 d1 300 ∧ Sml n2 d2 300 ∧ Sml n3 d3 300 ∧ Below w.heap.size w w'

set_option maxHeartbeats 800000 in
theorem a2Fractions (ca : Option Addr) (len cap : Nat) (w : World) (hb : ByI w ca len) (hl : len ≤ 3000) :
    Calls Try.prog 15 #[.slice ca len cap] w (A2Post w) := by
  go_enter Try.func15, Try.ntmps15
  go_wp2_with (fail)
  refine (specFrom _ _ _ _).mono ?_
  rintro e W0 ⟨rfl, rfl⟩
  obtain ⟨V, hV⟩ : ∃ V : World, V = ((((w.alloc (.cells #[.int .i64 0, .int .i64 0] 25)).alloc (.cells #[.int .i64 0, .int .i64 0] 25)).alloc (.cells #[.int .i64 0, .int .i64 0] 25)).alloc (.cells #[.slice ca len cap, .int .i64 0, .int .u64 0] 74)) := ⟨_, rfl⟩
  have eV : Below w.heap.size w V := by rw [hV]; exact (alloc3 _ _ _ _).alloc (by simp; omega) _
  have HE := hid eV
  have HS := hid (show Src V (w.heap.size + 1 + 1 + 1) ca len cap 0 0 by rw [hV]; simpa using src_new ca len cap (((w.alloc (.cells #[.int .i64 0, .int .i64 0] 25)).alloc (.cells #[.int .i64 0, .int .i64 0] 25)).alloc (.cells #[.int .i64 0, .int .i64 0] 25)) 74)
  have HB := hid (byi_bys hb (b := w.heap.size + 1 + 1 + 1) (by omega) eV)
  have Z1 := hid (show Zr V w.heap.size by rw [hV]; refine ⟨?_, ?_, ?_, ?_⟩ <;> go_simp)
  have Z2 := hid (show Zr V (w.heap.size + 1) by rw [hV]; refine ⟨?_, ?_, ?_, ?_⟩ <;> go_simp)
  have Z3 := hid (show Zr V (w.heap.size + 1 + 1) by rw [hV]; refine ⟨?_, ?_, ?_, ?_⟩ <;> go_simp)
  have hz0 : w.heap.size + 1 + 1 + 1 < V.heap.size := by rw [hV]; simp
  rw [← hV]
  clear hV hb eV
  go_wp2_with (fail)
  refine (specDraw (w.heap.size + 1 + 1 + 1) ca len cap 0 0 300 _ HS.out HB.out (by omega) hl (by omega) (by omega)).mono ?_
  rintro e w1 ⟨n1, d1, z1, k1, rfl, s1, p1, p2, S1, g1⟩
  have hz1 := g1.size
  have M1 := hid s1
  have HS1 := hid (src_on (.cells #[.int .i64 n1, .int .i64 d1] 25) S1)
  have HB1 := hid (bys_only (only_new w1 (.cells #[.int .i64 n1, .int .i64 d1] 25) _) (bys_only g1 HB.out))
  have HG1 := hid (only_trans g1 (only_new w1 (.cells #[.int .i64 n1, .int .i64 d1] 25) _))
  clear S1 g1 s1
  go_wp2_with (fail)
  refine (specDraw (w.heap.size + 1 + 1 + 1) ca len cap k1 z1 300 _ HS1.out HB1.out (by omega) hl (by omega) (by omega)).mono ?_
  rintro e w2 ⟨n2, d2, z2, k2, rfl, s2, p3, p4, S2, g2⟩
  have hz2 : w1.heap.size < w2.heap.size := by have := g2.size; simp at this; omega
  have M2 := hid s2
  have HS2 := hid (src_on (.cells #[.int .i64 n2, .int .i64 d2] 25) S2)
  have HB2 := hid (bys_only (only_new w2 (.cells #[.int .i64 n2, .int .i64 d2] 25) _) (bys_only g2 HB1.out))
  have HG2 := hid (only_trans g2 (only_new w2 (.cells #[.int .i64 n2, .int .i64 d2] 25) _))
  have HT1 := hid (tw_only HG2.out (by simp) (by omega) (tw_new w1 25 n1 d1))
  have HT2 := hid (tw_new w2 25 n2 d2)
  have HG := hid (only_trans HG1.out HG2.out)
  clear S2 g2 s2
  obtain ⟨t1, t2⟩ := HT1.out
  obtain ⟨t3, t4⟩ := HT2.out
  have hz3 : w2.heap.size < (w2.alloc (.cells #[.int .i64 n2, .int .i64 d2] 25)).heap.size := by simp
  have hzz : V.heap.size ≤ (w2.alloc (.cells #[.int .i64 n2, .int .i64 d2] 25)).heap.size := HG.out.size
  go_wp2_with (fail)
  generalize w2.alloc (.cells #[.int .i64 n2, .int .i64 d2] 25) = U at *
  have i1 : w.heap.size ≠ w1.heap.size := by omega
  have i2 : w.heap.size + 1 ≠ w1.heap.size := by omega
  have i3 : w.heap.size + 1 + 1 ≠ w1.heap.size := by omega
  have i4 : w.heap.size ≠ w2.heap.size := by omega
  have i5 : w.heap.size + 1 ≠ w2.heap.size := by omega
  have i6 : w.heap.size + 1 + 1 ≠ w2.heap.size := by omega
  go_region_held3 (fun w' => w'.cell? ⟨w1.heap.size, 0, none⟩ = some (.int .i64 n1) ∧ w'.cell? ⟨w1.heap.size, 1, none⟩ = some (.int .i64 d1) ∧ w'.cell? ⟨w2.heap.size, 0, none⟩ = some (.int .i64 n2) ∧ w'.cell? ⟨w2.heap.size, 1, none⟩ = some (.int .i64 d2))
    (first | (with_reducible exact ks) | go_keep | (refine ⟨?_, ?_, ?_, ?_⟩ <;> go_keep))
    (first | (go_at_call 46; refine (specDraw (w.heap.size + 1 + 1 + 1) ca len cap k2 z2 300 _ (by exact HS2.out) (by exact HB2.out) (by omega) hl (by omega) (by omega)).mono ?_; rintro e w3 ⟨n3, d3, z3, k3, rfl, s3, p5, p6, S3, g3⟩; have g4 : U.grownBy w3 (some (w.heap.size + 1 + 1 + 1)) := ⟨g3.os, g3.tape, g3.output, g3.size, g3.block⟩; have hz4 := g4.size; have Y1 := tw_only g4 (p := w1.heap.size) (by omega) (by omega) HT1.out; have Y2 := tw_only g4 (p := w2.heap.size) (by omega) (by omega) HT2.out; have ks := four_of Y1 Y2; have X1 := zr_only g4 (p := w.heap.size) (by omega) (by omega) (zr_only HG.out (by omega) (by omega) Z1.out); have X2 := zr_only g4 (p := w.heap.size + 1) (by omega) (by omega) (zr_only HG.out (by omega) (by omega) Z2.out); have X3 := zr_only g4 (p := w.heap.size + 1 + 1) (by omega) (by omega) (zr_only HG.out (by omega) (by omega) Z3.out); have G3 := hid g4; have M3 := hid s3; clear g3 g4 s3 S3; obtain ⟨x1, x2, x3, x4⟩ := X1; obtain ⟨x5, x6, x7, x8⟩ := X2; obtain ⟨x9, x10, x11, x12⟩ := X3))
  go_wp2
  refine bodyPost_ret (v := .tuple #[.agg #[.int .i64 n1, .int .i64 d1], .agg #[.int .i64 n2, .int .i64 d2], .agg #[.int .i64 n3, .int .i64 d3]]) (by simp [results, Try.results15, go_sem, x1, x2, x5, x6, x9, x10]) rfl ?_
  refine ⟨n1, d1, n2, d2, n3, d3, rfl, M1.out, M2.out, M3.out, ?_⟩
  have b3 : Below w.heap.size w w3 := (HE.out.grown HG.out (by omega) (fun k hk => by injection hk; omega)).grown G3.out (by omega) (fun k hk => by injection hk; omega)
  exact below_set (below_set (below_set (below_set (below_set (below_set b3 (by omega) _) (by omega) _) (by omega) _) (by omega) _) (by omega) _) (by omega) _

/-- Neither of two slices is long. -/
theorem a2Long (ca cb : Option Addr) (la pa lb pb : Nat) (w : World) :
    Calls Try.prog 14 #[.slice ca la pa, .slice cb lb pb] w fun e w' => e = .returned (.bool (decide (3000 < la ∨ 3000 < lb))) ∧ w = w' := by
  by_cases h1 : 3000 < la
  · rw [show decide (3000 < la ∨ 3000 < lb) = true by simp [h1]]
    have h : (3000 : Int) < (la : Int) := by omega
    go_enter Try.func14, Try.ntmps14
    go_wp2
    go_ret
    exact ⟨rfl, rfl⟩
  · by_cases h2 : 3000 < lb
    · rw [show decide (3000 < la ∨ 3000 < lb) = true by simp [h2]]
      have h : ¬ (3000 : Int) < (la : Int) := by omega
      have h' : (3000 : Int) < (lb : Int) := by omega
      go_enter Try.func14, Try.ntmps14
      go_wp2
      go_ret
      exact ⟨rfl, rfl⟩
    · rw [show decide (3000 < la ∨ 3000 < lb) = false by simp; omega]
      have h : ¬ (3000 : Int) < (la : Int) := by omega
      have h' : ¬ (3000 : Int) < (lb : Int) := by omega
      go_enter Try.func14, Try.ntmps14
      go_wp2
      go_ret
      exact ⟨rfl, rfl⟩

def AtPost (w : World) (n : Int) (e : Ending) (w' : World) : Prop := ∃ r : Int, e = .returned (.int .i64 r) ∧ 0 ≤ r ∧ (r < n ∨ r = 0) ∧ w = w'

theorem add_plain (b off i : Nat) : Addr.add ⟨b, off, none⟩ i = ⟨b, off + i, none⟩ := by
  unfold Addr.add; split <;> simp_all

/-- The bytes of an argument that was opened. -/
theorem byi_row {w : World} {x : Addr} {len : Nat} {zs : List Int} (hl : len ≤ zs.length) (hc : ∀ i, i < zs.length → w.cell? (x.add i) = some (.int .u8 (zs.getD i 0))) (hw : ∀ n ∈ zs, (Lit.int .u8 n).wf = true) : ByI w (some x) len := by
  by_cases h0 : len = 0
  · exact .inl h0
  · obtain ⟨b, off, spot⟩ := x
    have h1 := hc 0 (by omega)
    have hspot : spot = none := by simpa [Addr.add] using World.cell?_spot h1
    subst hspot
    refine .inr ⟨b, off, fun i => zs.getD i 0, rfl, fun i hi => ⟨by have h := hc i (by omega); rw [add_plain] at h; exact h, ?_⟩⟩
    have hlt : i < zs.length := by omega
    have hm : zs.getD i 0 ∈ zs := by
      rw [List.getD_eq_getElem?_getD, List.getElem?_eq_getElem hlt]; exact List.getElem_mem _
    exact bounds_u8 (hw _ hm)

end Go.Proofs.Ytbbgkflkabkoeaa
