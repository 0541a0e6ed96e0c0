/- Contract: the draw of a fraction that is seldom not plain. -/
import Derived.Test.YtjijabfamjhdjaaDrs
import Derived.Test.YtjijabfamjhdjaaCvt
namespace Go.Proofs.Ytjijabfamjhdjaa
open Go.RowKit

theorem st_blk {w : World} {b : Nat} {ca : Option Addr} {len cap K : Nat} (h : St w b ca len cap K) : ∀ c off, ca = some ⟨c, off, none⟩ → 0 < len → c < w.heap.size := by
  rintro c off rfl h0
  obtain ⟨_, _, _, _, hy⟩ := h
  rcases hy with hy | ⟨c', off', zs, h1, h2, h3⟩
  · omega
  · obtain ⟨h4, _⟩ := h3 0 h0
    have := World.block_lt_of_cell? _ _ h4
    simp only [Option.some.injEq, Addr.mk.injEq] at h1
    rw [h1.1]; exact this
theorem st_fset {a w : World} {b : Nat} {ca : Option Addr} {len cap K L : Nat} (h0 : St a b ca len cap L) (h : St w b ca len cap K) {p : Nat} (hp : a.heap.size ≤ p) (o : Nat) (u : Value) : St (w.setCell ⟨p, o, none⟩ u) b ca len cap K :=
  st_set h (by have := st_lt h0; omega) (fun c off e hl => by have := st_blk h0 c off e hl; omega) u
theorem fb_only {a w : World} {g p : Nat} {x y : Int} (h : a.grownBy w (some g)) (hn : p ≠ g) (z : FB a p x y) : FB w p x y :=
  (h.block p (fb_lt z) (fun e => hn (by injection e))).trans z
theorem beq_no {a c : Int} (h : ¬ a = c) : (a == c) = false := by simpa using h
/-- Two cells of another block are as they were. -/
theorem other_set {w : World} {p q o : Nat} (h : p ≠ q) (u : Value) (i : Nat) : (w.setCell ⟨p, o, none⟩ u).cell? ⟨q, i, none⟩ = w.cell? ⟨q, i, none⟩ := World.cell?_setCell_other _ _ _ _ (by first | (simp; done) | (simp; intro e; exact absurd e.symm h))

set_option maxRecDepth 100000 in
set_option maxHeartbeats 3200000 in
theorem bentF (b : Nat) (ca : Option Addr) (len cap K : Nat) (w : World) (hs : St w b ca len cap K) (hk : K < 900000) (hl : len ≤ 5000) :
    Calls Try.prog 80 #[.pointer (some ⟨b, 0, none⟩)] w fun e w' => ∃ n d : Int, e = .returned (.agg #[.int .i64 n, .int .i64 d]) ∧ St w' b ca len cap (K + 20) ∧ w.grownBy w' (some b) := by
  have HS := hid hs
  have hbl := st_lt hs
  obtain ⟨W0, hW0⟩ : ∃ W0, W0 = w.alloc (.cells #[.int .i64 0, .int .i64 0] 25) := ⟨_, rfl⟩
  have A0 : Below w.heap.size w W0 := by rw [hW0]; exact (Below.refl _ _).alloc (Nat.le_refl _) _
  have F0 := hid (show FB W0 w.heap.size 0 0 by rw [hW0]; exact fb_new w 0 0)
  have hz0 : w.heap.size < W0.heap.size := by rw [hW0]; simp
  have S0 := hid (st_below hs A0)
  have G0 := hid (only_below A0 b)
  have D := hid (drawS b ca len cap K 300 W0 S0.out (by omega) hl (by omega) (by omega))
  clear hs A0
  go_enter Try.func80, Try.ntmps80
  go_wp2_with (fail)
  try rw [← hW0]
  clear hW0
  refine D.out.mono ?_
  rintro e w1 ⟨n, d, rfl, _, s1, g1⟩
  have hz1 := g1.size
  have A2 : Below w1.heap.size w1 (w1.alloc (.cells #[.int .i64 n, .int .i64 d] 25)) := (Below.refl _ _).alloc (Nat.le_refl _) _
  have G2 := hid (only_trans (only_trans G0.out g1) (only_below A2 b))
  have F2 := hid (fb_below (fb_only g1 (by omega) F0.out) A2)
  have E2 := hid (fb_new w1 n d)
  have P2 := hid (pickS b ca len cap (K + 8) 20 _ (st_below s1 A2) (by omega) hl (by omega) (by omega))
  have hzf : (w1.alloc (.cells #[.int .i64 n, .int .i64 d] 25)).heap.size = w1.heap.size + 1 := by simp
  clear s1 g1 A2 D S0 F0 G0
  go_wp2_with (fail)
  refine P2.out.mono ?_
  rintro e w3 ⟨r, rfl, p1, p2, s3, g3⟩
  have hz3 := g3.size
  rw [hzf] at hz3
  have F3 := hid (fb_only g3 (by omega) F2.out)
  have E3 := hid (fb_only g3 (by omega) E2.out)
  have G3 := hid (only_trans G2.out g3)
  have S3 := hid s3
  clear s3 g3 P2 F2 E2 G2 hzf
  obtain ⟨res, hres⟩ : ∃ res, res = w.heap.size := ⟨_, rfl⟩
  obtain ⟨fb, hfb⟩ : ∃ fb, fb = w1.heap.size := ⟨_, rfl⟩
  try rw [← hfb]
  try rw [← hfb] at E3
  have HF := hid (show w.heap.size < fb ∧ fb < w3.heap.size ∧ b < w.heap.size by omega)
  clear hfb hz0 hz1 hz3 hres res hbl
  by_cases c0 : r = 0
  · have d0 : (r == 0) = true := by simpa using c0
    have Q := hid (amongL b ca len cap (K + 10) 5 [-1000000001, -1000000000, 1000000000, 1000000001, -9223372036854775808] 2 w3 rfl S3.out (by decide) (by decide) (by omega) hl)
    clear c0
    go_wp2_with (fail)
    refine Q.out.mono ?_
    rintro e w4 ⟨v, rfl, s4, g4⟩
    have F4 := hid (fb_only g4 (by have := HF.out; omega) F3.out)
    have E4 := hid (fb_only g4 (by have := HF.out; omega) E3.out)
    have G4 := hid (only_trans G3.out g4)
    have S4 := hid (st_more s4 (show K + 10 + 2 ≤ K + 20 by omega))
    clear s4 g4 Q
    obtain ⟨q0, q1, q2, q3, q4⟩ := fb_cells F4.out
    obtain ⟨k0, k1, k2, k3, k4⟩ := fb_cells E4.out
    have hne : w.heap.size ≠ fb := by have := HF.out; omega
    have hnf : fb ≠ w.heap.size := by have := HF.out; omega
    go_wp2_with (fail)
    obtain ⟨r0, r1⟩ := set_read (x := .int .i64 v) (y := .int .i64 d) ((other_set (o := 0) hnf (.int .i64 v) 0).trans q0) ((other_set (o := 0) hnf (.int .i64 v) 1).trans q1)
    refine bodyPost_ret (v := .agg #[.int .i64 v, .int .i64 d]) (by simp [results, Try.results80, go_sem, r0, r1]) rfl ⟨_, _, rfl, st_fset HS.out (st_fset HS.out (st_fset HS.out S4.out (Nat.le_of_lt HF.out.1) _ _) (Nat.le_refl _) _ _) (Nat.le_refl _) _ _, only_set (only_set (only_set G4.out (Nat.le_of_lt HF.out.1) _) (Nat.le_refl _) _) (Nat.le_refl _) _⟩
  have d0 : (r == 0) = false := beq_no c0
  clear c0
  by_cases c1 : r = 1
  · have d1 : (r == 1) = true := by simpa using c1
    have Q := hid (amongL b ca len cap (K + 10) 6 [-1, 0, 1, 1000000000, 1000000001, 9223372036854775807] 2 w3 rfl S3.out (by decide) (by decide) (by omega) hl)
    clear c1
    go_wp2_with (fail)
    refine Q.out.mono ?_
    rintro e w4 ⟨v, rfl, s4, g4⟩
    have F4 := hid (fb_only g4 (by have := HF.out; omega) F3.out)
    have E4 := hid (fb_only g4 (by have := HF.out; omega) E3.out)
    have G4 := hid (only_trans G3.out g4)
    have S4 := hid (st_more s4 (show K + 10 + 2 ≤ K + 20 by omega))
    clear s4 g4 Q
    obtain ⟨q0, q1, q2, q3, q4⟩ := fb_cells F4.out
    obtain ⟨k0, k1, k2, k3, k4⟩ := fb_cells E4.out
    have hne : w.heap.size ≠ fb := by have := HF.out; omega
    have hnf : fb ≠ w.heap.size := by have := HF.out; omega
    go_wp2_with (fail)
    obtain ⟨r0, r1⟩ := set_read (x := .int .i64 n) (y := .int .i64 v) ((other_set (o := 1) hnf (.int .i64 v) 0).trans q0) ((other_set (o := 1) hnf (.int .i64 v) 1).trans q1)
    refine bodyPost_ret (v := .agg #[.int .i64 n, .int .i64 v]) (by simp [results, Try.results80, go_sem, r0, r1]) rfl ⟨_, _, rfl, st_fset HS.out (st_fset HS.out (st_fset HS.out S4.out (Nat.le_of_lt HF.out.1) _ _) (Nat.le_refl _) _ _) (Nat.le_refl _) _ _, only_set (only_set (only_set G4.out (Nat.le_of_lt HF.out.1) _) (Nat.le_refl _) _) (Nat.le_refl _) _⟩
  have d1 : (r == 1) = false := beq_no c1
  clear c1
  by_cases c2 : r = 2
  · have d2 : (r == 2) = true := by simpa using c2
    clear c2
    obtain ⟨q0, q1, q2, q3, q4⟩ := fb_cells F3.out
    obtain ⟨k0, k1, k2, k3, k4⟩ := fb_cells E3.out
    have hne : w.heap.size ≠ fb := by have := HF.out; omega
    have hnf : fb ≠ w.heap.size := by have := HF.out; omega
    go_wp2_with (fail)
    obtain ⟨r0, r1⟩ := set_read (x := .int .i64 2) (y := .int .i64 4) q0 q1
    refine bodyPost_ret (v := .agg #[.int .i64 2, .int .i64 4]) (by simp [results, Try.results80, go_sem, r0, r1]) rfl ⟨_, _, rfl, st_fset HS.out (st_fset HS.out (st_more S3.out (show K + 10 ≤ K + 20 by omega)) (Nat.le_refl _) _ _) (Nat.le_refl _) _ _, only_set (only_set (G3.out) (Nat.le_refl _) _) (Nat.le_refl _) _⟩
  have d2 : (r == 2) = false := beq_no c2
  clear c2
  by_cases c3 : r = 3
  · have d3 : (r == 3) = true := by simpa using c3
    have Q := hid (pickS b ca len cap (K + 10) 5 w3 S3.out (by omega) hl (by omega) (by omega))
    clear c3
    go_wp2_with (fail)
    refine Q.out.mono ?_
    rintro e w4 ⟨u, rfl, u1, u2, s4, g4⟩
    have u3 : u < 5 := by omega
    have F4 := hid (fb_only g4 (by have := HF.out; omega) F3.out)
    have E4 := hid (fb_only g4 (by have := HF.out; omega) E3.out)
    have G4 := hid (only_trans G3.out g4)
    have Q2 := hid (pickS b ca len cap (K + 12) 5 w4 s4 (by omega) hl (by omega) (by omega))
    clear s4 g4 Q u2
    go_wp2_with (fail)
    refine Q2.out.mono ?_
    rintro e w5 ⟨t, rfl, t1, t2, s5, g5⟩
    have t3 : t < 5 := by omega
    have F5 := hid (fb_only g5 (by have := HF.out; omega) F4.out)
    have E5 := hid (fb_only g5 (by have := HF.out; omega) E4.out)
    have G5 := hid (only_trans G4.out g5)
    have S5 := hid s5
    clear s5 g5 Q2 t2
    go_wp2_with (fail)
    refine (specMake _ _ _ (by omega) (by omega) (by omega) (by omega)).mono ?_
    rintro e w6 ⟨rfl, b6⟩
    have F6 := hid (fb_below F5.out b6)
    have E6 := hid (fb_below E5.out b6)
    have G6 := hid (only_trans G5.out (only_below b6 b))
    have S6 := hid (st_more (st_below S5.out b6) (show K + 14 ≤ K + 20 by omega))
    clear b6
    generalize lowN (1000000000 - u) (1000000000 - t) = X at *
    generalize lowD (1000000000 - u) (1000000000 - t) = Y at *
    obtain ⟨q0, q1, q2, q3, q4⟩ := fb_cells F6.out
    obtain ⟨k0, k1, k2, k3, k4⟩ := fb_cells E6.out
    have hne : w.heap.size ≠ fb := by have := HF.out; omega
    have hnf : fb ≠ w.heap.size := by have := HF.out; omega
    go_wp2_with (fail)
    obtain ⟨r0, r1⟩ := set_read (x := .int .i64 X) (y := .int .i64 Y) ((other_set (o := 1) hnf (.int .i64 Y) 0).trans ((other_set (o := 0) hnf (.int .i64 X) 0).trans q0)) ((other_set (o := 1) hnf (.int .i64 Y) 1).trans ((other_set (o := 0) hnf (.int .i64 X) 1).trans q1))
    refine bodyPost_ret (v := .agg #[.int .i64 X, .int .i64 Y]) (by simp [results, Try.results80, go_sem, r0, r1]) rfl ⟨_, _, rfl, st_fset HS.out (st_fset HS.out (st_fset HS.out (st_fset HS.out S6.out (Nat.le_of_lt HF.out.1) _ _) (Nat.le_of_lt HF.out.1) _ _) (Nat.le_refl _) _ _) (Nat.le_refl _) _ _, only_set (only_set (only_set (only_set G6.out (Nat.le_of_lt HF.out.1) _) (Nat.le_of_lt HF.out.1) _) (Nat.le_refl _) _) (Nat.le_refl _) _⟩
  have d3 : (r == 3) = false := beq_no c3
  clear c3
  obtain ⟨q0, q1, q2, q3, q4⟩ := fb_cells F3.out
  obtain ⟨k0, k1, k2, k3, k4⟩ := fb_cells E3.out
  have hne : w.heap.size ≠ fb := by have := HF.out; omega
  have hnf : fb ≠ w.heap.size := by have := HF.out; omega
  go_wp2_with (fail)
  obtain ⟨r0, r1⟩ := set_read (x := .int .i64 n) (y := .int .i64 d) q0 q1
  refine bodyPost_ret (v := .agg #[.int .i64 n, .int .i64 d]) (by simp [results, Try.results80, go_sem, r0, r1]) rfl ⟨_, _, rfl, st_fset HS.out (st_fset HS.out (st_more S3.out (show K + 10 ≤ K + 20 by omega)) (Nat.le_refl _) _ _) (Nat.le_refl _) _ _, only_set (only_set (G3.out) (Nat.le_refl _) _) (Nat.le_refl _) _⟩

end Go.Proofs.Ytjijabfamjhdjaa
