/- Merged: Drs, Bnt, D5f, D5a, D5p, D5w, D5q, F6t. -/
import Derived.Test.YtjijabfamjhdjaaA2f
import Derived.Test.YtjijabfamjhdjaaVt
import Derived.Test.YtjijabfamjhdjaaFbf
import Derived.Test.YtjijabfamjhdjaaCvt
import Derived.Test.YtjijabfamjhdjaaPar
import Derived.Test.YtjijabfamjhdjaaSmp
import Derived.Test.YtjijabfamjhdjaaLi
import Derived.BigQuiet
import Derived.Laws.StructEq
/-! Contracts of draws: the source as one state; a choice among numbers, a kind, a fraction. -/
namespace Go.Proofs.Ytjijabfamjhdjaa
open Go.RowKit

/-- The source, at most K bytes read. -/
def St (w : World) (b : Nat) (ca : Option Addr) (len cap K : Nat) : Prop := ∃ (k : Nat) (z : Int), k ≤ K ∧ Src w b ca len cap k z ∧ Bys w b ca len
theorem st_lt {w : World} {b : Nat} {ca : Option Addr} {len cap K : Nat} (h : St w b ca len cap K) : b < w.heap.size := by obtain ⟨_, _, _, hs, _⟩ := h; exact src_lt hs
theorem st_below {a w : World} {b : Nat} {ca : Option Addr} {len cap K : Nat} (h : St a b ca len cap K) (hb : Below a.heap.size a w) : St w b ca len cap K := by
  obtain ⟨k, z, hk, hs, hy⟩ := h
  exact ⟨k, z, hk, src_only (src_lt hs) hb hs, bys_only (only_below hb b) hy⟩
theorem st_more {w : World} {b : Nat} {ca : Option Addr} {len cap K L : Nat} (h : St w b ca len cap K) (hl : K ≤ L) : St w b ca len cap L := by
  obtain ⟨k, z, hk, hs, hy⟩ := h
  exact ⟨k, z, by omega, hs, hy⟩
theorem st_set {w : World} {b p o : Nat} {ca : Option Addr} {len cap K : Nat} (h : St w b ca len cap K) (hp : b ≠ p) (hc : ∀ c off, ca = some ⟨c, off, none⟩ → 0 < len → c ≠ p) (u : Value) : St (w.setCell ⟨p, o, none⟩ u) b ca len cap K := by
  obtain ⟨k, z, hk, hs, hy⟩ := h
  refine ⟨k, z, hk, src_set hs hp u, ?_⟩
  rcases hy with hy | ⟨c, off, zs, h1, h2, h3⟩
  · exact .inl hy
  · by_cases h0 : len = 0
    · exact .inl h0
    · refine .inr ⟨c, off, zs, h1, h2, fun i hi => ?_⟩
      obtain ⟨h4, h5⟩ := h3 i hi
      have hcp := hc c off h1 (by omega)
      exact ⟨by rw [World.cell?_setCell_other _ _ _ _ (by simp)]; exact h4, h5⟩
/-- The source of the bytes of an argument, new. -/
theorem st_new {w : World} {ca : Option Addr} {len cap : Nat} (hb : ByI w ca len) : St (w.alloc (.cells #[.slice ca len cap, .int .i64 0, .int .u64 0] 100)) w.heap.size ca len cap 0 :=
  ⟨0, 0, Nat.le_refl _, src_new ca len cap w _, byi_bys hb (Nat.le_refl _) ((Below.refl _ _).alloc (Nat.le_refl _) _)⟩

theorem pickS (b : Nat) (ca : Option Addr) (len cap K : Nat) (n : Int) (w : World) (hs : St w b ca len cap K) (hk : K < 1000000) (hl : len ≤ 5000) (h1 : -1000000000000 ≤ n) (h2 : n ≤ 1000000000000) :
    Calls Try.prog 81 #[.pointer (some ⟨b, 0, none⟩), .int .i64 n] w fun e w' => ∃ r : Int, e = .returned (.int .i64 r) ∧ 0 ≤ r ∧ (r < n ∨ r = 0) ∧ St w' b ca len cap (K + 2) ∧ w.grownBy w' (some b) := by
  obtain ⟨k, z, hkk, hs, hy⟩ := hs
  refine (srcPick b ca len cap k z n w hs hy (by omega) hl h1 h2).mono ?_
  rintro e w' ⟨r, z', k', rfl, a1, a2, a3, a4, S, g⟩
  exact ⟨r, rfl, a1, a2, ⟨k', z', by omega, S, bys_only g hy⟩, g⟩
theorem oneS (b : Nat) (ca : Option Addr) (len cap K : Nat) (n : Int) (w : World) (hs : St w b ca len cap K) (hk : K < 1000000) (hl : len ≤ 5000) (h1 : -1000000000000 ≤ n) (h2 : n ≤ 1000000000000) :
    Calls Try.prog 59 #[.pointer (some ⟨b, 0, none⟩), .int .i64 n] w fun e w' => ∃ r : Bool, e = .returned (.bool r) ∧ St w' b ca len cap (K + 2) ∧ w.grownBy w' (some b) := by
  obtain ⟨k, z, hkk, hs, hy⟩ := hs
  refine (srcOne b ca len cap k z n w hs hy (by omega) hl h1 h2).mono ?_
  rintro e w' ⟨r, z', k', rfl, a3, a4, S, g⟩
  exact ⟨r, rfl, ⟨k', z', by omega, S, bys_only g hy⟩, g⟩
theorem drawS (b : Nat) (ca : Option Addr) (len cap K : Nat) (M : Int) (w : World) (hs : St w b ca len cap K) (hk : K + 8 < 1000000) (hl : len ≤ 5000) (h1 : 1 ≤ M) (h2 : M ≤ 1000000) :
    Calls Try.prog 99 #[.pointer (some ⟨b, 0, none⟩), .int .i64 M] w fun e w' => ∃ n d : Int, e = .returned (.agg #[.int .i64 n, .int .i64 d]) ∧ Sml n d M ∧ St w' b ca len cap (K + 8) ∧ w.grownBy w' (some b) := by
  obtain ⟨k, z, hkk, hs, hy⟩ := hs
  refine (specDraw b ca len cap k z M w hs hy (by omega) hl h1 h2).mono ?_
  rintro e w' ⟨n, d, z', k', rfl, a2, a3, a4, S, g⟩
  exact ⟨n, d, rfl, a2, ⟨k', z', by omega, S, bys_only g hy⟩, g⟩

theorem amongS (b : Nat) (ca : Option Addr) (len cap K g n c : Nat) (xs : List Int) (w : World) (hn : n = xs.length) (hs : St w b ca len cap K) (ha : Ints w g 0 xs) (hg : g ≠ b) (h1 : 1 ≤ xs.length) (h9 : xs.length ≤ 1000) (hk : K < 1000000) (hl : len ≤ 5000) :
    Calls Try.prog 90 #[.pointer (some ⟨b, 0, none⟩), .slice (some ⟨g, 0, none⟩) n c] w fun e w' => ∃ v : Int, e = .returned (.int .i64 v) ∧ St w' b ca len cap (K + 2) ∧ w.grownBy w' (some b) := by
  subst hn
  have P := hid (pickS b ca len cap K xs.length w hs hk hl (by omega) (by omega))
  have HA := hid ha
  clear hs ha
  go_enter Try.func90, Try.ntmps90
  go_wp2_with (fail)
  refine P.out.mono ?_
  rintro e w1 ⟨r, rfl, p1, p2, S1, g1⟩
  have p3 : r < (xs.length : Int) := by omega
  obtain ⟨j, rfl⟩ := Int.eq_ofNat_of_zero_le p1
  obtain ⟨v, hv⟩ : ∃ v, xs[j]? = some v := ⟨_, List.getElem?_eq_getElem (by omega)⟩
  have hc := HA.out j v hv
  rw [Nat.zero_add] at hc
  have hlt : g < w.heap.size := World.block_lt_of_cell? _ _ hc
  have hc1 := (only_cell g1 hlt hg).trans hc
  have HS1 := hid S1
  have HG1 := hid g1
  clear S1 g1 hc hv p2 P HA
  go_wp2_with (fail)
  go_ret
  exact ⟨v, rfl, HS1.out, HG1.out⟩

theorem ints_lit (w : World) (xs : List Int) (t : TypeId) : Ints (w.alloc (.cells (xs.map (Value.int .i64)).toArray t)) w.heap.size 0 xs := fun j x hj => by
  unfold World.cell?
  rw [World.alloc_heap_new]
  simp [hj]
/-- A choice among numbers that are laid for it. -/
theorem amongL (b : Nat) (ca : Option Addr) (len cap K n : Nat) (xs : List Int) (t : TypeId) (w : World) (hn : n = xs.length) (hs : St w b ca len cap K) (h1 : 1 ≤ xs.length) (h9 : xs.length ≤ 1000) (hk : K < 1000000) (hl : len ≤ 5000) :
    Calls Try.prog 90 #[.pointer (some ⟨b, 0, none⟩), .slice (some ⟨w.heap.size, 0, none⟩) n n] (w.alloc (.cells (xs.map (Value.int .i64)).toArray t)) fun e w' => ∃ v : Int, e = .returned (.int .i64 v) ∧ St w' b ca len cap (K + 2) ∧ w.grownBy w' (some b) := by
  have hb := st_lt hs
  have A : Below w.heap.size w (w.alloc (.cells (xs.map (Value.int .i64)).toArray t)) := (Below.refl _ _).alloc (Nat.le_refl _) _
  refine (amongS b ca len cap K w.heap.size n n xs _ hn (st_below hs A) (ints_lit w xs t) (by omega) h1 h9 hk hl).mono ?_
  rintro e w' ⟨v, rfl, S, g⟩
  exact ⟨v, rfl, S, only_trans (only_below A b) g⟩

end Go.Proofs.Ytjijabfamjhdjaa

/-! Contract: the draw of a fraction that is seldom not plain. -/
namespace Go.Proofs.Ytjijabfamjhdjaa
open Go.RowKit

theorem st_blk {w : World} {b : Nat} {ca : Option Addr} {len cap K : Nat} (h : St w b ca len cap K) : ∀ c off, ca = some ⟨c, off, none⟩ → 0 < len → c < w.heap.size := by
  rintro c off rfl h0
  obtain ⟨_, _, _, _, hy⟩ := h
  rcases hy with hy | ⟨c', off', zs, h1, h2, h3⟩
  · omega
  · obtain ⟨h4, _⟩ := h3 0 h0
    have := World.block_lt_of_cell? _ _ h4
    simp only [Option.some.injEq, Addr.mk.injEq] at h1
    rw [h1.1]; exact this
theorem st_fset {a w : World} {b : Nat} {ca : Option Addr} {len cap K L : Nat} (h0 : St a b ca len cap L) (h : St w b ca len cap K) {p : Nat} (hp : a.heap.size ≤ p) (o : Nat) (u : Value) : St (w.setCell ⟨p, o, none⟩ u) b ca len cap K :=
  st_set h (by have := st_lt h0; omega) (fun c off e hl => by have := st_blk h0 c off e hl; omega) u
theorem fb_only {a w : World} {g p : Nat} {x y : Int} (h : a.grownBy w (some g)) (hn : p ≠ g) (z : FB a p x y) : FB w p x y :=
  (h.block p (fb_lt z) (fun e => hn (by injection e))).trans z
theorem beq_no {a c : Int} (h : ¬ a = c) : (a == c) = false := by simpa using h
/-- Two cells of another block are as they were. -/
theorem other_set {w : World} {p q o : Nat} (h : p ≠ q) (u : Value) (i : Nat) : (w.setCell ⟨p, o, none⟩ u).cell? ⟨q, i, none⟩ = w.cell? ⟨q, i, none⟩ := World.cell?_setCell_other _ _ _ _ (by first | (simp; done) | (simp; intro e; exact absurd e.symm h))

set_option maxRecDepth 100000 in
set_option maxHeartbeats 3200000 in
theorem bentF (b : Nat) (ca : Option Addr) (len cap K : Nat) (w : World) (hs : St w b ca len cap K) (hk : K < 900000) (hl : len ≤ 5000) :
    Calls Try.prog 80 #[.pointer (some ⟨b, 0, none⟩)] w fun e w' => ∃ n d : Int, e = .returned (.agg #[.int .i64 n, .int .i64 d]) ∧ St w' b ca len cap (K + 20) ∧ w.grownBy w' (some b) := by
  have HS := hid hs
  have hbl := st_lt hs
  obtain ⟨W0, hW0⟩ : ∃ W0, W0 = w.alloc (.cells #[.int .i64 0, .int .i64 0] 25) := ⟨_, rfl⟩
  have A0 : Below w.heap.size w W0 := by rw [hW0]; exact (Below.refl _ _).alloc (Nat.le_refl _) _
  have F0 := hid (show FB W0 w.heap.size 0 0 by rw [hW0]; exact fb_new w 0 0)
  have hz0 : w.heap.size < W0.heap.size := by rw [hW0]; simp
  have S0 := hid (st_below hs A0)
  have G0 := hid (only_below A0 b)
  have D := hid (drawS b ca len cap K 300 W0 S0.out (by omega) hl (by omega) (by omega))
  clear hs A0
  go_enter Try.func80, Try.ntmps80
  go_wp2_with (fail)
  try rw [← hW0]
  clear hW0
  refine D.out.mono ?_
  rintro e w1 ⟨n, d, rfl, _, s1, g1⟩
  have hz1 := g1.size
  have A2 : Below w1.heap.size w1 (w1.alloc (.cells #[.int .i64 n, .int .i64 d] 25)) := (Below.refl _ _).alloc (Nat.le_refl _) _
  have G2 := hid (only_trans (only_trans G0.out g1) (only_below A2 b))
  have F2 := hid (fb_below (fb_only g1 (by omega) F0.out) A2)
  have E2 := hid (fb_new w1 n d)
  have P2 := hid (pickS b ca len cap (K + 8) 20 _ (st_below s1 A2) (by omega) hl (by omega) (by omega))
  have hzf : (w1.alloc (.cells #[.int .i64 n, .int .i64 d] 25)).heap.size = w1.heap.size + 1 := by simp
  clear s1 g1 A2 D S0 F0 G0
  go_wp2_with (fail)
  refine P2.out.mono ?_
  rintro e w3 ⟨r, rfl, p1, p2, s3, g3⟩
  have hz3 := g3.size
  rw [hzf] at hz3
  have F3 := hid (fb_only g3 (by omega) F2.out)
  have E3 := hid (fb_only g3 (by omega) E2.out)
  have G3 := hid (only_trans G2.out g3)
  have S3 := hid s3
  clear s3 g3 P2 F2 E2 G2 hzf
  obtain ⟨res, hres⟩ : ∃ res, res = w.heap.size := ⟨_, rfl⟩
  obtain ⟨fb, hfb⟩ : ∃ fb, fb = w1.heap.size := ⟨_, rfl⟩
  try rw [← hfb]
  try rw [← hfb] at E3
  have HF := hid (show w.heap.size < fb ∧ fb < w3.heap.size ∧ b < w.heap.size by omega)
  clear hfb hz0 hz1 hz3 hres res hbl
  by_cases c0 : r = 0
  · have d0 : (r == 0) = true := by simpa using c0
    have Q := hid (amongL b ca len cap (K + 10) 5 [-1000000001, -1000000000, 1000000000, 1000000001, -9223372036854775808] 2 w3 rfl S3.out (by decide) (by decide) (by omega) hl)
    clear c0
    go_wp2_with (fail)
    refine Q.out.mono ?_
    rintro e w4 ⟨v, rfl, s4, g4⟩
    have F4 := hid (fb_only g4 (by have := HF.out; omega) F3.out)
    have E4 := hid (fb_only g4 (by have := HF.out; omega) E3.out)
    have G4 := hid (only_trans G3.out g4)
    have S4 := hid (st_more s4 (show K + 10 + 2 ≤ K + 20 by omega))
    clear s4 g4 Q
    obtain ⟨q0, q1, q2, q3, q4⟩ := fb_cells F4.out
    obtain ⟨k0, k1, k2, k3, k4⟩ := fb_cells E4.out
    have hne : w.heap.size ≠ fb := by have := HF.out; omega
    have hnf : fb ≠ w.heap.size := by have := HF.out; omega
    go_wp2_with (fail)
    obtain ⟨r0, r1⟩ := set_read (x := .int .i64 v) (y := .int .i64 d) ((other_set (o := 0) hnf (.int .i64 v) 0).trans q0) ((other_set (o := 0) hnf (.int .i64 v) 1).trans q1)
    refine bodyPost_ret (v := .agg #[.int .i64 v, .int .i64 d]) (by simp [results, Try.results80, go_sem, r0, r1]) rfl ⟨_, _, rfl, st_fset HS.out (st_fset HS.out (st_fset HS.out S4.out (Nat.le_of_lt HF.out.1) _ _) (Nat.le_refl _) _ _) (Nat.le_refl _) _ _, only_set (only_set (only_set G4.out (Nat.le_of_lt HF.out.1) _) (Nat.le_refl _) _) (Nat.le_refl _) _⟩
  have d0 : (r == 0) = false := beq_no c0
  clear c0
  by_cases c1 : r = 1
  · have d1 : (r == 1) = true := by simpa using c1
    have Q := hid (amongL b ca len cap (K + 10) 6 [-1, 0, 1, 1000000000, 1000000001, 9223372036854775807] 2 w3 rfl S3.out (by decide) (by decide) (by omega) hl)
    clear c1
    go_wp2_with (fail)
    refine Q.out.mono ?_
    rintro e w4 ⟨v, rfl, s4, g4⟩
    have F4 := hid (fb_only g4 (by have := HF.out; omega) F3.out)
    have E4 := hid (fb_only g4 (by have := HF.out; omega) E3.out)
    have G4 := hid (only_trans G3.out g4)
    have S4 := hid (st_more s4 (show K + 10 + 2 ≤ K + 20 by omega))
    clear s4 g4 Q
    obtain ⟨q0, q1, q2, q3, q4⟩ := fb_cells F4.out
    obtain ⟨k0, k1, k2, k3, k4⟩ := fb_cells E4.out
    have hne : w.heap.size ≠ fb := by have := HF.out; omega
    have hnf : fb ≠ w.heap.size := by have := HF.out; omega
    go_wp2_with (fail)
    obtain ⟨r0, r1⟩ := set_read (x := .int .i64 n) (y := .int .i64 v) ((other_set (o := 1) hnf (.int .i64 v) 0).trans q0) ((other_set (o := 1) hnf (.int .i64 v) 1).trans q1)
    refine bodyPost_ret (v := .agg #[.int .i64 n, .int .i64 v]) (by simp [results, Try.results80, go_sem, r0, r1]) rfl ⟨_, _, rfl, st_fset HS.out (st_fset HS.out (st_fset HS.out S4.out (Nat.le_of_lt HF.out.1) _ _) (Nat.le_refl _) _ _) (Nat.le_refl _) _ _, only_set (only_set (only_set G4.out (Nat.le_of_lt HF.out.1) _) (Nat.le_refl _) _) (Nat.le_refl _) _⟩
  have d1 : (r == 1) = false := beq_no c1
  clear c1
  by_cases c2 : r = 2
  · have d2 : (r == 2) = true := by simpa using c2
    clear c2
    obtain ⟨q0, q1, q2, q3, q4⟩ := fb_cells F3.out
    obtain ⟨k0, k1, k2, k3, k4⟩ := fb_cells E3.out
    have hne : w.heap.size ≠ fb := by have := HF.out; omega
    have hnf : fb ≠ w.heap.size := by have := HF.out; omega
    go_wp2_with (fail)
    obtain ⟨r0, r1⟩ := set_read (x := .int .i64 2) (y := .int .i64 4) q0 q1
    refine bodyPost_ret (v := .agg #[.int .i64 2, .int .i64 4]) (by simp [results, Try.results80, go_sem, r0, r1]) rfl ⟨_, _, rfl, st_fset HS.out (st_fset HS.out (st_more S3.out (show K + 10 ≤ K + 20 by omega)) (Nat.le_refl _) _ _) (Nat.le_refl _) _ _, only_set (only_set (G3.out) (Nat.le_refl _) _) (Nat.le_refl _) _⟩
  have d2 : (r == 2) = false := beq_no c2
  clear c2
  by_cases c3 : r = 3
  · have d3 : (r == 3) = true := by simpa using c3
    have Q := hid (pickS b ca len cap (K + 10) 5 w3 S3.out (by omega) hl (by omega) (by omega))
    clear c3
    go_wp2_with (fail)
    refine Q.out.mono ?_
    rintro e w4 ⟨u, rfl, u1, u2, s4, g4⟩
    have u3 : u < 5 := by omega
    have F4 := hid (fb_only g4 (by have := HF.out; omega) F3.out)
    have E4 := hid (fb_only g4 (by have := HF.out; omega) E3.out)
    have G4 := hid (only_trans G3.out g4)
    have Q2 := hid (pickS b ca len cap (K + 12) 5 w4 s4 (by omega) hl (by omega) (by omega))
    clear s4 g4 Q u2
    go_wp2_with (fail)
    refine Q2.out.mono ?_
    rintro e w5 ⟨t, rfl, t1, t2, s5, g5⟩
    have t3 : t < 5 := by omega
    have F5 := hid (fb_only g5 (by have := HF.out; omega) F4.out)
    have E5 := hid (fb_only g5 (by have := HF.out; omega) E4.out)
    have G5 := hid (only_trans G4.out g5)
    have S5 := hid s5
    clear s5 g5 Q2 t2
    go_wp2_with (fail)
    refine (specMake _ _ _ (by omega) (by omega) (by omega) (by omega)).mono ?_
    rintro e w6 ⟨rfl, b6⟩
    have F6 := hid (fb_below F5.out b6)
    have E6 := hid (fb_below E5.out b6)
    have G6 := hid (only_trans G5.out (only_below b6 b))
    have S6 := hid (st_more (st_below S5.out b6) (show K + 14 ≤ K + 20 by omega))
    clear b6
    generalize lowN (1000000000 - u) (1000000000 - t) = X at *
    generalize lowD (1000000000 - u) (1000000000 - t) = Y at *
    obtain ⟨q0, q1, q2, q3, q4⟩ := fb_cells F6.out
    obtain ⟨k0, k1, k2, k3, k4⟩ := fb_cells E6.out
    have hne : w.heap.size ≠ fb := by have := HF.out; omega
    have hnf : fb ≠ w.heap.size := by have := HF.out; omega
    go_wp2_with (fail)
    obtain ⟨r0, r1⟩ := set_read (x := .int .i64 X) (y := .int .i64 Y) ((other_set (o := 1) hnf (.int .i64 Y) 0).trans ((other_set (o := 0) hnf (.int .i64 X) 0).trans q0)) ((other_set (o := 1) hnf (.int .i64 Y) 1).trans ((other_set (o := 0) hnf (.int .i64 X) 1).trans q1))
    refine bodyPost_ret (v := .agg #[.int .i64 X, .int .i64 Y]) (by simp [results, Try.results80, go_sem, r0, r1]) rfl ⟨_, _, rfl, st_fset HS.out (st_fset HS.out (st_fset HS.out (st_fset HS.out S6.out (Nat.le_of_lt HF.out.1) _ _) (Nat.le_of_lt HF.out.1) _ _) (Nat.le_refl _) _ _) (Nat.le_refl _) _ _, only_set (only_set (only_set (only_set G6.out (Nat.le_of_lt HF.out.1) _) (Nat.le_of_lt HF.out.1) _) (Nat.le_refl _) _) (Nat.le_refl _) _⟩
  have d3 : (r == 3) = false := beq_no c3
  clear c3
  obtain ⟨q0, q1, q2, q3, q4⟩ := fb_cells F3.out
  obtain ⟨k0, k1, k2, k3, k4⟩ := fb_cells E3.out
  have hne : w.heap.size ≠ fb := by have := HF.out; omega
  have hnf : fb ≠ w.heap.size := by have := HF.out; omega
  go_wp2_with (fail)
  obtain ⟨r0, r1⟩ := set_read (x := .int .i64 n) (y := .int .i64 d) q0 q1
  refine bodyPost_ret (v := .agg #[.int .i64 n, .int .i64 d]) (by simp [results, Try.results80, go_sem, r0, r1]) rfl ⟨_, _, rfl, st_fset HS.out (st_fset HS.out (st_more S3.out (show K + 10 ≤ K + 20 by omega)) (Nat.le_refl _) _ _) (Nat.le_refl _) _ _, only_set (only_set (G3.out) (Nat.le_refl _) _) (Nat.le_refl _) _⟩

end Go.Proofs.Ytjijabfamjhdjaa

/-! Contract: the draw of a positive fraction, seldom of another one (chapter 5). -/
namespace Go.Proofs.Ytjijabfamjhdjaa
open Go.RowKit

set_option maxHeartbeats 1600000 in
theorem draw5 (b : Nat) (ca : Option Addr) (len cap K : Nat) (w : World) (hs : St w b ca len cap K) (hk : K < 800000) (hl : len ≤ 5000) :
    Calls Try.prog 45 #[.pointer (some ⟨b, 0, none⟩)] w fun e w' => ∃ n d : Int, e = .returned (.agg #[.int .i64 n, .int .i64 d]) ∧ St w' b ca len cap (K + 22) ∧ w.grownBy w' (some b) := by
  have HS := hid hs
  have hbl := st_lt hs
  obtain ⟨W0, hW0⟩ : ∃ W0, W0 = w.alloc (.cells #[.int .i64 0, .int .i64 0] 25) := ⟨_, rfl⟩
  have A0 : Below w.heap.size w W0 := by rw [hW0]; exact (Below.refl _ _).alloc (Nat.le_refl _) _
  have F0 := hid (show FB W0 w.heap.size 0 0 by rw [hW0]; exact fb_new w 0 0)
  have S0 := hid (st_below hs A0)
  have G0 := hid (only_below A0 b)
  have P := hid (oneS b ca len cap K 10 W0 S0.out (by omega) hl (by omega) (by omega))
  clear hs A0
  go_enter Try.func45, Try.ntmps45
  go_wp2_with (fail)
  try rw [← hW0]
  clear hW0
  refine P.out.mono ?_
  rintro e w1 ⟨r, rfl, s1, g1⟩
  have F1 := hid (fb_only g1 (by omega) F0.out)
  have G1 := hid (only_trans G0.out g1)
  have S1 := hid s1
  clear s1 g1
  cases r
  · have Q := hid (pickS b ca len cap (K + 2) 300 w1 S1.out (by omega) hl (by omega) (by omega))
    go_wp2_with (fail)
    refine Q.out.mono ?_
    rintro e w2 ⟨x, rfl, x1, x2, s2, g2⟩
    have F2 := hid (fb_only g2 (by omega) F1.out)
    have G2 := hid (only_trans G1.out g2)
    have R := hid (pickS b ca len cap (K + 2 + 2) 300 w2 s2 (by omega) hl (by omega) (by omega))
    clear s2 g2
    go_wp2_with (fail)
    refine R.out.mono ?_
    rintro e w3 ⟨y, rfl, y1, y2, s3, g3⟩
    have F3 := hid (fb_only g3 (by omega) F2.out)
    have G3 := hid (only_trans G2.out g3)
    have S3 := hid s3
    have M := hid (fun w => specMake (1 + x) (1 + y) w (by omega) (by omega) (by omega) (by omega))
    clear s3 g3
    go_wp2_with (fail)
    refine (M.out _).mono ?_
    rintro e w4 ⟨rfl, v4⟩
    have F4 := fb_below F3.out v4
    have S4 := hid (st_below S3.out v4)
    have G4 := hid (only_trans G3.out (only_below v4 b))
    obtain ⟨c0, c1, f0, f1, hl4⟩ := fb_cells F4
    have HF4 := hid F4
    generalize lowN (1 + x) (1 + y) = n at *
    generalize lowD (1 + x) (1 + y) = d at *
    clear v4 F4
    go_wp2_with (fail)
    obtain ⟨r0, r1, _⟩ := fb_cells (fb_set HF4.out n d)
    refine bodyPost_ret (v := .agg #[.int .i64 n, .int .i64 d]) (by simp [results, Try.results45, go_sem, r0, r1]) rfl ⟨n, d, rfl, st_fset HS.out (st_fset HS.out (st_more S4.out (by omega)) (Nat.le_refl _) _ _) (Nat.le_refl _) _ _, only_set (only_set G4.out (Nat.le_refl _) _) (Nat.le_refl _) _⟩
  · have Q := hid (bentF b ca len cap (K + 2) w1 S1.out (by omega) hl)
    go_wp2_with (fail)
    refine Q.out.mono ?_
    rintro e w4 ⟨n, d, rfl, s4, g4⟩
    have F4 := fb_only g4 (by omega) F1.out
    have G4 := hid (only_trans G1.out g4)
    have S4 := hid s4
    obtain ⟨c0, c1, f0, f1, hl4⟩ := fb_cells F4
    have HF4 := hid F4
    clear s4 g4 F4
    go_wp2_with (fail)
    obtain ⟨r0, r1, _⟩ := fb_cells (fb_set HF4.out n d)
    refine bodyPost_ret (v := .agg #[.int .i64 n, .int .i64 d]) (by simp [results, Try.results45, go_sem, r0, r1]) rfl ⟨n, d, rfl, st_fset HS.out (st_fset HS.out (st_more S4.out (by omega)) (Nat.le_refl _) _ _) (Nat.le_refl _) _ _, only_set (only_set G4.out (Nat.le_refl _) _) (Nat.le_refl _) _⟩

end Go.Proofs.Ytjijabfamjhdjaa

/-! Contracts: the draw of two fractions that often lie near to one another (chapter 5). -/
namespace Go.Proofs.Ytjijabfamjhdjaa
open Go.RowKit

set_option maxHeartbeats 1600000 in
/-- The model's fraction at the end of any runs: some fraction. -/
theorem specAtAny (g n c : Nat) (xs : List Int) (w : World) (hn : n = xs.length) (hl : xs.length ≤ 60) (hb : ∀ x ∈ xs, 0 ≤ x ∧ x ≤ 1000000000) (ha : Ints w g 0 xs) :
    Calls Try.prog 61 #[.slice (some ⟨g, 0, none⟩) n c] w fun e w' => ∃ (p q : Int) (r : Bool), e = .returned (.tuple #[.agg #[.int .i64 p, .int .i64 q], .bool r]) ∧ Below w.heap.size w w' := by
  subst hn
  have HB := hid (box1_new w)
  have HA := hid ha
  clear ha
  by_cases h0 : xs.length = 0
  · have : xs = [] := List.length_eq_zero_iff.1 h0
    subst this
    clear h0
    go_enter Try.func61, Try.ntmps61
    go_wp2_with (fail)
    refine bodyPost_ret (v := .tuple #[.agg #[.int .i64 1, .int .i64 1], .bool true]) (by simp [results, Try.results61, go_sem]) rfl ⟨1, 1, true, rfl, ?_⟩
    exact (Below.refl _ _).alloc (Nat.le_refl _) _
  · have h1 : ¬ (xs.length : Int) = 0 := by omega
    have HO := hid (fun w' (hb : Below w.heap.size w w') => specOwnL g 0 c xs w' (by omega) (by omega) (ints_below HA.out hb))
    obtain ⟨x, hx⟩ : ∃ x, xs[xs.length - 1]? = some x := ⟨_, List.getElem?_eq_getElem (by omega)⟩
    obtain ⟨hx1, hx2⟩ := hb x (List.mem_of_getElem? hx)
    have HX := hid hx
    have HIE := hid (show incL xs = xs.set (xs.length - 1) (x + 1) by unfold incL; rw [List.getD_eq_getElem?_getD, HX.out]; rfl)
    have HBD := hid (show ∀ (j : Nat) (y : Int), (incL xs)[j]? = some y → -2000000000 ≤ y ∧ y ≤ 2000000000 by
      intro j y hy
      rw [HIE.out] at hy
      by_cases hj : j = xs.length - 1
      · subst hj
        rw [List.getElem?_set_self (by omega)] at hy
        have hy : x + 1 = y := by simpa using hy
        omega
      · rw [List.getElem?_set_ne (by omega)] at hy
        have := hb y (List.mem_of_getElem? hy)
        omega)
    have HC := hid (fun g c w' (h : Ints w' g 0 (incL xs)) => specConvL2 g c (incL xs) w' (by rw [incL_length]; exact hl) HBD.out h)
    rw [incL_length] at HC
    have t1 : ((xs.length : Int) - 1).toNat = xs.length - 1 := by omega
    have p2 : (0 : Int) ≤ (xs.length : Int) - 1 := by omega
    have hpos : 1 ≤ xs.length := by omega
    clear hx hb h0
    obtain ⟨o, ho⟩ : ∃ o, o = cv 1 0 0 1 (incL xs) := ⟨_, rfl⟩
    have HCL := hid (fun l (h : cv 1 0 0 1 (incL xs) = some l) => cv_length h)
    rw [← ho] at HC HCL
    rw [incL_length] at HCL
    clear ho
    cases o with
    | none =>
      clear HCL
      go_enter Try.func61, Try.ntmps61
      go_wp2_with (fail)
      refine (HO.out _ HB.out.2).mono ?_
      rintro e w1 ⟨g1, c1, rfl, o1, b1⟩
      have BX := hid (box1_below HB.out b1)
      have cy := ints_at (own_ints o1) HX.out
      have fr := own_frozen o1 (xs.length - 1)
      have hcap := own_cap o1
      have hg : w.heap.size < g1 := by have := o1.1; simp at this; omega
      have OS := hid (own_set o1 (xs.length - 1) (x + 1))
      rw [← HIE.out] at OS
      have BX2 := hid (show Box1 w (w1.setCell ⟨g1, xs.length - 1, none⟩ (.int .i64 (x + 1))) from ⟨by rw [heap_setCell_other _ ⟨g1, xs.length - 1, none⟩ _ _ (by simp; omega)]; exact BX.out.1, BX.out.2.setCell (p := ⟨g1, xs.length - 1, none⟩) (by simp; omega) _⟩)
      clear o1 b1
      go_wp2_with (fail)
      refine (HC.out _ _ _ (own_ints OS.out)).mono ?_
      rintro e w2 ⟨v, rfl, r, b2⟩
      have BX3 := hid (box1_below BX2.out b2)
      obtain ⟨z0, z1, f0, f1, zl⟩ := blk2 BX3.out.1
      clear b2 r
      dsimp only [convV]
      go_wp2_with (fail)
      obtain ⟨r0, r1, E⟩ := box1_ret BX3.out 0 0
      refine bodyPost_ret (v := .tuple #[.agg #[.int .i64 0, .int .i64 0], .bool false]) (by simp [results, Try.results61, go_sem, r0, r1]) rfl ⟨0, 0, false, rfl, E⟩
    | some l =>
      have hll := HCL.out l rfl
      obtain ⟨⟨y0, y1⟩, hy⟩ : ∃ y, l[l.length - 1]? = some y := ⟨_, List.getElem?_eq_getElem (by omega)⟩
      have HY := hid hy
      have u1 : ((l.length : Int) - 1).toNat = l.length - 1 := by omega
      have u2 : (0 : Int) ≤ (l.length : Int) - 1 := by omega
      have u3 : 1 ≤ l.length := by omega
      have u4 : l.length ≤ 60 := by omega
      clear HCL hy hll
      go_enter Try.func61, Try.ntmps61
      go_wp2_with (fail)
      refine (HO.out _ HB.out.2).mono ?_
      rintro e w1 ⟨g1, c1, rfl, o1, b1⟩
      have BX := hid (box1_below HB.out b1)
      have cy := ints_at (own_ints o1) HX.out
      have fr := own_frozen o1 (xs.length - 1)
      have hcap := own_cap o1
      have hg : w.heap.size < g1 := by have := o1.1; simp at this; omega
      have OS := hid (own_set o1 (xs.length - 1) (x + 1))
      rw [← HIE.out] at OS
      have BX2 := hid (show Box1 w (w1.setCell ⟨g1, xs.length - 1, none⟩ (.int .i64 (x + 1))) from ⟨by rw [heap_setCell_other _ ⟨g1, xs.length - 1, none⟩ _ _ (by simp; omega)]; exact BX.out.1, BX.out.2.setCell (p := ⟨g1, xs.length - 1, none⟩) (by simp; omega) _⟩)
      clear o1 b1
      go_wp2_with (fail)
      refine (HC.out _ _ _ (own_ints OS.out)).mono ?_
      rintro e w2 ⟨v, rfl, r, b2⟩
      have BX3 := hid (box1_below BX2.out b2)
      obtain ⟨z0, z1, f0, f1, zl⟩ := blk2 BX3.out.1
      obtain ⟨g2, c2, rfl, o2⟩ : ∃ g2 c2, v = .slice (some ⟨g2, 0, none⟩) l.length c2 ∧ FOwn (w1.setCell ⟨g1, xs.length - 1, none⟩ (.int .i64 (x + 1))).heap.size w2 g2 c2 l := by
        rcases r with ⟨_, h0⟩ | h
        · dsimp only [convV] at h0; rw [h0] at u3; simp at u3
        · exact h
      obtain ⟨x0, x1⟩ := fown_cells o2 HY.out
      dsimp only at x0 x1
      clear b2 r o2
      dsimp only [convV]
      go_wp2_with (fail)
      obtain ⟨r0, r1, E⟩ := box1_ret BX3.out y0 y1
      refine bodyPost_ret (v := .tuple #[.agg #[.int .i64 y0, .int .i64 y1], .bool true]) (by simp [results, Try.results61, go_sem, r0, r1]) rfl ⟨y0, y1, true, rfl, E⟩

end Go.Proofs.Ytjijabfamjhdjaa

/-! Contract: the draw of two fractions that often lie near to one another (chapter 5). -/
namespace Go.Proofs.Ytjijabfamjhdjaa
open Go.RowKit

set_option maxRecDepth 100000 in
set_option maxHeartbeats 6400000 in
theorem pair5 (b : Nat) (ca : Option Addr) (len cap K : Nat) (w : World) (hs : St w b ca len cap K) (hk : K < 700000) (hl : len ≤ 5000) :
    Calls Try.prog 68 #[.pointer (some ⟨b, 0, none⟩)] w fun e w' => ∃ n d m f : Int, e = .returned (.tuple #[.agg #[.int .i64 n, .int .i64 d], .agg #[.int .i64 m, .int .i64 f]]) ∧ St w' b ca len cap (K + 60) ∧ w.grownBy w' (some b) := by
  have HS := hid hs
  have hbl := st_lt hs
  obtain ⟨W0, hW0⟩ : ∃ W0, W0 = (w.alloc (.cells #[.int .i64 0, .int .i64 0] 25)).alloc (.cells #[.int .i64 0, .int .i64 0] 25) := ⟨_, rfl⟩
  have A0 : Below w.heap.size w W0 := by rw [hW0]; exact ((Below.refl _ _).alloc (Nat.le_refl _) _).alloc (by simp) _
  have N0 := new_two w (.cells #[.int .i64 0, .int .i64 0] 25) (.cells #[.int .i64 0, .int .i64 0] 25)
  rw [← hW0] at N0
  have F2 := hid (show FB W0 w.heap.size 0 0 from N0.1)
  have F3 := hid (show FB W0 (w.heap.size + 1) 0 0 from N0.2.1)
  have S0 := hid (st_below hs A0)
  have G0 := hid (only_below A0 b)
  have D := hid (draw5 b ca len cap K W0 S0.out (by omega) hl)
  clear hs A0 N0
  go_enter Try.func68, Try.ntmps68
  go_wp2_with (fail)
  try rw [← hW0]
  clear hW0
  refine D.out.mono ?_
  rintro e w1 ⟨n, d, rfl, s1, g1⟩
  have hz1 : w.heap.size + 1 < w1.heap.size := Nat.lt_of_lt_of_le (fb_lt F3.out) g1.size
  have X1 : Below w1.heap.size w1 (w1.alloc (.cells #[.int .i64 n, .int .i64 d] 25)) := (Below.refl _ _).alloc (Nat.le_refl _) _
  have F2a := hid (fb_below (fb_only g1 (by omega) F2.out) X1)
  have F3a := hid (fb_below (fb_only g1 (by omega) F3.out) X1)
  have F4a := hid (fb_new w1 n d)
  have Ga := hid (only_trans (only_trans G0.out g1) (only_below X1 b))
  have Sa := hid (st_below s1 X1)
  have HC := hid (specCode n d (w1.alloc (.cells #[.int .i64 n, .int .i64 d] 25)))
  have F4c := fb_cells F4a.out
  obtain ⟨c4, c5, _, _, _⟩ := F4c
  clear s1 g1 X1 D F2 F3 S0 G0
  go_wp2_with (fail)
  refine HC.out.mono ?_
  rintro e w2 ⟨rfl, v2⟩
  have F2b := hid (fb_below F2a.out v2)
  have F3b := hid (fb_below F3a.out v2)
  have F4b := hid (fb_below F4a.out v2)
  have Gb := hid (only_trans Ga.out (only_below v2 b))
  have Sb := hid (st_below Sa.out v2)
  obtain ⟨i4, hi4⟩ : ∃ i4, i4 = w1.heap.size := ⟨_, rfl⟩
  rw [← hi4] at F4b
  try rw [← hi4]
  have hi5 : w.heap.size + 1 < i4 := by omega
  clear v2 F2a F3a F4a Ga Sa c4 c5 hi4 hz1 HC
  by_cases hc : code1 n d = 0
  · obtain ⟨ho, hn⟩ := code1_zero hc
    rw [hc]
    have HP := hid (fun w => specPathL n d w ho hn)
    have hok := path_ok ho hn
    have HPL := hid (okP_len hok)
    have HPB := hid (okP_bdm hok)
    clear hc ho hn hok
    have O := hid (oneS b ca len cap (K + 22) 2 w2 Sb.out (by omega) hl (by omega) (by omega))
    go_wp2_with (fail)
    refine O.out.mono ?_
    rintro e w3 ⟨r, rfl, s3, g3⟩
    have F2c := hid (fb_only g3 (by omega) F2b.out)
    have F3c := hid (fb_only g3 (by omega) F3b.out)
    have F4c := hid (fb_only g3 (by omega) F4b.out)
    have Gc := hid (only_trans Gb.out g3)
    have Sc := hid s3
    clear s3 g3 F2b F3b F4b Gb Sb O
    cases r
    · skip
      obtain ⟨c4, c5, _, _, l4⟩ := fb_cells F4c.out
      have D2 := hid (fun (w' : World) (hs : St w' b ca len cap (K + 24)) => draw5 b ca len cap (K + 24) w' hs (by omega) hl)
      go_wp2_with (fail)
      go_region_with (go_at_call 45; refine (D2.out _ (st_below Sc.out (by repeat (first | exact Below.refl _ _ | refine below_drewN ?_ _ | refine Below.drew ?_ | refine Below.alloc ?_ (by first | omega | (simp <;> omega)) _)))).mono ?_; rintro e y1 ⟨m, f, rfl, s, g⟩; have F2y := hid (fb_only g (by omega) (fb_below F2c.out (by repeat (first | exact Below.refl _ _ | refine below_drewN ?_ _ | refine Below.drew ?_ | refine Below.alloc ?_ (by first | omega | (simp <;> omega)) _)))); have F3y := hid (fb_only g (by omega) (fb_below F3c.out (by repeat (first | exact Below.refl _ _ | refine below_drewN ?_ _ | refine Below.drew ?_ | refine Below.alloc ?_ (by first | omega | (simp <;> omega)) _)))); have F4y := hid (fb_only g (by omega) (fb_below F4c.out (by repeat (first | exact Below.refl _ _ | refine below_drewN ?_ _ | refine Below.drew ?_ | refine Below.alloc ?_ (by first | omega | (simp <;> omega)) _)))); have Gy := hid (only_trans (only_trans Gc.out (only_below (show Below w3.heap.size w3 _ from (by repeat (first | exact Below.refl _ _ | refine below_drewN ?_ _ | refine Below.drew ?_ | refine Below.alloc ?_ (by first | omega | (simp <;> omega)) _))) b)) g); have Sy := hid s; obtain ⟨p0, p1, p2, p3, _⟩ := fb_cells F2y.out; obtain ⟨q0, q1, q2, q3, _⟩ := fb_cells F3y.out; obtain ⟨t0, t1, _, _, _⟩ := fb_cells F4y.out; clear s g)
      all_goals
        go_wp2_with (fail)
        obtain ⟨r0, r1, _⟩ := fb_cells (fb_other (fb_set F2y.out n d) (x := w.heap.size + 1) (by omega) (.int .i64 m) (.int .i64 f))
        obtain ⟨r2, r3, _⟩ := fb_cells (fb_set (fb_other F3y.out (x := w.heap.size) (by omega) (.int .i64 n) (.int .i64 d)) m f)
        refine bodyPost_ret (v := .tuple #[.agg #[.int .i64 n, .int .i64 d], .agg #[.int .i64 m, .int .i64 f]]) (by simp [results, Try.results68, go_sem, r0, r1, r2, r3]) rfl ⟨n, d, m, f, rfl, st_fset HS.out (st_fset HS.out (st_fset HS.out (st_fset HS.out (st_more Sy.out (by omega)) (by omega) _ _) (by omega) _ _) (by omega) _ _) (by omega) _ _, only_set (only_set (only_set (only_set Gy.out (by omega) _) (by omega) _) (by omega) _) (by omega) _⟩
    · obtain ⟨c4, c5, _, _, l4⟩ := fb_cells F4c.out
      go_wp2_with (fail)
      refine (HP.out _).mono ?_
      rintro e w4 ⟨g, c, rfl, o, b4⟩
      have F2d := hid (fb_below F2c.out b4)
      have F3d := hid (fb_below F3c.out b4)
      have F4d := hid (fb_below F4c.out b4)
      have Gd := hid (only_trans Gc.out (only_below b4 b))
      have Sd := hid (st_below Sc.out b4)
      have hb3 : b < w3.heap.size := st_lt Sc.out
      obtain ⟨xs, hxs⟩ : ∃ xs, xs = pathF n d := ⟨_, rfl⟩
      rw [← hxs] at o HPL HPB ⊢
      have hcp := own_cap o
      have HO := hid o
      have hpl := HPL.out
      clear b4 o F2c F3c F4c Gc Sc c4 c5 hxs
      obtain ⟨c4, c5, _, _, l5⟩ := fb_cells F4d.out
      by_cases h0 : 0 < xs.length
      · have h0' : (0 : Int) < (xs.length : Int) := by omega
        have P := hid (pickS b ca len cap (K + 24) ((xs.length : Int) + 1) w4 Sd.out (by omega) hl (by omega) (by omega))
        go_wp2_with (fail)
        refine P.out.mono ?_
        rintro e w5 ⟨r5, rfl, r51, r52, s5, g5⟩
        obtain ⟨j, rfl⟩ := Int.eq_ofNat_of_zero_le r51
        have hj : j ≤ xs.length := by omega
        have HO5 := hid (show Own w3.heap.size w5 g c xs from ⟨HO.out.1, HO.out.2.kept g5 (.inr (by simp [Value.ownBlock]; have := HO.out.1; omega))⟩)
        have hyl : (xs.take j).length = j := by rw [List.length_take]; omega
        have HI := hid (show Ints w5 g 0 (xs.take j) from fun i x hx => by
          rw [List.getElem?_take] at hx
          split at hx
          · exact own_ints HO5.out i x hx
          · simp at hx)
        have AT := hid (specAtAny g j c (xs.take j) w5 hyl.symm (by omega) (fun x hx => HPB.out x (List.mem_of_mem_take hx)) HI.out)
        have F2e := hid (fb_only g5 (by omega) F2d.out)
        have F3e := hid (fb_only g5 (by omega) F3d.out)
        have F4e := hid (fb_only g5 (by omega) F4d.out)
        have Ge := hid (only_trans Gd.out g5)
        have Se := hid s5
        have hjc : j ≤ c := by omega
        have hjc2 : (j : Int) ≤ (c : Int) := by omega
        have hjl : (j : Int) ≤ (xs.length : Int) := by omega
        have hj0 : (0 : Int) ≤ (j : Int) := by omega
        have htn : ((j : Int)).toNat = j := by omega
        clear s5 g5 P F2d F3d F4d Gd Sd HO HO5 HI r52
        go_wp2_with (fail)
        refine AT.out.mono ?_
        rintro e w6 ⟨x, y, r, rfl, b6⟩
        have A7 : Below w6.heap.size w6 (w6.alloc (.cells #[.int .i64 x, .int .i64 y] 25)) := (Below.refl _ _).alloc (Nat.le_refl _) _
        have F2f := hid (fb_below (fb_below F2e.out b6) A7)
        have F3f := hid (fb_below (fb_below F3e.out b6) A7)
        have F4f := hid (fb_below (fb_below F4e.out b6) A7)
        have F6f := hid (fb_new w6 x y)
        have Gf := hid (only_trans (only_trans Ge.out (only_below b6 b)) (only_below A7 b))
        have Sf := hid (st_below (st_below Se.out b6) A7)
        have hi6 : i4 < w6.heap.size := by have := fb_lt F4e.out; have := b6.size; omega
        clear b6 A7 F2e F3e F4e Ge Se AT c4 c5
        obtain ⟨p0, p1, fp0, fp1, lp⟩ := fb_cells F2f.out
        obtain ⟨q0, q1, fq0, fq1, lq⟩ := fb_cells F3f.out
        obtain ⟨t0, t1, _, _, lt⟩ := fb_cells F4f.out
        obtain ⟨v0, v1, _, _, lv⟩ := fb_cells F6f.out
        go_wp2_with (fail)
        go_region
        simp only [Exit.then]
        go_wp2_with (fail)
        have GR := only_set (o := 1) (only_set (o := 0) (only_set (o := 1) (only_set (o := 0) Gf.out (Nat.le_refl w.heap.size) (.int .i64 n)) (Nat.le_refl w.heap.size) (.int .i64 d)) (Nat.le_succ w.heap.size) (.int .i64 x)) (Nat.le_succ w.heap.size) (.int .i64 y)
        have SR := st_fset HS.out (st_fset HS.out (st_fset HS.out (st_fset HS.out (st_more Sf.out (show K + 24 + 2 ≤ K + 60 by omega)) (Nat.le_refl w.heap.size) 0 (.int .i64 n)) (Nat.le_refl w.heap.size) 1 (.int .i64 d)) (Nat.le_succ w.heap.size) 0 (.int .i64 x)) (Nat.le_succ w.heap.size) 1 (.int .i64 y)
        obtain ⟨r0, r1, _⟩ := fb_cells (fb_other (fb_set F2f.out n d) (x := w.heap.size + 1) (by omega) (.int .i64 x) (.int .i64 y))
        obtain ⟨r2, r3, _⟩ := fb_cells (fb_set (fb_other F3f.out (x := w.heap.size) (by omega) (.int .i64 n) (.int .i64 d)) x y)
        refine bodyPost_ret (v := .tuple #[.agg #[.int .i64 n, .int .i64 d], .agg #[.int .i64 x, .int .i64 y]]) (by simp [results, Try.results68, go_sem, r0, r1, r2, r3]) rfl ⟨n, d, x, y, rfl, ?_, ?_⟩
        · exact st_below SR (Below.drew (Below.refl _ _))
        · exact only_trans GR (only_below (Below.drew (Below.refl _ _)) b)
      · have h0' : ¬ (0 : Int) < (xs.length : Int) := by omega
        have D2 := hid (fun (w' : World) (hs : St w' b ca len cap (K + 24)) => draw5 b ca len cap (K + 24) w' hs (by omega) hl)
        go_wp2_with (fail)
        go_region_with (go_at_call 45; refine (D2.out _ (st_below Sd.out (by repeat (first | exact Below.refl _ _ | refine below_drewN ?_ _ | refine Below.drew ?_ | refine Below.alloc ?_ (by first | omega | (simp <;> omega)) _)))).mono ?_; rintro e y1 ⟨m, f, rfl, s, g⟩; have F2y := hid (fb_only g (by omega) (fb_below F2d.out (by repeat (first | exact Below.refl _ _ | refine below_drewN ?_ _ | refine Below.drew ?_ | refine Below.alloc ?_ (by first | omega | (simp <;> omega)) _)))); have F3y := hid (fb_only g (by omega) (fb_below F3d.out (by repeat (first | exact Below.refl _ _ | refine below_drewN ?_ _ | refine Below.drew ?_ | refine Below.alloc ?_ (by first | omega | (simp <;> omega)) _)))); have F4y := hid (fb_only g (by omega) (fb_below F4d.out (by repeat (first | exact Below.refl _ _ | refine below_drewN ?_ _ | refine Below.drew ?_ | refine Below.alloc ?_ (by first | omega | (simp <;> omega)) _)))); have Gy := hid (only_trans (only_trans Gd.out (only_below (show Below w4.heap.size w4 _ from (by repeat (first | exact Below.refl _ _ | refine below_drewN ?_ _ | refine Below.drew ?_ | refine Below.alloc ?_ (by first | omega | (simp <;> omega)) _))) b)) g); have Sy := hid s; obtain ⟨p0, p1, p2, p3, _⟩ := fb_cells F2y.out; obtain ⟨q0, q1, q2, q3, _⟩ := fb_cells F3y.out; obtain ⟨t0, t1, _, _, _⟩ := fb_cells F4y.out; clear s g)
        all_goals
          go_wp2_with (fail)
          obtain ⟨r0, r1, _⟩ := fb_cells (fb_other (fb_set F2y.out n d) (x := w.heap.size + 1) (by omega) (.int .i64 m) (.int .i64 f))
          obtain ⟨r2, r3, _⟩ := fb_cells (fb_set (fb_other F3y.out (x := w.heap.size) (by omega) (.int .i64 n) (.int .i64 d)) m f)
          refine bodyPost_ret (v := .tuple #[.agg #[.int .i64 n, .int .i64 d], .agg #[.int .i64 m, .int .i64 f]]) (by simp [results, Try.results68, go_sem, r0, r1, r2, r3]) rfl ⟨n, d, m, f, rfl, st_fset HS.out (st_fset HS.out (st_fset HS.out (st_fset HS.out (st_more Sy.out (by omega)) (by omega) _ _) (by omega) _ _) (by omega) _ _) (by omega) _ _, only_set (only_set (only_set (only_set Gy.out (by omega) _) (by omega) _) (by omega) _) (by omega) _⟩
  · have hk : (code1 n d == 0) = false := by simpa using hc
    generalize code1 n d = k at *
    obtain ⟨c4, c5, _, _, l4⟩ := fb_cells F4b.out
    have D2 := hid (fun (w' : World) (hs : St w' b ca len cap (K + 22)) => draw5 b ca len cap (K + 22) w' hs (by omega) hl)
    go_wp2_with (fail)
    go_region_with (go_at_call 45; refine (D2.out _ (st_below Sb.out (by repeat (first | exact Below.refl _ _ | refine below_drewN ?_ _ | refine Below.drew ?_ | refine Below.alloc ?_ (by first | omega | (simp <;> omega)) _)))).mono ?_; rintro e y1 ⟨m, f, rfl, s, g⟩; have F2y := hid (fb_only g (by omega) (fb_below F2b.out (by repeat (first | exact Below.refl _ _ | refine below_drewN ?_ _ | refine Below.drew ?_ | refine Below.alloc ?_ (by first | omega | (simp <;> omega)) _)))); have F3y := hid (fb_only g (by omega) (fb_below F3b.out (by repeat (first | exact Below.refl _ _ | refine below_drewN ?_ _ | refine Below.drew ?_ | refine Below.alloc ?_ (by first | omega | (simp <;> omega)) _)))); have F4y := hid (fb_only g (by omega) (fb_below F4b.out (by repeat (first | exact Below.refl _ _ | refine below_drewN ?_ _ | refine Below.drew ?_ | refine Below.alloc ?_ (by first | omega | (simp <;> omega)) _)))); have Gy := hid (only_trans (only_trans Gb.out (only_below (show Below w2.heap.size w2 _ from (by repeat (first | exact Below.refl _ _ | refine below_drewN ?_ _ | refine Below.drew ?_ | refine Below.alloc ?_ (by first | omega | (simp <;> omega)) _))) b)) g); have Sy := hid s; obtain ⟨p0, p1, p2, p3, _⟩ := fb_cells F2y.out; obtain ⟨q0, q1, q2, q3, _⟩ := fb_cells F3y.out; obtain ⟨t0, t1, _, _, _⟩ := fb_cells F4y.out; clear s g)
    all_goals
      go_wp2_with (fail)
      obtain ⟨r0, r1, _⟩ := fb_cells (fb_other (fb_set F2y.out n d) (x := w.heap.size + 1) (by omega) (.int .i64 m) (.int .i64 f))
      obtain ⟨r2, r3, _⟩ := fb_cells (fb_set (fb_other F3y.out (x := w.heap.size) (by omega) (.int .i64 n) (.int .i64 d)) m f)
      refine bodyPost_ret (v := .tuple #[.agg #[.int .i64 n, .int .i64 d], .agg #[.int .i64 m, .int .i64 f]]) (by simp [results, Try.results68, go_sem, r0, r1, r2, r3]) rfl ⟨n, d, m, f, rfl, st_fset HS.out (st_fset HS.out (st_fset HS.out (st_fset HS.out (st_more Sy.out (by omega)) (by omega) _ _) (by omega) _ _) (by omega) _ _) (by omega) _ _, only_set (only_set (only_set (only_set Gy.out (by omega) _) (by omega) _) (by omega) _) (by omega) _⟩
where
  okP_bdm {xs : List Int} (h : okP xs = true) : ∀ x ∈ xs, 0 ≤ x ∧ x ≤ 1000000000 := by
    intro x hx
    obtain ⟨j, hj⟩ := List.mem_iff_getElem?.1 hx
    exact okP_bd h hj

end Go.Proofs.Ytjijabfamjhdjaa

/-! Contracts: what the law on the tree draws out of bytes: fractions. -/
namespace Go.Proofs.Ytjijabfamjhdjaa
open Go.RowKit

theorem below_fr5 {w W0 w' : World} {b : Nat} (h : Below w.heap.size w W0) (g : W0.grownBy w' (some b)) (hb : w.heap.size ≤ b) : Below w.heap.size w w' :=
  h.grown g h.size (fun k hk => by have e := Option.some.inj hk; omega)

set_option maxHeartbeats 1600000 in
theorem drawPt (ca : Option Addr) (len cap : Nat) (w : World) (hb : ByI w ca len) (hl : len ≤ 5000) :
    Calls Try.prog 8 #[.slice ca len cap] w fun e w' => ∃ n d : Int, e = .returned (.agg #[.int .i64 n, .int .i64 d]) ∧ Below w.heap.size w w' := by
  obtain ⟨V, hV⟩ : ∃ V, V = w.alloc (.cells #[.int .i64 0, .int .i64 0] 25) := ⟨_, rfl⟩
  have AV := hid (show Below w.heap.size w V by rw [hV]; exact (Below.refl _ _).alloc (Nat.le_refl _) _)
  have FV := hid (show FB V w.heap.size 0 0 by rw [hV]; exact fb_new w 0 0)
  have hVs : w.heap.size < V.heap.size := by rw [hV]; simp
  have F := hid (specFrom ca len cap V)
  have HB := hid (byi_below hb AV.out)
  clear hb
  go_enter Try.func8, Try.ntmps8
  go_wp2_with (fail)
  try rw [← hV]
  clear hV
  refine F.out.mono ?_
  rintro e W ⟨rfl, hW⟩
  have A0 := hid (show Below V.heap.size V W by rw [hW]; exact (Below.refl _ _).alloc (Nat.le_refl _) _)
  have S0 := hid (show St W V.heap.size ca len cap 0 by rw [hW]; exact st_new HB.out)
  have D := hid (draw5 V.heap.size ca len cap 0 W S0.out (by omega) hl)
  clear hW F HB
  go_wp2_with (fail)
  refine D.out.mono ?_
  rintro e w4 ⟨n, d, rfl, s4, g4⟩
  have G4 := hid (below_fr5 A0.out g4 (Nat.le_refl _))
  have F4 := hid (fb_below FV.out G4.out)
  obtain ⟨c0, c1, f0, f1, hl4⟩ := fb_cells F4.out
  clear s4 g4
  go_wp2_with (fail)
  obtain ⟨r0, r1, _⟩ := fb_cells (fb_set F4.out n d)
  refine bodyPost_ret (v := .agg #[.int .i64 n, .int .i64 d]) (by simp [results, Try.results8, go_sem, r0, r1]) rfl ⟨n, d, rfl, ?_⟩
  exact fset_below (AV.out.trans (G4.out.mono AV.out.size)) (Nat.le_refl _) _ _

set_option maxHeartbeats 1600000 in
theorem drawPa (ca : Option Addr) (len cap : Nat) (w : World) (hb : ByI w ca len) (hl : len ≤ 5000) :
    Calls Try.prog 15 #[.slice ca len cap] w fun e w' => ∃ n d : Int, e = .returned (.agg #[.int .i64 n, .int .i64 d]) ∧ Below w.heap.size w w' := by
  obtain ⟨V, hV⟩ : ∃ V, V = w.alloc (.cells #[.int .i64 0, .int .i64 0] 25) := ⟨_, rfl⟩
  have AV := hid (show Below w.heap.size w V by rw [hV]; exact (Below.refl _ _).alloc (Nat.le_refl _) _)
  have FV := hid (show FB V w.heap.size 0 0 by rw [hV]; exact fb_new w 0 0)
  have hVs : w.heap.size < V.heap.size := by rw [hV]; simp
  have F := hid (specFrom ca len cap V)
  have HB := hid (byi_below hb AV.out)
  clear hb
  go_enter Try.func15, Try.ntmps15
  go_wp2_with (fail)
  try rw [← hV]
  clear hV
  refine F.out.mono ?_
  rintro e W ⟨rfl, hW⟩
  have A0 := hid (show Below V.heap.size V W by rw [hW]; exact (Below.refl _ _).alloc (Nat.le_refl _) _)
  have S0 := hid (show St W V.heap.size ca len cap 0 by rw [hW]; exact st_new HB.out)
  have O := hid (oneS V.heap.size ca len cap 0 10 W S0.out (by omega) hl (by omega) (by omega))
  clear hW F HB
  go_wp2_with (fail)
  refine O.out.mono ?_
  rintro e w1 ⟨r, rfl, s1, g1⟩
  have G1 := hid (below_fr5 A0.out g1 (Nat.le_refl _))
  have S1 := hid s1
  clear s1 g1 O
  cases r
  case false =>
    have D := hid (draw5 V.heap.size ca len cap (0 + 2) w1 S1.out (by omega) hl)
    go_wp2_with (fail)
    refine D.out.mono ?_
    rintro e w4 ⟨n, d, rfl, s4, g4⟩
    have G4 := hid (below_fr5 G1.out g4 (Nat.le_refl _))
    have F4 := hid (fb_below FV.out G4.out)
    obtain ⟨c0, c1, f0, f1, hl4⟩ := fb_cells F4.out
    clear s4 g4
    go_wp2_with (fail)
    obtain ⟨r0, r1, _⟩ := fb_cells (fb_set F4.out n d)
    refine bodyPost_ret (v := .agg #[.int .i64 n, .int .i64 d]) (by simp [results, Try.results15, go_sem, r0, r1]) rfl ⟨n, d, rfl, ?_⟩
    exact fset_below (AV.out.trans (G4.out.mono AV.out.size)) (Nat.le_refl _) _ _
  case true =>
    have F4 := hid (fb_below FV.out G1.out)
    obtain ⟨c0, c1, f0, f1, hl4⟩ := fb_cells F4.out
    go_wp2_with (fail)
    obtain ⟨r0, r1, _⟩ := fb_cells (fb_set F4.out 1 1)
    refine bodyPost_ret (v := .agg #[.int .i64 1, .int .i64 1]) (by simp [results, Try.results15, go_sem, r0, r1]) rfl ⟨1, 1, rfl, ?_⟩
    exact fset_below (AV.out.trans (G1.out.mono AV.out.size)) (Nat.le_refl _) _ _

set_option maxHeartbeats 1600000 in
theorem drawBo (ca : Option Addr) (len cap : Nat) (w : World) (hb : ByI w ca len) (hl : len ≤ 5000) :
    Calls Try.prog 33 #[.slice ca len cap] w fun e w' => ∃ n d : Int, e = .returned (.agg #[.int .i64 n, .int .i64 d]) ∧ Below w.heap.size w w' := by
  obtain ⟨V, hV⟩ : ∃ V, V = w.alloc (.cells #[.int .i64 0, .int .i64 0] 25) := ⟨_, rfl⟩
  have AV := hid (show Below w.heap.size w V by rw [hV]; exact (Below.refl _ _).alloc (Nat.le_refl _) _)
  have FV := hid (show FB V w.heap.size 0 0 by rw [hV]; exact fb_new w 0 0)
  have hVs : w.heap.size < V.heap.size := by rw [hV]; simp
  have F := hid (specFrom ca len cap V)
  have HB := hid (byi_below hb AV.out)
  clear hb
  go_enter Try.func33, Try.ntmps33
  go_wp2_with (fail)
  try rw [← hV]
  clear hV
  refine F.out.mono ?_
  rintro e W ⟨rfl, hW⟩
  have A0 := hid (show Below V.heap.size V W by rw [hW]; exact (Below.refl _ _).alloc (Nat.le_refl _) _)
  have S0 := hid (show St W V.heap.size ca len cap 0 by rw [hW]; exact st_new HB.out)
  have D := hid (draw5 V.heap.size ca len cap 0 W S0.out (by omega) hl)
  clear hW F HB
  go_wp2_with (fail)
  refine D.out.mono ?_
  rintro e w4 ⟨n, d, rfl, s4, g4⟩
  have G4 := hid (below_fr5 A0.out g4 (Nat.le_refl _))
  have F4 := hid (fb_below FV.out G4.out)
  obtain ⟨c0, c1, f0, f1, hl4⟩ := fb_cells F4.out
  clear s4 g4
  go_wp2_with (fail)
  obtain ⟨r0, r1, _⟩ := fb_cells (fb_set F4.out n d)
  refine bodyPost_ret (v := .agg #[.int .i64 n, .int .i64 d]) (by simp [results, Try.results33, go_sem, r0, r1]) rfl ⟨n, d, rfl, ?_⟩
  exact fset_below (AV.out.trans (G4.out.mono AV.out.size)) (Nat.le_refl _) _ _

end Go.Proofs.Ytjijabfamjhdjaa

/-! Contracts: the draws of two fractions of chapter 5, out of bytes. -/
namespace Go.Proofs.Ytjijabfamjhdjaa
open Go.RowKit

theorem fb2r8 {w : World} {s : Nat} {a b c d : Int} (h0 : FB w s a b) (h1 : FB w (s + 1) c d) (x y z u : Int) :
    FB ((((w.setCell ⟨s, 0, none⟩ (.int .i64 x)).setCell ⟨s, 1, none⟩ (.int .i64 y)).setCell ⟨s + 1, 0, none⟩ (.int .i64 z)).setCell ⟨s + 1, 1, none⟩ (.int .i64 u)) s x y ∧ FB ((((w.setCell ⟨s, 0, none⟩ (.int .i64 x)).setCell ⟨s, 1, none⟩ (.int .i64 y)).setCell ⟨s + 1, 0, none⟩ (.int .i64 z)).setCell ⟨s + 1, 1, none⟩ (.int .i64 u)) (s + 1) z u :=
  ⟨fb_other (fb_set h0 x y) (by omega) _ _, fb_set (fb_other h1 (by omega) _ _) z u⟩

/-- Two results, two fractions in their blocks. -/
def D8 (w : World) (q : Nat) (n d m f : Int) (W : World) : Prop := FB W w.heap.size 0 0 ∧ FB W (w.heap.size + 1) 0 0 ∧ FB W q n d ∧ FB W (q + 1) m f ∧ Below w.heap.size w W
theorem d8_below {w : World} {q : Nat} {n d m f : Int} {W W' : World} (h : D8 w q n d m f W) (hb : Below W.heap.size W W') : D8 w q n d m f W' := by
  obtain ⟨h1, h2, h3, h4, h5⟩ := h
  exact ⟨fb_below h1 hb, fb_below h2 hb, fb_below h3 hb, fb_below h4 hb, h5.trans (hb.mono h5.size)⟩
theorem d8_only {w : World} {q : Nat} {n d m f : Int} {W W' : World} {b : Nat} (h : D8 w q n d m f W) (hg : W.grownBy W' (some b)) (h1 : w.heap.size + 1 < b) (h2 : b < q) : D8 w q n d m f W' := by
  obtain ⟨k1, k2, k3, k4, k5⟩ := h
  exact ⟨fb_only hg (by omega) k1, fb_only hg (by omega) k2, fb_only hg (by omega) k3, fb_only hg (by omega) k4, k5.grown hg k5.size (fun k hk => by have e := Option.some.inj hk; omega)⟩
theorem d8_end {w : World} {q : Nat} {n d m f : Int} {W : World} (h : D8 w q n d m f W) (x y z u : Int) :
    FB ((((W.setCell ⟨w.heap.size, 0, none⟩ (.int .i64 x)).setCell ⟨w.heap.size, 1, none⟩ (.int .i64 y)).setCell ⟨w.heap.size + 1, 0, none⟩ (.int .i64 z)).setCell ⟨w.heap.size + 1, 1, none⟩ (.int .i64 u)) w.heap.size x y ∧ FB ((((W.setCell ⟨w.heap.size, 0, none⟩ (.int .i64 x)).setCell ⟨w.heap.size, 1, none⟩ (.int .i64 y)).setCell ⟨w.heap.size + 1, 0, none⟩ (.int .i64 z)).setCell ⟨w.heap.size + 1, 1, none⟩ (.int .i64 u)) (w.heap.size + 1) z u ∧
    Below w.heap.size w ((((W.setCell ⟨w.heap.size, 0, none⟩ (.int .i64 x)).setCell ⟨w.heap.size, 1, none⟩ (.int .i64 y)).setCell ⟨w.heap.size + 1, 0, none⟩ (.int .i64 z)).setCell ⟨w.heap.size + 1, 1, none⟩ (.int .i64 u)) :=
  ⟨(fb2r8 h.1 h.2.1 x y z u).1, (fb2r8 h.1 h.2.1 x y z u).2, fset_below (fset_below h.2.2.2.2 (Nat.le_refl _) _ _) (by omega) _ _⟩

set_option maxRecDepth 100000 in
set_option maxHeartbeats 6400000 in
theorem drawCa (ca : Option Addr) (len cap : Nat) (w : World) (hb : ByI w ca len) (hl : len ≤ 5000) :
    Calls Try.prog 27 #[.slice ca len cap] w fun e w' => ∃ n d m f : Int, e = .returned (.tuple #[.agg #[.int .i64 n, .int .i64 d], .agg #[.int .i64 m, .int .i64 f]]) ∧ Below w.heap.size w w' := by
  obtain ⟨V, hV⟩ : ∃ V, V = (w.alloc (.cells #[.int .i64 0, .int .i64 0] 25)).alloc (.cells #[.int .i64 0, .int .i64 0] 25) := ⟨_, rfl⟩
  have AV := hid (show Below w.heap.size w V by rw [hV]; exact ((Below.refl _ _).alloc (Nat.le_refl _) _).alloc (by simp) _)
  have N0 := new_two w (.cells #[.int .i64 0, .int .i64 0] 25) (.cells #[.int .i64 0, .int .i64 0] 25)
  rw [← hV] at N0
  have F0 := hid (show FB V w.heap.size 0 0 from N0.1)
  have F1 := hid (show FB V (w.heap.size + 1) 0 0 from N0.2.1)
  have hVs : w.heap.size + 1 < V.heap.size := by rw [hV]; simp
  have F := hid (specFrom ca len cap V)
  have HB := hid (byi_below hb AV.out)
  clear hb N0
  go_enter Try.func27, Try.ntmps27
  go_wp2_with (fail)
  try rw [← hV]
  clear hV
  refine F.out.mono ?_
  rintro e W ⟨rfl, hW⟩
  have A0 := hid (show Below V.heap.size V W by rw [hW]; exact (Below.refl _ _).alloc (Nat.le_refl _) _)
  have S0 := hid (show St W V.heap.size ca len cap 0 by rw [hW]; exact st_new HB.out)
  have Q := hid (pair5 V.heap.size ca len cap 0 W S0.out (by omega) hl)
  have hWs : V.heap.size < W.heap.size := by rw [hW]; simp
  clear hW F HB
  go_wp2_with (fail)
  refine Q.out.mono ?_
  rintro e w1 ⟨n, d, m, f, rfl, s1, g1⟩
  have hz1 := g1.size
  have G1 := hid (below_fr5 A0.out g1 (Nat.le_refl _))
  clear Q
  have F0a := hid (fb_below F0.out G1.out)
  have F1a := hid (fb_below F1.out G1.out)
  have E1 := hid (AV.out.trans (G1.out.mono AV.out.size))
  obtain ⟨a0, a1, fa0, fa1, la⟩ := fb_cells F0a.out
  obtain ⟨b0, b1, fb0, fb1, lb⟩ := fb_cells F1a.out
  clear s1 g1 F0 F1 A0 S0 G1 AV
  go_wp2_with (fail)
  obtain ⟨t0, t1⟩ := fb2r8 F0a.out F1a.out n d m f
  obtain ⟨r0, r1, _⟩ := fb_cells t0
  obtain ⟨r2, r3, _⟩ := fb_cells t1
  refine bodyPost_ret (v := .tuple #[.agg #[.int .i64 n, .int .i64 d], .agg #[.int .i64 m, .int .i64 f]]) (by simp [results, Try.results27, go_sem, r0, r1, r2, r3]) rfl ⟨n, d, m, f, rfl, ?_⟩
  exact fset_below (fset_below E1.out (Nat.le_refl _) _ _) (by omega) _ _

set_option maxRecDepth 100000 in
set_option maxHeartbeats 6400000 in
theorem drawIs (ca : Option Addr) (len cap : Nat) (w : World) (hb : ByI w ca len) (hl : len ≤ 5000) :
    Calls Try.prog 30 #[.slice ca len cap] w fun e w' => ∃ n d m f : Int, e = .returned (.tuple #[.agg #[.int .i64 n, .int .i64 d], .agg #[.int .i64 m, .int .i64 f]]) ∧ Below w.heap.size w w' := by
  obtain ⟨V, hV⟩ : ∃ V, V = (w.alloc (.cells #[.int .i64 0, .int .i64 0] 25)).alloc (.cells #[.int .i64 0, .int .i64 0] 25) := ⟨_, rfl⟩
  have AV := hid (show Below w.heap.size w V by rw [hV]; exact ((Below.refl _ _).alloc (Nat.le_refl _) _).alloc (by simp) _)
  have N0 := new_two w (.cells #[.int .i64 0, .int .i64 0] 25) (.cells #[.int .i64 0, .int .i64 0] 25)
  rw [← hV] at N0
  have F0 := hid (show FB V w.heap.size 0 0 from N0.1)
  have F1 := hid (show FB V (w.heap.size + 1) 0 0 from N0.2.1)
  have hVs : w.heap.size + 1 < V.heap.size := by rw [hV]; simp
  have F := hid (specFrom ca len cap V)
  have HB := hid (byi_below hb AV.out)
  clear hb N0
  go_enter Try.func30, Try.ntmps30
  go_wp2_with (fail)
  try rw [← hV]
  clear hV
  refine F.out.mono ?_
  rintro e W ⟨rfl, hW⟩
  have A0 := hid (show Below V.heap.size V W by rw [hW]; exact (Below.refl _ _).alloc (Nat.le_refl _) _)
  have S0 := hid (show St W V.heap.size ca len cap 0 by rw [hW]; exact st_new HB.out)
  have Q := hid (pair5 V.heap.size ca len cap 0 W S0.out (by omega) hl)
  have hWs : V.heap.size < W.heap.size := by rw [hW]; simp
  clear hW F HB
  go_wp2_with (fail)
  refine Q.out.mono ?_
  rintro e w1 ⟨n, d, m, f, rfl, s1, g1⟩
  have hz1 := g1.size
  have G1 := hid (below_fr5 A0.out g1 (Nat.le_refl _))
  clear Q
  obtain ⟨W2, hW2⟩ : ∃ W2, W2 = (w1.alloc (.cells #[.int .i64 n, .int .i64 d] 25)).alloc (.cells #[.int .i64 m, .int .i64 f] 25) := ⟨_, rfl⟩
  have A2 : Below w1.heap.size w1 W2 := by rw [hW2]; exact ((Below.refl _ _).alloc (Nat.le_refl _) _).alloc (by simp) _
  have N2 := new_two w1 (.cells #[.int .i64 n, .int .i64 d] 25) (.cells #[.int .i64 m, .int .i64 f] 25)
  rw [← hW2] at N2
  have P2 := hid (show FB W2 w1.heap.size n d from N2.1)
  have Q2 := hid (show FB W2 (w1.heap.size + 1) m f from N2.2.1)
  have S2 := hid (st_more (st_below s1 A2) (show 0 + 60 ≤ 62 by omega))
  have G2 := hid (G1.out.trans (A2.mono G1.out.size))
  have X2 := hid (show D8 w w1.heap.size n d m f W2 from ⟨fb_below F0.out G2.out, fb_below F1.out G2.out, P2.out, Q2.out, AV.out.trans (G2.out.mono AV.out.size)⟩)
  have hbq : w.heap.size + 1 < V.heap.size := hVs
  have hqb : V.heap.size < w1.heap.size := by omega
  clear s1 g1 A2 N2 A0 S0 F0 F1 G1 G2 AV
  have O := hid (oneS V.heap.size ca len cap 62 2 W2 S2.out (by omega) hl (by omega) (by omega))
  go_wp2_with (fail)
  rw [← hW2]
  clear hW2 P2 Q2
  obtain ⟨q, hq⟩ : ∃ q, q = w1.heap.size := ⟨_, rfl⟩
  rw [← hq] at X2 hqb ⊢
  clear hq
  refine O.out.mono ?_
  rintro e W4 ⟨r, rfl, s4, g4⟩
  have X4 := hid (d8_only X2.out g4 hbq hqb)
  clear s4 g4 O X2
  cases r
  case true =>
    obtain ⟨a0, a1, fa0, fa1, la⟩ := fb_cells X4.out.1
    obtain ⟨b0, b1, fb0, fb1, lb⟩ := fb_cells X4.out.2.1
    obtain ⟨p0, p1, _, _, lp⟩ := fb_cells X4.out.2.2.1
    obtain ⟨q0, q1, _, _, lq⟩ := fb_cells X4.out.2.2.2.1
    go_wp2_with (fail)
    go_region
    simp only [Exit.then]
    go_wp2_with (fail)
    obtain ⟨t0, t1, tb⟩ := d8_end X4.out m f n d
    obtain ⟨r0, r1, _⟩ := fb_cells t0
    obtain ⟨r2, r3, _⟩ := fb_cells t1
    refine bodyPost_ret (v := .tuple #[.agg #[.int .i64 m, .int .i64 f], .agg #[.int .i64 n, .int .i64 d]]) (by simp [results, Try.results30, go_sem, r0, r1, r2, r3]) rfl ⟨m, f, n, d, rfl, ?_⟩
    exact Below.drew tb
  case false =>
    obtain ⟨a0, a1, fa0, fa1, la⟩ := fb_cells X4.out.1
    obtain ⟨b0, b1, fb0, fb1, lb⟩ := fb_cells X4.out.2.1
    obtain ⟨p0, p1, _, _, lp⟩ := fb_cells X4.out.2.2.1
    obtain ⟨q0, q1, _, _, lq⟩ := fb_cells X4.out.2.2.2.1
    go_wp2_with (fail)
    go_region
    simp only [Exit.then]
    go_wp2_with (fail)
    obtain ⟨t0, t1, tb⟩ := d8_end X4.out n d m f
    obtain ⟨r0, r1, _⟩ := fb_cells t0
    obtain ⟨r2, r3, _⟩ := fb_cells t1
    refine bodyPost_ret (v := .tuple #[.agg #[.int .i64 n, .int .i64 d], .agg #[.int .i64 m, .int .i64 f]]) (by simp [results, Try.results30, go_sem, r0, r1, r2, r3]) rfl ⟨n, d, m, f, rfl, ?_⟩
    exact Below.drew tb

set_option maxRecDepth 100000 in
set_option maxHeartbeats 6400000 in
theorem drawSb (ca : Option Addr) (len cap : Nat) (w : World) (hb : ByI w ca len) (hl : len ≤ 5000) :
    Calls Try.prog 24 #[.slice ca len cap] w fun e w' => ∃ n d m f : Int, e = .returned (.tuple #[.agg #[.int .i64 n, .int .i64 d], .agg #[.int .i64 m, .int .i64 f]]) ∧ Below w.heap.size w w' := by
  obtain ⟨V, hV⟩ : ∃ V, V = (w.alloc (.cells #[.int .i64 0, .int .i64 0] 25)).alloc (.cells #[.int .i64 0, .int .i64 0] 25) := ⟨_, rfl⟩
  have AV := hid (show Below w.heap.size w V by rw [hV]; exact ((Below.refl _ _).alloc (Nat.le_refl _) _).alloc (by simp) _)
  have N0 := new_two w (.cells #[.int .i64 0, .int .i64 0] 25) (.cells #[.int .i64 0, .int .i64 0] 25)
  rw [← hV] at N0
  have F0 := hid (show FB V w.heap.size 0 0 from N0.1)
  have F1 := hid (show FB V (w.heap.size + 1) 0 0 from N0.2.1)
  have hVs : w.heap.size + 1 < V.heap.size := by rw [hV]; simp
  have F := hid (specFrom ca len cap V)
  have HB := hid (byi_below hb AV.out)
  clear hb N0
  go_enter Try.func24, Try.ntmps24
  go_wp2_with (fail)
  try rw [← hV]
  clear hV
  refine F.out.mono ?_
  rintro e W ⟨rfl, hW⟩
  have A0 := hid (show Below V.heap.size V W by rw [hW]; exact (Below.refl _ _).alloc (Nat.le_refl _) _)
  have S0 := hid (show St W V.heap.size ca len cap 0 by rw [hW]; exact st_new HB.out)
  have Q := hid (pair5 V.heap.size ca len cap 0 W S0.out (by omega) hl)
  have hWs : V.heap.size < W.heap.size := by rw [hW]; simp
  clear hW F HB
  go_wp2_with (fail)
  refine Q.out.mono ?_
  rintro e w1 ⟨n, d, m, f, rfl, s1, g1⟩
  have hz1 := g1.size
  have G1 := hid (below_fr5 A0.out g1 (Nat.le_refl _))
  clear Q
  obtain ⟨W2, hW2⟩ : ∃ W2, W2 = (w1.alloc (.cells #[.int .i64 n, .int .i64 d] 25)).alloc (.cells #[.int .i64 m, .int .i64 f] 25) := ⟨_, rfl⟩
  have A2 : Below w1.heap.size w1 W2 := by rw [hW2]; exact ((Below.refl _ _).alloc (Nat.le_refl _) _).alloc (by simp) _
  have N2 := new_two w1 (.cells #[.int .i64 n, .int .i64 d] 25) (.cells #[.int .i64 m, .int .i64 f] 25)
  rw [← hW2] at N2
  have P2 := hid (show FB W2 w1.heap.size n d from N2.1)
  have Q2 := hid (show FB W2 (w1.heap.size + 1) m f from N2.2.1)
  have S2 := hid (st_more (st_below s1 A2) (show 0 + 60 ≤ 62 by omega))
  have G2 := hid (G1.out.trans (A2.mono G1.out.size))
  have X2 := hid (show D8 w w1.heap.size n d m f W2 from ⟨fb_below F0.out G2.out, fb_below F1.out G2.out, P2.out, Q2.out, AV.out.trans (G2.out.mono AV.out.size)⟩)
  have hbq : w.heap.size + 1 < V.heap.size := hVs
  have hqb : V.heap.size < w1.heap.size := by omega
  clear s1 g1 A2 N2 A0 S0 F0 F1 G1 G2 AV
  have HO := hid (fun w => specOk n d w)
  have HO2 := hid (fun w => specOk m f w)
  have HLS := hid (fun (h1 : okF n d = true) (h2 : okF m f = true) w => specLess m f n d w h2 h1)
  have HON := hid (fun w (h : St w V.heap.size ca len cap 62) => oneS V.heap.size ca len cap 62 6 w h (by omega) hl (by omega) (by omega))
  obtain ⟨e0, e1, _, _, le⟩ := fb_cells P2.out
  rw [hW2] at e0 e1
  go_wp2_with (fail)
  rw [← hW2]
  clear e0 e1 hW2 P2 Q2
  obtain ⟨q, hq⟩ : ∃ q, q = w1.heap.size := ⟨_, rfl⟩
  rw [← hq] at X2 hqb ⊢
  clear hq
  refine (HO.out _).mono ?_
  rintro e W3 ⟨rfl, v3⟩
  have X3 := hid (d8_below X2.out v3)
  have S3 := hid (st_below S2.out v3)
  clear v3 X2 S2 HO le
  cases ho : okF n d
  case false =>
    clear HLS HON HO2 ho
    have O5 := hid (oneS V.heap.size ca len cap 62 10 _ S3.out (by omega) hl (by omega) (by omega))
    go_wp2_with (fail)
    refine O5.out.mono ?_
    rintro e W5 ⟨r5, rfl, s5, g5⟩
    have X5 := hid (d8_only X3.out g5 hbq hqb)
    have S5 := hid s5
    clear s5 g5 O5 X3 S3
    cases r5
    case true =>
      obtain ⟨a0, a1, fa0, fa1, la⟩ := fb_cells X5.out.1
      obtain ⟨b0, b1, fb0, fb1, lb⟩ := fb_cells X5.out.2.1
      obtain ⟨p0, p1, _, _, lp⟩ := fb_cells X5.out.2.2.1
      obtain ⟨q0, q1, _, _, lq⟩ := fb_cells X5.out.2.2.2.1
      go_wp2_with (fail)
      go_region
      simp only [Exit.then]
      go_wp2_with (fail)
      obtain ⟨t0, t1, tb⟩ := d8_end X5.out 0 1 n d
      obtain ⟨r0, r1, _⟩ := fb_cells t0
      obtain ⟨r2, r3, _⟩ := fb_cells t1
      refine bodyPost_ret (v := .tuple #[.agg #[.int .i64 0, .int .i64 1], .agg #[.int .i64 n, .int .i64 d]]) (by simp [results, Try.results24, go_sem, r0, r1, r2, r3]) rfl ⟨0, 1, n, d, rfl, ?_⟩
      exact Below.drew tb
    have O6 := hid (oneS V.heap.size ca len cap (62 + 2) 10 _ S5.out (by omega) hl (by omega) (by omega))
    go_wp2_with (fail)
    refine O6.out.mono ?_
    rintro e W6 ⟨r6, rfl, s6, g6⟩
    have X6 := hid (d8_only X5.out g6 hbq hqb)
    clear s6 g6 O6 X5 S5
    cases r6
    case true =>
      obtain ⟨a0, a1, fa0, fa1, la⟩ := fb_cells X6.out.1
      obtain ⟨b0, b1, fb0, fb1, lb⟩ := fb_cells X6.out.2.1
      obtain ⟨p0, p1, _, _, lp⟩ := fb_cells X6.out.2.2.1
      obtain ⟨q0, q1, _, _, lq⟩ := fb_cells X6.out.2.2.2.1
      go_wp2_with (fail)
      obtain ⟨t0, t1, tb⟩ := d8_end X6.out 999999998 999999999 999999999 1000000000
      obtain ⟨r0, r1, _⟩ := fb_cells t0
      obtain ⟨r2, r3, _⟩ := fb_cells t1
      refine bodyPost_ret (v := .tuple #[.agg #[.int .i64 999999998, .int .i64 999999999], .agg #[.int .i64 999999999, .int .i64 1000000000]]) (by simp [results, Try.results24, go_sem, r0, r1, r2, r3]) rfl ⟨999999998, 999999999, 999999999, 1000000000, rfl, ?_⟩
      exact tb
    obtain ⟨a0, a1, fa0, fa1, la⟩ := fb_cells X6.out.1
    obtain ⟨b0, b1, fb0, fb1, lb⟩ := fb_cells X6.out.2.1
    obtain ⟨p0, p1, _, _, lp⟩ := fb_cells X6.out.2.2.1
    obtain ⟨q0, q1, _, _, lq⟩ := fb_cells X6.out.2.2.2.1
    go_wp2_with (fail)
    go_region
    simp only [Exit.then]
    go_wp2_with (fail)
    obtain ⟨t0, t1, tb⟩ := d8_end X6.out n d m f
    obtain ⟨r0, r1, _⟩ := fb_cells t0
    obtain ⟨r2, r3, _⟩ := fb_cells t1
    refine bodyPost_ret (v := .tuple #[.agg #[.int .i64 n, .int .i64 d], .agg #[.int .i64 m, .int .i64 f]]) (by simp [results, Try.results24, go_sem, r0, r1, r2, r3]) rfl ⟨n, d, m, f, rfl, ?_⟩
    exact Below.drew tb
  obtain ⟨e0, e1, _, _, le⟩ := fb_cells X3.out.2.2.2.1
  go_wp2_with (fail)
  refine (HO2.out _).mono ?_
  rintro e W4 ⟨rfl, v4⟩
  have X4 := hid (d8_below X3.out v4)
  have S4 := hid (st_below S3.out v4)
  clear v4 X3 S3 HO2 e0 e1 le
  cases ho2 : okF m f
  case false =>
    clear HLS HON ho ho2
    have O5 := hid (oneS V.heap.size ca len cap 62 10 _ S4.out (by omega) hl (by omega) (by omega))
    go_wp2_with (fail)
    refine O5.out.mono ?_
    rintro e W5 ⟨r5, rfl, s5, g5⟩
    have X5 := hid (d8_only X4.out g5 hbq hqb)
    have S5 := hid s5
    clear s5 g5 O5 X4 S4
    cases r5
    case true =>
      obtain ⟨a0, a1, fa0, fa1, la⟩ := fb_cells X5.out.1
      obtain ⟨b0, b1, fb0, fb1, lb⟩ := fb_cells X5.out.2.1
      obtain ⟨p0, p1, _, _, lp⟩ := fb_cells X5.out.2.2.1
      obtain ⟨q0, q1, _, _, lq⟩ := fb_cells X5.out.2.2.2.1
      go_wp2_with (fail)
      go_region
      simp only [Exit.then]
      go_wp2_with (fail)
      obtain ⟨t0, t1, tb⟩ := d8_end X5.out 0 1 n d
      obtain ⟨r0, r1, _⟩ := fb_cells t0
      obtain ⟨r2, r3, _⟩ := fb_cells t1
      refine bodyPost_ret (v := .tuple #[.agg #[.int .i64 0, .int .i64 1], .agg #[.int .i64 n, .int .i64 d]]) (by simp [results, Try.results24, go_sem, r0, r1, r2, r3]) rfl ⟨0, 1, n, d, rfl, ?_⟩
      exact Below.drew tb
    have O6 := hid (oneS V.heap.size ca len cap (62 + 2) 10 _ S5.out (by omega) hl (by omega) (by omega))
    go_wp2_with (fail)
    refine O6.out.mono ?_
    rintro e W6 ⟨r6, rfl, s6, g6⟩
    have X6 := hid (d8_only X5.out g6 hbq hqb)
    clear s6 g6 O6 X5 S5
    cases r6
    case true =>
      obtain ⟨a0, a1, fa0, fa1, la⟩ := fb_cells X6.out.1
      obtain ⟨b0, b1, fb0, fb1, lb⟩ := fb_cells X6.out.2.1
      obtain ⟨p0, p1, _, _, lp⟩ := fb_cells X6.out.2.2.1
      obtain ⟨q0, q1, _, _, lq⟩ := fb_cells X6.out.2.2.2.1
      go_wp2_with (fail)
      obtain ⟨t0, t1, tb⟩ := d8_end X6.out 999999998 999999999 999999999 1000000000
      obtain ⟨r0, r1, _⟩ := fb_cells t0
      obtain ⟨r2, r3, _⟩ := fb_cells t1
      refine bodyPost_ret (v := .tuple #[.agg #[.int .i64 999999998, .int .i64 999999999], .agg #[.int .i64 999999999, .int .i64 1000000000]]) (by simp [results, Try.results24, go_sem, r0, r1, r2, r3]) rfl ⟨999999998, 999999999, 999999999, 1000000000, rfl, ?_⟩
      exact tb
    obtain ⟨a0, a1, fa0, fa1, la⟩ := fb_cells X6.out.1
    obtain ⟨b0, b1, fb0, fb1, lb⟩ := fb_cells X6.out.2.1
    obtain ⟨p0, p1, _, _, lp⟩ := fb_cells X6.out.2.2.1
    obtain ⟨q0, q1, _, _, lq⟩ := fb_cells X6.out.2.2.2.1
    go_wp2_with (fail)
    go_region
    simp only [Exit.then]
    go_wp2_with (fail)
    obtain ⟨t0, t1, tb⟩ := d8_end X6.out n d m f
    obtain ⟨r0, r1, _⟩ := fb_cells t0
    obtain ⟨r2, r3, _⟩ := fb_cells t1
    refine bodyPost_ret (v := .tuple #[.agg #[.int .i64 n, .int .i64 d], .agg #[.int .i64 m, .int .i64 f]]) (by simp [results, Try.results24, go_sem, r0, r1, r2, r3]) rfl ⟨n, d, m, f, rfl, ?_⟩
    exact Below.drew tb
  have HL := hid (HLS.out ho ho2)
  generalize decide (m * d - n * f < 0) = lb at *
  clear HLS ho ho2
  obtain ⟨e0, e1, _, _, le⟩ := fb_cells X4.out.2.2.1
  obtain ⟨h0, h1, _, _, lh⟩ := fb_cells X4.out.2.2.2.1
  go_wp2_with (fail)
  refine (HL.out _).mono ?_
  rintro e W7 ⟨rfl, v7⟩
  have X7 := hid (d8_below X4.out v7)
  have S7 := hid (st_below S4.out v7)
  clear v7 X4 S4 HL e0 e1 le h0 h1 lh
  cases lb
  case false =>
    clear HON
    have O5 := hid (oneS V.heap.size ca len cap 62 10 _ S7.out (by omega) hl (by omega) (by omega))
    go_wp2_with (fail)
    refine O5.out.mono ?_
    rintro e W5 ⟨r5, rfl, s5, g5⟩
    have X5 := hid (d8_only X7.out g5 hbq hqb)
    have S5 := hid s5
    clear s5 g5 O5 X7 S7
    cases r5
    case true =>
      obtain ⟨a0, a1, fa0, fa1, la⟩ := fb_cells X5.out.1
      obtain ⟨b0, b1, fb0, fb1, lb⟩ := fb_cells X5.out.2.1
      obtain ⟨p0, p1, _, _, lp⟩ := fb_cells X5.out.2.2.1
      obtain ⟨q0, q1, _, _, lq⟩ := fb_cells X5.out.2.2.2.1
      go_wp2_with (fail)
      go_region
      simp only [Exit.then]
      go_wp2_with (fail)
      obtain ⟨t0, t1, tb⟩ := d8_end X5.out 0 1 n d
      obtain ⟨r0, r1, _⟩ := fb_cells t0
      obtain ⟨r2, r3, _⟩ := fb_cells t1
      refine bodyPost_ret (v := .tuple #[.agg #[.int .i64 0, .int .i64 1], .agg #[.int .i64 n, .int .i64 d]]) (by simp [results, Try.results24, go_sem, r0, r1, r2, r3]) rfl ⟨0, 1, n, d, rfl, ?_⟩
      exact Below.drew tb
    have O6 := hid (oneS V.heap.size ca len cap (62 + 2) 10 _ S5.out (by omega) hl (by omega) (by omega))
    go_wp2_with (fail)
    refine O6.out.mono ?_
    rintro e W6 ⟨r6, rfl, s6, g6⟩
    have X6 := hid (d8_only X5.out g6 hbq hqb)
    clear s6 g6 O6 X5 S5
    cases r6
    case true =>
      obtain ⟨a0, a1, fa0, fa1, la⟩ := fb_cells X6.out.1
      obtain ⟨b0, b1, fb0, fb1, lb⟩ := fb_cells X6.out.2.1
      obtain ⟨p0, p1, _, _, lp⟩ := fb_cells X6.out.2.2.1
      obtain ⟨q0, q1, _, _, lq⟩ := fb_cells X6.out.2.2.2.1
      go_wp2_with (fail)
      obtain ⟨t0, t1, tb⟩ := d8_end X6.out 999999998 999999999 999999999 1000000000
      obtain ⟨r0, r1, _⟩ := fb_cells t0
      obtain ⟨r2, r3, _⟩ := fb_cells t1
      refine bodyPost_ret (v := .tuple #[.agg #[.int .i64 999999998, .int .i64 999999999], .agg #[.int .i64 999999999, .int .i64 1000000000]]) (by simp [results, Try.results24, go_sem, r0, r1, r2, r3]) rfl ⟨999999998, 999999999, 999999999, 1000000000, rfl, ?_⟩
      exact tb
    obtain ⟨a0, a1, fa0, fa1, la⟩ := fb_cells X6.out.1
    obtain ⟨b0, b1, fb0, fb1, lb⟩ := fb_cells X6.out.2.1
    obtain ⟨p0, p1, _, _, lp⟩ := fb_cells X6.out.2.2.1
    obtain ⟨q0, q1, _, _, lq⟩ := fb_cells X6.out.2.2.2.1
    go_wp2_with (fail)
    go_region
    simp only [Exit.then]
    go_wp2_with (fail)
    obtain ⟨t0, t1, tb⟩ := d8_end X6.out n d m f
    obtain ⟨r0, r1, _⟩ := fb_cells t0
    obtain ⟨r2, r3, _⟩ := fb_cells t1
    refine bodyPost_ret (v := .tuple #[.agg #[.int .i64 n, .int .i64 d], .agg #[.int .i64 m, .int .i64 f]]) (by simp [results, Try.results24, go_sem, r0, r1, r2, r3]) rfl ⟨n, d, m, f, rfl, ?_⟩
    exact Below.drew tb
  have O8 := hid (HON.out _ S7.out)
  clear HON
  go_wp2_with (fail)
  refine O8.out.mono ?_
  rintro e W8 ⟨r8, rfl, s8, g8⟩
  have X8 := hid (d8_only X7.out g8 hbq hqb)
  have S8 := hid s8
  clear s8 g8 O8 X7 S7
  cases r8
  case true =>
    have O5 := hid (oneS V.heap.size ca len cap (62 + 2) 10 _ S8.out (by omega) hl (by omega) (by omega))
    go_wp2_with (fail)
    refine O5.out.mono ?_
    rintro e W5 ⟨r5, rfl, s5, g5⟩
    have X5 := hid (d8_only X8.out g5 hbq hqb)
    have S5 := hid s5
    clear s5 g5 O5 X8 S8
    cases r5
    case true =>
      obtain ⟨a0, a1, fa0, fa1, la⟩ := fb_cells X5.out.1
      obtain ⟨b0, b1, fb0, fb1, lb⟩ := fb_cells X5.out.2.1
      obtain ⟨p0, p1, _, _, lp⟩ := fb_cells X5.out.2.2.1
      obtain ⟨q0, q1, _, _, lq⟩ := fb_cells X5.out.2.2.2.1
      go_wp2_with (fail)
      go_region
      simp only [Exit.then]
      go_wp2_with (fail)
      obtain ⟨t0, t1, tb⟩ := d8_end X5.out 0 1 n d
      obtain ⟨r0, r1, _⟩ := fb_cells t0
      obtain ⟨r2, r3, _⟩ := fb_cells t1
      refine bodyPost_ret (v := .tuple #[.agg #[.int .i64 0, .int .i64 1], .agg #[.int .i64 n, .int .i64 d]]) (by simp [results, Try.results24, go_sem, r0, r1, r2, r3]) rfl ⟨0, 1, n, d, rfl, ?_⟩
      exact Below.drew tb
    have O6 := hid (oneS V.heap.size ca len cap ((62 + 2) + 2) 10 _ S5.out (by omega) hl (by omega) (by omega))
    go_wp2_with (fail)
    refine O6.out.mono ?_
    rintro e W6 ⟨r6, rfl, s6, g6⟩
    have X6 := hid (d8_only X5.out g6 hbq hqb)
    clear s6 g6 O6 X5 S5
    cases r6
    case true =>
      obtain ⟨a0, a1, fa0, fa1, la⟩ := fb_cells X6.out.1
      obtain ⟨b0, b1, fb0, fb1, lb⟩ := fb_cells X6.out.2.1
      obtain ⟨p0, p1, _, _, lp⟩ := fb_cells X6.out.2.2.1
      obtain ⟨q0, q1, _, _, lq⟩ := fb_cells X6.out.2.2.2.1
      go_wp2_with (fail)
      obtain ⟨t0, t1, tb⟩ := d8_end X6.out 999999998 999999999 999999999 1000000000
      obtain ⟨r0, r1, _⟩ := fb_cells t0
      obtain ⟨r2, r3, _⟩ := fb_cells t1
      refine bodyPost_ret (v := .tuple #[.agg #[.int .i64 999999998, .int .i64 999999999], .agg #[.int .i64 999999999, .int .i64 1000000000]]) (by simp [results, Try.results24, go_sem, r0, r1, r2, r3]) rfl ⟨999999998, 999999999, 999999999, 1000000000, rfl, ?_⟩
      exact tb
    obtain ⟨a0, a1, fa0, fa1, la⟩ := fb_cells X6.out.1
    obtain ⟨b0, b1, fb0, fb1, lb⟩ := fb_cells X6.out.2.1
    obtain ⟨p0, p1, _, _, lp⟩ := fb_cells X6.out.2.2.1
    obtain ⟨q0, q1, _, _, lq⟩ := fb_cells X6.out.2.2.2.1
    go_wp2_with (fail)
    go_region
    simp only [Exit.then]
    go_wp2_with (fail)
    obtain ⟨t0, t1, tb⟩ := d8_end X6.out n d m f
    obtain ⟨r0, r1, _⟩ := fb_cells t0
    obtain ⟨r2, r3, _⟩ := fb_cells t1
    refine bodyPost_ret (v := .tuple #[.agg #[.int .i64 n, .int .i64 d], .agg #[.int .i64 m, .int .i64 f]]) (by simp [results, Try.results24, go_sem, r0, r1, r2, r3]) rfl ⟨n, d, m, f, rfl, ?_⟩
    exact Below.drew tb
  obtain ⟨a0, a1, fa0, fa1, la⟩ := fb_cells X8.out.1
  obtain ⟨b0, b1, fb0, fb1, lb⟩ := fb_cells X8.out.2.1
  obtain ⟨p0, p1, _, _, lp⟩ := fb_cells X8.out.2.2.1
  obtain ⟨q0, q1, _, _, lq⟩ := fb_cells X8.out.2.2.2.1
  go_wp2_with (fail)
  go_region
  simp only [Exit.then]
  go_wp2_with (fail)
  obtain ⟨t0, t1, tb⟩ := d8_end X8.out m f n d
  obtain ⟨r0, r1, _⟩ := fb_cells t0
  obtain ⟨r2, r3, _⟩ := fb_cells t1
  refine bodyPost_ret (v := .tuple #[.agg #[.int .i64 m, .int .i64 f], .agg #[.int .i64 n, .int .i64 d]]) (by simp [results, Try.results24, go_sem, r0, r1, r2, r3]) rfl ⟨m, f, n, d, rfl, ?_⟩
  exact Below.drew tb

end Go.Proofs.Ytjijabfamjhdjaa

/-! Contracts: the laws' own comparisons of two lists of numbers, and their bound. -/
namespace Go.Proofs.Ytjijabfamjhdjaa
open Go.RowKit

theorem f6big (ca : Option Addr) (len cap : Nat) (w : World) :
    Calls Try.prog 7 #[.slice ca len cap] w fun e w' => e = .returned (.bool (decide (4096 < len))) ∧ w' = w := by
  by_cases h : 4096 < len
  · have h' : (4096 : Int) < (len : Int) := by omega
    rw [decide_eq_true h]
    clear h
    go_enter Try.func7, Try.ntmps7
    go_wp2_with (fail)
    go_ret
    exact ⟨rfl, rfl⟩
  · have h' : ¬ (4096 : Int) < (len : Int) := by omega
    rw [decide_eq_false h]
    clear h
    go_enter Try.func7, Try.ntmps7
    go_wp2_with (fail)
    go_ret
    exact ⟨rfl, rfl⟩
theorem arg_at {w : World} {a : Option Addr} {n c : Nat} {xs : List Int} (h : Arg w (.slice a n c) xs) {j : Nat} {x : Int} (hj : xs[j]? = some x) :
    ∃ g o, a = some ⟨g, o, none⟩ ∧ w.cell? ⟨g, o + j, none⟩ = some (.int .i64 x) := by
  rcases h with ⟨_, _, _, rfl⟩ | ⟨g, o, c', h, hs⟩
  · simp at hj
  · simp only [Value.slice.injEq] at h
    obtain ⟨rfl, _, _⟩ := h
    exact ⟨g, o, rfl, hs j x hj⟩

theorem f6ints (a b : Option Addr) (ca cb : Nat) (xs : List Int) (w : World) (hx : xs.length ≤ 2000000) (ha : Arg w (.slice a xs.length ca) xs) (hb : Arg w (.slice b xs.length cb) xs) :
    Calls Try.prog 21 #[.slice a xs.length ca, .slice b xs.length cb] w fun e w' => e = .returned (.bool true) ∧ Below w.heap.size w w' := by
  have HA := hid ha
  have HB := hid hb
  have hne : ((xs.length : Int) != (xs.length : Int)) = false := by simp
  clear ha hb
  go_enter Try.func21, Try.ntmps21
  go_wp2_with (fail)
  go_loopw [5] (fun i wr => ∃ k : Nat, k ≤ xs.length ∧ i = .int .i64 k ∧ Below w.heap.size w wr) (fun i _ => xs.length - (RowKit.intOf i).toNat)
  case atStart => exact ⟨0, by omega, rfl, Below.refl _ _⟩
  case round =>
    obtain ⟨k, hk, rfl, hbel⟩ := hrel
    have HBEL := hid hbel
    have hk0 : (0 : Int) ≤ (k : Int) := by omega
    by_cases hlt : k < xs.length
    · have hlt' : (k : Int) < (xs.length : Int) := by omega
      obtain ⟨x, hxk⟩ : ∃ x, xs[k]? = some x := ⟨_, List.getElem?_eq_getElem hlt⟩
      obtain ⟨ga, oa, rfl, da⟩ := arg_at (arg_below HA.out hbel) hxk
      obtain ⟨gb, ob, rfl, db⟩ := arg_at (arg_below HB.out hbel) hxk
      have e1 : (x != x) = false := by simp
      clear hbel hxk
      go_wp2_with (fail)
      go_quiet (fail)
      go_wp2_with (fail)
      go_roundw
      case rel => exact ⟨k + 1, by omega, by go_num, below_drewN HBEL.out _⟩
      case measure => simp [RowKit.intOf]; omega
    · have hlt' : ¬ (k : Int) < (xs.length : Int) := by omega
      clear hbel
      go_wp2_with (fail)
      go_ret
      exact ⟨rfl, HBEL.out⟩


end Go.Proofs.Ytjijabfamjhdjaa
