/- Contracts: the draws of chapter 6: an order, a fraction from 0 to 1, both. -/
import Derived.Test.YthfogmaefhfkoaaBnt
namespace Go.Proofs.Ythfogmaefhfkoaa
open Go.RowKit

theorem below_fr6 {w W0 w' : World} {b : Nat} (h : Below w.heap.size w W0) (g : W0.grownBy w' (some b)) (hb : w.heap.size ≤ b) : Below w.heap.size w w' :=
  h.grown g h.size (fun k hk => by have e := Option.some.inj hk; omega)

set_option maxHeartbeats 1600000 in
theorem order6 (b : Nat) (ca : Option Addr) (len cap K : Nat) (w : World) (hs : St w b ca len cap K) (hk : K < 800000) (hl : len ≤ 5000) :
    Calls Try.prog 154 #[.pointer (some ⟨b, 0, none⟩)] w fun e w' => ∃ v : Int, e = .returned (.int .i64 v) ∧ St w' b ca len cap (K + 4) ∧ w.grownBy w' (some b) := by
  have P := hid (oneS b ca len cap K 10 w hs (by omega) hl (by omega) (by omega))
  clear hs
  go_enter Try.func154, Try.ntmps154
  go_wp2_with (fail)
  refine P.out.mono ?_
  rintro e w1 ⟨r, rfl, S1, g1⟩
  have HG1 := hid g1
  cases r
  · have Q := hid (pickS b ca len cap (K + 2) 25 w1 S1 (by omega) hl (by omega) (by omega))
    clear S1 g1 P
    go_wp2_with (fail)
    refine Q.out.mono ?_
    rintro e w2 ⟨r, rfl, p1, p2, S2, g2⟩
    have HS2 := hid (st_more S2 (Nat.le_refl _))
    have HG2 := hid (only_trans HG1.out g2)
    clear S2 g2
    go_wp2_with (fail)
    go_ret
    exact ⟨_, rfl, HS2.out, HG2.out⟩
  · have Q := hid (amongL b ca len cap (K + 2) 6 [-1, 0, 1, 40, 41, 10001] 2 w1 rfl S1 (by decide) (by decide) (by omega) hl)
    clear S1 g1 P
    go_wp2_with (fail)
    refine Q.out.mono ?_
    rintro e w2 ⟨r, rfl, S2, g2⟩
    have HS2 := hid S2
    have HG2 := hid (only_trans HG1.out g2)
    clear S2 g2
    go_wp2_with (fail)
    go_ret
    exact ⟨_, rfl, HS2.out, HG2.out⟩

set_option maxHeartbeats 3200000 in
theorem draw6 (b : Nat) (ca : Option Addr) (len cap K : Nat) (w : World) (hs : St w b ca len cap K) (hk : K < 800000) (hl : len ≤ 5000) :
    Calls Try.prog 155 #[.pointer (some ⟨b, 0, none⟩)] w fun e w' => ∃ n d : Int, e = .returned (.agg #[.int .i64 n, .int .i64 d]) ∧ St w' b ca len cap (K + 22) ∧ w.grownBy w' (some b) := by
  have HS := hid hs
  have hbl := st_lt hs
  obtain ⟨W0, hW0⟩ : ∃ W0, W0 = w.alloc (.cells #[.int .i64 0, .int .i64 0] 25) := ⟨_, rfl⟩
  have A0 : Below w.heap.size w W0 := by rw [hW0]; exact (Below.refl _ _).alloc (Nat.le_refl _) _
  have F0 := hid (show FB W0 w.heap.size 0 0 by rw [hW0]; exact fb_new w 0 0)
  have S0 := hid (st_below hs A0)
  have G0 := hid (only_below A0 b)
  have P := hid (oneS b ca len cap K 10 W0 S0.out (by omega) hl (by omega) (by omega))
  clear hs A0
  go_enter Try.func155, Try.ntmps155
  go_wp2_with (fail)
  try rw [← hW0]
  clear hW0
  refine P.out.mono ?_
  rintro e w1 ⟨r, rfl, s1, g1⟩
  have F1 := hid (fb_only g1 (by omega) F0.out)
  have G1 := hid (only_trans G0.out g1)
  have S1 := hid s1
  clear s1 g1
  cases r
  case true =>
    have Q := hid (bentF b ca len cap (K + 2) w1 S1.out (by omega) hl)
    go_wp2_with (fail)
    refine Q.out.mono ?_
    rintro e w4 ⟨n, d, rfl, s4, g4⟩
    have F4 := fb_only g4 (by omega) F1.out
    have G4 := hid (only_trans G1.out g4)
    have S4 := hid s4
    obtain ⟨c0, c1, f0, f1, hl4⟩ := fb_cells F4
    have HF4 := hid F4
    clear s4 g4 F4
    go_wp2_with (fail)
    obtain ⟨r0, r1, _⟩ := fb_cells (fb_set HF4.out n d)
    refine bodyPost_ret (v := .agg #[.int .i64 n, .int .i64 d]) (by simp [results, Try.results155, go_sem, r0, r1]) rfl ⟨n, d, rfl, st_fset HS.out (st_fset HS.out (st_more S4.out (by omega)) (Nat.le_refl _) _ _) (Nat.le_refl _) _ _, only_set (only_set G4.out (Nat.le_refl _) _) (Nat.le_refl _) _⟩
  have Q := hid (pickS b ca len cap (K + 2) 40 w1 S1.out (by omega) hl (by omega) (by omega))
  go_wp2_with (fail)
  refine Q.out.mono ?_
  rintro e w2 ⟨x, rfl, x1, x2, s2, g2⟩
  have F2 := hid (fb_only g2 (by omega) F1.out)
  have G2 := hid (only_trans G1.out g2)
  have O := hid (oneS b ca len cap (K + 2 + 2) 6 w2 s2 (by omega) hl (by omega) (by omega))
  clear s2 g2 Q
  go_wp2_with (fail)
  refine O.out.mono ?_
  rintro e w3 ⟨r, rfl, s3, g3⟩
  have F3 := hid (fb_only g3 (by omega) F2.out)
  have G3 := hid (only_trans G2.out g3)
  have S3 := hid s3
  clear s3 g3 O
  cases r
  case false =>
    have R := hid (pickS b ca len cap (K + 2 + 2 + 2) (1 + x + 1) w3 S3.out (by omega) hl (by omega) (by omega))
    go_wp2_with (fail)
    refine R.out.mono ?_
    rintro e w4 ⟨z, rfl, z1, z2, s4, g4⟩
    have F4 := hid (fb_only g4 (by omega) F3.out)
    have G4 := hid (only_trans G3.out g4)
    have S4 := hid s4
    have M := hid (fun w => specMake z (1 + x) w (by omega) (by omega) (by omega) (by omega))
    clear s4 g4 R
    go_wp2_with (fail)
    refine (M.out _).mono ?_
    rintro e w5 ⟨rfl, v⟩
    have F5 := fb_below F4.out v
    have S5 := hid (st_below S4.out v)
    have G5 := hid (only_trans G4.out (only_below v b))
    obtain ⟨c0, c1, f0, f1, hl4⟩ := fb_cells F5
    have HF5 := hid F5
    generalize lowN z (1 + x) = n at *
    generalize lowD z (1 + x) = d at *
    clear v F5
    go_wp2_with (fail)
    obtain ⟨r0, r1, _⟩ := fb_cells (fb_set HF5.out n d)
    refine bodyPost_ret (v := .agg #[.int .i64 n, .int .i64 d]) (by simp [results, Try.results155, go_sem, r0, r1]) rfl ⟨n, d, rfl, st_fset HS.out (st_fset HS.out (st_more S5.out (by omega)) (Nat.le_refl _) _ _) (Nat.le_refl _) _ _, only_set (only_set G5.out (Nat.le_refl _) _) (Nat.le_refl _) _⟩
  case true =>
    have Q := hid (pickS b ca len cap (K + 2 + 2 + 2) 1000 w3 S3.out (by omega) hl (by omega) (by omega))
    go_wp2_with (fail)
    refine Q.out.mono ?_
    rintro e w4 ⟨y, rfl, y1, y2, s4, g4⟩
    have F4 := hid (fb_only g4 (by omega) F3.out)
    have G4 := hid (only_trans G3.out g4)
    have S4 := hid s4
    clear s4 g4 Q
    have R := hid (pickS b ca len cap (K + 2 + 2 + 2 + 2) (1 + y + 1) w4 S4.out (by omega) hl (by omega) (by omega))
    go_wp2_with (fail)
    refine R.out.mono ?_
    rintro e w5 ⟨z, rfl, z1, z2, s5, g5⟩
    have F5 := hid (fb_only g5 (by omega) F4.out)
    have G5 := hid (only_trans G4.out g5)
    have S5 := hid s5
    have M := hid (fun w => specMake z (1 + y) w (by omega) (by omega) (by omega) (by omega))
    clear s5 g5 R
    go_wp2_with (fail)
    refine (M.out _).mono ?_
    rintro e w6 ⟨rfl, v⟩
    have F6 := fb_below F5.out v
    have S6 := hid (st_below S5.out v)
    have G6 := hid (only_trans G5.out (only_below v b))
    obtain ⟨c0, c1, f0, f1, hl4⟩ := fb_cells F6
    have HF6 := hid F6
    generalize lowN z (1 + y) = n at *
    generalize lowD z (1 + y) = d at *
    clear v F6
    go_wp2_with (fail)
    obtain ⟨r0, r1, _⟩ := fb_cells (fb_set HF6.out n d)
    refine bodyPost_ret (v := .agg #[.int .i64 n, .int .i64 d]) (by simp [results, Try.results155, go_sem, r0, r1]) rfl ⟨n, d, rfl, st_fset HS.out (st_fset HS.out (st_more S6.out (by omega)) (Nat.le_refl _) _ _) (Nat.le_refl _) _ _, only_set (only_set G6.out (Nat.le_refl _) _) (Nat.le_refl _) _⟩

set_option maxHeartbeats 3200000 in
theorem ask6 (ca : Option Addr) (len cap : Nat) (w : World) (hb : ByI w ca len) (hl : len ≤ 5000) :
    Calls Try.prog 113 #[.slice ca len cap] w fun e w' => ∃ v n d : Int, e = .returned (.tuple #[.int .i64 v, .agg #[.int .i64 n, .int .i64 d]]) ∧ Below w.heap.size w w' := by
  obtain ⟨V, hV⟩ : ∃ V, V = w.alloc (.cells #[.int .i64 0, .int .i64 0] 25) := ⟨_, rfl⟩
  have AV := hid (show Below w.heap.size w V by rw [hV]; exact (Below.refl _ _).alloc (Nat.le_refl _) _)
  have FV := hid (show FB V w.heap.size 0 0 by rw [hV]; exact fb_new w 0 0)
  have hVs : w.heap.size < V.heap.size := by rw [hV]; simp
  have F := hid (specFrom ca len cap V)
  have HB := hid (byi_below hb AV.out)
  clear hb
  go_enter Try.func113, Try.ntmps113
  go_wp2_with (fail)
  try rw [← hV]
  clear hV
  refine F.out.mono ?_
  rintro e W ⟨rfl, hW⟩
  have A0 := hid (show Below V.heap.size V W by rw [hW]; exact (Below.refl _ _).alloc (Nat.le_refl _) _)
  have S0 := hid (show St W V.heap.size ca len cap 0 by rw [hW]; exact st_new HB.out)
  have Q := hid (order6 V.heap.size ca len cap 0 W S0.out (by omega) hl)
  clear hW F HB
  go_wp2_with (fail)
  refine Q.out.mono ?_
  rintro e w1 ⟨v, rfl, s1, g1⟩
  have G1 := hid (below_fr6 A0.out g1 (Nat.le_refl _))
  have O := hid (oneS V.heap.size ca len cap (0 + 4) 12 w1 s1 (by omega) hl (by omega) (by omega))
  clear s1 g1 Q
  go_wp2_with (fail)
  refine O.out.mono ?_
  rintro e w2 ⟨r, rfl, s2, g2⟩
  have G2 := hid (below_fr6 G1.out g2 (Nat.le_refl _))
  have S2 := hid s2
  clear s2 g2 O
  cases r
  case false =>
    have D := hid (draw6 V.heap.size ca len cap (0 + 4 + 2) w2 S2.out (by omega) hl)
    clear S2
    go_wp2_with (fail)
    refine D.out.mono ?_
    rintro e w4 ⟨n, d, rfl, s4, g4⟩
    have G4 := hid (below_fr6 G2.out g4 (Nat.le_refl _))
    have F4 := hid (fb_below FV.out G4.out)
    obtain ⟨c0, c1, f0, f1, hl4⟩ := fb_cells F4.out
    clear s4 g4
    go_wp2_with (fail)
    obtain ⟨r0, r1, _⟩ := fb_cells (fb_set F4.out n d)
    refine bodyPost_ret (v := .tuple #[.int .i64 v, .agg #[.int .i64 n, .int .i64 d]]) (by simp [results, Try.results113, go_sem, r0, r1]) rfl ⟨v, n, d, rfl, ?_⟩
    exact fset_below (AV.out.trans (G4.out.mono AV.out.size)) (Nat.le_refl _) _ _
  case true =>
    have Q := hid (amongL V.heap.size ca len cap (0 + 4 + 2) 2 [1000, 10000] 2 w2 rfl S2.out (by decide) (by decide) (by omega) hl)
    go_wp2_with (fail)
    refine Q.out.mono ?_
    rintro e w3 ⟨v2, rfl, s3, g3⟩
    have G3 := hid (below_fr6 G2.out g3 (Nat.le_refl _))
    have S3 := hid s3
    clear s3 g3 Q S2
    have D := hid (draw6 V.heap.size ca len cap (0 + 4 + 2 + 2) w3 S3.out (by omega) hl)
    clear S3
    go_wp2_with (fail)
    refine D.out.mono ?_
    rintro e w4 ⟨n, d, rfl, s4, g4⟩
    have G4 := hid (below_fr6 G3.out g4 (Nat.le_refl _))
    have F4 := hid (fb_below FV.out G4.out)
    obtain ⟨c0, c1, f0, f1, hl4⟩ := fb_cells F4.out
    clear s4 g4
    go_wp2_with (fail)
    obtain ⟨r0, r1, _⟩ := fb_cells (fb_set F4.out n d)
    refine bodyPost_ret (v := .tuple #[.int .i64 v2, .agg #[.int .i64 n, .int .i64 d]]) (by simp [results, Try.results113, go_sem, r0, r1]) rfl ⟨v2, n, d, rfl, ?_⟩
    exact fset_below (AV.out.trans (G4.out.mono AV.out.size)) (Nat.le_refl _) _ _

theorem drawNf (ca : Option Addr) (len cap : Nat) (w : World) (hb : ByI w ca len) (hl : len ≤ 5000) :
    Calls Try.prog 49 #[.slice ca len cap] w fun e w' => ∃ v n d : Int, e = .returned (.tuple #[.int .i64 v, .agg #[.int .i64 n, .int .i64 d]]) ∧ Below w.heap.size w w' := by
  obtain ⟨V, hV⟩ : ∃ V, V = w.alloc (.cells #[.int .i64 0, .int .i64 0] 25) := ⟨_, rfl⟩
  have AV := hid (show Below w.heap.size w V by rw [hV]; exact (Below.refl _ _).alloc (Nat.le_refl _) _)
  have FV := hid (show FB V w.heap.size 0 0 by rw [hV]; exact fb_new w 0 0)
  have A := hid (ask6 ca len cap V (byi_below hb AV.out) hl)
  clear hb
  go_enter Try.func49, Try.ntmps49
  go_wp2_with (fail)
  try rw [← hV]
  clear hV
  refine A.out.mono ?_
  rintro e w1 ⟨v, n, d, rfl, b1⟩
  have F1 := hid (fb_below FV.out b1)
  have E1 := hid (AV.out.trans (b1.mono AV.out.size))
  obtain ⟨c0, c1, f0, f1, hl4⟩ := fb_cells F1.out
  clear b1
  go_wp2_with (fail)
  obtain ⟨r0, r1, _⟩ := fb_cells (fb_set F1.out n d)
  refine bodyPost_ret (v := .tuple #[.int .i64 v, .agg #[.int .i64 n, .int .i64 d]]) (by simp [results, Try.results49, go_sem, r0, r1]) rfl ⟨v, n, d, rfl, ?_⟩
  exact fset_below E1.out (Nat.le_refl _) _ _

theorem drawFr (ca : Option Addr) (len cap : Nat) (w : World) (hb : ByI w ca len) (hl : len ≤ 5000) :
    Calls Try.prog 54 #[.slice ca len cap] w fun e w' => ∃ v n d : Int, e = .returned (.tuple #[.int .i64 v, .agg #[.int .i64 n, .int .i64 d]]) ∧ Below w.heap.size w w' := by
  obtain ⟨V, hV⟩ : ∃ V, V = w.alloc (.cells #[.int .i64 0, .int .i64 0] 25) := ⟨_, rfl⟩
  have AV := hid (show Below w.heap.size w V by rw [hV]; exact (Below.refl _ _).alloc (Nat.le_refl _) _)
  have FV := hid (show FB V w.heap.size 0 0 by rw [hV]; exact fb_new w 0 0)
  have A := hid (ask6 ca len cap V (byi_below hb AV.out) hl)
  clear hb
  go_enter Try.func54, Try.ntmps54
  go_wp2_with (fail)
  try rw [← hV]
  clear hV
  refine A.out.mono ?_
  rintro e w1 ⟨v, n, d, rfl, b1⟩
  have F1 := hid (fb_below FV.out b1)
  have E1 := hid (AV.out.trans (b1.mono AV.out.size))
  obtain ⟨c0, c1, f0, f1, hl4⟩ := fb_cells F1.out
  clear b1
  go_wp2_with (fail)
  obtain ⟨r0, r1, _⟩ := fb_cells (fb_set F1.out n d)
  refine bodyPost_ret (v := .tuple #[.int .i64 v, .agg #[.int .i64 n, .int .i64 d]]) (by simp [results, Try.results54, go_sem, r0, r1]) rfl ⟨v, n, d, rfl, ?_⟩
  exact fset_below E1.out (Nat.le_refl _) _ _

set_option maxHeartbeats 1600000 in
theorem drawCo (ca : Option Addr) (len cap : Nat) (w : World) (hb : ByI w ca len) (hl : len ≤ 5000) :
    Calls Try.prog 59 #[.slice ca len cap] w fun e w' => ∃ n d : Int, e = .returned (.agg #[.int .i64 n, .int .i64 d]) ∧ Below w.heap.size w w' := by
  obtain ⟨V, hV⟩ : ∃ V, V = w.alloc (.cells #[.int .i64 0, .int .i64 0] 25) := ⟨_, rfl⟩
  have AV := hid (show Below w.heap.size w V by rw [hV]; exact (Below.refl _ _).alloc (Nat.le_refl _) _)
  have FV := hid (show FB V w.heap.size 0 0 by rw [hV]; exact fb_new w 0 0)
  have F := hid (specFrom ca len cap V)
  have HB := hid (byi_below hb AV.out)
  clear hb
  go_enter Try.func59, Try.ntmps59
  go_wp2_with (fail)
  try rw [← hV]
  clear hV
  refine F.out.mono ?_
  rintro e W ⟨rfl, hW⟩
  have A0 := hid (show Below V.heap.size V W by rw [hW]; exact (Below.refl _ _).alloc (Nat.le_refl _) _)
  have S0 := hid (show St W V.heap.size ca len cap 0 by rw [hW]; exact st_new HB.out)
  have O := hid (oneS V.heap.size ca len cap 0 6 W S0.out (by omega) hl (by omega) (by omega))
  clear hW F HB
  go_wp2_with (fail)
  refine O.out.mono ?_
  rintro e w1 ⟨r, rfl, s1, g1⟩
  have G1 := hid (below_fr6 A0.out g1 (Nat.le_refl _))
  have S1 := hid s1
  clear s1 g1 O
  cases r
  case false =>
    have D := hid (bentF V.heap.size ca len cap (0 + 2) w1 S1.out (by omega) hl)
    go_wp2_with (fail)
    refine D.out.mono ?_
    rintro e w4 ⟨n, d, rfl, s4, g4⟩
    have G4 := hid (below_fr6 G1.out g4 (Nat.le_refl _))
    have F4 := hid (fb_below FV.out G4.out)
    obtain ⟨c0, c1, f0, f1, hl4⟩ := fb_cells F4.out
    clear s4 g4
    go_wp2_with (fail)
    obtain ⟨r0, r1, _⟩ := fb_cells (fb_set F4.out n d)
    refine bodyPost_ret (v := .agg #[.int .i64 n, .int .i64 d]) (by simp [results, Try.results59, go_sem, r0, r1]) rfl ⟨n, d, rfl, ?_⟩
    exact fset_below (AV.out.trans (G4.out.mono AV.out.size)) (Nat.le_refl _) _ _
  case true =>
    have Q := hid (amongL V.heap.size ca len cap (0 + 2) 2 [22360, 22361] 2 w1 rfl S1.out (by decide) (by decide) (by omega) hl)
    go_wp2_with (fail)
    refine Q.out.mono ?_
    rintro e w4 ⟨d, rfl, s4, g4⟩
    have G4 := hid (below_fr6 G1.out g4 (Nat.le_refl _))
    have F4 := hid (fb_below FV.out G4.out)
    obtain ⟨c0, c1, f0, f1, hl4⟩ := fb_cells F4.out
    clear s4 g4
    go_wp2_with (fail)
    obtain ⟨r0, r1, _⟩ := fb_cells (fb_set F4.out 1 d)
    refine bodyPost_ret (v := .agg #[.int .i64 1, .int .i64 d]) (by simp [results, Try.results59, go_sem, r0, r1]) rfl ⟨1, d, rfl, ?_⟩
    exact fset_below (AV.out.trans (G4.out.mono AV.out.size)) (Nat.le_refl _) _ _

end Go.Proofs.Ythfogmaefhfkoaa
