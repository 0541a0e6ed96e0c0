/- Merged: D5f, D5w, D5r. -/
import Derived.Test.YtjijabfamjhdjaaBnt
/-! Contract: the draw of a positive fraction, seldom of another one (chapter 5). -/
namespace Go.Proofs.Ytjijabfamjhdjaa
open Go.RowKit

set_option maxHeartbeats 1600000 in
theorem draw5 (b : Nat) (ca : Option Addr) (len cap K : Nat) (w : World) (hs : St w b ca len cap K) (hk : K < 800000) (hl : len ≤ 5000) :
    Calls Try.prog 45 #[.pointer (some ⟨b, 0, none⟩)] w fun e w' => ∃ n d : Int, e = .returned (.agg #[.int .i64 n, .int .i64 d]) ∧ St w' b ca len cap (K + 22) ∧ w.grownBy w' (some b) := by
  have HS := hid hs
  have hbl := st_lt hs
  obtain ⟨W0, hW0⟩ : ∃ W0, W0 = w.alloc (.cells #[.int .i64 0, .int .i64 0] 25) := ⟨_, rfl⟩
  have A0 : Below w.heap.size w W0 := by rw [hW0]; exact (Below.refl _ _).alloc (Nat.le_refl _) _
  have F0 := hid (show FB W0 w.heap.size 0 0 by rw [hW0]; exact fb_new w 0 0)
  have S0 := hid (st_below hs A0)
  have G0 := hid (only_below A0 b)
  have P := hid (oneS b ca len cap K 10 W0 S0.out (by omega) hl (by omega) (by omega))
  clear hs A0
  go_enter Try.func45, Try.ntmps45
  go_wp2_with (fail)
  try rw [← hW0]
  clear hW0
  refine P.out.mono ?_
  rintro e w1 ⟨r, rfl, s1, g1⟩
  have F1 := hid (fb_only g1 (by omega) F0.out)
  have G1 := hid (only_trans G0.out g1)
  have S1 := hid s1
  clear s1 g1
  cases r
  · have Q := hid (pickS b ca len cap (K + 2) 300 w1 S1.out (by omega) hl (by omega) (by omega))
    go_wp2_with (fail)
    refine Q.out.mono ?_
    rintro e w2 ⟨x, rfl, x1, x2, s2, g2⟩
    have F2 := hid (fb_only g2 (by omega) F1.out)
    have G2 := hid (only_trans G1.out g2)
    have R := hid (pickS b ca len cap (K + 2 + 2) 300 w2 s2 (by omega) hl (by omega) (by omega))
    clear s2 g2
    go_wp2_with (fail)
    refine R.out.mono ?_
    rintro e w3 ⟨y, rfl, y1, y2, s3, g3⟩
    have F3 := hid (fb_only g3 (by omega) F2.out)
    have G3 := hid (only_trans G2.out g3)
    have S3 := hid s3
    have M := hid (fun w => specMake (1 + x) (1 + y) w (by omega) (by omega) (by omega) (by omega))
    clear s3 g3
    go_wp2_with (fail)
    refine (M.out _).mono ?_
    rintro e w4 ⟨rfl, v4⟩
    have F4 := fb_below F3.out v4
    have S4 := hid (st_below S3.out v4)
    have G4 := hid (only_trans G3.out (only_below v4 b))
    obtain ⟨c0, c1, f0, f1, hl4⟩ := fb_cells F4
    have HF4 := hid F4
    generalize lowN (1 + x) (1 + y) = n at *
    generalize lowD (1 + x) (1 + y) = d at *
    clear v4 F4
    go_wp2_with (fail)
    obtain ⟨r0, r1, _⟩ := fb_cells (fb_set HF4.out n d)
    refine bodyPost_ret (v := .agg #[.int .i64 n, .int .i64 d]) (by simp [results, Try.results45, go_sem, r0, r1]) rfl ⟨n, d, rfl, st_fset HS.out (st_fset HS.out (st_more S4.out (by omega)) (Nat.le_refl _) _ _) (Nat.le_refl _) _ _, only_set (only_set G4.out (Nat.le_refl _) _) (Nat.le_refl _) _⟩
  · have Q := hid (bentF b ca len cap (K + 2) w1 S1.out (by omega) hl)
    go_wp2_with (fail)
    refine Q.out.mono ?_
    rintro e w4 ⟨n, d, rfl, s4, g4⟩
    have F4 := fb_only g4 (by omega) F1.out
    have G4 := hid (only_trans G1.out g4)
    have S4 := hid s4
    obtain ⟨c0, c1, f0, f1, hl4⟩ := fb_cells F4
    have HF4 := hid F4
    clear s4 g4 F4
    go_wp2_with (fail)
    obtain ⟨r0, r1, _⟩ := fb_cells (fb_set HF4.out n d)
    refine bodyPost_ret (v := .agg #[.int .i64 n, .int .i64 d]) (by simp [results, Try.results45, go_sem, r0, r1]) rfl ⟨n, d, rfl, st_fset HS.out (st_fset HS.out (st_more S4.out (by omega)) (Nat.le_refl _) _ _) (Nat.le_refl _) _ _, only_set (only_set G4.out (Nat.le_refl _) _) (Nat.le_refl _) _⟩

end Go.Proofs.Ytjijabfamjhdjaa

/-! Contracts: what the law on the tree draws out of bytes: fractions. -/
namespace Go.Proofs.Ytjijabfamjhdjaa
open Go.RowKit

theorem below_fr5 {w W0 w' : World} {b : Nat} (h : Below w.heap.size w W0) (g : W0.grownBy w' (some b)) (hb : w.heap.size ≤ b) : Below w.heap.size w w' :=
  h.grown g h.size (fun k hk => by have e := Option.some.inj hk; omega)

set_option maxHeartbeats 1600000 in
theorem drawPt (ca : Option Addr) (len cap : Nat) (w : World) (hb : ByI w ca len) (hl : len ≤ 5000) :
    Calls Try.prog 8 #[.slice ca len cap] w fun e w' => ∃ n d : Int, e = .returned (.agg #[.int .i64 n, .int .i64 d]) ∧ Below w.heap.size w w' := by
  obtain ⟨V, hV⟩ : ∃ V, V = w.alloc (.cells #[.int .i64 0, .int .i64 0] 25) := ⟨_, rfl⟩
  have AV := hid (show Below w.heap.size w V by rw [hV]; exact (Below.refl _ _).alloc (Nat.le_refl _) _)
  have FV := hid (show FB V w.heap.size 0 0 by rw [hV]; exact fb_new w 0 0)
  have hVs : w.heap.size < V.heap.size := by rw [hV]; simp
  have F := hid (specFrom ca len cap V)
  have HB := hid (byi_below hb AV.out)
  clear hb
  go_enter Try.func8, Try.ntmps8
  go_wp2_with (fail)
  try rw [← hV]
  clear hV
  refine F.out.mono ?_
  rintro e W ⟨rfl, hW⟩
  have A0 := hid (show Below V.heap.size V W by rw [hW]; exact (Below.refl _ _).alloc (Nat.le_refl _) _)
  have S0 := hid (show St W V.heap.size ca len cap 0 by rw [hW]; exact st_new HB.out)
  have D := hid (draw5 V.heap.size ca len cap 0 W S0.out (by omega) hl)
  clear hW F HB
  go_wp2_with (fail)
  refine D.out.mono ?_
  rintro e w4 ⟨n, d, rfl, s4, g4⟩
  have G4 := hid (below_fr5 A0.out g4 (Nat.le_refl _))
  have F4 := hid (fb_below FV.out G4.out)
  obtain ⟨c0, c1, f0, f1, hl4⟩ := fb_cells F4.out
  clear s4 g4
  go_wp2_with (fail)
  obtain ⟨r0, r1, _⟩ := fb_cells (fb_set F4.out n d)
  refine bodyPost_ret (v := .agg #[.int .i64 n, .int .i64 d]) (by simp [results, Try.results8, go_sem, r0, r1]) rfl ⟨n, d, rfl, ?_⟩
  exact fset_below (AV.out.trans (G4.out.mono AV.out.size)) (Nat.le_refl _) _ _

set_option maxHeartbeats 1600000 in
theorem drawPa (ca : Option Addr) (len cap : Nat) (w : World) (hb : ByI w ca len) (hl : len ≤ 5000) :
    Calls Try.prog 15 #[.slice ca len cap] w fun e w' => ∃ n d : Int, e = .returned (.agg #[.int .i64 n, .int .i64 d]) ∧ Below w.heap.size w w' := by
  obtain ⟨V, hV⟩ : ∃ V, V = w.alloc (.cells #[.int .i64 0, .int .i64 0] 25) := ⟨_, rfl⟩
  have AV := hid (show Below w.heap.size w V by rw [hV]; exact (Below.refl _ _).alloc (Nat.le_refl _) _)
  have FV := hid (show FB V w.heap.size 0 0 by rw [hV]; exact fb_new w 0 0)
  have hVs : w.heap.size < V.heap.size := by rw [hV]; simp
  have F := hid (specFrom ca len cap V)
  have HB := hid (byi_below hb AV.out)
  clear hb
  go_enter Try.func15, Try.ntmps15
  go_wp2_with (fail)
  try rw [← hV]
  clear hV
  refine F.out.mono ?_
  rintro e W ⟨rfl, hW⟩
  have A0 := hid (show Below V.heap.size V W by rw [hW]; exact (Below.refl _ _).alloc (Nat.le_refl _) _)
  have S0 := hid (show St W V.heap.size ca len cap 0 by rw [hW]; exact st_new HB.out)
  have O := hid (oneS V.heap.size ca len cap 0 10 W S0.out (by omega) hl (by omega) (by omega))
  clear hW F HB
  go_wp2_with (fail)
  refine O.out.mono ?_
  rintro e w1 ⟨r, rfl, s1, g1⟩
  have G1 := hid (below_fr5 A0.out g1 (Nat.le_refl _))
  have S1 := hid s1
  clear s1 g1 O
  cases r
  case false =>
    have D := hid (draw5 V.heap.size ca len cap (0 + 2) w1 S1.out (by omega) hl)
    go_wp2_with (fail)
    refine D.out.mono ?_
    rintro e w4 ⟨n, d, rfl, s4, g4⟩
    have G4 := hid (below_fr5 G1.out g4 (Nat.le_refl _))
    have F4 := hid (fb_below FV.out G4.out)
    obtain ⟨c0, c1, f0, f1, hl4⟩ := fb_cells F4.out
    clear s4 g4
    go_wp2_with (fail)
    obtain ⟨r0, r1, _⟩ := fb_cells (fb_set F4.out n d)
    refine bodyPost_ret (v := .agg #[.int .i64 n, .int .i64 d]) (by simp [results, Try.results15, go_sem, r0, r1]) rfl ⟨n, d, rfl, ?_⟩
    exact fset_below (AV.out.trans (G4.out.mono AV.out.size)) (Nat.le_refl _) _ _
  case true =>
    have F4 := hid (fb_below FV.out G1.out)
    obtain ⟨c0, c1, f0, f1, hl4⟩ := fb_cells F4.out
    go_wp2_with (fail)
    obtain ⟨r0, r1, _⟩ := fb_cells (fb_set F4.out 1 1)
    refine bodyPost_ret (v := .agg #[.int .i64 1, .int .i64 1]) (by simp [results, Try.results15, go_sem, r0, r1]) rfl ⟨1, 1, rfl, ?_⟩
    exact fset_below (AV.out.trans (G1.out.mono AV.out.size)) (Nat.le_refl _) _ _

set_option maxHeartbeats 1600000 in
theorem drawBo (ca : Option Addr) (len cap : Nat) (w : World) (hb : ByI w ca len) (hl : len ≤ 5000) :
    Calls Try.prog 33 #[.slice ca len cap] w fun e w' => ∃ n d : Int, e = .returned (.agg #[.int .i64 n, .int .i64 d]) ∧ Below w.heap.size w w' := by
  obtain ⟨V, hV⟩ : ∃ V, V = w.alloc (.cells #[.int .i64 0, .int .i64 0] 25) := ⟨_, rfl⟩
  have AV := hid (show Below w.heap.size w V by rw [hV]; exact (Below.refl _ _).alloc (Nat.le_refl _) _)
  have FV := hid (show FB V w.heap.size 0 0 by rw [hV]; exact fb_new w 0 0)
  have hVs : w.heap.size < V.heap.size := by rw [hV]; simp
  have F := hid (specFrom ca len cap V)
  have HB := hid (byi_below hb AV.out)
  clear hb
  go_enter Try.func33, Try.ntmps33
  go_wp2_with (fail)
  try rw [← hV]
  clear hV
  refine F.out.mono ?_
  rintro e W ⟨rfl, hW⟩
  have A0 := hid (show Below V.heap.size V W by rw [hW]; exact (Below.refl _ _).alloc (Nat.le_refl _) _)
  have S0 := hid (show St W V.heap.size ca len cap 0 by rw [hW]; exact st_new HB.out)
  have D := hid (draw5 V.heap.size ca len cap 0 W S0.out (by omega) hl)
  clear hW F HB
  go_wp2_with (fail)
  refine D.out.mono ?_
  rintro e w4 ⟨n, d, rfl, s4, g4⟩
  have G4 := hid (below_fr5 A0.out g4 (Nat.le_refl _))
  have F4 := hid (fb_below FV.out G4.out)
  obtain ⟨c0, c1, f0, f1, hl4⟩ := fb_cells F4.out
  clear s4 g4
  go_wp2_with (fail)
  obtain ⟨r0, r1, _⟩ := fb_cells (fb_set F4.out n d)
  refine bodyPost_ret (v := .agg #[.int .i64 n, .int .i64 d]) (by simp [results, Try.results33, go_sem, r0, r1]) rfl ⟨n, d, rfl, ?_⟩
  exact fset_below (AV.out.trans (G4.out.mono AV.out.size)) (Nat.le_refl _) _ _

end Go.Proofs.Ytjijabfamjhdjaa

/-! Contracts: the draw of a path that is seldom not valid (chapter 5). -/
namespace Go.Proofs.Ytjijabfamjhdjaa
open Go.RowKit

theorem rw_grown {w X Y : World} {b g : Nat} (h : w.grownBy X (some b)) (h2 : X.grownBy Y (some g)) (hg : w.heap.size ≤ g) : w.grownBy Y (some b) :=
  ⟨h2.os.trans h.os, h2.tape.trans h.tape, h2.output.trans h.output, Nat.le_trans h.size h2.size, fun i hi hn => (h2.block i (Nat.lt_of_lt_of_le hi h.size) (fun e => by have e2 := Option.some.inj e; omega)).trans (h.block i hi hn)⟩
theorem st_rw {w X Y : World} {b g : Nat} {ca : Option Addr} {len cap K L : Nat} (h0 : St w b ca len cap L) (h : St X b ca len cap K) (h2 : X.grownBy Y (some g)) (hg : w.heap.size ≤ g) : St Y b ca len cap K := by
  have hb := st_lt h0
  obtain ⟨k, z, hk, hs, hy⟩ := h
  have hX := src_lt hs
  obtain ⟨s1, s2, s3, s4, s5, s6⟩ := hs
  refine ⟨k, z, hk, ⟨(only_cell h2 hX (by omega)).trans s1, (only_cell h2 hX (by omega)).trans s2, (only_cell h2 hX (by omega)).trans s3, (only_frozen h2 hX (by omega)).trans s4, (only_frozen h2 hX (by omega)).trans s5, (only_frozen h2 hX (by omega)).trans s6⟩, ?_⟩
  rcases hy with hy | ⟨c, off, zs, h3, h4, h5⟩
  · exact .inl hy
  · by_cases hl0 : len = 0
    · exact .inl hl0
    · have hc := st_blk h0 c off h3 (by omega)
      refine .inr ⟨c, off, zs, h3, h4, fun i hi => ?_⟩
      obtain ⟨h6, h7⟩ := h5 i hi
      exact ⟨(only_cell (p := c) h2 (World.block_lt_of_cell? _ _ h6) (Nat.ne_of_lt (Nat.lt_of_lt_of_le hc hg))).trans h6, h7⟩
theorem ow_only {a w : World} {b B g c : Nat} {xs : List Int} (h : a.grownBy w (some b)) (hb : b < B) (z : Own B a g c xs) : Own B w g c xs :=
  ⟨z.1, z.2.kept h (.inr (by simp [Value.ownBlock]; have := z.1; omega))⟩
theorem ow_form {B : Nat} {w : World} {v : Value} {n : Nat} {cs : List Value} {xs : List Int} (h : w.ownsRow B 2 1 v n cs) (hn : n = xs.length) (hc : cs = intCells xs) (h0 : 0 < xs.length) : ∃ g c, v = .slice (some ⟨g, 0, none⟩) xs.length c ∧ Own B w g c xs := by
  subst hn hc
  obtain ⟨g, cap, rfl, hg, _⟩ := h.form h0
  exact ⟨g, cap, rfl, hg, h⟩
theorem ow_set {B : Nat} {w : World} {g c : Nat} {xs : List Int} (h : Own B w g c xs) (k : Nat) (x : Int) : Own B (w.setCell ⟨g, k, none⟩ (.int .i64 x)) g c (xs.set k x) := by
  refine ⟨h.1, ?_⟩
  have h2 := (h.2.stored k (.int .i64 x)).1
  rw [← intCells_set] at h2
  rw [List.length_set]
  exact h2
def RPost (w : World) (b : Nat) (ca : Option Addr) (len cap K : Nat) (e : Ending) (w' : World) : Prop :=
  ∃ (g c : Nat) (xs : List Int), e = .returned (.slice (some ⟨g, 0, none⟩) xs.length c) ∧ Own w.heap.size w' g c xs ∧ xs.length ≤ 61 ∧ St w' b ca len cap (K + 100) ∧ w.grownBy w' (some b)

set_option maxRecDepth 100000 in
set_option maxHeartbeats 6400000 in
theorem runs5 (b : Nat) (ca : Option Addr) (len cap K : Nat) (w : World) (hs : St w b ca len cap K) (hk : K < 900000) (hl : len ≤ 5000) :
    Calls Try.prog 63 #[.pointer (some ⟨b, 0, none⟩)] w (RPost w b ca len cap K) := by
  obtain ⟨i0, hi, hz0, hz1, hz2⟩ := info_parts infoI
  have HS := hid hs
  have hbl := st_lt hs
  have A1 : Below w.heap.size w (w.alloc (.cells #[] 2)) := (Below.refl _ _).alloc (Nat.le_refl _) _
  have O1 := hid (show Own w.heap.size (w.alloc (.cells #[] 2)) w.heap.size 0 [] from ⟨Nat.le_refl _, World.ownsRow_lit w #[] 0 (Nat.le_refl _) (by decide) rfl⟩)
  have G1 := hid (only_below A1 b)
  have P1 := hid (pickS b ca len cap K 7 _ (st_below hs A1) (by omega) hl (by omega) (by omega))
  clear hs A1
  go_enter Try.func63, Try.ntmps63
  go_wp2_with (fail)
  refine P1.out.mono ?_
  rintro e v1 ⟨r1, rfl, a1, a2, s1, g1⟩
  have O2 := hid (ow_only g1 hbl O1.out)
  have G2 := hid (only_trans G1.out g1)
  obtain ⟨k0, rfl⟩ := Int.eq_ofNat_of_zero_le a1
  have hk0 : k0 ≤ 6 := by omega
  have S2 := hid (st_more s1 (show K + 2 ≤ K + 20 - 2 * k0 by omega))
  clear s1 g1 O1 G1 P1 a1 a2
  go_wp2_with (fail)
  go_loopw [3, 4] (fun v u8 wr => ∃ (k g c : Nat) (xs : List Int), u8 = .int .i64 k ∧ k ≤ 6 ∧ v = .slice (some ⟨g, 0, none⟩) xs.length c ∧ xs.length + k ≤ 6 ∧ Hid (Own w.heap.size wr g c xs) ∧ Hid (St wr b ca len cap (K + 20 - 2 * k)) ∧ Hid (w.grownBy wr (some b))) (fun _ u8 _ => (RowKit.intOf u8).toNat)
  case atStart => exact ⟨k0, _, _, [], rfl, hk0, rfl, by simp; omega, O2, S2, G2⟩
  case round =>
    obtain ⟨k, g, c, xs, rfl, hk6, rfl, hxk, O4, S4, G4⟩ := hrel
    clear O2 S2 G2
    by_cases hlt : 0 < k
    case pos =>
      have hlt' : (0 : Int) < (k : Int) := by omega
      have hkk : ((k : Int) - 1) = ((k - 1 : Nat) : Int) := by omega
      have HKK := hid hkk
      clear hkk
      have P4 := hid (pickS b ca len cap (K + 20 - 2 * k) 5 _ S4.out (by omega) hl (by omega) (by omega))
      clear S4
      go_wp2_with (fail)
      refine P4.out.mono ?_
      rintro e v4 ⟨r4, rfl, c1, c2, s5, g5⟩
      have c3 : r4 < 5 := by omega
      have O5 := hid (ow_only g5 hbl O4.out)
      have G5 := hid (only_trans G4.out g5)
      have S5 := hid (st_more s5 (show K + 20 - 2 * k + 2 ≤ K + 20 - 2 * (k - 1) by omega))
      clear s5 g5 O4 G4 P4 c2
      have hbz : w.heap.size ≤ (v4).heap.size := G5.out.size
      go_wp2_with (at_builtin; refine wpList_append_own _ rfl _ _ 27 rfl w.heap.size 2 i0 (.int .i64 0) 1 8 Try.underlying27 hi hz0 hz1 hz2 rfl (by decide) _ xs.length (intCells xs) (by rfl) ?c0a ⟨(v4).heap.size, 0, none⟩ 1 1 [.int .i64 (1 + r4)] (by rfl) ?c1a ?c2a ?c3a ?c4a ?c5a ?c6a ?c7a)
      case c0a => exact O5.out.2.alloc _
      case c1a => rfl
      case c2a => exact news1 _ _ _
      case c3a => intro u hu; obtain rfl := List.mem_singleton.1 hu; rfl
      case c4a => unfold maxLen; omega
      case c5a => omega
      case c6a => (first | omega | (simp <;> omega))
      intro vv w6 hown2 hgrow2 _
      obtain ⟨gg, gc, rfl, O7⟩ := ow_form (xs := xs ++ [1 + r4]) hown2 (by simp) (intCells_more xs (1 + r4)) (by simp)
      have HO7 := hid O7
      have AX : Below (v4).heap.size (v4) ((v4).alloc (.cells #[.int .i64 (1 + r4)] 2)) := (Below.refl _ _).alloc (Nat.le_refl _) _
      have G7 := hid (rw_grown (only_trans G5.out (only_below AX b)) hgrow2 O5.out.1)
      have S7 := hid (st_rw HS.out (st_below S5.out AX) hgrow2 O5.out.1)
      have HL7 := hid (show (xs ++ [1 + r4]).length = xs.length + 1 by simp)
      obtain ⟨ys, hys⟩ : ∃ ys : List Int, ys = xs ++ [1 + r4] := ⟨_, rfl⟩
      rw [← hys] at HO7 HL7 ⊢
      clear hown2 hgrow2 O7 hys AX
      go_wp2_with (fail)
      go_roundw
      case rel => exact ⟨k - 1, gg, gc, ys, by first | (rw [← HKK.out]; done) | (rw [← HKK.out]; go_num), by omega, rfl, by have := HL7.out; omega, HO7, S7, G7⟩
      case measure => simp [RowKit.intOf]; omega
    have hlt' : ¬ (0 : Int) < (k : Int) := by omega
    have hk00 : k = 0 := by omega
    subst hk00
    have hxl : xs.length ≤ 6 := by omega
    have S6 := hid (st_more S4.out (show K + 20 - 2 * 0 ≤ K + 20 by omega))
    clear S4
    by_cases hm : 1 < xs.length
    case neg =>
      have hm' : ¬ (1 : Int) < (xs.length : Int) := by omega
      have Q1 := hid (pickS b ca len cap (K + 20) 20 _ S6.out (by omega) hl (by omega) (by omega))
      go_wp2_with (fail)
      refine Q1.out.mono ?_
      rintro e x1 ⟨q1, rfl, q2, q3, sA, gA⟩
      have OA := hid (ow_only gA hbl O4.out)
      have GA := hid (only_trans G4.out gA)
      have SA := hid sA
      clear sA gA Q1 q3 O4 G4 S6
      have hwx : w.heap.size ≤ x1.heap.size := GA.out.size
      by_cases c0 : q1 = 0
      case pos =>
        subst c0
        have Q2 := hid (amongL b ca len cap (K + 20 + 2) 4 [-1, 0, 1000000000, 1000000001] 2 x1 rfl SA.out (by decide) (by decide) (by omega) hl)
        go_wp2_with (fail)
        refine Q2.out.mono ?_
        rintro e x2 ⟨z, rfl, sB, gB⟩
        have OB := hid (ow_only gB hbl OA.out)
        have GB := hid (only_trans GA.out gB)
        have SB := hid sB
        clear sB gB Q2 OA GA SA
        have hbz : w.heap.size ≤ (x2).heap.size := GB.out.size
        go_wp2_with (at_builtin; refine wpList_append_own _ rfl _ _ 27 rfl w.heap.size 2 i0 (.int .i64 0) 1 8 Try.underlying27 hi hz0 hz1 hz2 rfl (by decide) _ xs.length (intCells xs) (by rfl) ?c0pa ⟨(x2).heap.size, 0, none⟩ 1 1 [.int .i64 (z)] (by rfl) ?c1pa ?c2pa ?c3pa ?c4pa ?c5pa ?c6pa ?c7pa)
        case c0pa => exact OB.out.2.alloc _
        case c1pa => rfl
        case c2pa => exact news1 _ _ _
        case c3pa => intro u hu; obtain rfl := List.mem_singleton.1 hu; rfl
        case c4pa => unfold maxLen; omega
        case c5pa => omega
        case c6pa => (first | omega | (simp <;> omega))
        intro vv w6 hown2 hgrow2 _
        obtain ⟨gg, gc, rfl, O7⟩ := ow_form (xs := xs ++ [z]) hown2 (by simp) (intCells_more xs (z)) (by simp)
        have HO7 := hid O7
        have AX : Below (x2).heap.size (x2) ((x2).alloc (.cells #[.int .i64 (z)] 2)) := (Below.refl _ _).alloc (Nat.le_refl _) _
        have G7 := hid (rw_grown (only_trans GB.out (only_below AX b)) hgrow2 OB.out.1)
        have S7 := hid (st_rw HS.out (st_below SB.out AX) hgrow2 OB.out.1)
        have HL7 := hid (show (xs ++ [z]).length = xs.length + 1 by simp)
        obtain ⟨ys, hys⟩ : ∃ ys : List Int, ys = xs ++ [z] := ⟨_, rfl⟩
        rw [← hys] at HO7 HL7 ⊢
        clear hown2 hgrow2 O7 hys AX
        go_wp2_with (fail)
        go_ret
        exact ⟨_, _, ys, rfl, HO7.out, by have := HL7.out; omega, st_more S7.out (by omega), G7.out⟩
      have d0 : (q1 == 0) = false := by simpa using c0
      by_cases c1 : q1 = 1
      case neg =>
        have d1 : (q1 == 1) = false := by simpa using c1
        clear c0 c1
        go_wp2_with (fail)
        go_ret
        exact ⟨_, _, xs, rfl, OA.out, by omega, st_more SA.out (by omega), GA.out⟩
      subst c1
      clear c0
      have AN : Below x1.heap.size x1 (x1.alloc (.cells #[] 2)) := (Below.refl _ _).alloc (Nat.le_refl _) _
      have ON := hid (show Own w.heap.size (x1.alloc (.cells #[] 2)) x1.heap.size 0 [] from ⟨hwx, World.ownsRow_lit x1 #[] 0 hwx (by decide) rfl⟩)
      have GN := hid (only_trans GA.out (only_below AN b))
      have Q4 := hid (pickS b ca len cap (K + 20 + 2) 2 _ (st_below SA.out AN) (by omega) hl (by omega) (by omega))
      clear AN OA GA SA
      go_wp2_with (fail)
      refine Q4.out.mono ?_
      rintro e x3 ⟨q4, rfl, q5, q6, sC, gC⟩
      have OC := hid (ow_only gC hbl ON.out)
      have GC := hid (only_trans GN.out gC)
      have SC := hid (st_more sC (show K + 20 + 2 + 2 ≤ K + 60 by omega))
      obtain ⟨j4, rfl⟩ := Int.eq_ofNat_of_zero_le q5
      have hj4 : j4 ≤ 1 := by omega
      clear sC gC Q4 ON GN q5 q6 d0
      go_wp2_with (fail)
      go_loopw [3, 5] (fun v u8 wr => ∃ (k g c : Nat) (zs : List Int), u8 = .int .i64 k ∧ k ≤ 61 ∧ v = .slice (some ⟨g, 0, none⟩) zs.length c ∧ zs.length + k ≤ 61 ∧ Hid (Own w.heap.size wr g c zs) ∧ Hid (St wr b ca len cap (K + 60)) ∧ Hid (w.grownBy wr (some b))) (fun _ u8 _ => (RowKit.intOf u8).toNat)
      case atStart => exact ⟨60 + j4, _, _, [], by go_num, by omega, rfl, by simp; omega, OC, SC, GC⟩
      case round =>
        obtain ⟨k, g, c, zs, rfl, hk61, rfl, hzl, O4, S4, G4⟩ := hrel
        clear OC SC GC
        by_cases hlt : 0 < k
        case neg =>
          have hlt' : ¬ (0 : Int) < (k : Int) := by omega
          go_wp2_with (fail)
          go_ret
          exact ⟨_, _, zs, rfl, O4.out, by omega, st_more S4.out (by omega), G4.out⟩
        have hlt' : (0 : Int) < (k : Int) := by omega
        have hkk : ((k : Int) - 1) = ((k - 1 : Nat) : Int) := by omega
        have HKK := hid hkk
        clear hkk
        have hbz : w.heap.size ≤ (wr).heap.size := G4.out.size
        go_wp2_with (at_builtin; refine wpList_append_own _ rfl _ _ 27 rfl w.heap.size 2 i0 (.int .i64 0) 1 8 Try.underlying27 hi hz0 hz1 hz2 rfl (by decide) _ zs.length (intCells zs) (by rfl) ?c0qa ⟨(wr).heap.size, 0, none⟩ 1 1 [.int .i64 (1)] (by rfl) ?c1qa ?c2qa ?c3qa ?c4qa ?c5qa ?c6qa ?c7qa)
        case c0qa => exact O4.out.2.alloc _
        case c1qa => rfl
        case c2qa => exact news1 _ _ _
        case c3qa => intro u hu; obtain rfl := List.mem_singleton.1 hu; rfl
        case c4qa => unfold maxLen; omega
        case c5qa => omega
        case c6qa => (first | omega | (simp <;> omega))
        intro vv w6 hown2 hgrow2 _
        obtain ⟨gg, gc, rfl, O7⟩ := ow_form (xs := zs ++ [1]) hown2 (by simp) (intCells_more zs (1)) (by simp)
        have HO7 := hid O7
        have AX : Below (wr).heap.size (wr) ((wr).alloc (.cells #[.int .i64 (1)] 2)) := (Below.refl _ _).alloc (Nat.le_refl _) _
        have G7 := hid (rw_grown (only_trans G4.out (only_below AX b)) hgrow2 O4.out.1)
        have S7 := hid (st_rw HS.out (st_below S4.out AX) hgrow2 O4.out.1)
        have HL7 := hid (show (zs ++ [1]).length = zs.length + 1 by simp)
        obtain ⟨ys, hys⟩ : ∃ ys : List Int, ys = zs ++ [1] := ⟨_, rfl⟩
        rw [← hys] at HO7 HL7 ⊢
        clear hown2 hgrow2 O7 hys AX
        go_wp2_with (fail)
        go_roundw
        case rel => exact ⟨k - 1, gg, gc, ys, by first | (rw [← HKK.out]; done) | (rw [← HKK.out]; go_num), by omega, rfl, by have := HL7.out; omega, HO7, S7, G7⟩
        case measure => simp [RowKit.intOf]; omega
    have hm' : (1 : Int) < (xs.length : Int) := by omega
    have Q0 := hid (oneS b ca len cap (K + 20) 3 _ S6.out (by omega) hl (by omega) (by omega))
    go_wp2_with (fail)
    refine Q0.out.mono ?_
    rintro e x0 ⟨q0, rfl, s0, g0⟩
    have OY := hid (ow_only g0 hbl O4.out)
    have GY := hid (only_trans G4.out g0)
    have SY := hid s0
    clear s0 g0 Q0 O4 G4 S6
    cases q0
    case false =>
      have Q1 := hid (pickS b ca len cap (K + 22) 20 _ SY.out (by omega) hl (by omega) (by omega))
      go_wp2_with (fail)
      refine Q1.out.mono ?_
      rintro e x1 ⟨q1, rfl, q2, q3, sA, gA⟩
      have OA := hid (ow_only gA hbl OY.out)
      have GA := hid (only_trans GY.out gA)
      have SA := hid sA
      clear sA gA Q1 q3 OY GY SY
      have hwx : w.heap.size ≤ x1.heap.size := GA.out.size
      by_cases c0 : q1 = 0
      case pos =>
        subst c0
        have Q2 := hid (amongL b ca len cap (K + 22 + 2) 4 [-1, 0, 1000000000, 1000000001] 2 x1 rfl SA.out (by decide) (by decide) (by omega) hl)
        go_wp2_with (fail)
        refine Q2.out.mono ?_
        rintro e x2 ⟨z, rfl, sB, gB⟩
        have OB := hid (ow_only gB hbl OA.out)
        have GB := hid (only_trans GA.out gB)
        have SB := hid sB
        clear sB gB Q2 OA GA SA
        have hbz : w.heap.size ≤ (x2).heap.size := GB.out.size
        go_wp2_with (at_builtin; refine wpList_append_own _ rfl _ _ 27 rfl w.heap.size 2 i0 (.int .i64 0) 1 8 Try.underlying27 hi hz0 hz1 hz2 rfl (by decide) _ xs.length (intCells xs) (by rfl) ?c0pb ⟨(x2).heap.size, 0, none⟩ 1 1 [.int .i64 (z)] (by rfl) ?c1pb ?c2pb ?c3pb ?c4pb ?c5pb ?c6pb ?c7pb)
        case c0pb => exact OB.out.2.alloc _
        case c1pb => rfl
        case c2pb => exact news1 _ _ _
        case c3pb => intro u hu; obtain rfl := List.mem_singleton.1 hu; rfl
        case c4pb => unfold maxLen; omega
        case c5pb => omega
        case c6pb => (first | omega | (simp <;> omega))
        intro vv w6 hown2 hgrow2 _
        obtain ⟨gg, gc, rfl, O7⟩ := ow_form (xs := xs ++ [z]) hown2 (by simp) (intCells_more xs (z)) (by simp)
        have HO7 := hid O7
        have AX : Below (x2).heap.size (x2) ((x2).alloc (.cells #[.int .i64 (z)] 2)) := (Below.refl _ _).alloc (Nat.le_refl _) _
        have G7 := hid (rw_grown (only_trans GB.out (only_below AX b)) hgrow2 OB.out.1)
        have S7 := hid (st_rw HS.out (st_below SB.out AX) hgrow2 OB.out.1)
        have HL7 := hid (show (xs ++ [z]).length = xs.length + 1 by simp)
        obtain ⟨ys, hys⟩ : ∃ ys : List Int, ys = xs ++ [z] := ⟨_, rfl⟩
        rw [← hys] at HO7 HL7 ⊢
        clear hown2 hgrow2 O7 hys AX
        go_wp2_with (fail)
        go_ret
        exact ⟨_, _, ys, rfl, HO7.out, by have := HL7.out; omega, st_more S7.out (by omega), G7.out⟩
      have d0 : (q1 == 0) = false := by simpa using c0
      by_cases c1 : q1 = 1
      case neg =>
        have d1 : (q1 == 1) = false := by simpa using c1
        clear c0 c1
        go_wp2_with (fail)
        go_ret
        exact ⟨_, _, xs, rfl, OA.out, by omega, st_more SA.out (by omega), GA.out⟩
      subst c1
      clear c0
      have AN : Below x1.heap.size x1 (x1.alloc (.cells #[] 2)) := (Below.refl _ _).alloc (Nat.le_refl _) _
      have ON := hid (show Own w.heap.size (x1.alloc (.cells #[] 2)) x1.heap.size 0 [] from ⟨hwx, World.ownsRow_lit x1 #[] 0 hwx (by decide) rfl⟩)
      have GN := hid (only_trans GA.out (only_below AN b))
      have Q4 := hid (pickS b ca len cap (K + 22 + 2) 2 _ (st_below SA.out AN) (by omega) hl (by omega) (by omega))
      clear AN OA GA SA
      go_wp2_with (fail)
      refine Q4.out.mono ?_
      rintro e x3 ⟨q4, rfl, q5, q6, sC, gC⟩
      have OC := hid (ow_only gC hbl ON.out)
      have GC := hid (only_trans GN.out gC)
      have SC := hid (st_more sC (show K + 22 + 2 + 2 ≤ K + 60 by omega))
      obtain ⟨j4, rfl⟩ := Int.eq_ofNat_of_zero_le q5
      have hj4 : j4 ≤ 1 := by omega
      clear sC gC Q4 ON GN q5 q6 d0
      go_wp2_with (fail)
      go_loopw [3, 5] (fun v u8 wr => ∃ (k g c : Nat) (zs : List Int), u8 = .int .i64 k ∧ k ≤ 61 ∧ v = .slice (some ⟨g, 0, none⟩) zs.length c ∧ zs.length + k ≤ 61 ∧ Hid (Own w.heap.size wr g c zs) ∧ Hid (St wr b ca len cap (K + 60)) ∧ Hid (w.grownBy wr (some b))) (fun _ u8 _ => (RowKit.intOf u8).toNat)
      case atStart => exact ⟨60 + j4, _, _, [], by go_num, by omega, rfl, by simp; omega, OC, SC, GC⟩
      case round =>
        obtain ⟨k, g, c, zs, rfl, hk61, rfl, hzl, O4, S4, G4⟩ := hrel
        clear OC SC GC
        by_cases hlt : 0 < k
        case neg =>
          have hlt' : ¬ (0 : Int) < (k : Int) := by omega
          go_wp2_with (fail)
          go_ret
          exact ⟨_, _, zs, rfl, O4.out, by omega, st_more S4.out (by omega), G4.out⟩
        have hlt' : (0 : Int) < (k : Int) := by omega
        have hkk : ((k : Int) - 1) = ((k - 1 : Nat) : Int) := by omega
        have HKK := hid hkk
        clear hkk
        have hbz : w.heap.size ≤ (wr).heap.size := G4.out.size
        go_wp2_with (at_builtin; refine wpList_append_own _ rfl _ _ 27 rfl w.heap.size 2 i0 (.int .i64 0) 1 8 Try.underlying27 hi hz0 hz1 hz2 rfl (by decide) _ zs.length (intCells zs) (by rfl) ?c0qb ⟨(wr).heap.size, 0, none⟩ 1 1 [.int .i64 (1)] (by rfl) ?c1qb ?c2qb ?c3qb ?c4qb ?c5qb ?c6qb ?c7qb)
        case c0qb => exact O4.out.2.alloc _
        case c1qb => rfl
        case c2qb => exact news1 _ _ _
        case c3qb => intro u hu; obtain rfl := List.mem_singleton.1 hu; rfl
        case c4qb => unfold maxLen; omega
        case c5qb => omega
        case c6qb => (first | omega | (simp <;> omega))
        intro vv w6 hown2 hgrow2 _
        obtain ⟨gg, gc, rfl, O7⟩ := ow_form (xs := zs ++ [1]) hown2 (by simp) (intCells_more zs (1)) (by simp)
        have HO7 := hid O7
        have AX : Below (wr).heap.size (wr) ((wr).alloc (.cells #[.int .i64 (1)] 2)) := (Below.refl _ _).alloc (Nat.le_refl _) _
        have G7 := hid (rw_grown (only_trans G4.out (only_below AX b)) hgrow2 O4.out.1)
        have S7 := hid (st_rw HS.out (st_below S4.out AX) hgrow2 O4.out.1)
        have HL7 := hid (show (zs ++ [1]).length = zs.length + 1 by simp)
        obtain ⟨ys, hys⟩ : ∃ ys : List Int, ys = zs ++ [1] := ⟨_, rfl⟩
        rw [← hys] at HO7 HL7 ⊢
        clear hown2 hgrow2 O7 hys AX
        go_wp2_with (fail)
        go_roundw
        case rel => exact ⟨k - 1, gg, gc, ys, by first | (rw [← HKK.out]; done) | (rw [← HKK.out]; go_num), by omega, rfl, by have := HL7.out; omega, HO7, S7, G7⟩
        case measure => simp [RowKit.intOf]; omega
    have hg5 : w.heap.size ≤ g := OY.out.1
    have OZ := hid (ow_set OY.out 0 0)
    have HZL := hid (show (xs.set 0 0).length = xs.length by simp)
    have GZ := hid (only_set (o := 0) GY.out hg5 (.int .i64 0))
    have SZ := hid (st_fset HS.out SY.out hg5 0 (.int .i64 0))
    have ca0 := (own_ints OY.out) 0 (xs[0]) (List.getElem?_eq_getElem (by omega))
    have fr0 := own_frozen OY.out 0
    obtain ⟨rs, hrs⟩ : ∃ rs : List Int, rs = xs.set 0 0 := ⟨_, rfl⟩
    rw [← hrs] at OZ HZL
    clear hrs OY GY SY
    have hzl0 : rs.length = xs.length := HZL.out
    have hrl : rs.length ≤ 6 := by omega
    obtain ⟨x0s, hx0s⟩ : ∃ x0s, x0s = x0.setCell ⟨g, 0, none⟩ (.int .i64 0) := ⟨_, rfl⟩
    have Q1 := hid (pickS b ca len cap (K + 22) 20 _ SZ.out (by omega) hl (by omega) (by omega))
    go_wp2_with (fail)
    refine Q1.out.mono ?_
    rintro e x1 ⟨q1, rfl, q2, q3, sA, gA⟩
    have OA := hid (ow_only gA hbl OZ.out)
    have GA := hid (only_trans GZ.out gA)
    have SA := hid sA
    clear sA gA Q1 q3 OZ GZ SZ
    have hwx : w.heap.size ≤ x1.heap.size := GA.out.size
    by_cases c0 : q1 = 0
    case pos =>
      subst c0
      have Q2 := hid (amongL b ca len cap (K + 22 + 2) 4 [-1, 0, 1000000000, 1000000001] 2 x1 rfl SA.out (by decide) (by decide) (by omega) hl)
      go_wp2_with (fail)
      refine Q2.out.mono ?_
      rintro e x2 ⟨z, rfl, sB, gB⟩
      have OB := hid (ow_only gB hbl OA.out)
      have GB := hid (only_trans GA.out gB)
      have SB := hid sB
      clear sB gB Q2 OA GA SA
      have hbz : w.heap.size ≤ (x2).heap.size := GB.out.size
      go_wp2_with (at_builtin; refine wpList_append_own _ rfl _ _ 27 rfl w.heap.size 2 i0 (.int .i64 0) 1 8 Try.underlying27 hi hz0 hz1 hz2 rfl (by decide) _ xs.length (intCells rs) (by rfl) ?c0pc ⟨(x2).heap.size, 0, none⟩ 1 1 [.int .i64 (z)] (by rfl) ?c1pc ?c2pc ?c3pc ?c4pc ?c5pc ?c6pc ?c7pc)
      case c0pc => (have h := OB.out.2; rw [hzl0] at h; exact h.alloc _)
      case c1pc => rfl
      case c2pc => exact news1 _ _ _
      case c3pc => intro u hu; obtain rfl := List.mem_singleton.1 hu; rfl
      case c4pc => unfold maxLen; omega
      case c5pc => omega
      case c6pc => (first | omega | (simp <;> omega))
      intro vv w6 hown2 hgrow2 _
      obtain ⟨gg, gc, rfl, O7⟩ := ow_form (xs := rs ++ [z]) hown2 (by simp [hzl0]) (intCells_more rs (z)) (by simp)
      have HO7 := hid O7
      have AX : Below (x2).heap.size (x2) ((x2).alloc (.cells #[.int .i64 (z)] 2)) := (Below.refl _ _).alloc (Nat.le_refl _) _
      have G7 := hid (rw_grown (only_trans GB.out (only_below AX b)) hgrow2 OB.out.1)
      have S7 := hid (st_rw HS.out (st_below SB.out AX) hgrow2 OB.out.1)
      have HL7 := hid (show (rs ++ [z]).length = rs.length + 1 by simp)
      obtain ⟨ys, hys⟩ : ∃ ys : List Int, ys = rs ++ [z] := ⟨_, rfl⟩
      rw [← hys] at HO7 HL7 ⊢
      clear hown2 hgrow2 O7 hys AX
      go_wp2_with (fail)
      go_ret
      exact ⟨_, _, ys, rfl, HO7.out, by have := HL7.out; omega, st_more S7.out (by omega), G7.out⟩
    have d0 : (q1 == 0) = false := by simpa using c0
    by_cases c1 : q1 = 1
    case neg =>
      have d1 : (q1 == 1) = false := by simpa using c1
      clear c0 c1
      go_wp2_with (fail)
      go_ret
      exact ⟨_, _, rs, by rw [hzl0]; rfl, OA.out, by omega, st_more SA.out (by omega), GA.out⟩
    subst c1
    clear c0
    have AN : Below x1.heap.size x1 (x1.alloc (.cells #[] 2)) := (Below.refl _ _).alloc (Nat.le_refl _) _
    have ON := hid (show Own w.heap.size (x1.alloc (.cells #[] 2)) x1.heap.size 0 [] from ⟨hwx, World.ownsRow_lit x1 #[] 0 hwx (by decide) rfl⟩)
    have GN := hid (only_trans GA.out (only_below AN b))
    have Q4 := hid (pickS b ca len cap (K + 22 + 2) 2 _ (st_below SA.out AN) (by omega) hl (by omega) (by omega))
    clear AN OA GA SA
    go_wp2_with (fail)
    refine Q4.out.mono ?_
    rintro e x3 ⟨q4, rfl, q5, q6, sC, gC⟩
    have OC := hid (ow_only gC hbl ON.out)
    have GC := hid (only_trans GN.out gC)
    have SC := hid (st_more sC (show K + 22 + 2 + 2 ≤ K + 60 by omega))
    obtain ⟨j4, rfl⟩ := Int.eq_ofNat_of_zero_le q5
    have hj4 : j4 ≤ 1 := by omega
    clear sC gC Q4 ON GN q5 q6 d0
    go_wp2_with (fail)
    go_loopw [3, 5] (fun v u8 wr => ∃ (k g c : Nat) (zs : List Int), u8 = .int .i64 k ∧ k ≤ 61 ∧ v = .slice (some ⟨g, 0, none⟩) zs.length c ∧ zs.length + k ≤ 61 ∧ Hid (Own w.heap.size wr g c zs) ∧ Hid (St wr b ca len cap (K + 60)) ∧ Hid (w.grownBy wr (some b))) (fun _ u8 _ => (RowKit.intOf u8).toNat)
    case atStart => exact ⟨60 + j4, _, _, [], by go_num, by omega, rfl, by simp; omega, OC, SC, GC⟩
    case round =>
      obtain ⟨k, g, c, zs, rfl, hk61, rfl, hzl, O4, S4, G4⟩ := hrel
      clear OC SC GC
      by_cases hlt : 0 < k
      case neg =>
        have hlt' : ¬ (0 : Int) < (k : Int) := by omega
        go_wp2_with (fail)
        go_ret
        exact ⟨_, _, zs, rfl, O4.out, by omega, st_more S4.out (by omega), G4.out⟩
      have hlt' : (0 : Int) < (k : Int) := by omega
      have hkk : ((k : Int) - 1) = ((k - 1 : Nat) : Int) := by omega
      have HKK := hid hkk
      clear hkk
      have hbz : w.heap.size ≤ (wr).heap.size := G4.out.size
      go_wp2_with (at_builtin; refine wpList_append_own _ rfl _ _ 27 rfl w.heap.size 2 i0 (.int .i64 0) 1 8 Try.underlying27 hi hz0 hz1 hz2 rfl (by decide) _ zs.length (intCells zs) (by rfl) ?c0qc ⟨(wr).heap.size, 0, none⟩ 1 1 [.int .i64 (1)] (by rfl) ?c1qc ?c2qc ?c3qc ?c4qc ?c5qc ?c6qc ?c7qc)
      case c0qc => exact O4.out.2.alloc _
      case c1qc => rfl
      case c2qc => exact news1 _ _ _
      case c3qc => intro u hu; obtain rfl := List.mem_singleton.1 hu; rfl
      case c4qc => unfold maxLen; omega
      case c5qc => omega
      case c6qc => (first | omega | (simp <;> omega))
      intro vv w6 hown2 hgrow2 _
      obtain ⟨gg, gc, rfl, O7⟩ := ow_form (xs := zs ++ [1]) hown2 (by simp) (intCells_more zs (1)) (by simp)
      have HO7 := hid O7
      have AX : Below (wr).heap.size (wr) ((wr).alloc (.cells #[.int .i64 (1)] 2)) := (Below.refl _ _).alloc (Nat.le_refl _) _
      have G7 := hid (rw_grown (only_trans G4.out (only_below AX b)) hgrow2 O4.out.1)
      have S7 := hid (st_rw HS.out (st_below S4.out AX) hgrow2 O4.out.1)
      have HL7 := hid (show (zs ++ [1]).length = zs.length + 1 by simp)
      obtain ⟨ys, hys⟩ : ∃ ys : List Int, ys = zs ++ [1] := ⟨_, rfl⟩
      rw [← hys] at HO7 HL7 ⊢
      clear hown2 hgrow2 O7 hys AX
      go_wp2_with (fail)
      go_roundw
      case rel => exact ⟨k - 1, gg, gc, ys, by first | (rw [← HKK.out]; done) | (rw [← HKK.out]; go_num), by omega, rfl, by have := HL7.out; omega, HO7, S7, G7⟩
      case measure => simp [RowKit.intOf]; omega

theorem drawFp (ca : Option Addr) (len cap : Nat) (w : World) (hb : ByI w ca len) (hl : len ≤ 5000) :
    Calls Try.prog 18 #[.slice ca len cap] w fun e w' => ∃ (g c : Nat) (xs : List Int), e = .returned (.slice (some ⟨g, 0, none⟩) xs.length c) ∧ Own w.heap.size w' g c xs ∧ xs.length ≤ 61 ∧ Below w.heap.size w w' := by
  have F := hid (specFrom ca len cap w)
  have HB := hid hb
  clear hb
  go_enter Try.func18, Try.ntmps18
  go_wp2_with (fail)
  refine F.out.mono ?_
  rintro e W ⟨rfl, hW⟩
  have A0 := hid (show Below w.heap.size w W by rw [hW]; exact (Below.refl _ _).alloc (Nat.le_refl _) _)
  have S0 := hid (show St W w.heap.size ca len cap 0 by rw [hW]; exact st_new HB.out)
  have Q := hid (runs5 w.heap.size ca len cap 0 W S0.out (by omega) hl)
  clear hW F HB
  go_wp2_with (fail)
  refine Q.out.mono ?_
  rintro e w1 ⟨g, c, xs, rfl, O1, hx, s1, g1⟩
  have HO := hid (own_mono O1 A0.out.size)
  have HG := hid (below_fr5 A0.out g1 (Nat.le_refl _))
  clear O1 s1 g1
  go_wp2_with (fail)
  go_ret
  exact ⟨g, c, xs, rfl, HO.out, hx, HG.out⟩

end Go.Proofs.Ytjijabfamjhdjaa
