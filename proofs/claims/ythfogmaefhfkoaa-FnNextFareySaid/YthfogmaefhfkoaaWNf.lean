/- The law on next elements of Farey sequences, walked. -/
import Derived.Test.YthfogmaefhfkoaaD6b
import Derived.Test.YthfogmaefhfkoaaF6n
import Derived.Test.YthfogmaefhfkoaaNxp
import Derived.Test.YthfogmaefhfkoaaNxf
import Derived.Test.YthfogmaefhfkoaaRnk
import Derived.Test.YthfogmaefhfkoaaCir
namespace Go.Proofs.Ythfogmaefhfkoaa.pNextFarey
open Go.RowKit

theorem fback_slice {B : Nat} {w : World} {v : Value} {xs : List (Int × Int)} (h : FBack B w v xs) : ∃ a c, v = .slice a xs.length c ∧ FBack B w (.slice a xs.length c) xs := by
  rcases h with ⟨rfl, rfl⟩ | ⟨g, c, rfl, h⟩
  · exact ⟨_, _, rfl, .inl ⟨rfl, rfl⟩⟩
  · exact ⟨_, _, rfl, .inr ⟨g, c, rfl, h⟩⟩
/-- What the law wants of the next element. -/
theorem nxf_fin {o n d a b : Int} (h : nxfT o n d = (a, b, 0)) : (okF n d = true ∧ okF a b = true ∧ n * b - a * d < 0 ∧ b ≤ o) ∧ (1 ≤ o ∧ o ≤ 10000) ∧ (0 ≤ n ∧ n < d) ∧ (∀ j : Nat, 1 ≤ j → (j : Int) ≤ o → ¬ (n * j / d + 1) * b < a * j) := by
  by_cases hc : code6 10000 o n d = 0
  · obtain ⟨hok, ⟨o1, o2⟩, n1, n2⟩ := code6_zero hc
    obtain ⟨d1, d2, _, _⟩ := ok_bounds hok
    by_cases hn : n = d
    · rw [nxfT_top hc hn] at h
      injection h with _ h
      injection h with _ h
      cases h
    · rw [nxfT_ok hc hn] at h
      injection h with ha h
      injection h with hb _
      have hlt : n < d := by omega
      have hp := nxP o.toNat n1 hlt d1
      have ho := nxt_ok (k := o.toNat) n1 hlt d1 (by omega)
      rw [ha, hb] at ho
      have gt := hp.gt
      have den := hp.den
      rw [ha, hb] at gt
      rw [hb] at den
      refine ⟨⟨hok, ho, by omega, by omega⟩, ⟨o1, o2⟩, ⟨n1, hlt⟩, fun j h1 h2 => ?_⟩
      have mn := hp.min j h1 (by omega)
      rw [ha, hb] at mn
      unfold nxX at mn
      omega
  · rw [nxfT_no hc] at h
    injection h with _ h
    injection h with _ h
    exact absurd h hc

set_option maxRecDepth 100000 in
set_option maxHeartbeats 12800000 in
theorem walk (ca : Option Addr) (len cap : Nat) (w : World) (hb : ByI w ca len) :
    Calls Try.prog 5 #[.slice ca len cap] w fun e w' => e = .returned (.bool true) ∧ Below w.heap.size w w' := by
  have HBG := hid (f6big ca len cap w)
  by_cases hx : 4096 < len
  case pos =>
    rw [decide_eq_true hx] at HBG
    clear hx hb
    go_enter Try.func5, Try.ntmps5
    go_wp2_with (fail)
    refine HBG.out.mono ?_
    rintro e u ⟨rfl, hu⟩
    rw [hu]
    clear hu
    go_wp2_with (fail)
    go_ret
    exact ⟨rfl, Below.refl _ _⟩
  rw [decide_eq_false hx] at HBG
  have hl5 : len ≤ 5000 := by omega
  have BY := hid hb
  clear hb hx
  go_enter Try.func5, Try.ntmps5
  go_wp2_with (fail)
  refine HBG.out.mono ?_
  rintro e u ⟨rfl, hu⟩
  rw [hu]
  clear hu HBG
  go_wp2_with (fail)
  refine (drawNf ca len cap _ BY.out hl5).mono ?_
  rintro e w1 ⟨o, n, d, rfl, b1⟩
  have HB_0 := hid (b1)
  have BB_0 := hid (byi_below BY.out b1)
  clear b1 BY
  have bA : Below (w1).heap.size (w1) ((w1).alloc (.cells #[.int .i64 n, .int .i64 d] 25)) := (Below.refl _ _).alloc (Nat.le_refl _) _
  have HB_1 := hid (HB_0.out.trans (bA.mono HB_0.out.size))
  have BB_1 := hid (byi_below BB_0.out bA)
  clear HB_0 BB_0
  clear bA
  have NB_0 := hid (fb_new (w1) n d)
  have C1 := hid (fun w1 => implNxf o n d w1)
  have C2 := hid (fun w1 => specNxf o n d w1)
  have HFN := hid (fun a b h => nxf_fin (o := o) (n := n) (d := d) (a := a) (b := b) h)
  generalize nxfT o n d = t1 at *
  obtain ⟨y0, y1, s1⟩ := t1
  have C3 := hid (fun w1 => implBff o n d w1)
  have C4 := hid (fun w1 => specBff o n d w1)
  generalize bffT o n d = t2 at *
  obtain ⟨v0, v1, s2⟩ := t2
  obtain ⟨z0a, z0b, _, _, _⟩ := fb_cells (NB_0.out)
  go_wp2_with (fail)
  clear z0a z0b
  refine (C1.out _).mono ?_
  rintro e w2 ⟨rfl, b2⟩
  have HB_2 := hid (HB_1.out.trans (b2.mono HB_1.out.size))
  have BB_2 := hid (byi_below BB_1.out b2)
  have NB_2 := hid (fb_below NB_0.out b2)
  clear HB_1 BB_1 NB_0
  clear b2
  dsimp only [tv]
  have bA : Below (w2).heap.size (w2) ((w2).alloc (.cells #[.int .i64 y0, .int .i64 y1] 25)) := (Below.refl _ _).alloc (Nat.le_refl _) _
  have HB_3 := hid (HB_2.out.trans (bA.mono HB_2.out.size))
  have BB_3 := hid (byi_below BB_2.out bA)
  have NB_3 := hid (fb_below NB_2.out bA)
  clear HB_2 BB_2 NB_2
  clear bA
  have P1_0 := hid (fb_new (w2) y0 y1)
  obtain ⟨z0a, z0b, _, _, _⟩ := fb_cells (NB_3.out)
  go_wp2_with (fail)
  clear z0a z0b
  refine (C2.out _).mono ?_
  rintro e w3 ⟨rfl, b3⟩
  have HB_4 := hid (HB_3.out.trans (b3.mono HB_3.out.size))
  have BB_4 := hid (byi_below BB_3.out b3)
  have NB_4 := hid (fb_below NB_3.out b3)
  have P1_4 := hid (fb_below P1_0.out b3)
  clear HB_3 BB_3 NB_3 P1_0
  clear b3
  dsimp only [tv]
  have bA : Below (w3).heap.size (w3) ((w3).alloc (.cells #[.int .i64 y0, .int .i64 y1] 25)) := (Below.refl _ _).alloc (Nat.le_refl _) _
  have HB_5 := hid (HB_4.out.trans (bA.mono HB_4.out.size))
  have BB_5 := hid (byi_below BB_4.out bA)
  have NB_5 := hid (fb_below NB_4.out bA)
  have P1_5 := hid (fb_below P1_4.out bA)
  clear HB_4 BB_4 NB_4 P1_4
  clear bA
  have P2_0 := hid (fb_new (w3) y0 y1)
  obtain ⟨z0a, z0b, _, _, _⟩ := fb_cells (NB_5.out)
  go_wp2_with (fail)
  clear z0a z0b
  refine (C3.out _).mono ?_
  rintro e w4 ⟨rfl, b4⟩
  have HB_6 := hid (HB_5.out.trans (b4.mono HB_5.out.size))
  have BB_6 := hid (byi_below BB_5.out b4)
  have NB_6 := hid (fb_below NB_5.out b4)
  have P1_6 := hid (fb_below P1_5.out b4)
  have P2_6 := hid (fb_below P2_0.out b4)
  clear HB_5 BB_5 NB_5 P1_5 P2_0
  clear b4
  dsimp only [tv]
  have bA : Below (w4).heap.size (w4) ((w4).alloc (.cells #[.int .i64 v0, .int .i64 v1] 25)) := (Below.refl _ _).alloc (Nat.le_refl _) _
  have HB_7 := hid (HB_6.out.trans (bA.mono HB_6.out.size))
  have BB_7 := hid (byi_below BB_6.out bA)
  have NB_7 := hid (fb_below NB_6.out bA)
  have P1_7 := hid (fb_below P1_6.out bA)
  have P2_7 := hid (fb_below P2_6.out bA)
  clear HB_6 BB_6 NB_6 P1_6 P2_6
  clear bA
  have P3_0 := hid (fb_new (w4) v0 v1)
  obtain ⟨z0a, z0b, _, _, _⟩ := fb_cells (NB_7.out)
  go_wp2_with (fail)
  clear z0a z0b
  refine (C4.out _).mono ?_
  rintro e w5 ⟨rfl, b5⟩
  have HB_8 := hid (HB_7.out.trans (b5.mono HB_7.out.size))
  have BB_8 := hid (byi_below BB_7.out b5)
  have NB_8 := hid (fb_below NB_7.out b5)
  have P1_8 := hid (fb_below P1_7.out b5)
  have P2_8 := hid (fb_below P2_7.out b5)
  have P3_8 := hid (fb_below P3_0.out b5)
  clear HB_7 BB_7 NB_7 P1_7 P2_7 P3_0
  clear b5
  dsimp only [tv]
  have bA : Below (w5).heap.size (w5) ((w5).alloc (.cells #[.int .i64 v0, .int .i64 v1] 25)) := (Below.refl _ _).alloc (Nat.le_refl _) _
  have HB_9 := hid (HB_8.out.trans (bA.mono HB_8.out.size))
  have BB_9 := hid (byi_below BB_8.out bA)
  have NB_9 := hid (fb_below NB_8.out bA)
  have P1_9 := hid (fb_below P1_8.out bA)
  have P2_9 := hid (fb_below P2_8.out bA)
  have P3_9 := hid (fb_below P3_8.out bA)
  clear HB_8 BB_8 NB_8 P1_8 P2_8 P3_8
  clear bA
  have P4_0 := hid (fb_new (w5) v0 v1)
  go_wp2_with (fail)
  clear C1 C2 C3 C4
  refine (drawFr ca len cap _ (BB_9.out) hl5).mono ?_
  rintro e w6 ⟨o2, n2, d2, rfl, b6⟩
  have HB_10 := hid (HB_9.out.trans (b6.mono HB_9.out.size))
  have BB_10 := hid (byi_below BB_9.out b6)
  have NB_10 := hid (fb_below NB_9.out b6)
  have P1_10 := hid (fb_below P1_9.out b6)
  have P2_10 := hid (fb_below P2_9.out b6)
  have P3_10 := hid (fb_below P3_9.out b6)
  have P4_10 := hid (fb_below P4_0.out b6)
  clear HB_9 BB_9 NB_9 P1_9 P2_9 P3_9 P4_0
  clear b6
  have bA : Below (w6).heap.size (w6) ((w6).alloc (.cells #[.int .i64 n2, .int .i64 d2] 25)) := (Below.refl _ _).alloc (Nat.le_refl _) _
  have HB_11 := hid (HB_10.out.trans (bA.mono HB_10.out.size))
  have BB_11 := hid (byi_below BB_10.out bA)
  have NB_11 := hid (fb_below NB_10.out bA)
  have P1_11 := hid (fb_below P1_10.out bA)
  have P2_11 := hid (fb_below P2_10.out bA)
  have P3_11 := hid (fb_below P3_10.out bA)
  have P4_11 := hid (fb_below P4_10.out bA)
  clear HB_10 BB_10 NB_10 P1_10 P2_10 P3_10 P4_10
  clear bA
  have NC_0 := hid (fb_new (w6) n2 d2)
  have C5 := hid (fun w1 => implRnk o2 n2 d2 w1)
  have C6 := hid (fun w1 => specRnk o2 n2 d2 w1)
  generalize rnkT o2 n2 d2 = t3 at *
  obtain ⟨u0, s3⟩ := t3
  dsimp only at C5 C6
  have C7 := hid (fun w1 => implTcc o2 n2 d2 w1)
  have C8 := hid (fun w1 => specTcc o2 n2 d2 w1)
  have HTN := hid (show (tccT o2 n2 d2).1.length ≤ 2000000 by have := tccT_len o2 n2 d2; omega)
  generalize tccT o2 n2 d2 = t4 at *
  obtain ⟨tl, s4⟩ := t4
  obtain ⟨z0a, z0b, _, _, _⟩ := fb_cells (NC_0.out)
  go_wp2_with (fail)
  clear z0a z0b
  refine (C5.out _).mono ?_
  rintro e w7 ⟨rfl, b7⟩
  have HB_12 := hid (HB_11.out.trans (b7.mono HB_11.out.size))
  have BB_12 := hid (byi_below BB_11.out b7)
  have NB_12 := hid (fb_below NB_11.out b7)
  have P1_12 := hid (fb_below P1_11.out b7)
  have P2_12 := hid (fb_below P2_11.out b7)
  have P3_12 := hid (fb_below P3_11.out b7)
  have P4_12 := hid (fb_below P4_11.out b7)
  have NC_12 := hid (fb_below NC_0.out b7)
  clear HB_11 BB_11 NB_11 P1_11 P2_11 P3_11 P4_11 NC_0
  clear b7
  obtain ⟨z0a, z0b, _, _, _⟩ := fb_cells (NC_12.out)
  go_wp2_with (fail)
  clear z0a z0b
  refine (C6.out _).mono ?_
  rintro e w8 ⟨rfl, b8⟩
  have HB_13 := hid (HB_12.out.trans (b8.mono HB_12.out.size))
  have BB_13 := hid (byi_below BB_12.out b8)
  have NB_13 := hid (fb_below NB_12.out b8)
  have P1_13 := hid (fb_below P1_12.out b8)
  have P2_13 := hid (fb_below P2_12.out b8)
  have P3_13 := hid (fb_below P3_12.out b8)
  have P4_13 := hid (fb_below P4_12.out b8)
  have NC_13 := hid (fb_below NC_12.out b8)
  clear HB_12 BB_12 NB_12 P1_12 P2_12 P3_12 P4_12 NC_12
  clear b8
  obtain ⟨z0a, z0b, _, _, _⟩ := fb_cells (NC_13.out)
  go_wp2_with (fail)
  clear z0a z0b
  refine (C7.out _).mono ?_
  rintro e w9 ⟨⟨v9, rfl, r9⟩, b9⟩
  have R9 := hid r9
  clear r9
  have HB_14 := hid (HB_13.out.trans (b9.mono HB_13.out.size))
  have BB_14 := hid (byi_below BB_13.out b9)
  have NB_14 := hid (fb_below NB_13.out b9)
  have P1_14 := hid (fb_below P1_13.out b9)
  have P2_14 := hid (fb_below P2_13.out b9)
  have P3_14 := hid (fb_below P3_13.out b9)
  have P4_14 := hid (fb_below P4_13.out b9)
  have NC_14 := hid (fb_below NC_13.out b9)
  clear HB_13 BB_13 NB_13 P1_13 P2_13 P3_13 P4_13 NC_13
  clear b9
  obtain ⟨a9, c9, rfl, q9⟩ := fback_slice R9.out
  have R9x_0 := hid (q9)
  clear q9 R9
  dsimp only
  obtain ⟨z0a, z0b, _, _, _⟩ := fb_cells (NC_14.out)
  go_wp2_with (fail)
  clear z0a z0b
  refine (C8.out _).mono ?_
  rintro e w10 ⟨⟨v10, rfl, r10⟩, b10⟩
  have R10 := hid r10
  clear r10
  have HB_15 := hid (HB_14.out.trans (b10.mono HB_14.out.size))
  have BB_15 := hid (byi_below BB_14.out b10)
  have NB_15 := hid (fb_below NB_14.out b10)
  have P1_15 := hid (fb_below P1_14.out b10)
  have P2_15 := hid (fb_below P2_14.out b10)
  have P3_15 := hid (fb_below P3_14.out b10)
  have P4_15 := hid (fb_below P4_14.out b10)
  have NC_15 := hid (fb_below NC_14.out b10)
  have R9x_15 := hid (fback_below R9x_0.out b10)
  clear HB_14 BB_14 NB_14 P1_14 P2_14 P3_14 P4_14 NC_14 R9x_0
  clear b10
  obtain ⟨a10, c10, rfl, q10⟩ := fback_slice R10.out
  have R10x_0 := hid (q10)
  clear q10 R10
  dsimp only
  go_wp2_with (fail)
  clear C5 C6 C7 C8
  refine (drawCo ca len cap _ (BB_15.out) hl5).mono ?_
  rintro e w11 ⟨n3, d3, rfl, b11⟩
  have HB_16 := hid (HB_15.out.trans (b11.mono HB_15.out.size))
  have BB_16 := hid (byi_below BB_15.out b11)
  have NB_16 := hid (fb_below NB_15.out b11)
  have P1_16 := hid (fb_below P1_15.out b11)
  have P2_16 := hid (fb_below P2_15.out b11)
  have P3_16 := hid (fb_below P3_15.out b11)
  have P4_16 := hid (fb_below P4_15.out b11)
  have NC_16 := hid (fb_below NC_15.out b11)
  have R9x_16 := hid (fback_below R9x_15.out b11)
  have R10x_16 := hid (fback_below R10x_0.out b11)
  clear HB_15 BB_15 NB_15 P1_15 P2_15 P3_15 P4_15 NC_15 R9x_15 R10x_0
  clear b11
  have bA : Below (w11).heap.size (w11) ((w11).alloc (.cells #[.int .i64 n3, .int .i64 d3] 25)) := (Below.refl _ _).alloc (Nat.le_refl _) _
  have HB_17 := hid (HB_16.out.trans (bA.mono HB_16.out.size))
  have BB_17 := hid (byi_below BB_16.out bA)
  have NB_17 := hid (fb_below NB_16.out bA)
  have P1_17 := hid (fb_below P1_16.out bA)
  have P2_17 := hid (fb_below P2_16.out bA)
  have P3_17 := hid (fb_below P3_16.out bA)
  have P4_17 := hid (fb_below P4_16.out bA)
  have NC_17 := hid (fb_below NC_16.out bA)
  have R9x_17 := hid (fback_below R9x_16.out bA)
  have R10x_17 := hid (fback_below R10x_16.out bA)
  clear HB_16 BB_16 NB_16 P1_16 P2_16 P3_16 P4_16 NC_16 R9x_16 R10x_16
  clear bA
  have ND_0 := hid (fb_new (w11) n3 d3)
  have C1 := hid (fun w1 => implCir n3 d3 w1)
  have C2 := hid (fun w1 => specCir n3 d3 w1)
  generalize cirT n3 d3 = t5 at *
  obtain ⟨x0, x1, s5⟩ := t5
  obtain ⟨z0a, z0b, _, _, _⟩ := fb_cells (ND_0.out)
  go_wp2_with (fail)
  clear z0a z0b
  refine (C1.out _).mono ?_
  rintro e w12 ⟨rfl, b12⟩
  have HB_18 := hid (HB_17.out.trans (b12.mono HB_17.out.size))
  have BB_18 := hid (byi_below BB_17.out b12)
  have NB_18 := hid (fb_below NB_17.out b12)
  have P1_18 := hid (fb_below P1_17.out b12)
  have P2_18 := hid (fb_below P2_17.out b12)
  have P3_18 := hid (fb_below P3_17.out b12)
  have P4_18 := hid (fb_below P4_17.out b12)
  have NC_18 := hid (fb_below NC_17.out b12)
  have R9x_18 := hid (fback_below R9x_17.out b12)
  have R10x_18 := hid (fback_below R10x_17.out b12)
  have ND_18 := hid (fb_below ND_0.out b12)
  clear HB_17 BB_17 NB_17 P1_17 P2_17 P3_17 P4_17 NC_17 R9x_17 R10x_17 ND_0
  clear b12
  dsimp only [tv]
  have bA : Below (w12).heap.size (w12) ((w12).alloc (.cells #[.int .i64 x0, .int .i64 x1] 25)) := (Below.refl _ _).alloc (Nat.le_refl _) _
  have HB_19 := hid (HB_18.out.trans (bA.mono HB_18.out.size))
  have BB_19 := hid (byi_below BB_18.out bA)
  have NB_19 := hid (fb_below NB_18.out bA)
  have P1_19 := hid (fb_below P1_18.out bA)
  have P2_19 := hid (fb_below P2_18.out bA)
  have P3_19 := hid (fb_below P3_18.out bA)
  have P4_19 := hid (fb_below P4_18.out bA)
  have NC_19 := hid (fb_below NC_18.out bA)
  have R9x_19 := hid (fback_below R9x_18.out bA)
  have R10x_19 := hid (fback_below R10x_18.out bA)
  have ND_19 := hid (fb_below ND_18.out bA)
  clear HB_18 BB_18 NB_18 P1_18 P2_18 P3_18 P4_18 NC_18 R9x_18 R10x_18 ND_18
  clear bA
  have P5_0 := hid (fb_new (w12) x0 x1)
  obtain ⟨z0a, z0b, _, _, _⟩ := fb_cells (ND_19.out)
  go_wp2_with (fail)
  clear z0a z0b
  refine (C2.out _).mono ?_
  rintro e w13 ⟨rfl, b13⟩
  have HB_20 := hid (HB_19.out.trans (b13.mono HB_19.out.size))
  have BB_20 := hid (byi_below BB_19.out b13)
  have NB_20 := hid (fb_below NB_19.out b13)
  have P1_20 := hid (fb_below P1_19.out b13)
  have P2_20 := hid (fb_below P2_19.out b13)
  have P3_20 := hid (fb_below P3_19.out b13)
  have P4_20 := hid (fb_below P4_19.out b13)
  have NC_20 := hid (fb_below NC_19.out b13)
  have R9x_20 := hid (fback_below R9x_19.out b13)
  have R10x_20 := hid (fback_below R10x_19.out b13)
  have ND_20 := hid (fb_below ND_19.out b13)
  have P5_20 := hid (fb_below P5_0.out b13)
  clear HB_19 BB_19 NB_19 P1_19 P2_19 P3_19 P4_19 NC_19 R9x_19 R10x_19 ND_19 P5_0
  clear b13
  dsimp only [tv]
  have bA : Below (w13).heap.size (w13) ((w13).alloc (.cells #[.int .i64 x0, .int .i64 x1] 25)) := (Below.refl _ _).alloc (Nat.le_refl _) _
  have HB_21 := hid (HB_20.out.trans (bA.mono HB_20.out.size))
  have BB_21 := hid (byi_below BB_20.out bA)
  have NB_21 := hid (fb_below NB_20.out bA)
  have P1_21 := hid (fb_below P1_20.out bA)
  have P2_21 := hid (fb_below P2_20.out bA)
  have P3_21 := hid (fb_below P3_20.out bA)
  have P4_21 := hid (fb_below P4_20.out bA)
  have NC_21 := hid (fb_below NC_20.out bA)
  have R9x_21 := hid (fback_below R9x_20.out bA)
  have R10x_21 := hid (fback_below R10x_20.out bA)
  have ND_21 := hid (fb_below ND_20.out bA)
  have P5_21 := hid (fb_below P5_20.out bA)
  clear HB_20 BB_20 NB_20 P1_20 P2_20 P3_20 P4_20 NC_20 R9x_20 R10x_20 ND_20 P5_20
  clear bA
  have P6_0 := hid (fb_new (w13) x0 x1)
  go_wp2_with (fail)
  clear C1 C2
  refine (drawCt ca len cap _ (BB_21.out) hl5).mono ?_
  rintro e w14 ⟨n4, d4, m4, f4, rfl, b14⟩
  have HB_22 := hid (HB_21.out.trans (b14.mono HB_21.out.size))
  have BB_22 := hid (byi_below BB_21.out b14)
  have NB_22 := hid (fb_below NB_21.out b14)
  have P1_22 := hid (fb_below P1_21.out b14)
  have P2_22 := hid (fb_below P2_21.out b14)
  have P3_22 := hid (fb_below P3_21.out b14)
  have P4_22 := hid (fb_below P4_21.out b14)
  have NC_22 := hid (fb_below NC_21.out b14)
  have R9x_22 := hid (fback_below R9x_21.out b14)
  have R10x_22 := hid (fback_below R10x_21.out b14)
  have ND_22 := hid (fb_below ND_21.out b14)
  have P5_22 := hid (fb_below P5_21.out b14)
  have P6_22 := hid (fb_below P6_0.out b14)
  clear HB_21 BB_21 NB_21 P1_21 P2_21 P3_21 P4_21 NC_21 R9x_21 R10x_21 ND_21 P5_21 P6_0
  clear b14
  have bA : Below (w14).heap.size (w14) ((w14).alloc (.cells #[.int .i64 n4, .int .i64 d4] 25)) := (Below.refl _ _).alloc (Nat.le_refl _) _
  have HB_23 := hid (HB_22.out.trans (bA.mono HB_22.out.size))
  have BB_23 := hid (byi_below BB_22.out bA)
  have NB_23 := hid (fb_below NB_22.out bA)
  have P1_23 := hid (fb_below P1_22.out bA)
  have P2_23 := hid (fb_below P2_22.out bA)
  have P3_23 := hid (fb_below P3_22.out bA)
  have P4_23 := hid (fb_below P4_22.out bA)
  have NC_23 := hid (fb_below NC_22.out bA)
  have R9x_23 := hid (fback_below R9x_22.out bA)
  have R10x_23 := hid (fback_below R10x_22.out bA)
  have ND_23 := hid (fb_below ND_22.out bA)
  have P5_23 := hid (fb_below P5_22.out bA)
  have P6_23 := hid (fb_below P6_22.out bA)
  clear HB_22 BB_22 NB_22 P1_22 P2_22 P3_22 P4_22 NC_22 R9x_22 R10x_22 ND_22 P5_22 P6_22
  clear bA
  have NE_0 := hid (fb_new (w14) n4 d4)
  have bA : Below (w14.alloc (.cells #[.int .i64 n4, .int .i64 d4] 25)).heap.size (w14.alloc (.cells #[.int .i64 n4, .int .i64 d4] 25)) ((w14.alloc (.cells #[.int .i64 n4, .int .i64 d4] 25)).alloc (.cells #[.int .i64 m4, .int .i64 f4] 25)) := (Below.refl _ _).alloc (Nat.le_refl _) _
  have HB_24 := hid (HB_23.out.trans (bA.mono HB_23.out.size))
  have BB_24 := hid (byi_below BB_23.out bA)
  have NB_24 := hid (fb_below NB_23.out bA)
  have P1_24 := hid (fb_below P1_23.out bA)
  have P2_24 := hid (fb_below P2_23.out bA)
  have P3_24 := hid (fb_below P3_23.out bA)
  have P4_24 := hid (fb_below P4_23.out bA)
  have NC_24 := hid (fb_below NC_23.out bA)
  have R9x_24 := hid (fback_below R9x_23.out bA)
  have R10x_24 := hid (fback_below R10x_23.out bA)
  have ND_24 := hid (fb_below ND_23.out bA)
  have P5_24 := hid (fb_below P5_23.out bA)
  have P6_24 := hid (fb_below P6_23.out bA)
  have NE_24 := hid (fb_below NE_0.out bA)
  clear HB_23 BB_23 NB_23 P1_23 P2_23 P3_23 P4_23 NC_23 R9x_23 R10x_23 ND_23 P5_23 P6_23 NE_0
  clear bA
  have NF_0 := hid (show FB _ (w14.heap.size + 1) m4 f4 by have h := fb_new (w14.alloc (.cells #[.int .i64 n4, .int .i64 d4] 25)) m4 f4; rwa [World.size_alloc] at h)
  have C1 := hid (fun w1 => implCtc n4 d4 m4 f4 w1)
  have C2 := hid (fun w1 => specCtc n4 d4 m4 f4 w1)
  generalize ctcT n4 d4 m4 f4 = t6 at *
  obtain ⟨tt, s6⟩ := t6
  dsimp only at C1 C2
  obtain ⟨z0a, z0b, _, _, _⟩ := fb_cells (NE_24.out)
  obtain ⟨z1a, z1b, _, _, _⟩ := fb_cells (NF_0.out)
  go_wp2_with (fail)
  clear z0a z0b z1a z1b
  refine (C1.out _).mono ?_
  rintro e w15 ⟨rfl, b15⟩
  have HB_25 := hid (HB_24.out.trans (b15.mono HB_24.out.size))
  have BB_25 := hid (byi_below BB_24.out b15)
  have NB_25 := hid (fb_below NB_24.out b15)
  have P1_25 := hid (fb_below P1_24.out b15)
  have P2_25 := hid (fb_below P2_24.out b15)
  have P3_25 := hid (fb_below P3_24.out b15)
  have P4_25 := hid (fb_below P4_24.out b15)
  have NC_25 := hid (fb_below NC_24.out b15)
  have R9x_25 := hid (fback_below R9x_24.out b15)
  have R10x_25 := hid (fback_below R10x_24.out b15)
  have ND_25 := hid (fb_below ND_24.out b15)
  have P5_25 := hid (fb_below P5_24.out b15)
  have P6_25 := hid (fb_below P6_24.out b15)
  have NE_25 := hid (fb_below NE_24.out b15)
  have NF_25 := hid (fb_below NF_0.out b15)
  clear HB_24 BB_24 NB_24 P1_24 P2_24 P3_24 P4_24 NC_24 R9x_24 R10x_24 ND_24 P5_24 P6_24 NE_24 NF_0
  clear b15
  obtain ⟨z0a, z0b, _, _, _⟩ := fb_cells (NE_25.out)
  obtain ⟨z1a, z1b, _, _, _⟩ := fb_cells (NF_25.out)
  go_wp2_with (fail)
  clear z0a z0b z1a z1b
  refine (C2.out _).mono ?_
  rintro e w16 ⟨rfl, b16⟩
  have HB_26 := hid (HB_25.out.trans (b16.mono HB_25.out.size))
  have BB_26 := hid (byi_below BB_25.out b16)
  have NB_26 := hid (fb_below NB_25.out b16)
  have P1_26 := hid (fb_below P1_25.out b16)
  have P2_26 := hid (fb_below P2_25.out b16)
  have P3_26 := hid (fb_below P3_25.out b16)
  have P4_26 := hid (fb_below P4_25.out b16)
  have NC_26 := hid (fb_below NC_25.out b16)
  have R9x_26 := hid (fback_below R9x_25.out b16)
  have R10x_26 := hid (fback_below R10x_25.out b16)
  have ND_26 := hid (fb_below ND_25.out b16)
  have P5_26 := hid (fb_below P5_25.out b16)
  have P6_26 := hid (fb_below P6_25.out b16)
  have NE_26 := hid (fb_below NE_25.out b16)
  have NF_26 := hid (fb_below NF_25.out b16)
  clear HB_25 BB_25 NB_25 P1_25 P2_25 P3_25 P4_25 NC_25 R9x_25 R10x_25 ND_25 P5_25 P6_25 NE_25 NF_25
  clear b16
  clear C1 C2
  have ne_s1 : (s1 != s1) = false := by simp
  have eq_s1 : (s1 == s1) = true := by simp
  have ne_s2 : (s2 != s2) = false := by simp
  have eq_s2 : (s2 == s2) = true := by simp
  have ne_s3 : (s3 != s3) = false := by simp
  have eq_s3 : (s3 == s3) = true := by simp
  have ne_s4 : (s4 != s4) = false := by simp
  have eq_s4 : (s4 == s4) = true := by simp
  have ne_s5 : (s5 != s5) = false := by simp
  have eq_s5 : (s5 == s5) = true := by simp
  have ne_s6 : (s6 != s6) = false := by simp
  have eq_s6 : (s6 == s6) = true := by simp
  have ne_u0 : (u0 != u0) = false := by simp
  have eq_u0 : (u0 == u0) = true := by simp
  have ne_y0 : (y0 != y0) = false := by simp
  have eq_y0 : (y0 == y0) = true := by simp
  have ne_y1 : (y1 != y1) = false := by simp
  have eq_y1 : (y1 == y1) = true := by simp
  have ne_v0 : (v0 != v0) = false := by simp
  have eq_v0 : (v0 == v0) = true := by simp
  have ne_v1 : (v1 != v1) = false := by simp
  have eq_v1 : (v1 == v1) = true := by simp
  have ne_x0 : (x0 != x0) = false := by simp
  have eq_x0 : (x0 == x0) = true := by simp
  have ne_x1 : (x1 != x1) = false := by simp
  have eq_x1 : (x1 == x1) = true := by simp
  have ne_tt : (tt != tt) = false := by cases tt <;> rfl
  obtain ⟨z0a, z0b, _, _, _⟩ := fb_cells (P1_26.out)
  obtain ⟨z1a, z1b, _, _, _⟩ := fb_cells (P2_26.out)
  obtain ⟨z2a, z2b, _, _, _⟩ := fb_cells (P3_26.out)
  obtain ⟨z3a, z3b, _, _, _⟩ := fb_cells (P4_26.out)
  go_wp2_with (fail)
  clear z0a z0b z1a z1b z2a z2b z3a z3b
  refine (f6frs a9 a10 c9 c10 tl _ HTN.out (R9x_26.out) (R10x_26.out)).mono ?_
  rintro e w17 ⟨rfl, b17⟩
  have HB_27 := hid (HB_26.out.trans (b17.mono HB_26.out.size))
  have BB_27 := hid (byi_below BB_26.out b17)
  have NB_27 := hid (fb_below NB_26.out b17)
  have P1_27 := hid (fb_below P1_26.out b17)
  have P2_27 := hid (fb_below P2_26.out b17)
  have P3_27 := hid (fb_below P3_26.out b17)
  have P4_27 := hid (fb_below P4_26.out b17)
  have NC_27 := hid (fb_below NC_26.out b17)
  have R9x_27 := hid (fback_below R9x_26.out b17)
  have R10x_27 := hid (fback_below R10x_26.out b17)
  have ND_27 := hid (fb_below ND_26.out b17)
  have P5_27 := hid (fb_below P5_26.out b17)
  have P6_27 := hid (fb_below P6_26.out b17)
  have NE_27 := hid (fb_below NE_26.out b17)
  have NF_27 := hid (fb_below NF_26.out b17)
  clear HB_26 BB_26 NB_26 P1_26 P2_26 P3_26 P4_26 NC_26 R9x_26 R10x_26 ND_26 P5_26 P6_26 NE_26 NF_26
  clear b17
  obtain ⟨z0a, z0b, _, _, _⟩ := fb_cells (P5_27.out)
  obtain ⟨z1a, z1b, _, _, _⟩ := fb_cells (P6_27.out)
  by_cases hs : s1 = 0
  case neg =>
    have hs2 : (s1 != 0) = true := by simpa using hs
    go_wp2_with (fail)
    go_ret
    exact ⟨rfl, HB_27.out⟩
  subst hs
  by_cases h3 : o ≤ 300
  case neg =>
    have h4 : (300 : Int) < o := by omega
    go_wp2_with (fail)
    go_ret
    exact ⟨rfl, HB_27.out⟩
  have h4 : ¬ (300 : Int) < o := by omega
  obtain ⟨⟨ok1, ok2, hgt, hbo⟩, ⟨ho1, ho2⟩, ⟨hn1, hn2⟩, hmin⟩ := HFN.out y0 y1 rfl
  obtain ⟨d1, d2, _, _⟩ := ok_bounds ok1
  obtain ⟨q1, q2, q3, q4⟩ := ok_bounds ok2
  have HM := hid hmin
  have HCM := hid (fun w1 => implCompare n d y0 y1 w1)
  have hcm : cmpT n d y0 y1 = (-1, 0) := by unfold cmpT; rw [ok1, ok2]; show (sgn (n * y1 - y0 * d), (0 : Int)) = _; unfold sgn; rw [if_pos hgt]
  rw [hcm] at HCM
  have hy0 : 0 ≤ y0 := by
    have : 0 ≤ n * y1 := Int.mul_nonneg hn1 (by omega)
    by_cases h5 : 0 ≤ y0
    · exact h5
    · have : y0 * d ≤ 0 := Int.mul_nonpos_of_nonpos_of_nonneg (by omega) (by omega)
      omega
  have HNN := hid (fun (k : Nat) (hk : (k : Int) + 1 ≤ 10000) => nx_nums (n := n) (d := d) (k := k) hn1 (Int.le_of_lt hn2) d1 d2 hk)
  clear HFN hmin ok1 ok2 hgt hcm
  go_wp2_with (fail)
  clear z0a z0b z1a z1b
  go_loop [34, 35] (fun i _ => ∃ k : Nat, i = .int .i64 (k + 1) ∧ (k : Int) ≤ o) (fun i _ => 302 - (RowKit.intOf i).toNat)
  case atStart => exact ⟨0, rfl, by omega⟩
  case round =>
    obtain ⟨k, rfl, hk⟩ := hrel
    have hk0 : (0 : Int) ≤ (k : Int) := by omega
    by_cases hlt : (k : Int) + 1 ≤ o
    case pos =>
      obtain ⟨m1, m2, m3, m4⟩ := HNN.out k (by omega)
      have hmk := HM.out (k + 1) (by omega) (by omega)
      rw [show ((k + 1 : Nat) : Int) = (k : Int) + 1 by omega] at hmk
      have g1 : 0 ≤ (n * ((k : Int) + 1) / d + 1) * y1 := Int.mul_nonneg (by omega) (by omega)
      have g2 : (n * ((k : Int) + 1) / d + 1) * y1 ≤ 10001 * 1000000000 := Int.mul_le_mul (by omega) q2 (by omega) (by omega)
      have g3 : 0 ≤ y0 * ((k : Int) + 1) := Int.mul_nonneg hy0 (by omega)
      have g4 : y0 * ((k : Int) + 1) ≤ 1000000000 * 300 := Int.mul_le_mul q4 (by omega) (by omega) (by omega)
      obtain ⟨z0a, z0b, _, _, _⟩ := fb_cells (NB_27.out)
      obtain ⟨z1a, z1b, _, _, _⟩ := fb_cells (P1_27.out)
      clear HM HNN
      go_wp2_with (fail)
      go_round
      case rel => exact ⟨k + 1, by go_num, by omega⟩
      case measure => simp [RowKit.intOf]; omega
    obtain ⟨z0a, z0b, _, _, _⟩ := fb_cells (NB_27.out)
    obtain ⟨z1a, z1b, _, _, _⟩ := fb_cells (P1_27.out)
    clear HM HNN
    go_wp2_with (fail)
    refine (HCM.out _).mono ?_
    rintro e w18 ⟨rfl, b18⟩
    have HB_28 := hid (HB_27.out.trans (b18.mono HB_27.out.size))
    have BB_28 := hid (byi_below BB_27.out b18)
    have NB_28 := hid (fb_below NB_27.out b18)
    have P1_28 := hid (fb_below P1_27.out b18)
    have P2_28 := hid (fb_below P2_27.out b18)
    have P3_28 := hid (fb_below P3_27.out b18)
    have P4_28 := hid (fb_below P4_27.out b18)
    have NC_28 := hid (fb_below NC_27.out b18)
    have R9x_28 := hid (fback_below R9x_27.out b18)
    have R10x_28 := hid (fback_below R10x_27.out b18)
    have ND_28 := hid (fb_below ND_27.out b18)
    have P5_28 := hid (fb_below P5_27.out b18)
    have P6_28 := hid (fb_below P6_27.out b18)
    have NE_28 := hid (fb_below NE_27.out b18)
    have NF_28 := hid (fb_below NF_27.out b18)
    clear HB_27 BB_27 NB_27 P1_27 P2_27 P3_27 P4_27 NC_27 R9x_27 R10x_27 ND_27 P5_27 P6_27 NE_27 NF_27
    clear b18
    dsimp only
    obtain ⟨z0a, z0b, _, _, _⟩ := fb_cells (P1_28.out)
    go_wp2_with (fail)
    go_ret
    exact ⟨rfl, HB_28.out⟩

end Go.Proofs.Ythfogmaefhfkoaa.pNextFarey
