/- The law on paths, parents and children in the tree, walked. -/
import Derived.Test.YtjijabfamjhdjaaD5t
import Derived.Test.YtjijabfamjhdjaaF6t
import Derived.Test.YtjijabfamjhdjaaTmx
import Derived.Test.YtjijabfamjhdjaaChp
import Derived.Test.YtjijabfamjhdjaaAtp
namespace Go.Proofs.Ytjijabfamjhdjaa.pTree
open Go.RowKit

theorem back_slice {B : Nat} {w : World} {v : Value} {xs : List Int} (h : Back B w v xs) : ∃ a c, v = .slice a xs.length c ∧ Arg w (.slice a xs.length c) xs := by
  rcases h with ⟨rfl, rfl⟩ | ⟨g, c, rfl, h⟩
  · exact ⟨none, 0, rfl, .inl ⟨_, _, rfl, rfl⟩⟩
  · exact ⟨_, c, rfl, own_arg h⟩
theorem back_sliceS {B : Nat} {w : World} {v : Value} {xs : List Int} {k : Int} (h : Back B w v xs) (hs : k = 0 → ∃ g c, v = .slice (some ⟨g, 0, none⟩) xs.length c ∧ xs.length ≤ c) : ∃ a c, v = .slice a xs.length c ∧ Arg w (.slice a xs.length c) xs ∧ (k = 0 → ∃ g, a = some ⟨g, 0, none⟩ ∧ xs.length ≤ c) := by
  obtain ⟨a, c, rfl, h2⟩ := back_slice h
  refine ⟨a, c, rfl, h2, fun hk => ?_⟩
  obtain ⟨g, c', e, hc⟩ := hs hk
  injection e with e1 _ e2
  exact ⟨g, e1, by omega⟩
theorem arg_ints0 {w : World} {g n c : Nat} {xs : List Int} (h : Arg w (.slice (some ⟨g, 0, none⟩) n c) xs) : Ints w g 0 xs := by
  rcases h with ⟨_, _, _, rfl⟩ | ⟨g', o, c', e, hi⟩
  · intro j x hj; simp at hj
  · injection e with e1 _ _
    injection e1 with e1
    injection e1 with e1 e2 _
    subst e1 e2
    exact hi
/-- PathTo's list is one where it answers without an error. -/
theorem implPathToS (n d : Int) (w : World) :
    Calls Try.prog 9 #[.agg #[.int .i64 n, .int .i64 d]] w fun e w' => (∃ v, e = .returned (.tuple #[v, .int .i64 (pthT n d).2]) ∧ Back w.heap.size w' v (pthT n d).1 ∧ ((pthT n d).2 = 0 → ∃ g c, v = .slice (some ⟨g, 0, none⟩) (pthT n d).1.length c ∧ (pthT n d).1.length ≤ c)) ∧ Below w.heap.size w w' := by
  by_cases hc : code1 n d = 0
  · have HC := hid (chkAt n d w)
    obtain ⟨ho, _⟩ := code1_zero hc
    rw [pthT_ok hc]
    rw [hc] at HC
    have HR := hid (fun w => implRunsTo n d w ho)
    clear hc ho
    go_enter Try.func9, Try.ntmps9
    go_wp2_with (fail)
    refine HC.out.mono ?_
    rintro e w1 ⟨rfl, ⟨m1, m2⟩, b1⟩
    have E1 := hid b1
    clear b1
    go_wp2_with (fail)
    refine (HR.out _).mono ?_
    rintro e w2 ⟨g, c, rfl, o, b2⟩
    have O := hid (own_mono o E1.out.size)
    have E2 := hid (E1.out.trans (b2.mono E1.out.size))
    clear o b2
    go_wp2_with (fail)
    go_ret2
    exact ⟨⟨_, rfl, .inr ⟨g, c, rfl, O.out⟩, fun _ => ⟨g, c, rfl, own_cap O.out⟩⟩, E2.out⟩
  · refine (implPathTo n d w).mono ?_
    rintro e w' ⟨⟨v, h1, h2⟩, h3⟩
    refine ⟨⟨v, h1, h2, fun h => ?_⟩, h3⟩
    rw [pthT_no hc] at h
    exact absurd h hc

set_option maxRecDepth 100000 in
set_option maxHeartbeats 25600000 in
theorem walk (ca : Option Addr) (len cap : Nat) (w : World) (hb : ByI w ca len) :
    Calls Try.prog 3 #[.slice ca len cap] w fun e w' => e = .returned (.bool true) ∧ Below w.heap.size w w' := by
  have HBG := hid (f6big ca len cap w)
  by_cases hx : 4096 < len
  case pos =>
    rw [decide_eq_true hx] at HBG
    clear hx hb
    go_enter Try.func3, Try.ntmps3
    go_wp2_with (fail)
    refine HBG.out.mono ?_
    rintro e u ⟨rfl, hu⟩
    rw [hu]
    clear hu
    go_wp2_with (fail)
    go_ret
    exact ⟨rfl, Below.refl _ _⟩
  rw [decide_eq_false hx] at HBG
  have hl5 : len ≤ 5000 := by omega
  have BY := hid hb
  clear hb hx
  go_enter Try.func3, Try.ntmps3
  go_wp2_with (fail)
  refine HBG.out.mono ?_
  rintro e u ⟨rfl, hu⟩
  rw [hu]
  clear hu HBG
  go_wp2_with (fail)
  refine (drawPt ca len cap _ BY.out hl5).mono ?_
  rintro e w1 ⟨n, d, rfl, b1⟩
  have HB_0 := hid (b1)
  have BB_0 := hid (byi_below BY.out b1)
  clear b1 BY
  have bA : Below (w1).heap.size (w1) ((w1).alloc (.cells #[.int .i64 n, .int .i64 d] 25)) := (Below.refl _ _).alloc (Nat.le_refl _) _
  have HB_1 := hid (HB_0.out.trans (bA.mono HB_0.out.size))
  have BB_1 := hid (byi_below BB_0.out bA)
  clear HB_0 BB_0
  clear bA
  have NB_0 := hid (fb_new (w1) n d)
  have C1 := hid (fun w1 => implPathToS n d w1)
  have C2 := hid (fun w1 => specPathTo n d w1)
  have HM1 := hid (fun xs (h : pthT n d = (xs, 0)) => at_pth h)
  have hl1 := pthT_len (n := n) (d := d)
  generalize pthT n d = t1 at *
  obtain ⟨xs, s1⟩ := t1
  dsimp only at hl1
  obtain ⟨z0a, z0b, _, _, _⟩ := fb_cells (NB_0.out)
  go_wp2_with (fail)
  clear z0a z0b
  refine (C1.out _).mono ?_
  rintro e w2 ⟨⟨v2, rfl, r2, rs2⟩, b2⟩
  have R2 := hid r2
  clear r2
  have HB_2 := hid (HB_1.out.trans (b2.mono HB_1.out.size))
  have BB_2 := hid (byi_below BB_1.out b2)
  have NB_2 := hid (fb_below NB_0.out b2)
  clear HB_1 BB_1 NB_0
  clear b2
  obtain ⟨a2, c2, rfl, q2, qs2⟩ := back_sliceS R2.out rs2
  have QS2 := hid qs2
  clear qs2 rs2
  have L2_0 := hid (q2)
  clear q2 R2
  dsimp only
  obtain ⟨z0a, z0b, _, _, _⟩ := fb_cells (NB_2.out)
  go_wp2_with (fail)
  clear z0a z0b
  refine (C2.out _).mono ?_
  rintro e w3 ⟨⟨v3, rfl, r3⟩, b3⟩
  have R3 := hid r3
  clear r3
  have HB_3 := hid (HB_2.out.trans (b3.mono HB_2.out.size))
  have BB_3 := hid (byi_below BB_2.out b3)
  have NB_3 := hid (fb_below NB_2.out b3)
  have L2_3 := hid (arg_below L2_0.out b3)
  clear HB_2 BB_2 NB_2 L2_0
  clear b3
  obtain ⟨a3, c3, rfl, q3⟩ := back_slice R3.out
  have L3_0 := hid (q3)
  clear q3 R3
  dsimp only
  clear C1 C2
  have C1 := hid (fun w1 => implLevel n d w1)
  have C2 := hid (fun w1 => specLevel n d w1)
  generalize lvlT n d = t2 at *
  obtain ⟨l0, s2⟩ := t2
  dsimp only at C1 C2
  obtain ⟨z0a, z0b, _, _, _⟩ := fb_cells (NB_3.out)
  go_wp2_with (fail)
  clear z0a z0b
  refine (C1.out _).mono ?_
  rintro e w4 ⟨rfl, b4⟩
  have HB_4 := hid (HB_3.out.trans (b4.mono HB_3.out.size))
  have BB_4 := hid (byi_below BB_3.out b4)
  have NB_4 := hid (fb_below NB_3.out b4)
  have L2_4 := hid (arg_below L2_3.out b4)
  have L3_4 := hid (arg_below L3_0.out b4)
  clear HB_3 BB_3 NB_3 L2_3 L3_0
  clear b4
  obtain ⟨z0a, z0b, _, _, _⟩ := fb_cells (NB_4.out)
  go_wp2_with (fail)
  clear z0a z0b
  refine (C2.out _).mono ?_
  rintro e w5 ⟨rfl, b5⟩
  have HB_5 := hid (HB_4.out.trans (b5.mono HB_4.out.size))
  have BB_5 := hid (byi_below BB_4.out b5)
  have NB_5 := hid (fb_below NB_4.out b5)
  have L2_5 := hid (arg_below L2_4.out b5)
  have L3_5 := hid (arg_below L3_4.out b5)
  clear HB_4 BB_4 NB_4 L2_4 L3_4
  clear b5
  clear C1 C2
  have C1 := hid (fun w1 => implChi n d w1)
  have C2 := hid (fun w1 => specChi n d w1)
  have HM3 := hid (fun a b x y h => chi_par (n := n) (d := d) (a := a) (b := b) (x := x) (y := y) h)
  generalize chiT n d = t3 at *
  obtain ⟨e0, e1, g0, g1, s3⟩ := t3
  dsimp only [vC] at C1 C2
  obtain ⟨z0a, z0b, _, _, _⟩ := fb_cells (NB_5.out)
  go_wp2_with (fail)
  clear z0a z0b
  refine (C1.out _).mono ?_
  rintro e w6 ⟨rfl, b6⟩
  have HB_6 := hid (HB_5.out.trans (b6.mono HB_5.out.size))
  have BB_6 := hid (byi_below BB_5.out b6)
  have NB_6 := hid (fb_below NB_5.out b6)
  have L2_6 := hid (arg_below L2_5.out b6)
  have L3_6 := hid (arg_below L3_5.out b6)
  clear HB_5 BB_5 NB_5 L2_5 L3_5
  clear b6
  have bA : Below (w6).heap.size (w6) ((w6).alloc (.cells #[.int .i64 e0, .int .i64 e1] 25)) := (Below.refl _ _).alloc (Nat.le_refl _) _
  have HB_7 := hid (HB_6.out.trans (bA.mono HB_6.out.size))
  have BB_7 := hid (byi_below BB_6.out bA)
  have NB_7 := hid (fb_below NB_6.out bA)
  have L2_7 := hid (arg_below L2_6.out bA)
  have L3_7 := hid (arg_below L3_6.out bA)
  clear HB_6 BB_6 NB_6 L2_6 L3_6
  clear bA
  have P1_0 := hid (fb_new (w6) e0 e1)
  have bA : Below (w6.alloc (.cells #[.int .i64 e0, .int .i64 e1] 25)).heap.size (w6.alloc (.cells #[.int .i64 e0, .int .i64 e1] 25)) ((w6.alloc (.cells #[.int .i64 e0, .int .i64 e1] 25)).alloc (.cells #[.int .i64 g0, .int .i64 g1] 25)) := (Below.refl _ _).alloc (Nat.le_refl _) _
  have HB_8 := hid (HB_7.out.trans (bA.mono HB_7.out.size))
  have BB_8 := hid (byi_below BB_7.out bA)
  have NB_8 := hid (fb_below NB_7.out bA)
  have L2_8 := hid (arg_below L2_7.out bA)
  have L3_8 := hid (arg_below L3_7.out bA)
  have P1_8 := hid (fb_below P1_0.out bA)
  clear HB_7 BB_7 NB_7 L2_7 L3_7 P1_0
  clear bA
  have P2_0 := hid (show FB _ (w6.heap.size + 1) g0 g1 by have h := fb_new (w6.alloc (.cells #[.int .i64 e0, .int .i64 e1] 25)) g0 g1; rwa [World.size_alloc] at h)
  obtain ⟨z0a, z0b, _, _, _⟩ := fb_cells (NB_8.out)
  go_wp2_with (fail)
  clear z0a z0b
  refine (C2.out _).mono ?_
  rintro e w7 ⟨rfl, b7⟩
  have HB_9 := hid (HB_8.out.trans (b7.mono HB_8.out.size))
  have BB_9 := hid (byi_below BB_8.out b7)
  have NB_9 := hid (fb_below NB_8.out b7)
  have L2_9 := hid (arg_below L2_8.out b7)
  have L3_9 := hid (arg_below L3_8.out b7)
  have P1_9 := hid (fb_below P1_8.out b7)
  have P2_9 := hid (fb_below P2_0.out b7)
  clear HB_8 BB_8 NB_8 L2_8 L3_8 P1_8 P2_0
  clear b7
  have bA : Below (w7).heap.size (w7) ((w7).alloc (.cells #[.int .i64 e0, .int .i64 e1] 25)) := (Below.refl _ _).alloc (Nat.le_refl _) _
  have HB_10 := hid (HB_9.out.trans (bA.mono HB_9.out.size))
  have BB_10 := hid (byi_below BB_9.out bA)
  have NB_10 := hid (fb_below NB_9.out bA)
  have L2_10 := hid (arg_below L2_9.out bA)
  have L3_10 := hid (arg_below L3_9.out bA)
  have P1_10 := hid (fb_below P1_9.out bA)
  have P2_10 := hid (fb_below P2_9.out bA)
  clear HB_9 BB_9 NB_9 L2_9 L3_9 P1_9 P2_9
  clear bA
  have P3_0 := hid (fb_new (w7) e0 e1)
  have bA : Below (w7.alloc (.cells #[.int .i64 e0, .int .i64 e1] 25)).heap.size (w7.alloc (.cells #[.int .i64 e0, .int .i64 e1] 25)) ((w7.alloc (.cells #[.int .i64 e0, .int .i64 e1] 25)).alloc (.cells #[.int .i64 g0, .int .i64 g1] 25)) := (Below.refl _ _).alloc (Nat.le_refl _) _
  have HB_11 := hid (HB_10.out.trans (bA.mono HB_10.out.size))
  have BB_11 := hid (byi_below BB_10.out bA)
  have NB_11 := hid (fb_below NB_10.out bA)
  have L2_11 := hid (arg_below L2_10.out bA)
  have L3_11 := hid (arg_below L3_10.out bA)
  have P1_11 := hid (fb_below P1_10.out bA)
  have P2_11 := hid (fb_below P2_10.out bA)
  have P3_11 := hid (fb_below P3_0.out bA)
  clear HB_10 BB_10 NB_10 L2_10 L3_10 P1_10 P2_10 P3_0
  clear bA
  have P4_0 := hid (show FB _ (w7.heap.size + 1) g0 g1 by have h := fb_new (w7.alloc (.cells #[.int .i64 e0, .int .i64 e1] 25)) g0 g1; rwa [World.size_alloc] at h)
  clear C1 C2
  go_wp2_with (fail)
  refine (drawPa ca len cap _ (BB_11.out) hl5).mono ?_
  rintro e w8 ⟨n2, d2, rfl, b8⟩
  have HB_12 := hid (HB_11.out.trans (b8.mono HB_11.out.size))
  have BB_12 := hid (byi_below BB_11.out b8)
  have NB_12 := hid (fb_below NB_11.out b8)
  have L2_12 := hid (arg_below L2_11.out b8)
  have L3_12 := hid (arg_below L3_11.out b8)
  have P1_12 := hid (fb_below P1_11.out b8)
  have P2_12 := hid (fb_below P2_11.out b8)
  have P3_12 := hid (fb_below P3_11.out b8)
  have P4_12 := hid (fb_below P4_0.out b8)
  clear HB_11 BB_11 NB_11 L2_11 L3_11 P1_11 P2_11 P3_11 P4_0
  clear b8
  have bA : Below (w8).heap.size (w8) ((w8).alloc (.cells #[.int .i64 n2, .int .i64 d2] 25)) := (Below.refl _ _).alloc (Nat.le_refl _) _
  have HB_13 := hid (HB_12.out.trans (bA.mono HB_12.out.size))
  have BB_13 := hid (byi_below BB_12.out bA)
  have NB_13 := hid (fb_below NB_12.out bA)
  have L2_13 := hid (arg_below L2_12.out bA)
  have L3_13 := hid (arg_below L3_12.out bA)
  have P1_13 := hid (fb_below P1_12.out bA)
  have P2_13 := hid (fb_below P2_12.out bA)
  have P3_13 := hid (fb_below P3_12.out bA)
  have P4_13 := hid (fb_below P4_12.out bA)
  clear HB_12 BB_12 NB_12 L2_12 L3_12 P1_12 P2_12 P3_12 P4_12
  clear bA
  have NC_0 := hid (fb_new (w8) n2 d2)
  have C1 := hid (fun w1 => implPar n2 d2 w1)
  have C2 := hid (fun w1 => specPar n2 d2 w1)
  have HM4 := hid (fun x y h => par_lvl (n := n2) (d := d2) (x := x) (y := y) h)
  generalize parT n2 d2 = t4 at *
  obtain ⟨u0, u1, s4⟩ := t4
  dsimp only [tv] at C1 C2
  obtain ⟨z0a, z0b, _, _, _⟩ := fb_cells (NC_0.out)
  go_wp2_with (fail)
  clear z0a z0b
  refine (C1.out _).mono ?_
  rintro e w9 ⟨rfl, b9⟩
  have HB_14 := hid (HB_13.out.trans (b9.mono HB_13.out.size))
  have BB_14 := hid (byi_below BB_13.out b9)
  have NB_14 := hid (fb_below NB_13.out b9)
  have L2_14 := hid (arg_below L2_13.out b9)
  have L3_14 := hid (arg_below L3_13.out b9)
  have P1_14 := hid (fb_below P1_13.out b9)
  have P2_14 := hid (fb_below P2_13.out b9)
  have P3_14 := hid (fb_below P3_13.out b9)
  have P4_14 := hid (fb_below P4_13.out b9)
  have NC_14 := hid (fb_below NC_0.out b9)
  clear HB_13 BB_13 NB_13 L2_13 L3_13 P1_13 P2_13 P3_13 P4_13 NC_0
  clear b9
  have bA : Below (w9).heap.size (w9) ((w9).alloc (.cells #[.int .i64 u0, .int .i64 u1] 25)) := (Below.refl _ _).alloc (Nat.le_refl _) _
  have HB_15 := hid (HB_14.out.trans (bA.mono HB_14.out.size))
  have BB_15 := hid (byi_below BB_14.out bA)
  have NB_15 := hid (fb_below NB_14.out bA)
  have L2_15 := hid (arg_below L2_14.out bA)
  have L3_15 := hid (arg_below L3_14.out bA)
  have P1_15 := hid (fb_below P1_14.out bA)
  have P2_15 := hid (fb_below P2_14.out bA)
  have P3_15 := hid (fb_below P3_14.out bA)
  have P4_15 := hid (fb_below P4_14.out bA)
  have NC_15 := hid (fb_below NC_14.out bA)
  clear HB_14 BB_14 NB_14 L2_14 L3_14 P1_14 P2_14 P3_14 P4_14 NC_14
  clear bA
  have P5_0 := hid (fb_new (w9) u0 u1)
  obtain ⟨z0a, z0b, _, _, _⟩ := fb_cells (NC_15.out)
  go_wp2_with (fail)
  clear z0a z0b
  refine (C2.out _).mono ?_
  rintro e w10 ⟨rfl, b10⟩
  have HB_16 := hid (HB_15.out.trans (b10.mono HB_15.out.size))
  have BB_16 := hid (byi_below BB_15.out b10)
  have NB_16 := hid (fb_below NB_15.out b10)
  have L2_16 := hid (arg_below L2_15.out b10)
  have L3_16 := hid (arg_below L3_15.out b10)
  have P1_16 := hid (fb_below P1_15.out b10)
  have P2_16 := hid (fb_below P2_15.out b10)
  have P3_16 := hid (fb_below P3_15.out b10)
  have P4_16 := hid (fb_below P4_15.out b10)
  have NC_16 := hid (fb_below NC_15.out b10)
  have P5_16 := hid (fb_below P5_0.out b10)
  clear HB_15 BB_15 NB_15 L2_15 L3_15 P1_15 P2_15 P3_15 P4_15 NC_15 P5_0
  clear b10
  have bA : Below (w10).heap.size (w10) ((w10).alloc (.cells #[.int .i64 u0, .int .i64 u1] 25)) := (Below.refl _ _).alloc (Nat.le_refl _) _
  have HB_17 := hid (HB_16.out.trans (bA.mono HB_16.out.size))
  have BB_17 := hid (byi_below BB_16.out bA)
  have NB_17 := hid (fb_below NB_16.out bA)
  have L2_17 := hid (arg_below L2_16.out bA)
  have L3_17 := hid (arg_below L3_16.out bA)
  have P1_17 := hid (fb_below P1_16.out bA)
  have P2_17 := hid (fb_below P2_16.out bA)
  have P3_17 := hid (fb_below P3_16.out bA)
  have P4_17 := hid (fb_below P4_16.out bA)
  have NC_17 := hid (fb_below NC_16.out bA)
  have P5_17 := hid (fb_below P5_16.out bA)
  clear HB_16 BB_16 NB_16 L2_16 L3_16 P1_16 P2_16 P3_16 P4_16 NC_16 P5_16
  clear bA
  have P6_0 := hid (fb_new (w10) u0 u1)
  clear C1 C2
  go_wp2_with (fail)
  refine (drawFp ca len cap _ (BB_17.out) hl5).mono ?_
  rintro e w11 ⟨g5, c5, ps, rfl, o5, hps, b11⟩
  have HB_18 := hid (HB_17.out.trans (b11.mono HB_17.out.size))
  have BB_18 := hid (byi_below BB_17.out b11)
  have NB_18 := hid (fb_below NB_17.out b11)
  have L2_18 := hid (arg_below L2_17.out b11)
  have L3_18 := hid (arg_below L3_17.out b11)
  have P1_18 := hid (fb_below P1_17.out b11)
  have P2_18 := hid (fb_below P2_17.out b11)
  have P3_18 := hid (fb_below P3_17.out b11)
  have P4_18 := hid (fb_below P4_17.out b11)
  have NC_18 := hid (fb_below NC_17.out b11)
  have P5_18 := hid (fb_below P5_17.out b11)
  have P6_18 := hid (fb_below P6_0.out b11)
  clear HB_17 BB_17 NB_17 L2_17 L3_17 P1_17 P2_17 P3_17 P4_17 NC_17 P5_17 P6_0
  clear b11
  have PI_0 := hid (own_ints o5)
  have hcp := own_cap o5
  clear o5
  have PA_0 := hid (show Arg _ (.slice (some ⟨g5, 0, none⟩) ps.length c5) ps from .inr ⟨g5, 0, c5, rfl, PI_0.out⟩)
  have C1 := hid (fun w1 (h : Ints w1 g5 0 ps) => implAt g5 c5 ps w1 (by omega) hcp h)
  have C2 := hid (fun w1 (h : Ints w1 g5 0 ps) => specFractionAt g5 c5 ps w1 (by omega) h)
  have HM5 := hid (fun x y h => pth_at (p := ps) (x := x) (y := y) h)
  have C3 := hid (fun w1 (h : Ints w1 g5 0 ps) => implValidPath g5 c5 ps w1 (by omega) hcp h)
  have C4 := hid (fun w1 (h : Ints w1 g5 0 ps) => specValidPath g5 c5 ps w1 (by omega) h)
  generalize atP ps = t5 at *
  obtain ⟨y0, y1, s5⟩ := t5
  dsimp only [tv] at C1 C2
  generalize okP ps = okb at *
  go_wp2_with (fail)
  refine (C1.out _ (PI_0.out)).mono ?_
  rintro e w12 ⟨rfl, b12⟩
  have HB_19 := hid (HB_18.out.trans (b12.mono HB_18.out.size))
  have BB_19 := hid (byi_below BB_18.out b12)
  have NB_19 := hid (fb_below NB_18.out b12)
  have L2_19 := hid (arg_below L2_18.out b12)
  have L3_19 := hid (arg_below L3_18.out b12)
  have P1_19 := hid (fb_below P1_18.out b12)
  have P2_19 := hid (fb_below P2_18.out b12)
  have P3_19 := hid (fb_below P3_18.out b12)
  have P4_19 := hid (fb_below P4_18.out b12)
  have NC_19 := hid (fb_below NC_18.out b12)
  have P5_19 := hid (fb_below P5_18.out b12)
  have P6_19 := hid (fb_below P6_18.out b12)
  have PI_19 := hid (ints_below PI_0.out b12)
  have PA_19 := hid (arg_below PA_0.out b12)
  clear HB_18 BB_18 NB_18 L2_18 L3_18 P1_18 P2_18 P3_18 P4_18 NC_18 P5_18 P6_18 PI_0 PA_0
  clear b12
  have bA : Below (w12).heap.size (w12) ((w12).alloc (.cells #[.int .i64 y0, .int .i64 y1] 25)) := (Below.refl _ _).alloc (Nat.le_refl _) _
  have HB_20 := hid (HB_19.out.trans (bA.mono HB_19.out.size))
  have BB_20 := hid (byi_below BB_19.out bA)
  have NB_20 := hid (fb_below NB_19.out bA)
  have L2_20 := hid (arg_below L2_19.out bA)
  have L3_20 := hid (arg_below L3_19.out bA)
  have P1_20 := hid (fb_below P1_19.out bA)
  have P2_20 := hid (fb_below P2_19.out bA)
  have P3_20 := hid (fb_below P3_19.out bA)
  have P4_20 := hid (fb_below P4_19.out bA)
  have NC_20 := hid (fb_below NC_19.out bA)
  have P5_20 := hid (fb_below P5_19.out bA)
  have P6_20 := hid (fb_below P6_19.out bA)
  have PI_20 := hid (ints_below PI_19.out bA)
  have PA_20 := hid (arg_below PA_19.out bA)
  clear HB_19 BB_19 NB_19 L2_19 L3_19 P1_19 P2_19 P3_19 P4_19 NC_19 P5_19 P6_19 PI_19 PA_19
  clear bA
  have P7_0 := hid (fb_new (w12) y0 y1)
  go_wp2_with (fail)
  refine (C2.out _ (PI_20.out)).mono ?_
  rintro e w13 ⟨rfl, b13⟩
  have HB_21 := hid (HB_20.out.trans (b13.mono HB_20.out.size))
  have BB_21 := hid (byi_below BB_20.out b13)
  have NB_21 := hid (fb_below NB_20.out b13)
  have L2_21 := hid (arg_below L2_20.out b13)
  have L3_21 := hid (arg_below L3_20.out b13)
  have P1_21 := hid (fb_below P1_20.out b13)
  have P2_21 := hid (fb_below P2_20.out b13)
  have P3_21 := hid (fb_below P3_20.out b13)
  have P4_21 := hid (fb_below P4_20.out b13)
  have NC_21 := hid (fb_below NC_20.out b13)
  have P5_21 := hid (fb_below P5_20.out b13)
  have P6_21 := hid (fb_below P6_20.out b13)
  have PI_21 := hid (ints_below PI_20.out b13)
  have PA_21 := hid (arg_below PA_20.out b13)
  have P7_21 := hid (fb_below P7_0.out b13)
  clear HB_20 BB_20 NB_20 L2_20 L3_20 P1_20 P2_20 P3_20 P4_20 NC_20 P5_20 P6_20 PI_20 PA_20 P7_0
  clear b13
  have bA : Below (w13).heap.size (w13) ((w13).alloc (.cells #[.int .i64 y0, .int .i64 y1] 25)) := (Below.refl _ _).alloc (Nat.le_refl _) _
  have HB_22 := hid (HB_21.out.trans (bA.mono HB_21.out.size))
  have BB_22 := hid (byi_below BB_21.out bA)
  have NB_22 := hid (fb_below NB_21.out bA)
  have L2_22 := hid (arg_below L2_21.out bA)
  have L3_22 := hid (arg_below L3_21.out bA)
  have P1_22 := hid (fb_below P1_21.out bA)
  have P2_22 := hid (fb_below P2_21.out bA)
  have P3_22 := hid (fb_below P3_21.out bA)
  have P4_22 := hid (fb_below P4_21.out bA)
  have NC_22 := hid (fb_below NC_21.out bA)
  have P5_22 := hid (fb_below P5_21.out bA)
  have P6_22 := hid (fb_below P6_21.out bA)
  have PI_22 := hid (ints_below PI_21.out bA)
  have PA_22 := hid (arg_below PA_21.out bA)
  have P7_22 := hid (fb_below P7_21.out bA)
  clear HB_21 BB_21 NB_21 L2_21 L3_21 P1_21 P2_21 P3_21 P4_21 NC_21 P5_21 P6_21 PI_21 PA_21 P7_21
  clear bA
  have P8_0 := hid (fb_new (w13) y0 y1)
  clear C1 C2
  have ne_s1 : (s1 != s1) = false := by simp
  have eq_s1 : (s1 == s1) = true := by simp
  have ne_s2 : (s2 != s2) = false := by simp
  have eq_s2 : (s2 == s2) = true := by simp
  have ne_s3 : (s3 != s3) = false := by simp
  have eq_s3 : (s3 == s3) = true := by simp
  have ne_s4 : (s4 != s4) = false := by simp
  have eq_s4 : (s4 == s4) = true := by simp
  have ne_s5 : (s5 != s5) = false := by simp
  have eq_s5 : (s5 == s5) = true := by simp
  have ne_l0 : (l0 != l0) = false := by simp
  have eq_l0 : (l0 == l0) = true := by simp
  have ne_e0 : (e0 != e0) = false := by simp
  have eq_e0 : (e0 == e0) = true := by simp
  have ne_e1 : (e1 != e1) = false := by simp
  have eq_e1 : (e1 == e1) = true := by simp
  have ne_g0 : (g0 != g0) = false := by simp
  have eq_g0 : (g0 == g0) = true := by simp
  have ne_g1 : (g1 != g1) = false := by simp
  have eq_g1 : (g1 == g1) = true := by simp
  have ne_u0 : (u0 != u0) = false := by simp
  have eq_u0 : (u0 == u0) = true := by simp
  have ne_u1 : (u1 != u1) = false := by simp
  have eq_u1 : (u1 == u1) = true := by simp
  have ne_y0 : (y0 != y0) = false := by simp
  have eq_y0 : (y0 == y0) = true := by simp
  have ne_y1 : (y1 != y1) = false := by simp
  have eq_y1 : (y1 == y1) = true := by simp
  have ne_ok : (okb != okb) = false := by cases okb <;> rfl
  go_wp2_with (fail)
  refine (f6ints a2 a3 c2 c3 xs _ (by omega) (L2_22.out) (L3_22.out)).mono ?_
  rintro e w14 ⟨rfl, b14⟩
  have HB_23 := hid (HB_22.out.trans (b14.mono HB_22.out.size))
  have BB_23 := hid (byi_below BB_22.out b14)
  have NB_23 := hid (fb_below NB_22.out b14)
  have L2_23 := hid (arg_below L2_22.out b14)
  have L3_23 := hid (arg_below L3_22.out b14)
  have P1_23 := hid (fb_below P1_22.out b14)
  have P2_23 := hid (fb_below P2_22.out b14)
  have P3_23 := hid (fb_below P3_22.out b14)
  have P4_23 := hid (fb_below P4_22.out b14)
  have NC_23 := hid (fb_below NC_22.out b14)
  have P5_23 := hid (fb_below P5_22.out b14)
  have P6_23 := hid (fb_below P6_22.out b14)
  have PI_23 := hid (ints_below PI_22.out b14)
  have PA_23 := hid (arg_below PA_22.out b14)
  have P7_23 := hid (fb_below P7_22.out b14)
  have P8_23 := hid (fb_below P8_0.out b14)
  clear HB_22 BB_22 NB_22 L2_22 L3_22 P1_22 P2_22 P3_22 P4_22 NC_22 P5_22 P6_22 PI_22 PA_22 P7_22 P8_0
  clear b14
  obtain ⟨z0a, z0b, _, _, _⟩ := fb_cells (P1_23.out)
  obtain ⟨z1a, z1b, _, _, _⟩ := fb_cells (P2_23.out)
  obtain ⟨z2a, z2b, _, _, _⟩ := fb_cells (P3_23.out)
  obtain ⟨z3a, z3b, _, _, _⟩ := fb_cells (P4_23.out)
  obtain ⟨z4a, z4b, _, _, _⟩ := fb_cells (P5_23.out)
  obtain ⟨z5a, z5b, _, _, _⟩ := fb_cells (P6_23.out)
  obtain ⟨z6a, z6b, _, _, _⟩ := fb_cells (P7_23.out)
  obtain ⟨z7a, z7b, _, _, _⟩ := fb_cells (P8_23.out)
  go_wp2_with (fail)
  clear z0a z0b z1a z1b z2a z2b z3a z3b z4a z4b z5a z5b z6a z6b z7a z7b
  refine (C3.out _ (PI_23.out)).mono ?_
  rintro e w15 ⟨rfl, b15⟩
  have HB_24 := hid (HB_23.out.trans (b15.mono HB_23.out.size))
  have BB_24 := hid (byi_below BB_23.out b15)
  have NB_24 := hid (fb_below NB_23.out b15)
  have L2_24 := hid (arg_below L2_23.out b15)
  have L3_24 := hid (arg_below L3_23.out b15)
  have P1_24 := hid (fb_below P1_23.out b15)
  have P2_24 := hid (fb_below P2_23.out b15)
  have P3_24 := hid (fb_below P3_23.out b15)
  have P4_24 := hid (fb_below P4_23.out b15)
  have NC_24 := hid (fb_below NC_23.out b15)
  have P5_24 := hid (fb_below P5_23.out b15)
  have P6_24 := hid (fb_below P6_23.out b15)
  have PI_24 := hid (ints_below PI_23.out b15)
  have PA_24 := hid (arg_below PA_23.out b15)
  have P7_24 := hid (fb_below P7_23.out b15)
  have P8_24 := hid (fb_below P8_23.out b15)
  clear HB_23 BB_23 NB_23 L2_23 L3_23 P1_23 P2_23 P3_23 P4_23 NC_23 P5_23 P6_23 PI_23 PA_23 P7_23 P8_23
  clear b15
  go_wp2_with (fail)
  refine (C4.out _ (PI_24.out)).mono ?_
  rintro e w16 ⟨rfl, b16⟩
  have HB_25 := hid (HB_24.out.trans (b16.mono HB_24.out.size))
  have BB_25 := hid (byi_below BB_24.out b16)
  have NB_25 := hid (fb_below NB_24.out b16)
  have L2_25 := hid (arg_below L2_24.out b16)
  have L3_25 := hid (arg_below L3_24.out b16)
  have P1_25 := hid (fb_below P1_24.out b16)
  have P2_25 := hid (fb_below P2_24.out b16)
  have P3_25 := hid (fb_below P3_24.out b16)
  have P4_25 := hid (fb_below P4_24.out b16)
  have NC_25 := hid (fb_below NC_24.out b16)
  have P5_25 := hid (fb_below P5_24.out b16)
  have P6_25 := hid (fb_below P6_24.out b16)
  have PI_25 := hid (ints_below PI_24.out b16)
  have PA_25 := hid (arg_below PA_24.out b16)
  have P7_25 := hid (fb_below P7_24.out b16)
  have P8_25 := hid (fb_below P8_24.out b16)
  clear HB_24 BB_24 NB_24 L2_24 L3_24 P1_24 P2_24 P3_24 P4_24 NC_24 P5_24 P6_24 PI_24 PA_24 P7_24 P8_24
  clear b16
  clear C3 C4
  clear ne_s1 eq_s1
  clear ne_s2 eq_s2
  clear ne_s3 eq_s3
  clear ne_s4 eq_s4
  clear ne_s5 eq_s5
  clear ne_l0 eq_l0
  clear ne_e0 eq_e0
  clear ne_e1 eq_e1
  clear ne_g0 eq_g0
  clear ne_g1 eq_g1
  clear ne_u0 eq_u0
  clear ne_u1 eq_u1
  clear ne_y0 eq_y0
  clear ne_y1 eq_y1
  by_cases h_s5 : s5 = 0
  case pos =>
    subst h_s5
    have hp5 := HM5.out y0 y1 rfl
    have C1 := hid (fun w1 => implPathTo y0 y1 w1)
    rw [hp5] at C1
    clear hp5
    obtain ⟨z0a, z0b, _, _, _⟩ := fb_cells (P7_25.out)
    go_wp2_with (fail)
    clear z0a z0b
    refine (C1.out _).mono ?_
    rintro e w21 ⟨⟨v21, rfl, r21⟩, b21⟩
    have R21 := hid r21
    clear r21 C1
    have HB_26 := hid (HB_25.out.trans (b21.mono HB_25.out.size))
    have BB_26 := hid (byi_below BB_25.out b21)
    have NB_26 := hid (fb_below NB_25.out b21)
    have L2_26 := hid (arg_below L2_25.out b21)
    have L3_26 := hid (arg_below L3_25.out b21)
    have P1_26 := hid (fb_below P1_25.out b21)
    have P2_26 := hid (fb_below P2_25.out b21)
    have P3_26 := hid (fb_below P3_25.out b21)
    have P4_26 := hid (fb_below P4_25.out b21)
    have NC_26 := hid (fb_below NC_25.out b21)
    have P5_26 := hid (fb_below P5_25.out b21)
    have P6_26 := hid (fb_below P6_25.out b21)
    have PI_26 := hid (ints_below PI_25.out b21)
    have PA_26 := hid (arg_below PA_25.out b21)
    have P7_26 := hid (fb_below P7_25.out b21)
    have P8_26 := hid (fb_below P8_25.out b21)
    clear HB_25 BB_25 NB_25 L2_25 L3_25 P1_25 P2_25 P3_25 P4_25 NC_25 P5_25 P6_25 PI_25 PA_25 P7_25 P8_25
    clear b21
    obtain ⟨a21, c21, rfl, q21⟩ := back_slice R21.out
    have LX_0 := hid (q21)
    clear q21 R21
    dsimp only
    go_wp2_with (fail)
    refine (f6ints a21 (some ⟨g5, 0, none⟩) c21 c5 ps _ (by omega) (LX_0.out) (PA_26.out)).mono ?_
    rintro e w22 ⟨rfl, b22⟩
    have HB_27 := hid (HB_26.out.trans (b22.mono HB_26.out.size))
    have BB_27 := hid (byi_below BB_26.out b22)
    have NB_27 := hid (fb_below NB_26.out b22)
    have L2_27 := hid (arg_below L2_26.out b22)
    have L3_27 := hid (arg_below L3_26.out b22)
    have P1_27 := hid (fb_below P1_26.out b22)
    have P2_27 := hid (fb_below P2_26.out b22)
    have P3_27 := hid (fb_below P3_26.out b22)
    have P4_27 := hid (fb_below P4_26.out b22)
    have NC_27 := hid (fb_below NC_26.out b22)
    have P5_27 := hid (fb_below P5_26.out b22)
    have P6_27 := hid (fb_below P6_26.out b22)
    have PI_27 := hid (ints_below PI_26.out b22)
    have PA_27 := hid (arg_below PA_26.out b22)
    have P7_27 := hid (fb_below P7_26.out b22)
    have P8_27 := hid (fb_below P8_26.out b22)
    have LX_27 := hid (arg_below LX_0.out b22)
    clear HB_26 BB_26 NB_26 L2_26 L3_26 P1_26 P2_26 P3_26 P4_26 NC_26 P5_26 P6_26 PI_26 PA_26 P7_26 P8_26 LX_0
    clear b22
    clear LX_27
    by_cases h_s3 : s3 = 0
    case pos =>
      subst h_s3
      obtain ⟨hp6, hp7⟩ := HM3.out e0 e1 g0 g1 rfl
      have C1 := hid (fun w1 => implPar e0 e1 w1)
      have C2 := hid (fun w1 => implPar g0 g1 w1)
      rw [hp6] at C1
      rw [hp7] at C2
      clear hp6 hp7
      dsimp only [tv] at C1 C2
      obtain ⟨z0a, z0b, _, _, _⟩ := fb_cells (P1_27.out)
      go_wp2_with (fail)
      clear z0a z0b
      refine (C1.out _).mono ?_
      rintro e w23 ⟨rfl, b23⟩
      have HB_28 := hid (HB_27.out.trans (b23.mono HB_27.out.size))
      have BB_28 := hid (byi_below BB_27.out b23)
      have NB_28 := hid (fb_below NB_27.out b23)
      have L2_28 := hid (arg_below L2_27.out b23)
      have L3_28 := hid (arg_below L3_27.out b23)
      have P1_28 := hid (fb_below P1_27.out b23)
      have P2_28 := hid (fb_below P2_27.out b23)
      have P3_28 := hid (fb_below P3_27.out b23)
      have P4_28 := hid (fb_below P4_27.out b23)
      have NC_28 := hid (fb_below NC_27.out b23)
      have P5_28 := hid (fb_below P5_27.out b23)
      have P6_28 := hid (fb_below P6_27.out b23)
      have PI_28 := hid (ints_below PI_27.out b23)
      have PA_28 := hid (arg_below PA_27.out b23)
      have P7_28 := hid (fb_below P7_27.out b23)
      have P8_28 := hid (fb_below P8_27.out b23)
      clear HB_27 BB_27 NB_27 L2_27 L3_27 P1_27 P2_27 P3_27 P4_27 NC_27 P5_27 P6_27 PI_27 PA_27 P7_27 P8_27
      clear b23
      have bA : Below (w23).heap.size (w23) ((w23).alloc (.cells #[.int .i64 n, .int .i64 d] 25)) := (Below.refl _ _).alloc (Nat.le_refl _) _
      have HB_29 := hid (HB_28.out.trans (bA.mono HB_28.out.size))
      have BB_29 := hid (byi_below BB_28.out bA)
      have NB_29 := hid (fb_below NB_28.out bA)
      have L2_29 := hid (arg_below L2_28.out bA)
      have L3_29 := hid (arg_below L3_28.out bA)
      have P1_29 := hid (fb_below P1_28.out bA)
      have P2_29 := hid (fb_below P2_28.out bA)
      have P3_29 := hid (fb_below P3_28.out bA)
      have P4_29 := hid (fb_below P4_28.out bA)
      have NC_29 := hid (fb_below NC_28.out bA)
      have P5_29 := hid (fb_below P5_28.out bA)
      have P6_29 := hid (fb_below P6_28.out bA)
      have PI_29 := hid (ints_below PI_28.out bA)
      have PA_29 := hid (arg_below PA_28.out bA)
      have P7_29 := hid (fb_below P7_28.out bA)
      have P8_29 := hid (fb_below P8_28.out bA)
      clear HB_28 BB_28 NB_28 L2_28 L3_28 P1_28 P2_28 P3_28 P4_28 NC_28 P5_28 P6_28 PI_28 PA_28 P7_28 P8_28
      clear bA
      have Q1_0 := hid (fb_new (w23) n d)
      obtain ⟨z0a, z0b, _, _, _⟩ := fb_cells (P2_29.out)
      go_wp2_with (fail)
      clear z0a z0b
      refine (C2.out _).mono ?_
      rintro e w24 ⟨rfl, b24⟩
      have HB_30 := hid (HB_29.out.trans (b24.mono HB_29.out.size))
      have BB_30 := hid (byi_below BB_29.out b24)
      have NB_30 := hid (fb_below NB_29.out b24)
      have L2_30 := hid (arg_below L2_29.out b24)
      have L3_30 := hid (arg_below L3_29.out b24)
      have P1_30 := hid (fb_below P1_29.out b24)
      have P2_30 := hid (fb_below P2_29.out b24)
      have P3_30 := hid (fb_below P3_29.out b24)
      have P4_30 := hid (fb_below P4_29.out b24)
      have NC_30 := hid (fb_below NC_29.out b24)
      have P5_30 := hid (fb_below P5_29.out b24)
      have P6_30 := hid (fb_below P6_29.out b24)
      have PI_30 := hid (ints_below PI_29.out b24)
      have PA_30 := hid (arg_below PA_29.out b24)
      have P7_30 := hid (fb_below P7_29.out b24)
      have P8_30 := hid (fb_below P8_29.out b24)
      have Q1_30 := hid (fb_below Q1_0.out b24)
      clear HB_29 BB_29 NB_29 L2_29 L3_29 P1_29 P2_29 P3_29 P4_29 NC_29 P5_29 P6_29 PI_29 PA_29 P7_29 P8_29 Q1_0
      clear b24
      have bA : Below (w24).heap.size (w24) ((w24).alloc (.cells #[.int .i64 n, .int .i64 d] 25)) := (Below.refl _ _).alloc (Nat.le_refl _) _
      have HB_31 := hid (HB_30.out.trans (bA.mono HB_30.out.size))
      have BB_31 := hid (byi_below BB_30.out bA)
      have NB_31 := hid (fb_below NB_30.out bA)
      have L2_31 := hid (arg_below L2_30.out bA)
      have L3_31 := hid (arg_below L3_30.out bA)
      have P1_31 := hid (fb_below P1_30.out bA)
      have P2_31 := hid (fb_below P2_30.out bA)
      have P3_31 := hid (fb_below P3_30.out bA)
      have P4_31 := hid (fb_below P4_30.out bA)
      have NC_31 := hid (fb_below NC_30.out bA)
      have P5_31 := hid (fb_below P5_30.out bA)
      have P6_31 := hid (fb_below P6_30.out bA)
      have PI_31 := hid (ints_below PI_30.out bA)
      have PA_31 := hid (arg_below PA_30.out bA)
      have P7_31 := hid (fb_below P7_30.out bA)
      have P8_31 := hid (fb_below P8_30.out bA)
      have Q1_31 := hid (fb_below Q1_30.out bA)
      clear HB_30 BB_30 NB_30 L2_30 L3_30 P1_30 P2_30 P3_30 P4_30 NC_30 P5_30 P6_30 PI_30 PA_30 P7_30 P8_30 Q1_30
      clear bA
      have Q2_0 := hid (fb_new (w24) n d)
      have ne_n : (n != n) = false := by simp
      have eq_n : (n == n) = true := by simp
      have ne_d : (d != d) = false := by simp
      have eq_d : (d == d) = true := by simp
      obtain ⟨y0a, y0b, _, _, _⟩ := fb_cells (Q1_31.out)
      obtain ⟨y1a, y1b, _, _, _⟩ := fb_cells (Q2_0.out)
      obtain ⟨y2a, y2b, _, _, _⟩ := fb_cells (NB_31.out)
      clear Q1_31
      clear Q2_0
      clear C1 C2
      by_cases h_s4 : s4 = 0
      case pos =>
        subst h_s4
        obtain ⟨la, lb, hla, hlb, hab, hb0, hb1⟩ := HM4.out u0 u1 rfl
        have C1 := hid (fun w1 => implLevel n2 d2 w1)
        have C2 := hid (fun w1 => implLevel u0 u1 w1)
        rw [hla] at C1
        rw [hlb] at C2
        clear hla hlb
        dsimp only at C1 C2
        subst hab
        obtain ⟨z0a, z0b, _, _, _⟩ := fb_cells (NC_31.out)
        go_wp2_with (fail)
        clear z0a z0b
        refine (C1.out _).mono ?_
        rintro e w25 ⟨rfl, b25⟩
        have HB_32 := hid (HB_31.out.trans (b25.mono HB_31.out.size))
        have BB_32 := hid (byi_below BB_31.out b25)
        have NB_32 := hid (fb_below NB_31.out b25)
        have L2_32 := hid (arg_below L2_31.out b25)
        have L3_32 := hid (arg_below L3_31.out b25)
        have P1_32 := hid (fb_below P1_31.out b25)
        have P2_32 := hid (fb_below P2_31.out b25)
        have P3_32 := hid (fb_below P3_31.out b25)
        have P4_32 := hid (fb_below P4_31.out b25)
        have NC_32 := hid (fb_below NC_31.out b25)
        have P5_32 := hid (fb_below P5_31.out b25)
        have P6_32 := hid (fb_below P6_31.out b25)
        have PI_32 := hid (ints_below PI_31.out b25)
        have PA_32 := hid (arg_below PA_31.out b25)
        have P7_32 := hid (fb_below P7_31.out b25)
        have P8_32 := hid (fb_below P8_31.out b25)
        clear HB_31 BB_31 NB_31 L2_31 L3_31 P1_31 P2_31 P3_31 P4_31 NC_31 P5_31 P6_31 PI_31 PA_31 P7_31 P8_31
        clear b25
        obtain ⟨z0a, z0b, _, _, _⟩ := fb_cells (P5_32.out)
        go_wp2_with (fail)
        clear z0a z0b
        refine (C2.out _).mono ?_
        rintro e w26 ⟨rfl, b26⟩
        have HB_33 := hid (HB_32.out.trans (b26.mono HB_32.out.size))
        have BB_33 := hid (byi_below BB_32.out b26)
        have NB_33 := hid (fb_below NB_32.out b26)
        have L2_33 := hid (arg_below L2_32.out b26)
        have L3_33 := hid (arg_below L3_32.out b26)
        have P1_33 := hid (fb_below P1_32.out b26)
        have P2_33 := hid (fb_below P2_32.out b26)
        have P3_33 := hid (fb_below P3_32.out b26)
        have P4_33 := hid (fb_below P4_32.out b26)
        have NC_33 := hid (fb_below NC_32.out b26)
        have P5_33 := hid (fb_below P5_32.out b26)
        have P6_33 := hid (fb_below P6_32.out b26)
        have PI_33 := hid (ints_below PI_32.out b26)
        have PA_33 := hid (arg_below PA_32.out b26)
        have P7_33 := hid (fb_below P7_32.out b26)
        have P8_33 := hid (fb_below P8_32.out b26)
        clear HB_32 BB_32 NB_32 L2_32 L3_32 P1_32 P2_32 P3_32 P4_32 NC_32 P5_32 P6_32 PI_32 PA_32 P7_32 P8_32
        clear b26 C1 C2
        have ne_l : (lb + 1 != lb + 1) = false := by simp
        by_cases h_s1 : s1 = 0
        case pos =>
          subst h_s1
          have hp1 := HM1.out xs rfl
          obtain ⟨gq, rfl, hcq⟩ := QS2.out rfl
          have C1 := hid (fun w1 (h : Ints w1 gq 0 xs) => implAt gq c2 xs w1 (by omega) hcq h)
          rw [hp1] at C1
          clear hp1
          dsimp only [tv] at C1
          go_wp2_with (fail)
          refine (C1.out _ (arg_ints0 L2_33.out)).mono ?_
          rintro e w27 ⟨rfl, b27⟩
          have HB_34 := hid (HB_33.out.trans (b27.mono HB_33.out.size))
          have BB_34 := hid (byi_below BB_33.out b27)
          have NB_34 := hid (fb_below NB_33.out b27)
          have L2_34 := hid (arg_below L2_33.out b27)
          have L3_34 := hid (arg_below L3_33.out b27)
          have P1_34 := hid (fb_below P1_33.out b27)
          have P2_34 := hid (fb_below P2_33.out b27)
          have P3_34 := hid (fb_below P3_33.out b27)
          have P4_34 := hid (fb_below P4_33.out b27)
          have NC_34 := hid (fb_below NC_33.out b27)
          have P5_34 := hid (fb_below P5_33.out b27)
          have P6_34 := hid (fb_below P6_33.out b27)
          have PI_34 := hid (ints_below PI_33.out b27)
          have PA_34 := hid (arg_below PA_33.out b27)
          have P7_34 := hid (fb_below P7_33.out b27)
          have P8_34 := hid (fb_below P8_33.out b27)
          clear HB_33 BB_33 NB_33 L2_33 L3_33 P1_33 P2_33 P3_33 P4_33 NC_33 P5_33 P6_33 PI_33 PA_33 P7_33 P8_33
          clear b27 C1
          have bA : Below (w27).heap.size (w27) ((w27).alloc (.cells #[.int .i64 n, .int .i64 d] 25)) := (Below.refl _ _).alloc (Nat.le_refl _) _
          have HB_35 := hid (HB_34.out.trans (bA.mono HB_34.out.size))
          have BB_35 := hid (byi_below BB_34.out bA)
          have NB_35 := hid (fb_below NB_34.out bA)
          have L2_35 := hid (arg_below L2_34.out bA)
          have L3_35 := hid (arg_below L3_34.out bA)
          have P1_35 := hid (fb_below P1_34.out bA)
          have P2_35 := hid (fb_below P2_34.out bA)
          have P3_35 := hid (fb_below P3_34.out bA)
          have P4_35 := hid (fb_below P4_34.out bA)
          have NC_35 := hid (fb_below NC_34.out bA)
          have P5_35 := hid (fb_below P5_34.out bA)
          have P6_35 := hid (fb_below P6_34.out bA)
          have PI_35 := hid (ints_below PI_34.out bA)
          have PA_35 := hid (arg_below PA_34.out bA)
          have P7_35 := hid (fb_below P7_34.out bA)
          have P8_35 := hid (fb_below P8_34.out bA)
          clear HB_34 BB_34 NB_34 L2_34 L3_34 P1_34 P2_34 P3_34 P4_34 NC_34 P5_34 P6_34 PI_34 PA_34 P7_34 P8_34
          clear bA
          have Q9_0 := hid (fb_new (w27) n d)
          have ne_n : (n != n) = false := by simp
          have eq_n : (n == n) = true := by simp
          have ne_d : (d != d) = false := by simp
          have eq_d : (d == d) = true := by simp
          obtain ⟨z0a, z0b, _, _, _⟩ := fb_cells (Q9_0.out)
          obtain ⟨z1a, z1b, _, _, _⟩ := fb_cells (NB_35.out)
          go_wp2_with (fail)
          go_ret
          exact ⟨rfl, HB_35.out⟩
        case neg =>
          have hb_s1 : (s1 == 0) = false := by simpa using h_s1
          have hc_s1 : (s1 != 0) = true := by simpa using h_s1
          clear h_s1
          go_wp2_with (fail)
          go_ret
          exact ⟨rfl, HB_33.out⟩
      case neg =>
        have hb_s4 : (s4 == 0) = false := by simpa using h_s4
        have hc_s4 : (s4 != 0) = true := by simpa using h_s4
        clear h_s4
        by_cases h_s1 : s1 = 0
        case pos =>
          subst h_s1
          have hp1 := HM1.out xs rfl
          obtain ⟨gq, rfl, hcq⟩ := QS2.out rfl
          have C1 := hid (fun w1 (h : Ints w1 gq 0 xs) => implAt gq c2 xs w1 (by omega) hcq h)
          rw [hp1] at C1
          clear hp1
          dsimp only [tv] at C1
          go_wp2_with (fail)
          refine (C1.out _ (arg_ints0 L2_31.out)).mono ?_
          rintro e w28 ⟨rfl, b28⟩
          have HB_36 := hid (HB_31.out.trans (b28.mono HB_31.out.size))
          have BB_36 := hid (byi_below BB_31.out b28)
          have NB_36 := hid (fb_below NB_31.out b28)
          have L2_36 := hid (arg_below L2_31.out b28)
          have L3_36 := hid (arg_below L3_31.out b28)
          have P1_36 := hid (fb_below P1_31.out b28)
          have P2_36 := hid (fb_below P2_31.out b28)
          have P3_36 := hid (fb_below P3_31.out b28)
          have P4_36 := hid (fb_below P4_31.out b28)
          have NC_36 := hid (fb_below NC_31.out b28)
          have P5_36 := hid (fb_below P5_31.out b28)
          have P6_36 := hid (fb_below P6_31.out b28)
          have PI_36 := hid (ints_below PI_31.out b28)
          have PA_36 := hid (arg_below PA_31.out b28)
          have P7_36 := hid (fb_below P7_31.out b28)
          have P8_36 := hid (fb_below P8_31.out b28)
          clear HB_31 BB_31 NB_31 L2_31 L3_31 P1_31 P2_31 P3_31 P4_31 NC_31 P5_31 P6_31 PI_31 PA_31 P7_31 P8_31
          clear b28 C1
          have bA : Below (w28).heap.size (w28) ((w28).alloc (.cells #[.int .i64 n, .int .i64 d] 25)) := (Below.refl _ _).alloc (Nat.le_refl _) _
          have HB_37 := hid (HB_36.out.trans (bA.mono HB_36.out.size))
          have BB_37 := hid (byi_below BB_36.out bA)
          have NB_37 := hid (fb_below NB_36.out bA)
          have L2_37 := hid (arg_below L2_36.out bA)
          have L3_37 := hid (arg_below L3_36.out bA)
          have P1_37 := hid (fb_below P1_36.out bA)
          have P2_37 := hid (fb_below P2_36.out bA)
          have P3_37 := hid (fb_below P3_36.out bA)
          have P4_37 := hid (fb_below P4_36.out bA)
          have NC_37 := hid (fb_below NC_36.out bA)
          have P5_37 := hid (fb_below P5_36.out bA)
          have P6_37 := hid (fb_below P6_36.out bA)
          have PI_37 := hid (ints_below PI_36.out bA)
          have PA_37 := hid (arg_below PA_36.out bA)
          have P7_37 := hid (fb_below P7_36.out bA)
          have P8_37 := hid (fb_below P8_36.out bA)
          clear HB_36 BB_36 NB_36 L2_36 L3_36 P1_36 P2_36 P3_36 P4_36 NC_36 P5_36 P6_36 PI_36 PA_36 P7_36 P8_36
          clear bA
          have Q9_0 := hid (fb_new (w28) n d)
          have ne_n : (n != n) = false := by simp
          have eq_n : (n == n) = true := by simp
          have ne_d : (d != d) = false := by simp
          have eq_d : (d == d) = true := by simp
          obtain ⟨z0a, z0b, _, _, _⟩ := fb_cells (Q9_0.out)
          obtain ⟨z1a, z1b, _, _, _⟩ := fb_cells (NB_37.out)
          go_wp2_with (fail)
          go_ret
          exact ⟨rfl, HB_37.out⟩
        case neg =>
          have hb_s1 : (s1 == 0) = false := by simpa using h_s1
          have hc_s1 : (s1 != 0) = true := by simpa using h_s1
          clear h_s1
          go_wp2_with (fail)
          go_ret
          exact ⟨rfl, HB_31.out⟩
    case neg =>
      have hb_s3 : (s3 == 0) = false := by simpa using h_s3
      have hc_s3 : (s3 != 0) = true := by simpa using h_s3
      clear h_s3
      by_cases h_s4 : s4 = 0
      case pos =>
        subst h_s4
        obtain ⟨la, lb, hla, hlb, hab, hb0, hb1⟩ := HM4.out u0 u1 rfl
        have C1 := hid (fun w1 => implLevel n2 d2 w1)
        have C2 := hid (fun w1 => implLevel u0 u1 w1)
        rw [hla] at C1
        rw [hlb] at C2
        clear hla hlb
        dsimp only at C1 C2
        subst hab
        obtain ⟨z0a, z0b, _, _, _⟩ := fb_cells (NC_27.out)
        go_wp2_with (fail)
        clear z0a z0b
        refine (C1.out _).mono ?_
        rintro e w29 ⟨rfl, b29⟩
        have HB_38 := hid (HB_27.out.trans (b29.mono HB_27.out.size))
        have BB_38 := hid (byi_below BB_27.out b29)
        have NB_38 := hid (fb_below NB_27.out b29)
        have L2_38 := hid (arg_below L2_27.out b29)
        have L3_38 := hid (arg_below L3_27.out b29)
        have P1_38 := hid (fb_below P1_27.out b29)
        have P2_38 := hid (fb_below P2_27.out b29)
        have P3_38 := hid (fb_below P3_27.out b29)
        have P4_38 := hid (fb_below P4_27.out b29)
        have NC_38 := hid (fb_below NC_27.out b29)
        have P5_38 := hid (fb_below P5_27.out b29)
        have P6_38 := hid (fb_below P6_27.out b29)
        have PI_38 := hid (ints_below PI_27.out b29)
        have PA_38 := hid (arg_below PA_27.out b29)
        have P7_38 := hid (fb_below P7_27.out b29)
        have P8_38 := hid (fb_below P8_27.out b29)
        clear HB_27 BB_27 NB_27 L2_27 L3_27 P1_27 P2_27 P3_27 P4_27 NC_27 P5_27 P6_27 PI_27 PA_27 P7_27 P8_27
        clear b29
        obtain ⟨z0a, z0b, _, _, _⟩ := fb_cells (P5_38.out)
        go_wp2_with (fail)
        clear z0a z0b
        refine (C2.out _).mono ?_
        rintro e w30 ⟨rfl, b30⟩
        have HB_39 := hid (HB_38.out.trans (b30.mono HB_38.out.size))
        have BB_39 := hid (byi_below BB_38.out b30)
        have NB_39 := hid (fb_below NB_38.out b30)
        have L2_39 := hid (arg_below L2_38.out b30)
        have L3_39 := hid (arg_below L3_38.out b30)
        have P1_39 := hid (fb_below P1_38.out b30)
        have P2_39 := hid (fb_below P2_38.out b30)
        have P3_39 := hid (fb_below P3_38.out b30)
        have P4_39 := hid (fb_below P4_38.out b30)
        have NC_39 := hid (fb_below NC_38.out b30)
        have P5_39 := hid (fb_below P5_38.out b30)
        have P6_39 := hid (fb_below P6_38.out b30)
        have PI_39 := hid (ints_below PI_38.out b30)
        have PA_39 := hid (arg_below PA_38.out b30)
        have P7_39 := hid (fb_below P7_38.out b30)
        have P8_39 := hid (fb_below P8_38.out b30)
        clear HB_38 BB_38 NB_38 L2_38 L3_38 P1_38 P2_38 P3_38 P4_38 NC_38 P5_38 P6_38 PI_38 PA_38 P7_38 P8_38
        clear b30 C1 C2
        have ne_l : (lb + 1 != lb + 1) = false := by simp
        by_cases h_s1 : s1 = 0
        case pos =>
          subst h_s1
          have hp1 := HM1.out xs rfl
          obtain ⟨gq, rfl, hcq⟩ := QS2.out rfl
          have C1 := hid (fun w1 (h : Ints w1 gq 0 xs) => implAt gq c2 xs w1 (by omega) hcq h)
          rw [hp1] at C1
          clear hp1
          dsimp only [tv] at C1
          go_wp2_with (fail)
          refine (C1.out _ (arg_ints0 L2_39.out)).mono ?_
          rintro e w31 ⟨rfl, b31⟩
          have HB_40 := hid (HB_39.out.trans (b31.mono HB_39.out.size))
          have BB_40 := hid (byi_below BB_39.out b31)
          have NB_40 := hid (fb_below NB_39.out b31)
          have L2_40 := hid (arg_below L2_39.out b31)
          have L3_40 := hid (arg_below L3_39.out b31)
          have P1_40 := hid (fb_below P1_39.out b31)
          have P2_40 := hid (fb_below P2_39.out b31)
          have P3_40 := hid (fb_below P3_39.out b31)
          have P4_40 := hid (fb_below P4_39.out b31)
          have NC_40 := hid (fb_below NC_39.out b31)
          have P5_40 := hid (fb_below P5_39.out b31)
          have P6_40 := hid (fb_below P6_39.out b31)
          have PI_40 := hid (ints_below PI_39.out b31)
          have PA_40 := hid (arg_below PA_39.out b31)
          have P7_40 := hid (fb_below P7_39.out b31)
          have P8_40 := hid (fb_below P8_39.out b31)
          clear HB_39 BB_39 NB_39 L2_39 L3_39 P1_39 P2_39 P3_39 P4_39 NC_39 P5_39 P6_39 PI_39 PA_39 P7_39 P8_39
          clear b31 C1
          have bA : Below (w31).heap.size (w31) ((w31).alloc (.cells #[.int .i64 n, .int .i64 d] 25)) := (Below.refl _ _).alloc (Nat.le_refl _) _
          have HB_41 := hid (HB_40.out.trans (bA.mono HB_40.out.size))
          have BB_41 := hid (byi_below BB_40.out bA)
          have NB_41 := hid (fb_below NB_40.out bA)
          have L2_41 := hid (arg_below L2_40.out bA)
          have L3_41 := hid (arg_below L3_40.out bA)
          have P1_41 := hid (fb_below P1_40.out bA)
          have P2_41 := hid (fb_below P2_40.out bA)
          have P3_41 := hid (fb_below P3_40.out bA)
          have P4_41 := hid (fb_below P4_40.out bA)
          have NC_41 := hid (fb_below NC_40.out bA)
          have P5_41 := hid (fb_below P5_40.out bA)
          have P6_41 := hid (fb_below P6_40.out bA)
          have PI_41 := hid (ints_below PI_40.out bA)
          have PA_41 := hid (arg_below PA_40.out bA)
          have P7_41 := hid (fb_below P7_40.out bA)
          have P8_41 := hid (fb_below P8_40.out bA)
          clear HB_40 BB_40 NB_40 L2_40 L3_40 P1_40 P2_40 P3_40 P4_40 NC_40 P5_40 P6_40 PI_40 PA_40 P7_40 P8_40
          clear bA
          have Q9_0 := hid (fb_new (w31) n d)
          have ne_n : (n != n) = false := by simp
          have eq_n : (n == n) = true := by simp
          have ne_d : (d != d) = false := by simp
          have eq_d : (d == d) = true := by simp
          obtain ⟨z0a, z0b, _, _, _⟩ := fb_cells (Q9_0.out)
          obtain ⟨z1a, z1b, _, _, _⟩ := fb_cells (NB_41.out)
          go_wp2_with (fail)
          go_ret
          exact ⟨rfl, HB_41.out⟩
        case neg =>
          have hb_s1 : (s1 == 0) = false := by simpa using h_s1
          have hc_s1 : (s1 != 0) = true := by simpa using h_s1
          clear h_s1
          go_wp2_with (fail)
          go_ret
          exact ⟨rfl, HB_39.out⟩
      case neg =>
        have hb_s4 : (s4 == 0) = false := by simpa using h_s4
        have hc_s4 : (s4 != 0) = true := by simpa using h_s4
        clear h_s4
        by_cases h_s1 : s1 = 0
        case pos =>
          subst h_s1
          have hp1 := HM1.out xs rfl
          obtain ⟨gq, rfl, hcq⟩ := QS2.out rfl
          have C1 := hid (fun w1 (h : Ints w1 gq 0 xs) => implAt gq c2 xs w1 (by omega) hcq h)
          rw [hp1] at C1
          clear hp1
          dsimp only [tv] at C1
          go_wp2_with (fail)
          refine (C1.out _ (arg_ints0 L2_27.out)).mono ?_
          rintro e w32 ⟨rfl, b32⟩
          have HB_42 := hid (HB_27.out.trans (b32.mono HB_27.out.size))
          have BB_42 := hid (byi_below BB_27.out b32)
          have NB_42 := hid (fb_below NB_27.out b32)
          have L2_42 := hid (arg_below L2_27.out b32)
          have L3_42 := hid (arg_below L3_27.out b32)
          have P1_42 := hid (fb_below P1_27.out b32)
          have P2_42 := hid (fb_below P2_27.out b32)
          have P3_42 := hid (fb_below P3_27.out b32)
          have P4_42 := hid (fb_below P4_27.out b32)
          have NC_42 := hid (fb_below NC_27.out b32)
          have P5_42 := hid (fb_below P5_27.out b32)
          have P6_42 := hid (fb_below P6_27.out b32)
          have PI_42 := hid (ints_below PI_27.out b32)
          have PA_42 := hid (arg_below PA_27.out b32)
          have P7_42 := hid (fb_below P7_27.out b32)
          have P8_42 := hid (fb_below P8_27.out b32)
          clear HB_27 BB_27 NB_27 L2_27 L3_27 P1_27 P2_27 P3_27 P4_27 NC_27 P5_27 P6_27 PI_27 PA_27 P7_27 P8_27
          clear b32 C1
          have bA : Below (w32).heap.size (w32) ((w32).alloc (.cells #[.int .i64 n, .int .i64 d] 25)) := (Below.refl _ _).alloc (Nat.le_refl _) _
          have HB_43 := hid (HB_42.out.trans (bA.mono HB_42.out.size))
          have BB_43 := hid (byi_below BB_42.out bA)
          have NB_43 := hid (fb_below NB_42.out bA)
          have L2_43 := hid (arg_below L2_42.out bA)
          have L3_43 := hid (arg_below L3_42.out bA)
          have P1_43 := hid (fb_below P1_42.out bA)
          have P2_43 := hid (fb_below P2_42.out bA)
          have P3_43 := hid (fb_below P3_42.out bA)
          have P4_43 := hid (fb_below P4_42.out bA)
          have NC_43 := hid (fb_below NC_42.out bA)
          have P5_43 := hid (fb_below P5_42.out bA)
          have P6_43 := hid (fb_below P6_42.out bA)
          have PI_43 := hid (ints_below PI_42.out bA)
          have PA_43 := hid (arg_below PA_42.out bA)
          have P7_43 := hid (fb_below P7_42.out bA)
          have P8_43 := hid (fb_below P8_42.out bA)
          clear HB_42 BB_42 NB_42 L2_42 L3_42 P1_42 P2_42 P3_42 P4_42 NC_42 P5_42 P6_42 PI_42 PA_42 P7_42 P8_42
          clear bA
          have Q9_0 := hid (fb_new (w32) n d)
          have ne_n : (n != n) = false := by simp
          have eq_n : (n == n) = true := by simp
          have ne_d : (d != d) = false := by simp
          have eq_d : (d == d) = true := by simp
          obtain ⟨z0a, z0b, _, _, _⟩ := fb_cells (Q9_0.out)
          obtain ⟨z1a, z1b, _, _, _⟩ := fb_cells (NB_43.out)
          go_wp2_with (fail)
          go_ret
          exact ⟨rfl, HB_43.out⟩
        case neg =>
          have hb_s1 : (s1 == 0) = false := by simpa using h_s1
          have hc_s1 : (s1 != 0) = true := by simpa using h_s1
          clear h_s1
          go_wp2_with (fail)
          go_ret
          exact ⟨rfl, HB_27.out⟩
  case neg =>
    have hb_s5 : (s5 == 0) = false := by simpa using h_s5
    have hc_s5 : (s5 != 0) = true := by simpa using h_s5
    clear h_s5
    by_cases h_s3 : s3 = 0
    case pos =>
      subst h_s3
      obtain ⟨hp6, hp7⟩ := HM3.out e0 e1 g0 g1 rfl
      have C1 := hid (fun w1 => implPar e0 e1 w1)
      have C2 := hid (fun w1 => implPar g0 g1 w1)
      rw [hp6] at C1
      rw [hp7] at C2
      clear hp6 hp7
      dsimp only [tv] at C1 C2
      obtain ⟨z0a, z0b, _, _, _⟩ := fb_cells (P1_25.out)
      go_wp2_with (fail)
      clear z0a z0b
      refine (C1.out _).mono ?_
      rintro e w33 ⟨rfl, b33⟩
      have HB_44 := hid (HB_25.out.trans (b33.mono HB_25.out.size))
      have BB_44 := hid (byi_below BB_25.out b33)
      have NB_44 := hid (fb_below NB_25.out b33)
      have L2_44 := hid (arg_below L2_25.out b33)
      have L3_44 := hid (arg_below L3_25.out b33)
      have P1_44 := hid (fb_below P1_25.out b33)
      have P2_44 := hid (fb_below P2_25.out b33)
      have P3_44 := hid (fb_below P3_25.out b33)
      have P4_44 := hid (fb_below P4_25.out b33)
      have NC_44 := hid (fb_below NC_25.out b33)
      have P5_44 := hid (fb_below P5_25.out b33)
      have P6_44 := hid (fb_below P6_25.out b33)
      have PI_44 := hid (ints_below PI_25.out b33)
      have PA_44 := hid (arg_below PA_25.out b33)
      have P7_44 := hid (fb_below P7_25.out b33)
      have P8_44 := hid (fb_below P8_25.out b33)
      clear HB_25 BB_25 NB_25 L2_25 L3_25 P1_25 P2_25 P3_25 P4_25 NC_25 P5_25 P6_25 PI_25 PA_25 P7_25 P8_25
      clear b33
      have bA : Below (w33).heap.size (w33) ((w33).alloc (.cells #[.int .i64 n, .int .i64 d] 25)) := (Below.refl _ _).alloc (Nat.le_refl _) _
      have HB_45 := hid (HB_44.out.trans (bA.mono HB_44.out.size))
      have BB_45 := hid (byi_below BB_44.out bA)
      have NB_45 := hid (fb_below NB_44.out bA)
      have L2_45 := hid (arg_below L2_44.out bA)
      have L3_45 := hid (arg_below L3_44.out bA)
      have P1_45 := hid (fb_below P1_44.out bA)
      have P2_45 := hid (fb_below P2_44.out bA)
      have P3_45 := hid (fb_below P3_44.out bA)
      have P4_45 := hid (fb_below P4_44.out bA)
      have NC_45 := hid (fb_below NC_44.out bA)
      have P5_45 := hid (fb_below P5_44.out bA)
      have P6_45 := hid (fb_below P6_44.out bA)
      have PI_45 := hid (ints_below PI_44.out bA)
      have PA_45 := hid (arg_below PA_44.out bA)
      have P7_45 := hid (fb_below P7_44.out bA)
      have P8_45 := hid (fb_below P8_44.out bA)
      clear HB_44 BB_44 NB_44 L2_44 L3_44 P1_44 P2_44 P3_44 P4_44 NC_44 P5_44 P6_44 PI_44 PA_44 P7_44 P8_44
      clear bA
      have Q1_0 := hid (fb_new (w33) n d)
      obtain ⟨z0a, z0b, _, _, _⟩ := fb_cells (P2_45.out)
      go_wp2_with (fail)
      clear z0a z0b
      refine (C2.out _).mono ?_
      rintro e w34 ⟨rfl, b34⟩
      have HB_46 := hid (HB_45.out.trans (b34.mono HB_45.out.size))
      have BB_46 := hid (byi_below BB_45.out b34)
      have NB_46 := hid (fb_below NB_45.out b34)
      have L2_46 := hid (arg_below L2_45.out b34)
      have L3_46 := hid (arg_below L3_45.out b34)
      have P1_46 := hid (fb_below P1_45.out b34)
      have P2_46 := hid (fb_below P2_45.out b34)
      have P3_46 := hid (fb_below P3_45.out b34)
      have P4_46 := hid (fb_below P4_45.out b34)
      have NC_46 := hid (fb_below NC_45.out b34)
      have P5_46 := hid (fb_below P5_45.out b34)
      have P6_46 := hid (fb_below P6_45.out b34)
      have PI_46 := hid (ints_below PI_45.out b34)
      have PA_46 := hid (arg_below PA_45.out b34)
      have P7_46 := hid (fb_below P7_45.out b34)
      have P8_46 := hid (fb_below P8_45.out b34)
      have Q1_46 := hid (fb_below Q1_0.out b34)
      clear HB_45 BB_45 NB_45 L2_45 L3_45 P1_45 P2_45 P3_45 P4_45 NC_45 P5_45 P6_45 PI_45 PA_45 P7_45 P8_45 Q1_0
      clear b34
      have bA : Below (w34).heap.size (w34) ((w34).alloc (.cells #[.int .i64 n, .int .i64 d] 25)) := (Below.refl _ _).alloc (Nat.le_refl _) _
      have HB_47 := hid (HB_46.out.trans (bA.mono HB_46.out.size))
      have BB_47 := hid (byi_below BB_46.out bA)
      have NB_47 := hid (fb_below NB_46.out bA)
      have L2_47 := hid (arg_below L2_46.out bA)
      have L3_47 := hid (arg_below L3_46.out bA)
      have P1_47 := hid (fb_below P1_46.out bA)
      have P2_47 := hid (fb_below P2_46.out bA)
      have P3_47 := hid (fb_below P3_46.out bA)
      have P4_47 := hid (fb_below P4_46.out bA)
      have NC_47 := hid (fb_below NC_46.out bA)
      have P5_47 := hid (fb_below P5_46.out bA)
      have P6_47 := hid (fb_below P6_46.out bA)
      have PI_47 := hid (ints_below PI_46.out bA)
      have PA_47 := hid (arg_below PA_46.out bA)
      have P7_47 := hid (fb_below P7_46.out bA)
      have P8_47 := hid (fb_below P8_46.out bA)
      have Q1_47 := hid (fb_below Q1_46.out bA)
      clear HB_46 BB_46 NB_46 L2_46 L3_46 P1_46 P2_46 P3_46 P4_46 NC_46 P5_46 P6_46 PI_46 PA_46 P7_46 P8_46 Q1_46
      clear bA
      have Q2_0 := hid (fb_new (w34) n d)
      have ne_n : (n != n) = false := by simp
      have eq_n : (n == n) = true := by simp
      have ne_d : (d != d) = false := by simp
      have eq_d : (d == d) = true := by simp
      obtain ⟨y0a, y0b, _, _, _⟩ := fb_cells (Q1_47.out)
      obtain ⟨y1a, y1b, _, _, _⟩ := fb_cells (Q2_0.out)
      obtain ⟨y2a, y2b, _, _, _⟩ := fb_cells (NB_47.out)
      clear Q1_47
      clear Q2_0
      clear C1 C2
      by_cases h_s4 : s4 = 0
      case pos =>
        subst h_s4
        obtain ⟨la, lb, hla, hlb, hab, hb0, hb1⟩ := HM4.out u0 u1 rfl
        have C1 := hid (fun w1 => implLevel n2 d2 w1)
        have C2 := hid (fun w1 => implLevel u0 u1 w1)
        rw [hla] at C1
        rw [hlb] at C2
        clear hla hlb
        dsimp only at C1 C2
        subst hab
        obtain ⟨z0a, z0b, _, _, _⟩ := fb_cells (NC_47.out)
        go_wp2_with (fail)
        clear z0a z0b
        refine (C1.out _).mono ?_
        rintro e w35 ⟨rfl, b35⟩
        have HB_48 := hid (HB_47.out.trans (b35.mono HB_47.out.size))
        have BB_48 := hid (byi_below BB_47.out b35)
        have NB_48 := hid (fb_below NB_47.out b35)
        have L2_48 := hid (arg_below L2_47.out b35)
        have L3_48 := hid (arg_below L3_47.out b35)
        have P1_48 := hid (fb_below P1_47.out b35)
        have P2_48 := hid (fb_below P2_47.out b35)
        have P3_48 := hid (fb_below P3_47.out b35)
        have P4_48 := hid (fb_below P4_47.out b35)
        have NC_48 := hid (fb_below NC_47.out b35)
        have P5_48 := hid (fb_below P5_47.out b35)
        have P6_48 := hid (fb_below P6_47.out b35)
        have PI_48 := hid (ints_below PI_47.out b35)
        have PA_48 := hid (arg_below PA_47.out b35)
        have P7_48 := hid (fb_below P7_47.out b35)
        have P8_48 := hid (fb_below P8_47.out b35)
        clear HB_47 BB_47 NB_47 L2_47 L3_47 P1_47 P2_47 P3_47 P4_47 NC_47 P5_47 P6_47 PI_47 PA_47 P7_47 P8_47
        clear b35
        obtain ⟨z0a, z0b, _, _, _⟩ := fb_cells (P5_48.out)
        go_wp2_with (fail)
        clear z0a z0b
        refine (C2.out _).mono ?_
        rintro e w36 ⟨rfl, b36⟩
        have HB_49 := hid (HB_48.out.trans (b36.mono HB_48.out.size))
        have BB_49 := hid (byi_below BB_48.out b36)
        have NB_49 := hid (fb_below NB_48.out b36)
        have L2_49 := hid (arg_below L2_48.out b36)
        have L3_49 := hid (arg_below L3_48.out b36)
        have P1_49 := hid (fb_below P1_48.out b36)
        have P2_49 := hid (fb_below P2_48.out b36)
        have P3_49 := hid (fb_below P3_48.out b36)
        have P4_49 := hid (fb_below P4_48.out b36)
        have NC_49 := hid (fb_below NC_48.out b36)
        have P5_49 := hid (fb_below P5_48.out b36)
        have P6_49 := hid (fb_below P6_48.out b36)
        have PI_49 := hid (ints_below PI_48.out b36)
        have PA_49 := hid (arg_below PA_48.out b36)
        have P7_49 := hid (fb_below P7_48.out b36)
        have P8_49 := hid (fb_below P8_48.out b36)
        clear HB_48 BB_48 NB_48 L2_48 L3_48 P1_48 P2_48 P3_48 P4_48 NC_48 P5_48 P6_48 PI_48 PA_48 P7_48 P8_48
        clear b36 C1 C2
        have ne_l : (lb + 1 != lb + 1) = false := by simp
        by_cases h_s1 : s1 = 0
        case pos =>
          subst h_s1
          have hp1 := HM1.out xs rfl
          obtain ⟨gq, rfl, hcq⟩ := QS2.out rfl
          have C1 := hid (fun w1 (h : Ints w1 gq 0 xs) => implAt gq c2 xs w1 (by omega) hcq h)
          rw [hp1] at C1
          clear hp1
          dsimp only [tv] at C1
          go_wp2_with (fail)
          refine (C1.out _ (arg_ints0 L2_49.out)).mono ?_
          rintro e w37 ⟨rfl, b37⟩
          have HB_50 := hid (HB_49.out.trans (b37.mono HB_49.out.size))
          have BB_50 := hid (byi_below BB_49.out b37)
          have NB_50 := hid (fb_below NB_49.out b37)
          have L2_50 := hid (arg_below L2_49.out b37)
          have L3_50 := hid (arg_below L3_49.out b37)
          have P1_50 := hid (fb_below P1_49.out b37)
          have P2_50 := hid (fb_below P2_49.out b37)
          have P3_50 := hid (fb_below P3_49.out b37)
          have P4_50 := hid (fb_below P4_49.out b37)
          have NC_50 := hid (fb_below NC_49.out b37)
          have P5_50 := hid (fb_below P5_49.out b37)
          have P6_50 := hid (fb_below P6_49.out b37)
          have PI_50 := hid (ints_below PI_49.out b37)
          have PA_50 := hid (arg_below PA_49.out b37)
          have P7_50 := hid (fb_below P7_49.out b37)
          have P8_50 := hid (fb_below P8_49.out b37)
          clear HB_49 BB_49 NB_49 L2_49 L3_49 P1_49 P2_49 P3_49 P4_49 NC_49 P5_49 P6_49 PI_49 PA_49 P7_49 P8_49
          clear b37 C1
          have bA : Below (w37).heap.size (w37) ((w37).alloc (.cells #[.int .i64 n, .int .i64 d] 25)) := (Below.refl _ _).alloc (Nat.le_refl _) _
          have HB_51 := hid (HB_50.out.trans (bA.mono HB_50.out.size))
          have BB_51 := hid (byi_below BB_50.out bA)
          have NB_51 := hid (fb_below NB_50.out bA)
          have L2_51 := hid (arg_below L2_50.out bA)
          have L3_51 := hid (arg_below L3_50.out bA)
          have P1_51 := hid (fb_below P1_50.out bA)
          have P2_51 := hid (fb_below P2_50.out bA)
          have P3_51 := hid (fb_below P3_50.out bA)
          have P4_51 := hid (fb_below P4_50.out bA)
          have NC_51 := hid (fb_below NC_50.out bA)
          have P5_51 := hid (fb_below P5_50.out bA)
          have P6_51 := hid (fb_below P6_50.out bA)
          have PI_51 := hid (ints_below PI_50.out bA)
          have PA_51 := hid (arg_below PA_50.out bA)
          have P7_51 := hid (fb_below P7_50.out bA)
          have P8_51 := hid (fb_below P8_50.out bA)
          clear HB_50 BB_50 NB_50 L2_50 L3_50 P1_50 P2_50 P3_50 P4_50 NC_50 P5_50 P6_50 PI_50 PA_50 P7_50 P8_50
          clear bA
          have Q9_0 := hid (fb_new (w37) n d)
          have ne_n : (n != n) = false := by simp
          have eq_n : (n == n) = true := by simp
          have ne_d : (d != d) = false := by simp
          have eq_d : (d == d) = true := by simp
          obtain ⟨z0a, z0b, _, _, _⟩ := fb_cells (Q9_0.out)
          obtain ⟨z1a, z1b, _, _, _⟩ := fb_cells (NB_51.out)
          go_wp2_with (fail)
          go_ret
          exact ⟨rfl, HB_51.out⟩
        case neg =>
          have hb_s1 : (s1 == 0) = false := by simpa using h_s1
          have hc_s1 : (s1 != 0) = true := by simpa using h_s1
          clear h_s1
          go_wp2_with (fail)
          go_ret
          exact ⟨rfl, HB_49.out⟩
      case neg =>
        have hb_s4 : (s4 == 0) = false := by simpa using h_s4
        have hc_s4 : (s4 != 0) = true := by simpa using h_s4
        clear h_s4
        by_cases h_s1 : s1 = 0
        case pos =>
          subst h_s1
          have hp1 := HM1.out xs rfl
          obtain ⟨gq, rfl, hcq⟩ := QS2.out rfl
          have C1 := hid (fun w1 (h : Ints w1 gq 0 xs) => implAt gq c2 xs w1 (by omega) hcq h)
          rw [hp1] at C1
          clear hp1
          dsimp only [tv] at C1
          go_wp2_with (fail)
          refine (C1.out _ (arg_ints0 L2_47.out)).mono ?_
          rintro e w38 ⟨rfl, b38⟩
          have HB_52 := hid (HB_47.out.trans (b38.mono HB_47.out.size))
          have BB_52 := hid (byi_below BB_47.out b38)
          have NB_52 := hid (fb_below NB_47.out b38)
          have L2_52 := hid (arg_below L2_47.out b38)
          have L3_52 := hid (arg_below L3_47.out b38)
          have P1_52 := hid (fb_below P1_47.out b38)
          have P2_52 := hid (fb_below P2_47.out b38)
          have P3_52 := hid (fb_below P3_47.out b38)
          have P4_52 := hid (fb_below P4_47.out b38)
          have NC_52 := hid (fb_below NC_47.out b38)
          have P5_52 := hid (fb_below P5_47.out b38)
          have P6_52 := hid (fb_below P6_47.out b38)
          have PI_52 := hid (ints_below PI_47.out b38)
          have PA_52 := hid (arg_below PA_47.out b38)
          have P7_52 := hid (fb_below P7_47.out b38)
          have P8_52 := hid (fb_below P8_47.out b38)
          clear HB_47 BB_47 NB_47 L2_47 L3_47 P1_47 P2_47 P3_47 P4_47 NC_47 P5_47 P6_47 PI_47 PA_47 P7_47 P8_47
          clear b38 C1
          have bA : Below (w38).heap.size (w38) ((w38).alloc (.cells #[.int .i64 n, .int .i64 d] 25)) := (Below.refl _ _).alloc (Nat.le_refl _) _
          have HB_53 := hid (HB_52.out.trans (bA.mono HB_52.out.size))
          have BB_53 := hid (byi_below BB_52.out bA)
          have NB_53 := hid (fb_below NB_52.out bA)
          have L2_53 := hid (arg_below L2_52.out bA)
          have L3_53 := hid (arg_below L3_52.out bA)
          have P1_53 := hid (fb_below P1_52.out bA)
          have P2_53 := hid (fb_below P2_52.out bA)
          have P3_53 := hid (fb_below P3_52.out bA)
          have P4_53 := hid (fb_below P4_52.out bA)
          have NC_53 := hid (fb_below NC_52.out bA)
          have P5_53 := hid (fb_below P5_52.out bA)
          have P6_53 := hid (fb_below P6_52.out bA)
          have PI_53 := hid (ints_below PI_52.out bA)
          have PA_53 := hid (arg_below PA_52.out bA)
          have P7_53 := hid (fb_below P7_52.out bA)
          have P8_53 := hid (fb_below P8_52.out bA)
          clear HB_52 BB_52 NB_52 L2_52 L3_52 P1_52 P2_52 P3_52 P4_52 NC_52 P5_52 P6_52 PI_52 PA_52 P7_52 P8_52
          clear bA
          have Q9_0 := hid (fb_new (w38) n d)
          have ne_n : (n != n) = false := by simp
          have eq_n : (n == n) = true := by simp
          have ne_d : (d != d) = false := by simp
          have eq_d : (d == d) = true := by simp
          obtain ⟨z0a, z0b, _, _, _⟩ := fb_cells (Q9_0.out)
          obtain ⟨z1a, z1b, _, _, _⟩ := fb_cells (NB_53.out)
          go_wp2_with (fail)
          go_ret
          exact ⟨rfl, HB_53.out⟩
        case neg =>
          have hb_s1 : (s1 == 0) = false := by simpa using h_s1
          have hc_s1 : (s1 != 0) = true := by simpa using h_s1
          clear h_s1
          go_wp2_with (fail)
          go_ret
          exact ⟨rfl, HB_47.out⟩
    case neg =>
      have hb_s3 : (s3 == 0) = false := by simpa using h_s3
      have hc_s3 : (s3 != 0) = true := by simpa using h_s3
      clear h_s3
      by_cases h_s4 : s4 = 0
      case pos =>
        subst h_s4
        obtain ⟨la, lb, hla, hlb, hab, hb0, hb1⟩ := HM4.out u0 u1 rfl
        have C1 := hid (fun w1 => implLevel n2 d2 w1)
        have C2 := hid (fun w1 => implLevel u0 u1 w1)
        rw [hla] at C1
        rw [hlb] at C2
        clear hla hlb
        dsimp only at C1 C2
        subst hab
        obtain ⟨z0a, z0b, _, _, _⟩ := fb_cells (NC_25.out)
        go_wp2_with (fail)
        clear z0a z0b
        refine (C1.out _).mono ?_
        rintro e w39 ⟨rfl, b39⟩
        have HB_54 := hid (HB_25.out.trans (b39.mono HB_25.out.size))
        have BB_54 := hid (byi_below BB_25.out b39)
        have NB_54 := hid (fb_below NB_25.out b39)
        have L2_54 := hid (arg_below L2_25.out b39)
        have L3_54 := hid (arg_below L3_25.out b39)
        have P1_54 := hid (fb_below P1_25.out b39)
        have P2_54 := hid (fb_below P2_25.out b39)
        have P3_54 := hid (fb_below P3_25.out b39)
        have P4_54 := hid (fb_below P4_25.out b39)
        have NC_54 := hid (fb_below NC_25.out b39)
        have P5_54 := hid (fb_below P5_25.out b39)
        have P6_54 := hid (fb_below P6_25.out b39)
        have PI_54 := hid (ints_below PI_25.out b39)
        have PA_54 := hid (arg_below PA_25.out b39)
        have P7_54 := hid (fb_below P7_25.out b39)
        have P8_54 := hid (fb_below P8_25.out b39)
        clear HB_25 BB_25 NB_25 L2_25 L3_25 P1_25 P2_25 P3_25 P4_25 NC_25 P5_25 P6_25 PI_25 PA_25 P7_25 P8_25
        clear b39
        obtain ⟨z0a, z0b, _, _, _⟩ := fb_cells (P5_54.out)
        go_wp2_with (fail)
        clear z0a z0b
        refine (C2.out _).mono ?_
        rintro e w40 ⟨rfl, b40⟩
        have HB_55 := hid (HB_54.out.trans (b40.mono HB_54.out.size))
        have BB_55 := hid (byi_below BB_54.out b40)
        have NB_55 := hid (fb_below NB_54.out b40)
        have L2_55 := hid (arg_below L2_54.out b40)
        have L3_55 := hid (arg_below L3_54.out b40)
        have P1_55 := hid (fb_below P1_54.out b40)
        have P2_55 := hid (fb_below P2_54.out b40)
        have P3_55 := hid (fb_below P3_54.out b40)
        have P4_55 := hid (fb_below P4_54.out b40)
        have NC_55 := hid (fb_below NC_54.out b40)
        have P5_55 := hid (fb_below P5_54.out b40)
        have P6_55 := hid (fb_below P6_54.out b40)
        have PI_55 := hid (ints_below PI_54.out b40)
        have PA_55 := hid (arg_below PA_54.out b40)
        have P7_55 := hid (fb_below P7_54.out b40)
        have P8_55 := hid (fb_below P8_54.out b40)
        clear HB_54 BB_54 NB_54 L2_54 L3_54 P1_54 P2_54 P3_54 P4_54 NC_54 P5_54 P6_54 PI_54 PA_54 P7_54 P8_54
        clear b40 C1 C2
        have ne_l : (lb + 1 != lb + 1) = false := by simp
        by_cases h_s1 : s1 = 0
        case pos =>
          subst h_s1
          have hp1 := HM1.out xs rfl
          obtain ⟨gq, rfl, hcq⟩ := QS2.out rfl
          have C1 := hid (fun w1 (h : Ints w1 gq 0 xs) => implAt gq c2 xs w1 (by omega) hcq h)
          rw [hp1] at C1
          clear hp1
          dsimp only [tv] at C1
          go_wp2_with (fail)
          refine (C1.out _ (arg_ints0 L2_55.out)).mono ?_
          rintro e w41 ⟨rfl, b41⟩
          have HB_56 := hid (HB_55.out.trans (b41.mono HB_55.out.size))
          have BB_56 := hid (byi_below BB_55.out b41)
          have NB_56 := hid (fb_below NB_55.out b41)
          have L2_56 := hid (arg_below L2_55.out b41)
          have L3_56 := hid (arg_below L3_55.out b41)
          have P1_56 := hid (fb_below P1_55.out b41)
          have P2_56 := hid (fb_below P2_55.out b41)
          have P3_56 := hid (fb_below P3_55.out b41)
          have P4_56 := hid (fb_below P4_55.out b41)
          have NC_56 := hid (fb_below NC_55.out b41)
          have P5_56 := hid (fb_below P5_55.out b41)
          have P6_56 := hid (fb_below P6_55.out b41)
          have PI_56 := hid (ints_below PI_55.out b41)
          have PA_56 := hid (arg_below PA_55.out b41)
          have P7_56 := hid (fb_below P7_55.out b41)
          have P8_56 := hid (fb_below P8_55.out b41)
          clear HB_55 BB_55 NB_55 L2_55 L3_55 P1_55 P2_55 P3_55 P4_55 NC_55 P5_55 P6_55 PI_55 PA_55 P7_55 P8_55
          clear b41 C1
          have bA : Below (w41).heap.size (w41) ((w41).alloc (.cells #[.int .i64 n, .int .i64 d] 25)) := (Below.refl _ _).alloc (Nat.le_refl _) _
          have HB_57 := hid (HB_56.out.trans (bA.mono HB_56.out.size))
          have BB_57 := hid (byi_below BB_56.out bA)
          have NB_57 := hid (fb_below NB_56.out bA)
          have L2_57 := hid (arg_below L2_56.out bA)
          have L3_57 := hid (arg_below L3_56.out bA)
          have P1_57 := hid (fb_below P1_56.out bA)
          have P2_57 := hid (fb_below P2_56.out bA)
          have P3_57 := hid (fb_below P3_56.out bA)
          have P4_57 := hid (fb_below P4_56.out bA)
          have NC_57 := hid (fb_below NC_56.out bA)
          have P5_57 := hid (fb_below P5_56.out bA)
          have P6_57 := hid (fb_below P6_56.out bA)
          have PI_57 := hid (ints_below PI_56.out bA)
          have PA_57 := hid (arg_below PA_56.out bA)
          have P7_57 := hid (fb_below P7_56.out bA)
          have P8_57 := hid (fb_below P8_56.out bA)
          clear HB_56 BB_56 NB_56 L2_56 L3_56 P1_56 P2_56 P3_56 P4_56 NC_56 P5_56 P6_56 PI_56 PA_56 P7_56 P8_56
          clear bA
          have Q9_0 := hid (fb_new (w41) n d)
          have ne_n : (n != n) = false := by simp
          have eq_n : (n == n) = true := by simp
          have ne_d : (d != d) = false := by simp
          have eq_d : (d == d) = true := by simp
          obtain ⟨z0a, z0b, _, _, _⟩ := fb_cells (Q9_0.out)
          obtain ⟨z1a, z1b, _, _, _⟩ := fb_cells (NB_57.out)
          go_wp2_with (fail)
          go_ret
          exact ⟨rfl, HB_57.out⟩
        case neg =>
          have hb_s1 : (s1 == 0) = false := by simpa using h_s1
          have hc_s1 : (s1 != 0) = true := by simpa using h_s1
          clear h_s1
          go_wp2_with (fail)
          go_ret
          exact ⟨rfl, HB_55.out⟩
      case neg =>
        have hb_s4 : (s4 == 0) = false := by simpa using h_s4
        have hc_s4 : (s4 != 0) = true := by simpa using h_s4
        clear h_s4
        by_cases h_s1 : s1 = 0
        case pos =>
          subst h_s1
          have hp1 := HM1.out xs rfl
          obtain ⟨gq, rfl, hcq⟩ := QS2.out rfl
          have C1 := hid (fun w1 (h : Ints w1 gq 0 xs) => implAt gq c2 xs w1 (by omega) hcq h)
          rw [hp1] at C1
          clear hp1
          dsimp only [tv] at C1
          go_wp2_with (fail)
          refine (C1.out _ (arg_ints0 L2_25.out)).mono ?_
          rintro e w42 ⟨rfl, b42⟩
          have HB_58 := hid (HB_25.out.trans (b42.mono HB_25.out.size))
          have BB_58 := hid (byi_below BB_25.out b42)
          have NB_58 := hid (fb_below NB_25.out b42)
          have L2_58 := hid (arg_below L2_25.out b42)
          have L3_58 := hid (arg_below L3_25.out b42)
          have P1_58 := hid (fb_below P1_25.out b42)
          have P2_58 := hid (fb_below P2_25.out b42)
          have P3_58 := hid (fb_below P3_25.out b42)
          have P4_58 := hid (fb_below P4_25.out b42)
          have NC_58 := hid (fb_below NC_25.out b42)
          have P5_58 := hid (fb_below P5_25.out b42)
          have P6_58 := hid (fb_below P6_25.out b42)
          have PI_58 := hid (ints_below PI_25.out b42)
          have PA_58 := hid (arg_below PA_25.out b42)
          have P7_58 := hid (fb_below P7_25.out b42)
          have P8_58 := hid (fb_below P8_25.out b42)
          clear HB_25 BB_25 NB_25 L2_25 L3_25 P1_25 P2_25 P3_25 P4_25 NC_25 P5_25 P6_25 PI_25 PA_25 P7_25 P8_25
          clear b42 C1
          have bA : Below (w42).heap.size (w42) ((w42).alloc (.cells #[.int .i64 n, .int .i64 d] 25)) := (Below.refl _ _).alloc (Nat.le_refl _) _
          have HB_59 := hid (HB_58.out.trans (bA.mono HB_58.out.size))
          have BB_59 := hid (byi_below BB_58.out bA)
          have NB_59 := hid (fb_below NB_58.out bA)
          have L2_59 := hid (arg_below L2_58.out bA)
          have L3_59 := hid (arg_below L3_58.out bA)
          have P1_59 := hid (fb_below P1_58.out bA)
          have P2_59 := hid (fb_below P2_58.out bA)
          have P3_59 := hid (fb_below P3_58.out bA)
          have P4_59 := hid (fb_below P4_58.out bA)
          have NC_59 := hid (fb_below NC_58.out bA)
          have P5_59 := hid (fb_below P5_58.out bA)
          have P6_59 := hid (fb_below P6_58.out bA)
          have PI_59 := hid (ints_below PI_58.out bA)
          have PA_59 := hid (arg_below PA_58.out bA)
          have P7_59 := hid (fb_below P7_58.out bA)
          have P8_59 := hid (fb_below P8_58.out bA)
          clear HB_58 BB_58 NB_58 L2_58 L3_58 P1_58 P2_58 P3_58 P4_58 NC_58 P5_58 P6_58 PI_58 PA_58 P7_58 P8_58
          clear bA
          have Q9_0 := hid (fb_new (w42) n d)
          have ne_n : (n != n) = false := by simp
          have eq_n : (n == n) = true := by simp
          have ne_d : (d != d) = false := by simp
          have eq_d : (d == d) = true := by simp
          obtain ⟨z0a, z0b, _, _, _⟩ := fb_cells (Q9_0.out)
          obtain ⟨z1a, z1b, _, _, _⟩ := fb_cells (NB_59.out)
          go_wp2_with (fail)
          go_ret
          exact ⟨rfl, HB_59.out⟩
        case neg =>
          have hb_s1 : (s1 == 0) = false := by simpa using h_s1
          have hc_s1 : (s1 != 0) = true := by simpa using h_s1
          clear h_s1
          go_wp2_with (fail)
          go_ret
          exact ⟨rfl, HB_25.out⟩

end Go.Proofs.Ytjijabfamjhdjaa.pTree
