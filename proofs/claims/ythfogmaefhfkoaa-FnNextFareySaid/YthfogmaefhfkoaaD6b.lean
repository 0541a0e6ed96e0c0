/- Contracts: the draws of two fractions (chapters 2 and 6). -/
import Derived.Test.YthfogmaefhfkoaaD6
import Derived.Test.YthfogmaefhfkoaaFy
import Derived.BigRegion
namespace Go.Proofs.Ythfogmaefhfkoaa
open Go.RowKit

/-- Two results in their blocks. -/
theorem fb2_ret {w : World} {s : Nat} {a b c d : Int} (h0 : FB w s a b) (h1 : FB w (s + 1) c d) (x y z u : Int) :
    FB ((((w.setCell ⟨s, 0, none⟩ (.int .i64 x)).setCell ⟨s, 1, none⟩ (.int .i64 y)).setCell ⟨s + 1, 0, none⟩ (.int .i64 z)).setCell ⟨s + 1, 1, none⟩ (.int .i64 u)) s x y ∧ FB ((((w.setCell ⟨s, 0, none⟩ (.int .i64 x)).setCell ⟨s, 1, none⟩ (.int .i64 y)).setCell ⟨s + 1, 0, none⟩ (.int .i64 z)).setCell ⟨s + 1, 1, none⟩ (.int .i64 u)) (s + 1) z u :=
  ⟨fb_other (fb_set h0 x y) (by omega) _ _, fb_set (fb_other h1 (by omega) _ _) z u⟩

set_option maxRecDepth 100000 in
set_option maxHeartbeats 3200000 in
theorem both6 (b : Nat) (ca : Option Addr) (len cap K : Nat) (w : World) (hs : St w b ca len cap K) (hk : K < 800000) (hl : len ≤ 5000) :
    Calls Try.prog 131 #[.pointer (some ⟨b, 0, none⟩)] w fun e w' => ∃ n d m f : Int, e = .returned (.tuple #[.agg #[.int .i64 n, .int .i64 d], .agg #[.int .i64 m, .int .i64 f]]) ∧ St w' b ca len cap (K + 44) ∧ w.grownBy w' (some b) := by
  have HS := hid hs
  have hbl := st_lt hs
  obtain ⟨W0, hW0⟩ : ∃ W0, W0 = (w.alloc (.cells #[.int .i64 0, .int .i64 0] 25)).alloc (.cells #[.int .i64 0, .int .i64 0] 25) := ⟨_, rfl⟩
  have A0 : Below w.heap.size w W0 := by rw [hW0]; exact ((Below.refl _ _).alloc (Nat.le_refl _) _).alloc (by simp) _
  have F0 := hid (show FB W0 w.heap.size 0 0 by rw [hW0]; exact od_at (nw_at _ _) _)
  have F1 := hid (show FB W0 (w.heap.size + 1) 0 0 by rw [hW0]; have := nw_at (w.alloc (.cells #[.int .i64 0, .int .i64 0] 25)) (.cells #[.int .i64 0, .int .i64 0] 25); rwa [World.size_alloc] at this)
  have hz0 : w.heap.size + 1 < W0.heap.size := by rw [hW0]; simp
  have S0 := hid (st_below hs A0)
  have G0 := hid (only_below A0 b)
  have D := hid (bentF b ca len cap K W0 S0.out (by omega) hl)
  clear hs A0
  go_enter Try.func131, Try.ntmps131
  go_wp2_with (fail)
  try rw [← hW0]
  clear hW0
  refine D.out.mono ?_
  rintro e w1 ⟨n, d, rfl, s1, g1⟩
  have hz1 := g1.size
  have A2 : Below w1.heap.size w1 (w1.alloc (.cells #[.int .i64 n, .int .i64 d] 25)) := (Below.refl _ _).alloc (Nat.le_refl _) _
  have G2 := hid (only_trans (only_trans G0.out g1) (only_below A2 b))
  have F02 := hid (fb_below (fb_only g1 (by omega) F0.out) A2)
  have F12 := hid (fb_below (fb_only g1 (by omega) F1.out) A2)
  have E2 := hid (fb_new w1 n d)
  have O := hid (oneS b ca len cap (K + 20) 12 _ (st_below s1 A2) (by omega) hl (by omega) (by omega))
  have hzf : (w1.alloc (.cells #[.int .i64 n, .int .i64 d] 25)).heap.size = w1.heap.size + 1 := by simp
  clear s1 g1 A2 D S0 F0 F1 G0
  go_wp2_with (fail)
  refine O.out.mono ?_
  rintro e w3 ⟨r, rfl, s3, g3⟩
  have hz3 := g3.size
  rw [hzf] at hz3
  have F03 := hid (fb_only g3 (by omega) F02.out)
  have F13 := hid (fb_only g3 (by omega) F12.out)
  have E3 := hid (fb_only g3 (by omega) E2.out)
  have G3 := hid (only_trans G2.out g3)
  have S3 := hid s3
  clear s3 g3 O hzf
  obtain ⟨q, hq⟩ : ∃ q, q = w1.heap.size := ⟨_, rfl⟩
  rw [← hq] at E3 ⊢
  have hqs : w.heap.size + 1 < q := by omega
  have hq3 : q < w3.heap.size := by omega
  clear hq
  cases r
  case true =>
    obtain ⟨a0, a1, fa0, fa1, la⟩ := fb_cells F03.out
    obtain ⟨b0, b1, fb0, fb1, lb⟩ := fb_cells F13.out
    obtain ⟨e0, e1, _, _, le⟩ := fb_cells E3.out
    go_wp2_with (fail)
    go_region
    simp only [Exit.then]
    go_wp2_with (fail)
    obtain ⟨t0, t1⟩ := fb2_ret F03.out F13.out n d n d
    obtain ⟨r0, r1, _⟩ := fb_cells t0
    obtain ⟨r2, r3, _⟩ := fb_cells t1
    refine bodyPost_ret (v := .tuple #[.agg #[.int .i64 n, .int .i64 d], .agg #[.int .i64 n, .int .i64 d]]) (by simp [results, Try.results131, go_sem, r0, r1, r2, r3]) rfl ⟨n, d, n, d, rfl, ?_, ?_⟩
    · exact st_below (st_fset HS.out (st_fset HS.out (st_fset HS.out (st_fset HS.out (st_more S3.out (by omega)) (Nat.le_refl _) _ _) (Nat.le_refl _) _ _) (by omega) _ _) (by omega) _ _) (Below.drew (Below.refl _ _))
    · exact only_trans (only_set (only_set (only_set (only_set G3.out (Nat.le_refl _) _) (Nat.le_refl _) _) (by omega) _) (by omega) _) (only_below (Below.drew (Below.refl _ _)) b)
  case false =>
    obtain ⟨e0, e1, _, _, le⟩ := fb_cells E3.out
    have D2 := hid (fun w (h : St w b ca len cap (K + 20 + 2)) => bentF b ca len cap (K + 20 + 2) w h (by omega) hl)
    have S3d := hid (st_below S3.out (Below.drew (Below.refl _ _)))
    go_wp2_with (fail)
    go_region_with (go_at_call 129; refine (D2.out _ S3d.out).mono ?_; rintro e w4 ⟨m, f, rfl, s4, g4⟩; have F04 := hid (fb_only (only_trans (only_below (Below.drew (Below.refl _ _)) b) g4) (by omega) F03.out); have F14 := hid (fb_only (only_trans (only_below (Below.drew (Below.refl _ _)) b) g4) (by omega) F13.out); have E4 := hid (fb_only (only_trans (only_below (Below.drew (Below.refl _ _)) b) g4) (by omega) E3.out); have G4 := hid (only_trans G3.out (only_trans (only_below (Below.drew (Below.refl _ _)) b) g4)); have S4 := hid s4; obtain ⟨a0, a1, fa0, fa1, la⟩ := fb_cells F04.out; obtain ⟨b0, b1, fb0, fb1, lb⟩ := fb_cells F14.out; obtain ⟨h0, h1, _, _, lh⟩ := fb_cells E4.out; clear s4 g4)
    all_goals
      simp only [Exit.then]
      go_wp2_with (fail)
      obtain ⟨t0, t1⟩ := fb2_ret F04.out F14.out n d m f
      obtain ⟨r0, r1, _⟩ := fb_cells t0
      obtain ⟨r2, r3, _⟩ := fb_cells t1
      refine bodyPost_ret (v := .tuple #[.agg #[.int .i64 n, .int .i64 d], .agg #[.int .i64 m, .int .i64 f]]) (by simp [results, Try.results131, go_sem, r0, r1, r2, r3]) rfl ⟨n, d, m, f, rfl, ?_, ?_⟩
      · exact st_fset HS.out (st_fset HS.out (st_fset HS.out (st_fset HS.out (st_more S4.out (by omega)) (Nat.le_refl _) _ _) (Nat.le_refl _) _ _) (by omega) _ _) (by omega) _ _
      · exact only_set (only_set (only_set (only_set G4.out (Nat.le_refl _) _) (Nat.le_refl _) _) (by omega) _) (by omega) _

/-- Two results, two fractions in their blocks. -/
def D9 (w : World) (q : Nat) (n d m f : Int) (W : World) : Prop := FB W w.heap.size 0 0 ∧ FB W (w.heap.size + 1) 0 0 ∧ FB W q n d ∧ FB W (q + 1) m f ∧ Below w.heap.size w W
theorem d9_below {w : World} {q : Nat} {n d m f : Int} {W W' : World} (h : D9 w q n d m f W) (hb : Below W.heap.size W W') : D9 w q n d m f W' := by
  obtain ⟨h1, h2, h3, h4, h5⟩ := h
  exact ⟨fb_below h1 hb, fb_below h2 hb, fb_below h3 hb, fb_below h4 hb, h5.trans (hb.mono h5.size)⟩
theorem d9_only {w : World} {q : Nat} {n d m f : Int} {W W' : World} {b : Nat} (h : D9 w q n d m f W) (hg : W.grownBy W' (some b)) (h1 : w.heap.size + 1 < b) (h2 : b < q) : D9 w q n d m f W' := by
  obtain ⟨k1, k2, k3, k4, k5⟩ := h
  exact ⟨fb_only hg (by omega) k1, fb_only hg (by omega) k2, fb_only hg (by omega) k3, fb_only hg (by omega) k4, k5.grown hg k5.size (fun k hk => by have e := Option.some.inj hk; omega)⟩
theorem d9_end {w : World} {q : Nat} {n d m f : Int} {W : World} (h : D9 w q n d m f W) (x y z u : Int) :
    FB ((((W.setCell ⟨w.heap.size, 0, none⟩ (.int .i64 x)).setCell ⟨w.heap.size, 1, none⟩ (.int .i64 y)).setCell ⟨w.heap.size + 1, 0, none⟩ (.int .i64 z)).setCell ⟨w.heap.size + 1, 1, none⟩ (.int .i64 u)) w.heap.size x y ∧ FB ((((W.setCell ⟨w.heap.size, 0, none⟩ (.int .i64 x)).setCell ⟨w.heap.size, 1, none⟩ (.int .i64 y)).setCell ⟨w.heap.size + 1, 0, none⟩ (.int .i64 z)).setCell ⟨w.heap.size + 1, 1, none⟩ (.int .i64 u)) (w.heap.size + 1) z u ∧
    Below w.heap.size w ((((W.setCell ⟨w.heap.size, 0, none⟩ (.int .i64 x)).setCell ⟨w.heap.size, 1, none⟩ (.int .i64 y)).setCell ⟨w.heap.size + 1, 0, none⟩ (.int .i64 z)).setCell ⟨w.heap.size + 1, 1, none⟩ (.int .i64 u)) :=
  ⟨(fb2_ret h.1 h.2.1 x y z u).1, (fb2_ret h.1 h.2.1 x y z u).2, fset_below (fset_below h.2.2.2.2 (Nat.le_refl _) _ _) (by omega) _ _⟩

set_option maxRecDepth 100000 in
set_option maxHeartbeats 6400000 in
theorem drawCt (ca : Option Addr) (len cap : Nat) (w : World) (hb : ByI w ca len) (hl : len ≤ 5000) :
    Calls Try.prog 62 #[.slice ca len cap] w fun e w' => ∃ n d m f : Int, e = .returned (.tuple #[.agg #[.int .i64 n, .int .i64 d], .agg #[.int .i64 m, .int .i64 f]]) ∧ Below w.heap.size w w' := by
  obtain ⟨V, hV⟩ : ∃ V, V = (w.alloc (.cells #[.int .i64 0, .int .i64 0] 25)).alloc (.cells #[.int .i64 0, .int .i64 0] 25) := ⟨_, rfl⟩
  have AV := hid (show Below w.heap.size w V by rw [hV]; exact ((Below.refl _ _).alloc (Nat.le_refl _) _).alloc (by simp) _)
  have F0 := hid (show FB V w.heap.size 0 0 by rw [hV]; exact od_at (nw_at _ _) _)
  have F1 := hid (show FB V (w.heap.size + 1) 0 0 by rw [hV]; have := nw_at (w.alloc (.cells #[.int .i64 0, .int .i64 0] 25)) (.cells #[.int .i64 0, .int .i64 0] 25); rwa [World.size_alloc] at this)
  have hVs : w.heap.size + 1 < V.heap.size := by rw [hV]; simp
  have F := hid (specFrom ca len cap V)
  have HB := hid (byi_below hb AV.out)
  clear hb
  go_enter Try.func62, Try.ntmps62
  go_wp2_with (fail)
  try rw [← hV]
  clear hV
  refine F.out.mono ?_
  rintro e W ⟨rfl, hW⟩
  have A0 := hid (show Below V.heap.size V W by rw [hW]; exact (Below.refl _ _).alloc (Nat.le_refl _) _)
  have S0 := hid (show St W V.heap.size ca len cap 0 by rw [hW]; exact st_new HB.out)
  have Q := hid (both6 V.heap.size ca len cap 0 W S0.out (by omega) hl)
  have hWs : V.heap.size < W.heap.size := by rw [hW]; simp
  clear hW F HB
  go_wp2_with (fail)
  refine Q.out.mono ?_
  rintro e w1 ⟨n, d, m, f, rfl, s1, g1⟩
  have hz1 := g1.size
  have G1 := hid (below_fr6 A0.out g1 (Nat.le_refl _))
  clear Q
  obtain ⟨W2, hW2⟩ : ∃ W2, W2 = (w1.alloc (.cells #[.int .i64 n, .int .i64 d] 25)).alloc (.cells #[.int .i64 m, .int .i64 f] 25) := ⟨_, rfl⟩
  have A2 : Below w1.heap.size w1 W2 := by rw [hW2]; exact ((Below.refl _ _).alloc (Nat.le_refl _) _).alloc (by simp) _
  have P2 := hid (show FB W2 w1.heap.size n d by rw [hW2]; exact od_at (nw_at _ _) _)
  have Q2 := hid (show FB W2 (w1.heap.size + 1) m f by rw [hW2]; have := nw_at (w1.alloc (.cells #[.int .i64 n, .int .i64 d] 25)) (.cells #[.int .i64 m, .int .i64 f] 25); rwa [World.size_alloc] at this)
  have S2 := hid (st_below s1 A2)
  have G2 := hid (G1.out.trans (A2.mono G1.out.size))
  have hz2 : w1.heap.size + 1 < W2.heap.size := by rw [hW2]; simp
  have X2 := hid (show D9 w w1.heap.size n d m f W2 from ⟨fb_below F0.out G2.out, fb_below F1.out G2.out, P2.out, Q2.out, AV.out.trans (G2.out.mono AV.out.size)⟩)
  have HO := hid (fun w => specOk n d w)
  have HON := hid (fun w (h : St w V.heap.size ca len cap 44) => oneS V.heap.size ca len cap 44 2 w h (by omega) hl (by omega) (by omega))
  have hbq : w.heap.size + 1 < V.heap.size := hVs
  have hqb : V.heap.size < w1.heap.size := by omega
  clear s1 g1 A2 A0 S0 F0 F1 G1 G2 AV
  obtain ⟨e0, e1, _, _, le⟩ := fb_cells P2.out
  rw [hW2] at e0 e1
  go_wp2_with (fail)
  rw [← hW2]
  clear e0 e1 P2 Q2 hW2
  obtain ⟨q, hq⟩ : ∃ q, q = w1.heap.size := ⟨_, rfl⟩
  rw [← hq] at X2 hqb ⊢
  clear hq
  refine (HO.out _).mono ?_
  rintro e W3 ⟨rfl, b3⟩
  have X3 := hid (d9_below X2.out b3)
  have S3 := hid (st_below S2.out b3)
  clear b3 X2 S2
  cases ho : okF n d
  · have hof : okF n d = false := ho
    clear HON S3 HO
    obtain ⟨a0, a1, fa0, fa1, la⟩ := fb_cells X3.out.1
    obtain ⟨b0, b1, fb0, fb1, lb⟩ := fb_cells X3.out.2.1
    obtain ⟨p0, p1, _, _, lp⟩ := fb_cells X3.out.2.2.1
    obtain ⟨q0, q1, _, _, lq⟩ := fb_cells X3.out.2.2.2.1
    go_wp2_with (fail)
    go_region
    simp only [Exit.then]
    go_wp2_with (fail)
    obtain ⟨t0, t1, tb⟩ := d9_end X3.out n d m f
    obtain ⟨r0, r1, _⟩ := fb_cells t0
    obtain ⟨r2, r3, _⟩ := fb_cells t1
    refine bodyPost_ret (v := .tuple #[.agg #[.int .i64 n, .int .i64 d], .agg #[.int .i64 m, .int .i64 f]]) (by simp [results, Try.results62, go_sem, r0, r1, r2, r3]) rfl ⟨n, d, m, f, rfl, ?_⟩
    exact Below.drew tb
  obtain ⟨d1, d2, n1, n2⟩ := ok_bounds ho
  have O := hid (HON.out W3 S3.out)
  have HTM := hid (fun w => specTerms n d w d1 d2 n1 n2)
  clear HON S3 HO ho
  go_wp2_with (fail)
  refine O.out.mono ?_
  rintro e W4 ⟨r, rfl, s4, g4⟩
  have X4 := hid (d9_only X3.out g4 hbq hqb)
  clear s4 g4 O X3
  cases r
  case false =>
    obtain ⟨a0, a1, fa0, fa1, la⟩ := fb_cells X4.out.1
    obtain ⟨b0, b1, fb0, fb1, lb⟩ := fb_cells X4.out.2.1
    obtain ⟨p0, p1, _, _, lp⟩ := fb_cells X4.out.2.2.1
    obtain ⟨q0, q1, _, _, lq⟩ := fb_cells X4.out.2.2.2.1
    go_wp2_with (fail)
    go_region
    simp only [Exit.then]
    go_wp2_with (fail)
    obtain ⟨t0, t1, tb⟩ := d9_end X4.out n d m f
    obtain ⟨r0, r1, _⟩ := fb_cells t0
    obtain ⟨r2, r3, _⟩ := fb_cells t1
    refine bodyPost_ret (v := .tuple #[.agg #[.int .i64 n, .int .i64 d], .agg #[.int .i64 m, .int .i64 f]]) (by simp [results, Try.results62, go_sem, r0, r1, r2, r3]) rfl ⟨n, d, m, f, rfl, ?_⟩
    exact Below.drew tb
  obtain ⟨e0, e1, _, _, le⟩ := fb_cells X4.out.2.2.1
  obtain ⟨xs, hxs⟩ : ∃ xs, xs = eu n d := ⟨_, rfl⟩
  rw [← hxs] at HTM
  have hxl : (xs.length : Int) ≤ 1000000000 := by rw [hxs]; have := eu_len_den d.toNat n d (Nat.le_refl _); omega
  clear hxs
  go_wp2_with (fail)
  refine (HTM.out _).mono ?_
  rintro e W5 ⟨v, rfl, r5, b5⟩
  have X5 := hid (d9_below X4.out b5)
  have HR := hid r5
  clear b5 r5 X4 HTM e0 e1 le
  by_cases h1 : 1 < xs.length
  case neg =>
    have HF := hid (show ∃ a c, v = .slice a xs.length c from by
      rcases HR.out with ⟨h1, h2⟩ | ⟨g, c, h1, _⟩
      · exact ⟨none, 0, by rw [h1, h2]; rfl⟩
      · exact ⟨_, _, h1⟩)
    obtain ⟨aa, cc, rfl⟩ := HF.out
    have h1' : ¬ (1 : Int) < (xs.length : Int) := by omega
    obtain ⟨a0, a1, fa0, fa1, la⟩ := fb_cells X5.out.1
    obtain ⟨b0, b1, fb0, fb1, lb⟩ := fb_cells X5.out.2.1
    obtain ⟨p0, p1, _, _, lp⟩ := fb_cells X5.out.2.2.1
    obtain ⟨q0, q1, _, _, lq⟩ := fb_cells X5.out.2.2.2.1
    go_wp2_with (fail)
    go_region
    simp only [Exit.then]
    go_wp2_with (fail)
    obtain ⟨t0, t1, tb⟩ := d9_end X5.out n d m f
    obtain ⟨r0, r1, _⟩ := fb_cells t0
    obtain ⟨r2, r3, _⟩ := fb_cells t1
    refine bodyPost_ret (v := .tuple #[.agg #[.int .i64 n, .int .i64 d], .agg #[.int .i64 m, .int .i64 f]]) (by simp [results, Try.results62, go_sem, r0, r1, r2, r3]) rfl ⟨n, d, m, f, rfl, ?_⟩
    exact Below.drew tb
  obtain ⟨g, c, rfl, ho⟩ : ∃ g c, v = .slice (some ⟨g, 0, none⟩) xs.length c ∧ Own W4.heap.size W5 g c xs := by
    rcases HR.out with ⟨h2, h3⟩ | ⟨g, c, h2, h3⟩
    · rw [h3] at h1; simp at h1
    · exact ⟨g, c, h2, h3⟩
  obtain ⟨ys, hys⟩ : ∃ ys, ys = xs.take (xs.length - 1) := ⟨_, rfl⟩
  have hyl : ys.length = xs.length - 1 := by rw [hys, List.length_take]; omega
  have HI := hid (own_ints ho)
  have HJ := hid (show Ints W5 g 0 ys from fun j x hx => by
    rw [hys, List.getElem?_take] at hx
    split at hx
    · exact HI.out j x hx
    · simp at hx)
  have hcap := own_cap ho
  have h1' : (1 : Int) < (xs.length : Int) := by omega
  have t1 : ((xs.length : Int) - 1).toNat = xs.length - 1 := by omega
  have p2 : (0 : Int) ≤ (xs.length : Int) - 1 := by omega
  have hcap2 : (xs.length : Int) - 1 ≤ (c : Int) := by omega
  have HVL := hid (specVal g c ys W5 (by omega) HJ.out)
  rw [hyl] at HVL
  clear hys ho HJ HI hyl
  go_wp2_with (fail)
  refine HVL.out.mono ?_
  generalize valT ys = t
  obtain ⟨x, y, k⟩ := t
  rintro e W6 ⟨rfl, b6⟩
  dsimp only [valV]
  have X6 := hid (d9_below (d9_below X5.out b6) ((Below.refl W6.heap.size W6).alloc (Nat.le_refl _) (.cells #[.int .i64 x, .int .i64 y] 25)))
  have C6 := hid (fb_new W6 x y)
  have hs6 : q + 1 < W6.heap.size := by have := fb_lt X5.out.2.2.2.1; have := b6.size; omega
  clear b6 X5 HVL
  by_cases hk : k = 0
  case neg =>
    have hk2 : (k == 0) = false := by simpa using hk
    obtain ⟨c0, c1, _, _, lc⟩ := fb_cells C6.out
    obtain ⟨a0, a1, fa0, fa1, la⟩ := fb_cells X6.out.1
    obtain ⟨b0, b1, fb0, fb1, lb⟩ := fb_cells X6.out.2.1
    obtain ⟨p0, p1, _, _, lp⟩ := fb_cells X6.out.2.2.1
    obtain ⟨q0, q1, _, _, lq⟩ := fb_cells X6.out.2.2.2.1
    go_wp2_with (fail)
    go_region
    simp only [Exit.then]
    go_wp2_with (fail)
    obtain ⟨t0, t1, tb⟩ := d9_end X6.out n d m f
    obtain ⟨r0, r1, _⟩ := fb_cells t0
    obtain ⟨r2, r3, _⟩ := fb_cells t1
    refine bodyPost_ret (v := .tuple #[.agg #[.int .i64 n, .int .i64 d], .agg #[.int .i64 m, .int .i64 f]]) (by simp [results, Try.results62, go_sem, r0, r1, r2, r3]) rfl ⟨n, d, m, f, rfl, ?_⟩
    exact Below.drew tb
  subst hk
  obtain ⟨c0, c1, _, _, lc⟩ := fb_cells C6.out
  obtain ⟨a0, a1, fa0, fa1, la⟩ := fb_cells X6.out.1
  obtain ⟨b0, b1, fb0, fb1, lb⟩ := fb_cells X6.out.2.1
  obtain ⟨p0, p1, _, _, lp⟩ := fb_cells X6.out.2.2.1
  obtain ⟨q0, q1, _, _, lq⟩ := fb_cells X6.out.2.2.2.1
  go_wp2_with (fail)
  go_region
  simp only [Exit.then]
  go_wp2_with (fail)
  obtain ⟨t0, t1, tb⟩ := d9_end X6.out n d x y
  obtain ⟨r0, r1, _⟩ := fb_cells t0
  obtain ⟨r2, r3, _⟩ := fb_cells t1
  refine bodyPost_ret (v := .tuple #[.agg #[.int .i64 n, .int .i64 d], .agg #[.int .i64 x, .int .i64 y]]) (by simp [results, Try.results62, go_sem, r0, r1, r2, r3]) rfl ⟨n, d, x, y, rfl, ?_⟩
  exact Below.drew tb

end Go.Proofs.Ythfogmaefhfkoaa
