/- FnTermOrder, walked: terms are ordered as their values are. -/
import Derived.Test.YtbbgkflkabkoeaaExp
import Derived.Test.YtbbgkflkabkoeaaTm2
import Derived.Test.YtbbgkflkabkoeaaA2f
namespace Go.Proofs.Ytbbgkflkabkoeaa.pTermOrder
open Go.RowKit

theorem back_form {B : Nat} {w : World} {v : Value} {xs : List Int} (h : Back B w v xs) (h0 : 0 < xs.length) : ∃ g c, v = .slice (some ⟨g, 0, none⟩) xs.length c ∧ Own B w g c xs := by
  rcases h with ⟨_, rfl⟩ | h
  · simp at h0
  · exact h
theorem two_pow9 {d : Int} (h : d ≤ 300) : d < 2 ^ 9 := by
  have : (2 : Int) ^ 9 = 512 := by decide
  omega

/-- What the law's calls answer. -/
theorem facts {n d m f : Int} (s1 : Sml n d 300) (s2 : Sml m f 300) : ∃ xs ys zs : List Int, ∃ c : Int, expT n d = (xs, 0) ∧ expT m f = (ys, 0) ∧ otherT xs = (zs, 0) ∧ cmpTT xs ys = (c, 0) ∧ cmpTT ys xs = (-c, 0) ∧ cmpTT zs ys = (c, 0) ∧ cmpTT xs zs = (0, 0) ∧ cmpT n d m f = (c, 0) ∧
    -1 ≤ c ∧ c ≤ 1 ∧ (0 < xs.length ∧ xs.length ≤ 60) ∧ (0 < ys.length ∧ ys.length ≤ 60) ∧ (0 < zs.length ∧ zs.length ≤ 60) := by
  obtain ⟨o1, x1, x2, x3⟩ := s1
  obtain ⟨o2, y1, y2, y3⟩ := s2
  have b1 := ok_bounds o1
  have b2 := ok_bounds o2
  have k1 : okT (eu n d) = true := eu_ok (k := 9) (by omega) (two_pow9 x3) (by omega) (by omega) (by omega) (by omega)
  have k2 : okT (eu m f) = true := eu_ok (k := 9) (by omega) (two_pow9 y3) (by omega) (by omega) (by omega) (by omega)
  have l1 := okT_len k1
  have l2 := okT_len k2
  have e1 : short (eu n d) = eu n d := eu_short (by omega)
  have e2 : short (eu m f) = eu m f := eu_short (by omega)
  have l3 := eu_length 9 n d (two_pow9 x3)
  have hq : -1000000000 < (eu n d).getD 0 0 := by
    rw [eu_step (by omega)]
    show -1000000000 < n / d
    have : -1000 ≤ n / d := by
      rw [Int.le_ediv_iff_mul_le (by omega)]
      have : (-1000) * d ≤ (-1000) * 1 := Int.mul_le_mul_of_nonpos_left (by omega) (by omega)
      omega
    omega
  have k3 : okT (other (eu n d)) = true := other_ok k1 e1 (by omega) hq
  have e3 : short (other (eu n d)) = eu n d := short_other e1 l1.1
  have l4 := okT_len k3
  have c1 := cmp_eu _ 1 n d m f (Nat.le_refl _) (by omega) (by omega)
  have c2 := cmp_eu _ 1 m f n d (Nat.le_refl _) (by omega) (by omega)
  have c3 := cmp_eu _ 1 n d n d (Nat.le_refl _) (by omega) (by omega)
  rw [Int.one_mul] at c1 c2 c3
  have hc : -1 ≤ sgn (n * f - m * d) ∧ sgn (n * f - m * d) ≤ 1 := by
    unfold sgn
    split
    · omega
    · split <;> omega
  refine ⟨eu n d, eu m f, other (eu n d), sgn (n * f - m * d), expT_ok o1, expT_ok o2, otherT_ok k1 k3, ?_, ?_, ?_, ?_, ?_, hc.1, hc.2, by omega, by omega, by omega⟩
  · rw [cmpTT_ok k1 k2, e1, e2, c1]
  · rw [cmpTT_ok k2 k1, e1, e2, c2, ← sgn_opp]; congr 2; omega
  · rw [cmpTT_ok k3 k2, e3, e2, c1]
  · rw [cmpTT_ok k1 k3, e3, e1, c3, sgn_zero (by omega)]
  · unfold cmpT; rw [o1, o2]; rfl

set_option maxRecDepth 100000 in
set_option maxHeartbeats 4000000 in
theorem walk (ca : Option Addr) (la pa : Nat) (w : World) (ha : ByI w ca la) :
    Calls Try.prog 3 #[.slice ca la pa] w fun e w' => e = .returned (.bool true) ∧ Below w.heap.size w w' := by
  have CL := fun w => a2Long ca none la pa 0 0 w
  cases hl : decide (3000 < la ∨ 3000 < 0) with
  | true =>
    rw [hl] at CL
    have HL := hid CL
    clear CL hl ha
    go_enter Try.func3, Try.ntmps3
    go_wp2_with (fail)
    refine (HL.out _).mono ?_
    rintro e w1 ⟨rfl, rfl⟩
    go_wp2
    go_ret
    exact ⟨rfl, Below.refl _ _⟩
  | false =>
    rw [hl] at CL
    have HL := hid CL
    have hla : la ≤ 3000 := by simp at hl; omega
    have HA := hid ha
    clear CL hl ha
    go_enter Try.func3, Try.ntmps3
    go_wp2_with (fail)
    refine (HL.out _).mono ?_
    rintro e w1 ⟨rfl, rfl⟩
    go_wp2_with (fail)
    refine (a2Fractions _ _ _ _ HA.out hla).mono ?_
    rintro e u1 ⟨n, d, m, f, n3, d3, rfl, s1, s2, s3, e1⟩
    obtain ⟨xs, ys, zs, c, f1, f2, f3, f4, f5, f6, f7, f8, hc1, hc2, lx, ly, lz⟩ := facts s1 s2
    have F1 := hid f1
    have F2 := hid f2
    have F3 := hid f3
    have F4 := hid f4
    have F5 := hid f5
    have F6 := hid f6
    have F7 := hid f7
    have F8 := hid f8
    have LX := hid lx
    have LY := hid ly
    have LZ := hid lz
    have E1 := hid e1
    clear f1 f2 f3 f4 f5 f6 f7 f8 lx ly lz s1 s2 s3 e1 HA hla HL
    go_wp2_with (fail)
    obtain ⟨V, hV⟩ : ∃ V : World, V = ((u1.alloc (.cells #[.int .i64 n, .int .i64 d] 25)).alloc (.cells #[.int .i64 m, .int .i64 f] 25)).alloc (.cells #[.int .i64 n3, .int .i64 d3] 25) := ⟨_, rfl⟩
    have HV := hid (show Below w.heap.size w V by rw [hV]; exact E1.out.trans ((alloc3 _ _ _ _).mono E1.out.size))
    have C1 := hid (show V.cell? ⟨u1.heap.size, 0, none⟩ = some (.int .i64 n) ∧ V.cell? ⟨u1.heap.size, 1, none⟩ = some (.int .i64 d) by rw [hV]; constructor <;> go_simp)
    have C2 := hid (show V.cell? ⟨u1.heap.size + 1, 0, none⟩ = some (.int .i64 m) ∧ V.cell? ⟨u1.heap.size + 1, 1, none⟩ = some (.int .i64 f) by rw [hV]; constructor <;> go_simp)
    have hV1 : u1.heap.size + 1 < V.heap.size := by rw [hV]; simp
    rw [← hV]
    clear hV
    refine (specExpand n d _).mono ?_
    rintro e w1 ⟨⟨v1, rfl, r1⟩, b1⟩
    have Fb_1 := hid b1
    clear b1
    rw [F1.out] at r1 ⊢
    obtain ⟨g1, c1, rfl, o1⟩ := back_form r1 LX.out.1
    have X := hid o1
    clear r1 o1
    have qa := (Fb_1.out.cell (p := ⟨u1.heap.size + 1, 0, none⟩) (by simp; omega)).trans C2.out.1
    have qb := (Fb_1.out.cell (p := ⟨u1.heap.size + 1, 1, none⟩) (by simp; omega)).trans C2.out.2
    dsimp only
    go_wp2_with (fail)
    clear qa qb
    refine (specExpand m f _).mono ?_
    rintro e w2 ⟨⟨v2, rfl, r2⟩, b2⟩
    have Fb_2 := hid (Fb_1.out.trans (b2.mono Fb_1.out.size))
    clear Fb_1
    have Fx_2 := hid b2
    clear b2
    rw [F2.out] at r2 ⊢
    obtain ⟨g2, c2, rfl, o2⟩ := back_form r2 LY.out.1
    have Y := hid o2
    clear r2 o2
    dsimp only
    go_wp2_with (fail)
    refine (specOther g1 c1 xs _ (by have := LX.out; omega) (own_ints (own_below X.out (Fx_2.out)))).mono ?_
    rintro e w3 ⟨⟨v3, rfl, r3⟩, b3⟩
    have Fb_3 := hid (Fb_2.out.trans (b3.mono Fb_2.out.size))
    clear Fb_2
    have Fx_3 := hid (Fx_2.out.trans (b3.mono Fx_2.out.size))
    clear Fx_2
    have Fy_3 := hid b3
    clear b3
    rw [F3.out] at r3 ⊢
    obtain ⟨g3, c3, rfl, o3⟩ := back_form r3 LZ.out.1
    have Z := hid o3
    clear r3 o3
    dsimp only
    go_wp2_with (fail)
    refine (implCmpT g1 c1 g2 c2 xs ys _ (by have := LX.out; omega) (by have := LY.out; omega) (own_cap X.out) (own_cap Y.out) (own_ints (own_below X.out (Fx_3.out))) (own_ints (own_below Y.out (Fy_3.out)))).mono ?_
    rintro e w4 ⟨rfl, b4⟩
    have Fb_4 := hid (Fb_3.out.trans (b4.mono Fb_3.out.size))
    clear Fb_3
    have Fx_4 := hid (Fx_3.out.trans (b4.mono Fx_3.out.size))
    clear Fx_3
    have Fy_4 := hid (Fy_3.out.trans (b4.mono Fy_3.out.size))
    clear Fy_3
    have Fz_4 := hid b4
    clear b4
    rw [F4.out]
    dsimp only
    go_wp2_with (fail)
    refine (implCmpT g2 c2 g1 c1 ys xs _ (by have := LY.out; omega) (by have := LX.out; omega) (own_cap Y.out) (own_cap X.out) (own_ints (own_below Y.out (Fy_4.out))) (own_ints (own_below X.out (Fx_4.out)))).mono ?_
    rintro e w5 ⟨rfl, b5⟩
    have Fb_5 := hid (Fb_4.out.trans (b5.mono Fb_4.out.size))
    clear Fb_4
    have Fx_5 := hid (Fx_4.out.trans (b5.mono Fx_4.out.size))
    clear Fx_4
    have Fy_5 := hid (Fy_4.out.trans (b5.mono Fy_4.out.size))
    clear Fy_4
    have Fz_5 := hid (Fz_4.out.trans (b5.mono Fz_4.out.size))
    clear Fz_4
    clear b5
    rw [F5.out]
    dsimp only
    go_wp2_with (fail)
    refine (implCmpT g3 c3 g2 c2 zs ys _ (by have := LZ.out; omega) (by have := LY.out; omega) (own_cap Z.out) (own_cap Y.out) (own_ints (own_below Z.out (Fz_5.out))) (own_ints (own_below Y.out (Fy_5.out)))).mono ?_
    rintro e w6 ⟨rfl, b6⟩
    have Fb_6 := hid (Fb_5.out.trans (b6.mono Fb_5.out.size))
    clear Fb_5
    have Fx_6 := hid (Fx_5.out.trans (b6.mono Fx_5.out.size))
    clear Fx_5
    have Fy_6 := hid (Fy_5.out.trans (b6.mono Fy_5.out.size))
    clear Fy_5
    have Fz_6 := hid (Fz_5.out.trans (b6.mono Fz_5.out.size))
    clear Fz_5
    clear b6
    rw [F6.out]
    dsimp only
    go_wp2_with (fail)
    refine (implCmpT g1 c1 g3 c3 xs zs _ (by have := LX.out; omega) (by have := LZ.out; omega) (own_cap X.out) (own_cap Z.out) (own_ints (own_below X.out (Fx_6.out))) (own_ints (own_below Z.out (Fz_6.out)))).mono ?_
    rintro e w7 ⟨rfl, b7⟩
    have Fb_7 := hid (Fb_6.out.trans (b7.mono Fb_6.out.size))
    clear Fb_6
    have Fx_7 := hid (Fx_6.out.trans (b7.mono Fx_6.out.size))
    clear Fx_6
    have Fy_7 := hid (Fy_6.out.trans (b7.mono Fy_6.out.size))
    clear Fy_6
    have Fz_7 := hid (Fz_6.out.trans (b7.mono Fz_6.out.size))
    clear Fz_6
    clear b7
    rw [F7.out]
    dsimp only
    have qa := (Fb_7.out.cell (p := ⟨u1.heap.size, 0, none⟩) (by simp; omega)).trans C1.out.1
    have qb := (Fb_7.out.cell (p := ⟨u1.heap.size, 1, none⟩) (by simp; omega)).trans C1.out.2
    have qc := (Fb_7.out.cell (p := ⟨u1.heap.size + 1, 0, none⟩) (by simp; omega)).trans C2.out.1
    have qd := (Fb_7.out.cell (p := ⟨u1.heap.size + 1, 1, none⟩) (by simp; omega)).trans C2.out.2
    go_wp2_with (fail)
    clear qa qb qc qd
    refine (specCompare n d m f _).mono ?_
    rintro e w8 ⟨rfl, b8⟩
    have Fb_8 := hid (Fb_7.out.trans (b8.mono Fb_7.out.size))
    clear Fb_7
    have Fx_8 := hid (Fx_7.out.trans (b8.mono Fx_7.out.size))
    clear Fx_7
    have Fy_8 := hid (Fy_7.out.trans (b8.mono Fy_7.out.size))
    clear Fy_7
    have Fz_8 := hid (Fz_7.out.trans (b8.mono Fz_7.out.size))
    clear Fz_7
    clear b8
    rw [F8.out]
    dsimp only
    go_wp2_with (fail)
    go_ret
    exact ⟨rfl, HV.out.trans (Fb_8.out.mono HV.out.size)⟩

end Go.Proofs.Ytbbgkflkabkoeaa.pTermOrder
