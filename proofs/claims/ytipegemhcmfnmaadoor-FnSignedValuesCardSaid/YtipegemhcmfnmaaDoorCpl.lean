/- Contract: all convergents of terms with signs, by the program, with the reason why there are none. -/
import Derived.Test.YtipegemhcmfnmaaDoorCps
namespace Go.Proofs.YtipegemhcmfnmaaDoor
open Go.RowKit

/-- The error with a code of convergents. -/
def errC (a2 a3 : Addr) (c : Int) : Value := if c = 0 then .nilIface else if c = 6 then ErrV a2 else ErrV a3
def FErrR (a2 a3 : Addr) (B : Nat) (r : List (Int × Int) × Int) (e : Ending) (w' : World) : Prop := ∃ v, e = .returned (.tuple #[v, errC a2 a3 r.2]) ∧ FBack B w' v r.1
theorem frow_fset {B b : Nat} {w : World} {v : Value} {n : Nat} {xs : List Value} (h : w.ownsRow B 30 2 v n xs) (hb : b < B) (x y : Value) : ((w.setCell ⟨b, 0, none⟩ x).setCell ⟨b, 1, none⟩ y).ownsRow B 30 2 v n xs :=
  h.kept (fset_grown w b x y) (.inr (by intro e; have := (h.lt b e).1; omega))
theorem frow_not {B b : Nat} {w : World} {v : Value} {n : Nat} {xs : List Value} (h : w.ownsRow B 30 2 v n xs) (hb : b < B) : some b ≠ v.ownBlock := by
  intro e
  have := (h.lt b e.symm).1
  omega
/-- A region that ends in one way, but for a world. -/
theorem regLift {P : Program} {c : Code} {a act : Act} {W : World} {F : World → World} {C : World → Prop} {Q : Exit → Act → World → Prop} (h1 : ∀ Q' : Exit → Act → World → Prop, (∀ w2, C w2 → Q' Exit.normal act (F w2)) → Code.wp P c Q' a W) (h2 : ∀ w2, C w2 → Q Exit.normal act (F w2)) : Code.wp P c Q a W := h1 Q h2
theorem nrm_bd {a b : Int} (h : (bdN a && bdN b) = true) : Bd a ∧ Bd b := by
  rw [Bool.and_eq_true] at h
  exact ⟨inB_iff.1 h.1, inB_iff.1 h.2⟩

set_option maxRecDepth 100000 in
set_option maxHeartbeats 3200000 in
theorem implCvs (g c : Nat) (xs : List (Int × Int)) (a0 a1 a2 a3 : Addr) (w : World) (hs : Errs a0 a1 a2 a3 w) (hok : okS xs = true) (ha : Sgs w g 0 xs) :
    Calls Tryd.prog 59 #[.slice (some ⟨g, 0, none⟩) xs.length c] w fun e w' => FErrR a2 a3 w.heap.size (scv 1 0 0 1 xs) e w' ∧ Below w.heap.size w w' := by
  obtain ⟨i0, hi, hz0, hz1, hz2⟩ := info_parts infoF
  have HI := hid hi
  clear hi
  have HS := hid hs
  have HA := hid ha
  have HO := hid (okS_iff.1 hok)
  have HX := okS_len hok
  obtain ⟨hx1, hx60⟩ := HX
  clear hs ha hok
  go_enter Tryd.func59, Tryd.ntmps59
  go_wp2_with (fail)
  obtain ⟨W, hW⟩ : ∃ W, W = (w.alloc (.cells #[.int .i64 0, .int .i64 1] 30)).alloc (.cells #[.int .i64 1, .int .i64 0] 30) := ⟨_, rfl⟩
  have E0 := hid (show Below w.heap.size w W by rw [hW]; exact ((Below.refl w.heap.size w).alloc (Nat.le_refl _) _).alloc (by simp) _)
  obtain ⟨b6, hb6⟩ : ∃ b6, b6 = w.heap.size + 1 := ⟨_, rfl⟩
  have B5 := hid (show FB W w.heap.size 0 1 by rw [hW]; exact fb_below (fb_new w 0 1) ((Below.refl _ _).alloc (Nat.le_refl _) _))
  have B6 := hid (show FB W b6 1 0 by
    rw [hW, hb6]
    have := fb_new (w.alloc (.cells #[.int .i64 0, .int .i64 1] 30)) 1 0
    rwa [World.size_alloc] at this)
  have hb6w : w.heap.size ≤ b6 := by omega
  have hb56 : w.heap.size ≠ b6 := by omega
  have hb65 : b6 ≠ w.heap.size := by omega
  try rw [← hW]
  try rw [← hb6]
  have HB6 := hid hb6
  clear hW hb6
  go_loopw [4, 8, 9, 10, 15] (fun v u8 u9 u10 i wr => ∃ (k : Nat) (l : List (Int × Int)) (p q pp qq : Int), i = .int .i64 k ∧ k ≤ xs.length ∧ l.length ≤ k ∧ wr.ownsRow (w.heap.size + 2) 30 2 v l.length (frCells l) ∧ FB wr w.heap.size pp qq ∧ FB wr b6 p q ∧ Bd p ∧ Bd q ∧ Bd pp ∧ Bd qq ∧ Nbr p q pp qq ∧ Hid (scv 1 0 0 1 xs = app l (scv p q pp qq (xs.drop k))) ∧ Below w.heap.size w wr) (fun _ _ _ _ i _ => xs.length - (RowKit.intOf i).toNat)
  case atStart => exact ⟨0, [], 1, 0, 0, 1, rfl, by omega, by simp, World.ownsRow_nil _ _ _ _, B5.out, B6.out, by constructor <;> omega, by constructor <;> omega, by constructor <;> omega, by constructor <;> omega, .inl (by decide), hid (by
    rw [List.drop_zero]
    unfold app
    split
    · rename_i h; rw [List.nil_append]; exact Prod.ext rfl h
    · rename_i h; exact Prod.ext ((scv_code xs 1 0 0 1).2 h) rfl), E0.out⟩
  case round =>
    obtain ⟨k, l, p, q, pp, qq, rfl, hk, hlk, hown, hf5, hf6, hp, hq, hpp, hqq, hnb, hst, hbel⟩ := hrel
    have HBEL := hid hbel
    have HOWN := hid hown
    have hk0 : (0 : Int) ≤ (k : Int) := by omega
    have hbw : w.heap.size ≤ wr.heap.size := hbel.size
    by_cases hlt : k < xs.length
    · have hlt' : (k : Int) < (xs.length : Int) := by omega
      obtain ⟨⟨s, t⟩, hxk⟩ : ∃ x, xs[k]? = some x := ⟨_, List.getElem?_eq_getElem hlt⟩
      obtain ⟨ca1, ca2⟩ := sgs_at HA.out hxk
      have hgl : g < w.heap.size := World.block_lt_of_cell? _ _ ca1
      have da1 := (hbel.cell (p := ⟨g, k * 2, none⟩) hgl).trans ca1
      have da2 := (hbel.cell (p := ⟨g, k * 2 + 1, none⟩) hgl).trans ca2
      dsimp only at da1 da2
      obtain ⟨hs1, ht1, ht2, _, _⟩ := okAt_facts (HO.out.2 k _ hxk)
      dsimp only at hs1 ht1 ht2
      have ht : Bd t := ⟨ht1, ht2⟩
      have hst2 := hst.out
      rw [List.drop_eq_getElem_cons hlt, (List.getElem?_eq_some_iff.1 hxk).2] at hst2
      have HST := hid hst2
      have HN2 := hid (nbr_step (t := t) hnb hs1)
      obtain ⟨m1, m2⟩ := bd_mul ht hp
      obtain ⟨m3, m4⟩ := bd_mul ht hq
      obtain ⟨m5, m6⟩ := sg_mul hs1 hpp
      obtain ⟨m7, m8⟩ := sg_mul hs1 hqq
      have n1 : -2000000000000000000 ≤ t * p + s * pp := by omega
      have n2 : t * p + s * pp ≤ 2000000000000000000 := by omega
      have n3 : -2000000000000000000 ≤ t * q + s * qq := by omega
      have n4 : t * q + s * qq ≤ 2000000000000000000 := by omega
      have CV := hid (fun w => implCvg s t p q pp qq w hs1 ht hp hq hpp hqq)
      have HP := hid hp
      have HQ := hid hq
      have SC0 := hid (fun h => HST.out.trans (congrArg (app l) (scv_zero (p := p) (q := q) (pp := pp) (qq := qq) (s := s) (t := t) (r := xs.drop (k + 1)) h)))
      have SC1 := hid (fun h h2 => HST.out.trans (congrArg (app l) (scv_full (p := p) (q := q) (pp := pp) (qq := qq) (s := s) (t := t) (r := xs.drop (k + 1)) h h2)))
      have SC2 := hid (fun h h2 => HST.out.trans (congrArg (app l) (scv_more (p := p) (q := q) (pp := pp) (qq := qq) (s := s) (t := t) (r := xs.drop (k + 1)) h h2)))
      obtain ⟨W1, hW1⟩ : ∃ W1, W1 = wr.alloc (.cells #[.int .i64 s, .int .i64 t] 94) := ⟨_, rfl⟩
      have A1 : Below wr.heap.size wr W1 := by rw [hW1]; exact (Below.refl _ _).alloc (Nat.le_refl _) _
      have E1 := hid (HBEL.out.trans (A1.mono hbw))
      have O1 := hid (HOWN.out.kept (below_grows A1) (Classical.em _))
      have F5 := hid (fb_below hf5 A1)
      have F6 := hid (fb_below hf6 A1)
      have T8 := hid (show W1.cell? ⟨wr.heap.size, 0, none⟩ = some (.int .i64 s) ∧ W1.cell? ⟨wr.heap.size, 1, none⟩ = some (.int .i64 t) by rw [hW1]; exact two_newS _ _ _ _)
      obtain ⟨b8, hb8⟩ : ∃ b8, b8 = wr.heap.size := ⟨_, rfl⟩
      have h8w : b8 < W1.heap.size := by rw [hW1, hb8]; simp
      obtain ⟨x0, x1, x2, x3, x4⟩ := fb_cells F5.out
      obtain ⟨y0, y1, y2, y3, y4⟩ := fb_cells F6.out
      obtain ⟨z0, z1⟩ := T8.out
      clear hst hst2 hown hf5 hf6 hbel hp hq hpp hqq ca1 ca2 hxk A1 HST hnb
      generalize t * p + s * pp = np at *
      generalize t * q + s * qq = nq at *
      go_wp2_with (fail)
      rw [← hW1, ← hb8]
      rw [← hb8] at z0 z1 T8
      clear hW1 hb8
      refine regLift (C := fun w2 => Below W1.heap.size W1 w2) (F := fun w2 => (((w2.setCell ⟨w.heap.size, 0, none⟩ (.int .i64 p)).setCell ⟨w.heap.size, 1, none⟩ (.int .i64 q)).setCell ⟨b6, 0, none⟩ (.int .i64 np)).setCell ⟨b6, 1, none⟩ (.int .i64 nq)) (act := { tmps := #[.slice (some ⟨g, 0, none⟩) xs.length c, undef, u2, u3, u4, .pointer (some ⟨w.heap.size, 0, none⟩), .pointer (some ⟨b6, 0, none⟩), undef, .pointer (some ⟨b8, 0, none⟩), u9, u10, .agg #[.int .i64 0, .int .i64 1], .agg #[.int .i64 1, .int .i64 0], .slice (some ⟨g, 0, none⟩) xs.length c, .int .i64 (xs.length : Int), .int .i64 (k : Int), .bool true, .pointer (some ⟨g, k * 2, none⟩), .agg #[.int .i64 s, .int .i64 t], .agg #[.int .i64 p, .int .i64 q], .agg #[.int .i64 s, .int .i64 t], .agg #[.int .i64 p, .int .i64 q], .agg #[.int .i64 pp, .int .i64 qq], .agg #[.int .i64 np, .int .i64 nq], u24, u25, u26, u27, u28, u29, u30, u31, u32, u33, u34, u35, u36, undef], defers := [] }) ?h1 ?h2
      case h1 =>
        intro Q' hQ
        clear HI hz0 hz1 hz2 HS HA HO HP HQ SC0 SC1 SC2 HBEL HOWN E1 O1 HN2 T8 m1 m2 m3 m4 m5 m6 m7 m8 ht hs1 ht1 ht2 hlt' hlt hk0 hbw hgl da1 da2 hx1 hx60 hk hlk E0 B5 B6 hb6w x4 y4
        go_region_with (go_at_call 93; refine (CV.out _).mono ?_; rintro e w2 ⟨rfl, hb2⟩; have G5 : FB w2 w.heap.size pp qq := fb_below (by exact F5.out) hb2; have G6 : FB w2 b6 p q := fb_below (by exact F6.out) hb2; obtain ⟨p0, p1, p2, p3, p4⟩ := fb_cells G5; obtain ⟨q0, q1, q2, q3, q4⟩ := fb_cells G6)
        all_goals exact hQ _ ((Below.refl _ _).drew.trans (by assumption))
      intro w2 hb2
      have E2 := hid (E1.out.trans (hb2.mono E1.out.size))
      have O2 := hid (O1.out.kept (below_grows hb2) (Classical.em _))
      have G5 := fb_below F5.out hb2
      have G6 := fb_below F6.out hb2
      have O3 := hid (frow_fset (frow_fset O2.out (b := w.heap.size) (by omega) (.int .i64 p) (.int .i64 q)) (b := b6) (by have := HB6.out; omega) (.int .i64 np) (.int .i64 nq))
      have F35 := hid (fb_other (fb_set G5 p q) hb65 (.int .i64 np) (.int .i64 nq))
      have F36 := hid (fb_set (fb_other G6 hb56 (.int .i64 p) (.int .i64 q)) np nq)
      have E3 := hid (fset_below (fset_below E2.out (Nat.le_refl _) (.int .i64 p) (.int .i64 q)) hb6w (.int .i64 np) (.int .i64 nq))
      dsimp only
      obtain ⟨w3, hw3⟩ : ∃ w3, w3 = (((w2.setCell ⟨w.heap.size, 0, none⟩ (.int .i64 p)).setCell ⟨w.heap.size, 1, none⟩ (.int .i64 q)).setCell ⟨b6, 0, none⟩ (.int .i64 np)).setCell ⟨b6, 1, none⟩ (.int .i64 nq) := ⟨_, rfl⟩
      rw [← hw3] at O3 F35 F36 E3 ⊢
      clear hw3 E2 O2 G5 G6 hb2 F5 F6 T8 x0 x1 x2 x3 x4 y0 y1 y2 y3 y4 z0 z1 E1 O1 da1 da2 CV HBEL HOWN
      obtain ⟨x0, x1, _, _, x4⟩ := fb_cells F36.out
      have HE3 := hid (errs_below HS.out E3.out)
      have hgc := nbr_gc HN2.out
      by_cases hz : nq = 0
      · subst hz
        have HR := hid (SC0.out rfl)
        have PL := hid (implPlain0 np a2 w3 HE3.out.2.2.1.1 (World.block_lt_of_cell? _ _ HE3.out.2.2.1.1))
        unfold ErrV at PL
        clear SC0 SC1 SC2 hgc
        go_wp2_with (fail)
        refine PL.out.mono ?_
        rintro e w4 ⟨rfl, b4⟩
        have E4 := hid (E3.out.trans (b4.mono E3.out.size))
        clear b4 PL x0 x1
        go_wp2_with (fail)
        go_ret2
        exact ⟨⟨_, by rw [HR.out]; rfl, by rw [HR.out]; exact .inl ⟨rfl, rfl⟩⟩, E4.out.alloc E4.out.size _⟩
      have PL := hid (implPlain np nq a3 w3 HE3.out.2.2.2.1 (World.block_lt_of_cell? _ _ HE3.out.2.2.2.1) hz (by omega) (by omega) (by omega) (by omega) hgc)
      cases hbd : (bdN np && bdN nq)
      · rw [hbd, if_neg (by decide)] at PL
        have HR := hid (SC1.out hz hbd)
        unfold ErrV at PL
        clear SC0 SC1 SC2 hgc hbd hz
        go_wp2_with (fail)
        refine PL.out.mono ?_
        rintro e w4 ⟨rfl, b4⟩
        have E4 := hid (E3.out.trans (b4.mono E3.out.size))
        clear b4 PL x0 x1
        go_wp2_with (fail)
        go_ret2
        exact ⟨⟨_, by rw [HR.out]; rfl, by rw [HR.out]; exact .inl ⟨rfl, rfl⟩⟩, E4.out.alloc E4.out.size _⟩
      · rw [hbd, if_pos rfl] at PL
        have HR := hid (SC2.out hz hbd)
        obtain ⟨hnp, hnq⟩ := nrm_bd hbd
        have HNP := hid hnp
        have HNQ := hid hnq
        clear SC0 SC1 SC2 hgc hbd hz hnp hnq
        rw [app_app] at HR
        generalize nrm np nq = z at *
        obtain ⟨z0, z1⟩ := z
        dsimp only at PL
        go_wp2_with (fail)
        refine PL.out.mono ?_
        rintro e w4 ⟨rfl, b4⟩
        have E4 := hid ((E3.out.trans (b4.mono E3.out.size)).alloc (E3.out.trans (b4.mono E3.out.size)).size (.cells #[.int .i64 z0, .int .i64 z1] 30))
        have A4 : Below w4.heap.size w4 (w4.alloc (.cells #[.int .i64 z0, .int .i64 z1] 30)) := (Below.refl _ _).alloc (Nat.le_refl _) _
        have O4 := hid ((O3.out.kept (below_grows b4) (Classical.em _)).kept (below_grows A4) (Classical.em _))
        have F45 := hid (fb_below (fb_below F35.out b4) A4)
        have F46 := hid (fb_below (fb_below F36.out b4) A4)
        have Z4 := hid (fb_new w4 z0 z1)
        obtain ⟨u0, u1, _, _, _⟩ := fb_cells Z4.out
        clear b4 A4 PL x0 x1 O3 F35 F36 E3
        have hb4 : w.heap.size + 2 ≤ w4.heap.size + 1 := by have h1 := fb_lt F46.out; rw [World.size_alloc] at h1; have := HB6.out; omega
        dsimp only
        go_wp2_with (at_builtin; refine wpList_append_own _ rfl _ _ 26 rfl (w.heap.size + 2) 30 i0 (.agg #[.int .i64 0, .int .i64 0]) 2 16 Tryd.underlying26 HI.out hz0 hz1 hz2 rfl (by decide) _ l.length (frCells l) (by rfl) ?c0 ⟨w4.heap.size + 1, 0, none⟩ 1 1 [.int .i64 z0, .int .i64 z1] (by rfl) ?c1 ?c2 ?c3 ?c4 ?c5 ?c6 ?c7)
        case c0 => exact O4.out.alloc _
        case c1 => rfl
        case c2 =>
          have h := news2 (w4.alloc (.cells #[.int .i64 z0, .int .i64 z1] 30)) (.int .i64 z0) (.int .i64 z1) 30
          rw [World.size_alloc] at h
          exact h
        case c3 => intro u hu; rcases List.mem_cons.1 hu with rfl | hu; rfl; obtain rfl := List.mem_singleton.1 hu; rfl
        case c4 => unfold maxLen; omega
        case c5 => omega
        case c6 => (first | omega | (simp <;> omega))
        intro v2 w5 hown2 hgrow2 _
        have HO2 := hid (show w5.ownsRow (w.heap.size + 2) 30 2 v2 (l ++ [(z0, z1)]).length (frCells (l ++ [(z0, z1)])) by
          rw [← frCells_more, List.length_append]; exact hown2)
        have A5 : Below (w4.alloc (.cells #[.int .i64 z0, .int .i64 z1] 30)).heap.size (w4.alloc (.cells #[.int .i64 z0, .int .i64 z1] 30)) ((w4.alloc (.cells #[.int .i64 z0, .int .i64 z1] 30)).alloc (.cells #[.int .i64 z0, .int .i64 z1] 30)) := (Below.refl _ _).alloc (Nat.le_refl _) _
        have F55 := fb_below F45.out A5
        have F56 := fb_below F46.out A5
        have E5 := hid ((E4.out.alloc E4.out.size (.cells #[.int .i64 z0, .int .i64 z1] 30)).grown hgrow2 (by first | omega | (simp <;> omega)) (fun k hk => by have := (O4.out.lt k hk).1; omega))
        have F65 := hid (show FB w5 w.heap.size p q by
          unfold FB
          rw [hgrow2.block _ (fb_lt F55) (frow_not O4.out (by omega))]
          exact F55)
        have F66 := hid (show FB w5 b6 np nq by
          unfold FB
          rw [hgrow2.block _ (fb_lt F56) (frow_not O4.out (by have := HB6.out; omega))]
          exact F56)
        have HL5 := hid (show (l ++ [(z0, z1)]).length ≤ k + 1 by simp; omega)
        obtain ⟨zs, hzs⟩ : ∃ zs, zs = l ++ [(z0, z1)] := ⟨_, rfl⟩
        rw [← hzs] at HO2 HR HL5
        clear hown2 hgrow2 hzs A5 F55 F56 u0 u1
        go_wp2_with (fail)
        go_roundw
        case rel => exact ⟨k + 1, zs, np, nq, p, q, by go_num, by omega, HL5.out, HO2.out, F65.out, F66.out, HNP.out, HNQ.out, HP.out, HQ.out, HN2.out, HR, E5.out⟩
        case measure => simp only [RowKit.intOf]; omega
    · have hlt' : ¬ (k : Int) < (xs.length : Int) := by omega
      have HR := hid (show scv 1 0 0 1 xs = (l, 0) by
        rw [hst.out, List.drop_eq_nil_of_le (by omega)]
        show (l ++ [], (0 : Int)) = _
        rw [List.append_nil])
      clear hst hown hf5 hf6 hbel
      go_wp2_with (fail)
      go_ret2
      exact ⟨⟨_, by rw [HR.out]; rfl, by rw [HR.out]; exact fback_mono (frow_back HOWN.out rfl) (by omega)⟩, HBEL.out⟩

end Go.Proofs.YtipegemhcmfnmaaDoor
