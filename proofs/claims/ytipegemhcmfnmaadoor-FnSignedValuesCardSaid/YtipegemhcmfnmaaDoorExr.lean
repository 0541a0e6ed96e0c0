/- Contract: the terms of a fraction by each rule, by the program. -/
import Derived.Test.YtipegemhcmfnmaaDoorFb
import Derived.Test.YtipegemhcmfnmaaDoorVs
import Derived.Test.YtipegemhcmfnmaaDoorFlw
import Derived.Test.YtipegemhcmfnmaaDoorEis
import Derived.BigQuiet
namespace Go.Proofs.YtipegemhcmfnmaaDoor
open Go.RowKit

def SListR (B : Nat) (r : List (Int × Int) × Int) (e : Ending) (w' : World) : Prop := ∃ v, e = .returned (.tuple #[v, .int .i64 r.2]) ∧ SBack B w' v r.1
/-- The error with a code. -/
def errE (a0 a1 a3 : Addr) (c : Int) : Value := if c = 0 then .nilIface else if c = 2 then ErrV a0 else if c = 6 then ErrV a1 else ErrV a3
def SErrR (a0 a1 a3 : Addr) (B : Nat) (r : List (Int × Int) × Int) (e : Ending) (w' : World) : Prop := ∃ v, e = .returned (.tuple #[v, errE a0 a1 a3 r.2]) ∧ SBack B w' v r.1
def lenV : Value → Nat
  | .slice _ n _ => n
  | _ => 0
theorem lenV_row {B : Nat} {w : World} {v : Value} {xs : List (Int × Int)} (h : w.ownsRow B 94 2 v xs.length (sgCells xs)) : lenV v = xs.length := by
  rcases h.2 with ⟨h1, h2⟩ | ⟨g, cap, cur, rfl, hB, hr⟩
  · rw [h1, h2]; rfl
  · rfl
theorem srow_more {B : Nat} {w : World} {v : Value} {xs : List (Int × Int)} (h : w.ownsRow B 94 2 v xs.length (sgCells xs)) (h0 : 0 < xs.length) : ∃ g c, v = .slice (some ⟨g, 0, none⟩) xs.length c ∧ SOwn B w g c xs := by
  obtain ⟨g, cap, rfl, hg, _⟩ := h.form h0
  exact ⟨g, cap, rfl, hg, h⟩
theorem sg_one (x y : Int) : ∀ u ∈ [Value.int .i64 x, Value.int .i64 y], u.oneCell' = true := by
  intro u hu
  rcases List.mem_cons.1 hu with rfl | hu
  · rfl
  · obtain rfl := List.mem_singleton.1 hu; rfl
theorem sback_nil {B : Nat} {w : World} : SBack B w (.slice none 0 0) [] := .inl ⟨rfl, rfl⟩
theorem method1 (w : World) : (Go.method 351 153 (.agg #[]) "loop.example/g01007/impl.termOf").run Tryd.prog w = .ok (195, .agg #[]) w := by kernel_rfl
theorem method2 (w : World) : (Go.method 351 154 (.agg #[]) "loop.example/g01007/impl.termOf").run Tryd.prog w = .ok (196, .agg #[]) w := by kernel_rfl
theorem method3 (w : World) : (Go.method 351 155 (.agg #[]) "loop.example/g01007/impl.termOf").run Tryd.prog w = .ok (197, .agg #[]) w := by kernel_rfl
theorem method4 (w : World) : (Go.method 351 156 (.agg #[]) "loop.example/g01007/impl.termOf").run Tryd.prog w = .ok (198, .agg #[]) w := by kernel_rfl

set_option maxRecDepth 100000 in
set_option maxHeartbeats 3200000 in
theorem expandRule1 (n d : Int) (a0 a1 a2 a3 : Addr) (w : World) (hs : Errs a0 a1 a2 a3 w) (h1 : -1000000000 ≤ n) (h2 : n ≤ 1000000000) (h3 : 1 ≤ d) (h4 : d ≤ 1000000000) :
    Calls Tryd.prog 109 #[.agg #[.int .i64 n, .int .i64 d], .iface 153 (.agg #[])] w fun e w' => SErrR a0 a1 a3 w.heap.size (sxc 1 [] 1 n d) e w' ∧ Below w.heap.size w w' := by
  obtain ⟨i0, hi, hz0, hz1, hz2⟩ := info_parts infoG
  have hm := method1
  have HS := hid hs
  have hT2 := hid (fun n d w => term1 n d w)
  clear hs
  go_enter Tryd.func109, Tryd.ntmps109
  go_wp2_with (fail)
  go_region
  obtain ⟨W, hW⟩ : ∃ W, W = ((w.alloc (.cells #[.int .i64 n, .int .i64 d] 30)).alloc (.cells #[.int .i64 n, .int .i64 d] 30)).drew := ⟨_, rfl⟩
  have E0 := hid (show Below w.heap.size w W by rw [hW]; exact (((Below.refl w.heap.size w).alloc (Nat.le_refl _) _).alloc (by simp) _).drew)
  obtain ⟨b8, hb8⟩ : ∃ b8, b8 = w.heap.size + 1 := ⟨_, rfl⟩
  have B0 := hid (show FB W b8 n d by
    rw [hW, hb8]
    have := fb_new (w.alloc (.cells #[.int .i64 n, .int .i64 d] 30)) n d
    rwa [World.size_alloc] at this)
  have hb : w.heap.size ≤ b8 := by omega
  rw [← hW, ← hb8]
  clear hW hb8
  go_wp2_with (fail)
  go_loopw [6, 7, 9, 10] (fun v u7 u9 u10 wr => ∃ (l : List (Int × Int)) (s m e : Int), u7 = .int .i64 s ∧ (s = 1 ∨ s = -1) ∧ -1000000000 ≤ m ∧ m ≤ 1000000000 ∧ 1 ≤ e ∧ e ≤ 1000000000 ∧ l.length ≤ 60 ∧ wr.ownsRow w.heap.size 94 2 v l.length (sgCells l) ∧ FB wr b8 m e ∧ Hid (sxc 1 [] 1 n d = sxc 1 l s m e) ∧ Below w.heap.size w wr) (fun v _ _ _ _ => 61 - lenV v)
  case atStart => exact ⟨[], 1, n, d, rfl, .inl rfl, h1, h2, h3, h4, by simp, World.ownsRow_nil _ _ _ _, B0.out, hid rfl, E0.out⟩
  case round =>
    obtain ⟨l, s, m, e, rfl, hs1, hm1, hm2, he1, he2, hl, hown, hfb, hst, hbel⟩ := hrel
    have HBEL := hid hbel
    have HOWN := hid hown
    have HFB := hid hfb
    obtain ⟨x0, x1, x2, x3, x4⟩ := fb_cells hfb
    have hbw : w.heap.size ≤ wr.heap.size := hbel.size
    have HLV := hid (lenV_row hown)
    have K1 := hid (kt_rest 1 m e he1)
    have K2 := hid (kt_bd 1 m e he1)
    have TT := hid (fun w => hT2.out m e w hm1 hm2 he1 he2)
    have SXB := hid (fun h => (hst.out).trans (sxc_bad (k := 1) (l := l) (s := s) (n := m) (d := e) h))
    have SXE := hid (fun h h0 => (hst.out).trans (sxc_end (k := 1) (l := l) (s := s) (n := m) (d := e) h h0))
    have SXM := hid (fun h h0 => (hst.out).trans (sxc_more (k := 1) (l := l) (s := s) (n := m) (d := e) h h0))
    clear hbel hown hfb hst
    generalize kt 1 m e = t at *
    go_wp2_with (fail)
    refine (TT.out _).mono ?_
    rintro e2 w1 ⟨rfl, b1⟩
    have E1 := hid (HBEL.out.trans (b1.mono hbw))
    have O1 := hid (HOWN.out.kept (below_grows b1) (Classical.em _))
    have F1 := hid (fb_below HFB.out b1)
    have hb1 : w.heap.size ≤ w1.heap.size := E1.out.size
    clear b1 TT HBEL HOWN HFB x0 x1 x2 x3 x4
    go_wp2_with (at_builtin; refine wpList_append_own _ rfl _ _ 24 rfl w.heap.size 94 i0 (.agg #[.int .i64 0, .int .i64 0]) 2 16 Tryd.underlying24 hi hz0 hz1 hz2 rfl (by decide) _ l.length (sgCells l) (by rfl) ?c0 ⟨w1.heap.size, 0, none⟩ 1 1 [.int .i64 s, .int .i64 t] (by rfl) ?c1 ?c2 ?c3 ?c4 ?c5 ?c6 ?c7)
    case c0 => exact O1.out.alloc _
    case c1 => rfl
    case c2 => exact snews2 _ _ _ _
    case c3 => exact sg_one _ _
    case c4 => unfold maxLen; omega
    case c5 => omega
    case c6 => (first | omega | (simp <;> omega))
    intro v2 w3 hown2 hgrow2 _
    have HO2 := hid (show w3.ownsRow w.heap.size 94 2 v2 (l ++ [(s, t)]).length (sgCells (l ++ [(s, t)])) by
      rw [← sgCells_more, List.length_append]; exact hown2)
    have E3 := hid ((E1.out.alloc hb1 (.cells #[.int .i64 s, .int .i64 t] 94)).grown hgrow2 (by first | omega | (simp <;> omega)) (fun k hk => (O1.out.lt k hk).1))
    have F3 := hid (show FB w3 b8 m e by
      have h8 := fb_below F1.out ((Below.refl _ _).alloc (Nat.le_refl _) (.cells #[.int .i64 s, .int .i64 t] 94))
      unfold FB
      rw [hgrow2.block b8 (fb_lt h8) (srow_other (O1.out.alloc _) h8 (by decide))]
      exact h8)
    have HL3 := hid (show (l ++ [(s, t)]).length = l.length + 1 by simp)
    obtain ⟨zs, hzs⟩ : ∃ zs, zs = l ++ [(s, t)] := ⟨_, rfl⟩
    rw [← hzs] at HO2 HL3 SXB SXE SXM
    obtain ⟨g3, c3, rfl, O3⟩ := srow_more HO2.out (by have := HL3.out; omega)
    have OW := hid O3
    have hlz : zs.length ≤ 2000000000 := by have := HL3.out; omega
    have V3 := hid (implValidS g3 c3 zs w3 hlz (sown_cap O3) (sown_sgs O3))
    have HS3 := hid (errs_below HS.out E3.out)
    clear hown2 hgrow2 hzs O3 O1 F1 E1 HO2
    cases hok : okS zs
    · rw [hok] at V3
      have HR := hid (SXB.out hok)
      clear SXB SXE SXM hok
      go_wp2_with (fail)
      refine V3.out.mono ?_
      rintro e2 w4 ⟨rfl, b4⟩
      have E4 := hid (E3.out.trans (b4.mono E3.out.size))
      have g0 := (errs_below HS3.out b4).2.2.2.1
      clear b4 V3
      go_wp2_with (fail)
      go_quiet (fail)
      go_wp2_with (fail)
      go_ret2
      exact ⟨⟨_, by rw [HR.out]; rfl, by rw [HR.out]; exact sback_nil⟩, below_drewN E4.out _⟩
    rw [hok] at V3
    have K1o := K1.out
    have K2o := K2.out
    have p1 : -2000000000 ≤ t * e := by omega
    have p2 : t * e ≤ 2000000000 := by omega
    have q1 : -1000000001 ≤ t := by omega
    have q2 : t ≤ 1000000001 := by omega
    have r1 : -1000000000 ≤ m - t * e := by omega
    have r2 : m - t * e ≤ 1000000000 := by omega
    have HZ1 := hid (show 1 ≤ zs.length ∧ zs.length ≤ 60 from okS_len hok)
    have RD := hid (show -e ≤ m - t * e ∧ m - t * e ≤ e from K1o)
    clear K1 K2 K1o K2o
    generalize hy : t * e = y at *
    generalize hr : m - y = r at *
    by_cases h0 : r = 0
    · subst h0
      have HR := hid (SXE.out hok rfl)
      clear SXB SXE SXM hok
      go_wp2_with (fail)
      refine V3.out.mono ?_
      rintro e2 w4 ⟨rfl, b4⟩
      have E4 := hid (E3.out.trans (b4.mono E3.out.size))
      have F4 := hid (fb_below F3.out b4)
      have O4 := hid (sown_below OW.out b4)
      obtain ⟨x0, x1, x2, x3, x4⟩ := fb_cells F4.out
      clear b4 V3
      go_wp2_with (fail)
      go_ret2
      exact ⟨⟨_, by rw [HR.out]; rfl, by rw [HR.out]; exact .inr ⟨_, _, rfl, sown_below O4.out ((Below.refl _ _).alloc (Nat.le_refl _) _)⟩⟩, E4.out.alloc E4.out.size _⟩
    have HM := hid (SXM.out hok h0)
    have h0' : (r == 0) = false := by simpa using h0
    have SA := hid (sg_ab h0 RD.out.1 RD.out.2)
    clear SXB SXE SXM hok
    by_cases hneg : r < 0
    · obtain ⟨sg1, ab1⟩ := sg_neg hneg
      rw [sg1, ab1] at HM
      have hr0 := SA.out
      rw [sg1, ab1] at hr0
      obtain ⟨_, hr1, hr2⟩ := hr0
      have OPP := hid (fun w => implOpp r e w (by omega) (by omega))
      have INV := hid (fun w => implInv (-r) e w (by omega))
      clear sg1 ab1
      go_wp2_with (fail)
      refine V3.out.mono ?_
      rintro e2 w4 ⟨rfl, b4⟩
      have E4 := hid (E3.out.trans (b4.mono E3.out.size))
      have F4 := hid (fb_below F3.out b4)
      have O4 := hid (sown_below OW.out b4)
      obtain ⟨x0, x1, x2, x3, x4⟩ := fb_cells F4.out
      clear b4 V3 E3 F3 OW
      go_wp2_with (fail)
      obtain ⟨b10, hb10⟩ : ∃ b10, b10 = w4.heap.size := ⟨_, rfl⟩
      obtain ⟨W5, hW5⟩ : ∃ W5, W5 = w4.alloc (.cells #[.int .i64 r, .int .i64 e] 30) := ⟨_, rfl⟩
      have A5 : Below w4.heap.size w4 W5 := by rw [hW5]; exact (Below.refl _ _).alloc (Nat.le_refl _) _
      have P5 := hid (show FB W5 b10 r e by rw [hW5, hb10]; exact fb_new w4 r e)
      have F5 := hid (fb_below F4.out A5)
      have O5 := hid (sown_below O4.out A5)
      have E5 := hid (E4.out.trans (A5.mono E4.out.size))
      have hb10w : w.heap.size ≤ b10 := by rw [hb10]; exact E4.out.size
      have hbb : b8 ≠ b10 := by omega
      rw [← hW5, ← hb10]
      clear hW5 A5 F4 O4 E4 x0 x1 x2 x3 x4 hb10
      refine (OPP.out _).mono ?_
      rintro e2 w6 ⟨rfl, b6⟩
      have P6 := hid (fb_below P5.out b6)
      have F6 := hid (fb_below F5.out b6)
      have O6 := hid (sown_below O5.out b6)
      have E6 := hid (E5.out.trans (b6.mono E5.out.size))
      obtain ⟨y0, y1, y2, y3, y4⟩ := fb_cells P6.out
      have P7 := hid (fb_set P6.out (-r) e)
      have F7 := hid (fb_other F6.out (x := b10) (fun h => hbb h.symm) (.int .i64 (-r)) (.int .i64 e))
      have O7 := hid (show SOwn w.heap.size ((w6.setCell ⟨b10, 0, none⟩ (.int .i64 (-r))).setCell ⟨b10, 1, none⟩ (.int .i64 e)) g3 c3 zs from ⟨O6.out.1, srow_fset O6.out.2 P6.out _ _⟩)
      have E7 := hid (fset_below E6.out hb10w (.int .i64 (-r)) (.int .i64 e))
      obtain ⟨w7, hw7⟩ : ∃ w7, w7 = (w6.setCell ⟨b10, 0, none⟩ (.int .i64 (-r))).setCell ⟨b10, 1, none⟩ (.int .i64 e) := ⟨_, rfl⟩
      rw [← hw7] at P7 F7 O7 E7
      obtain ⟨z0, z1, z2, z3, z4⟩ := fb_cells P7.out
      rw [hw7] at z0 z1
      clear b6 P5 F5 O5 E5
      go_wp2_with (fail)
      rw [← hw7]
      clear hw7 z0 z1 z2 z3 z4 y0 y1 y2 y3 y4 P6 F6 O6 E6
      refine (INV.out _).mono ?_
      rintro e2 w8 ⟨rfl, b8'⟩
      have F8 := hid (fb_below F7.out b8')
      have O8 := hid (sown_below O7.out b8')
      have E8 := hid (E7.out.trans (b8'.mono E7.out.size))
      obtain ⟨y0, y1, y2, y3, y4⟩ := fb_cells F8.out
      have O9 := hid (show ((w8.setCell ⟨b8, 0, none⟩ (.int .i64 e)).setCell ⟨b8, 1, none⟩ (.int .i64 (-r))).ownsRow w.heap.size 94 2 (.slice (some ⟨g3, 0, none⟩) zs.length c3) zs.length (sgCells zs) from srow_fset O8.out.2 F8.out _ _)
      have F9 := hid (fb_set F8.out e (-r))
      have E9 := hid (fset_below E8.out hb (.int .i64 e) (.int .i64 (-r)))
      clear b8'
      go_wp2_with (fail)
      go_roundw
      case rel => exact ⟨zs, -1, e, (-r), rfl, .inr rfl, by omega, by omega, by omega, by omega, HZ1.out.2, O9.out, F9.out, HM, E9.out⟩
      case measure =>
        have m1 := HLV.out
        have m2 := HL3.out
        have m3 := HZ1.out
        show 61 - zs.length < 61 - lenV _
        rw [m1]
        omega
    · obtain ⟨sg1, ab1⟩ := sg_pos' hneg
      rw [sg1, ab1] at HM
      have hr0 := SA.out
      rw [sg1, ab1] at hr0
      obtain ⟨_, hr1, hr2⟩ := hr0
      have INV := hid (fun w => implInv r e w (by omega))
      clear sg1 ab1
      go_wp2_with (fail)
      refine V3.out.mono ?_
      rintro e2 w4 ⟨rfl, b4⟩
      have E4 := hid (E3.out.trans (b4.mono E3.out.size))
      have F4 := hid (fb_below F3.out b4)
      have O4 := hid (sown_below OW.out b4)
      obtain ⟨x0, x1, x2, x3, x4⟩ := fb_cells F4.out
      clear b4 V3 E3 F3 OW
      go_wp2_with (fail)
      obtain ⟨b10, hb10⟩ : ∃ b10, b10 = w4.heap.size := ⟨_, rfl⟩
      obtain ⟨W5, hW5⟩ : ∃ W5, W5 = w4.alloc (.cells #[.int .i64 r, .int .i64 e] 30) := ⟨_, rfl⟩
      have A5 : Below w4.heap.size w4 W5 := by rw [hW5]; exact (Below.refl _ _).alloc (Nat.le_refl _) _
      have P5 := hid (show FB W5 b10 r e by rw [hW5, hb10]; exact fb_new w4 r e)
      have F5 := hid (fb_below F4.out A5)
      have O5 := hid (sown_below O4.out A5)
      have E5 := hid (E4.out.trans (A5.mono E4.out.size))
      have hb10w : w.heap.size ≤ b10 := by rw [hb10]; exact E4.out.size
      have hbb : b8 ≠ b10 := by omega
      rw [← hW5, ← hb10]
      clear hW5 A5 F4 O4 E4 x0 x1 x2 x3 x4 hb10
      refine (INV.out _).mono ?_
      rintro e2 w8 ⟨rfl, b8'⟩
      have F8 := hid (fb_below F5.out b8')
      have O8 := hid (sown_below O5.out b8')
      have E8 := hid (E5.out.trans (b8'.mono E5.out.size))
      obtain ⟨y0, y1, y2, y3, y4⟩ := fb_cells F8.out
      have O9 := hid (show ((w8.setCell ⟨b8, 0, none⟩ (.int .i64 e)).setCell ⟨b8, 1, none⟩ (.int .i64 r)).ownsRow w.heap.size 94 2 (.slice (some ⟨g3, 0, none⟩) zs.length c3) zs.length (sgCells zs) from srow_fset O8.out.2 F8.out _ _)
      have F9 := hid (fb_set F8.out e r)
      have E9 := hid (fset_below E8.out hb (.int .i64 e) (.int .i64 r))
      clear b8'
      go_wp2_with (fail)
      go_roundw
      case rel => exact ⟨zs, 1, e, r, rfl, .inl rfl, by omega, by omega, by omega, by omega, HZ1.out.2, O9.out, F9.out, HM, E9.out⟩
      case measure =>
        have m1 := HLV.out
        have m2 := HL3.out
        have m3 := HZ1.out
        show 61 - zs.length < 61 - lenV _
        rw [m1]
        omega

set_option maxRecDepth 100000 in
set_option maxHeartbeats 3200000 in
theorem expandRule2 (n d : Int) (a0 a1 a2 a3 : Addr) (w : World) (hs : Errs a0 a1 a2 a3 w) (h1 : -1000000000 ≤ n) (h2 : n ≤ 1000000000) (h3 : 1 ≤ d) (h4 : d ≤ 1000000000) :
    Calls Tryd.prog 109 #[.agg #[.int .i64 n, .int .i64 d], .iface 154 (.agg #[])] w fun e w' => SErrR a0 a1 a3 w.heap.size (sxc 2 [] 1 n d) e w' ∧ Below w.heap.size w w' := by
  obtain ⟨i0, hi, hz0, hz1, hz2⟩ := info_parts infoG
  have hm := method2
  have HS := hid hs
  have hT2 := hid (fun n d w => term2 n d w)
  clear hs
  go_enter Tryd.func109, Tryd.ntmps109
  go_wp2_with (fail)
  go_region
  obtain ⟨W, hW⟩ : ∃ W, W = ((w.alloc (.cells #[.int .i64 n, .int .i64 d] 30)).alloc (.cells #[.int .i64 n, .int .i64 d] 30)).drew := ⟨_, rfl⟩
  have E0 := hid (show Below w.heap.size w W by rw [hW]; exact (((Below.refl w.heap.size w).alloc (Nat.le_refl _) _).alloc (by simp) _).drew)
  obtain ⟨b8, hb8⟩ : ∃ b8, b8 = w.heap.size + 1 := ⟨_, rfl⟩
  have B0 := hid (show FB W b8 n d by
    rw [hW, hb8]
    have := fb_new (w.alloc (.cells #[.int .i64 n, .int .i64 d] 30)) n d
    rwa [World.size_alloc] at this)
  have hb : w.heap.size ≤ b8 := by omega
  rw [← hW, ← hb8]
  clear hW hb8
  go_wp2_with (fail)
  go_loopw [6, 7, 9, 10] (fun v u7 u9 u10 wr => ∃ (l : List (Int × Int)) (s m e : Int), u7 = .int .i64 s ∧ (s = 1 ∨ s = -1) ∧ -1000000000 ≤ m ∧ m ≤ 1000000000 ∧ 1 ≤ e ∧ e ≤ 1000000000 ∧ l.length ≤ 60 ∧ wr.ownsRow w.heap.size 94 2 v l.length (sgCells l) ∧ FB wr b8 m e ∧ Hid (sxc 2 [] 1 n d = sxc 2 l s m e) ∧ Below w.heap.size w wr) (fun v _ _ _ _ => 61 - lenV v)
  case atStart => exact ⟨[], 1, n, d, rfl, .inl rfl, h1, h2, h3, h4, by simp, World.ownsRow_nil _ _ _ _, B0.out, hid rfl, E0.out⟩
  case round =>
    obtain ⟨l, s, m, e, rfl, hs1, hm1, hm2, he1, he2, hl, hown, hfb, hst, hbel⟩ := hrel
    have HBEL := hid hbel
    have HOWN := hid hown
    have HFB := hid hfb
    obtain ⟨x0, x1, x2, x3, x4⟩ := fb_cells hfb
    have hbw : w.heap.size ≤ wr.heap.size := hbel.size
    have HLV := hid (lenV_row hown)
    have K1 := hid (kt_rest 2 m e he1)
    have K2 := hid (kt_bd 2 m e he1)
    have TT := hid (fun w => hT2.out m e w hm1 hm2 he1 he2)
    have SXB := hid (fun h => (hst.out).trans (sxc_bad (k := 2) (l := l) (s := s) (n := m) (d := e) h))
    have SXE := hid (fun h h0 => (hst.out).trans (sxc_end (k := 2) (l := l) (s := s) (n := m) (d := e) h h0))
    have SXM := hid (fun h h0 => (hst.out).trans (sxc_more (k := 2) (l := l) (s := s) (n := m) (d := e) h h0))
    clear hbel hown hfb hst
    generalize kt 2 m e = t at *
    go_wp2_with (fail)
    refine (TT.out _).mono ?_
    rintro e2 w1 ⟨rfl, b1⟩
    have E1 := hid (HBEL.out.trans (b1.mono hbw))
    have O1 := hid (HOWN.out.kept (below_grows b1) (Classical.em _))
    have F1 := hid (fb_below HFB.out b1)
    have hb1 : w.heap.size ≤ w1.heap.size := E1.out.size
    clear b1 TT HBEL HOWN HFB x0 x1 x2 x3 x4
    go_wp2_with (at_builtin; refine wpList_append_own _ rfl _ _ 24 rfl w.heap.size 94 i0 (.agg #[.int .i64 0, .int .i64 0]) 2 16 Tryd.underlying24 hi hz0 hz1 hz2 rfl (by decide) _ l.length (sgCells l) (by rfl) ?c0 ⟨w1.heap.size, 0, none⟩ 1 1 [.int .i64 s, .int .i64 t] (by rfl) ?c1 ?c2 ?c3 ?c4 ?c5 ?c6 ?c7)
    case c0 => exact O1.out.alloc _
    case c1 => rfl
    case c2 => exact snews2 _ _ _ _
    case c3 => exact sg_one _ _
    case c4 => unfold maxLen; omega
    case c5 => omega
    case c6 => (first | omega | (simp <;> omega))
    intro v2 w3 hown2 hgrow2 _
    have HO2 := hid (show w3.ownsRow w.heap.size 94 2 v2 (l ++ [(s, t)]).length (sgCells (l ++ [(s, t)])) by
      rw [← sgCells_more, List.length_append]; exact hown2)
    have E3 := hid ((E1.out.alloc hb1 (.cells #[.int .i64 s, .int .i64 t] 94)).grown hgrow2 (by first | omega | (simp <;> omega)) (fun k hk => (O1.out.lt k hk).1))
    have F3 := hid (show FB w3 b8 m e by
      have h8 := fb_below F1.out ((Below.refl _ _).alloc (Nat.le_refl _) (.cells #[.int .i64 s, .int .i64 t] 94))
      unfold FB
      rw [hgrow2.block b8 (fb_lt h8) (srow_other (O1.out.alloc _) h8 (by decide))]
      exact h8)
    have HL3 := hid (show (l ++ [(s, t)]).length = l.length + 1 by simp)
    obtain ⟨zs, hzs⟩ : ∃ zs, zs = l ++ [(s, t)] := ⟨_, rfl⟩
    rw [← hzs] at HO2 HL3 SXB SXE SXM
    obtain ⟨g3, c3, rfl, O3⟩ := srow_more HO2.out (by have := HL3.out; omega)
    have OW := hid O3
    have hlz : zs.length ≤ 2000000000 := by have := HL3.out; omega
    have V3 := hid (implValidS g3 c3 zs w3 hlz (sown_cap O3) (sown_sgs O3))
    have HS3 := hid (errs_below HS.out E3.out)
    clear hown2 hgrow2 hzs O3 O1 F1 E1 HO2
    cases hok : okS zs
    · rw [hok] at V3
      have HR := hid (SXB.out hok)
      clear SXB SXE SXM hok
      go_wp2_with (fail)
      refine V3.out.mono ?_
      rintro e2 w4 ⟨rfl, b4⟩
      have E4 := hid (E3.out.trans (b4.mono E3.out.size))
      have g0 := (errs_below HS3.out b4).2.2.2.1
      clear b4 V3
      go_wp2_with (fail)
      go_quiet (fail)
      go_wp2_with (fail)
      go_ret2
      exact ⟨⟨_, by rw [HR.out]; rfl, by rw [HR.out]; exact sback_nil⟩, below_drewN E4.out _⟩
    rw [hok] at V3
    have K1o := K1.out
    have K2o := K2.out
    have p1 : -2000000000 ≤ t * e := by omega
    have p2 : t * e ≤ 2000000000 := by omega
    have q1 : -1000000001 ≤ t := by omega
    have q2 : t ≤ 1000000001 := by omega
    have r1 : -1000000000 ≤ m - t * e := by omega
    have r2 : m - t * e ≤ 1000000000 := by omega
    have HZ1 := hid (show 1 ≤ zs.length ∧ zs.length ≤ 60 from okS_len hok)
    have RD := hid (show -e ≤ m - t * e ∧ m - t * e ≤ e from K1o)
    clear K1 K2 K1o K2o
    generalize hy : t * e = y at *
    generalize hr : m - y = r at *
    by_cases h0 : r = 0
    · subst h0
      have HR := hid (SXE.out hok rfl)
      clear SXB SXE SXM hok
      go_wp2_with (fail)
      refine V3.out.mono ?_
      rintro e2 w4 ⟨rfl, b4⟩
      have E4 := hid (E3.out.trans (b4.mono E3.out.size))
      have F4 := hid (fb_below F3.out b4)
      have O4 := hid (sown_below OW.out b4)
      obtain ⟨x0, x1, x2, x3, x4⟩ := fb_cells F4.out
      clear b4 V3
      go_wp2_with (fail)
      go_ret2
      exact ⟨⟨_, by rw [HR.out]; rfl, by rw [HR.out]; exact .inr ⟨_, _, rfl, sown_below O4.out ((Below.refl _ _).alloc (Nat.le_refl _) _)⟩⟩, E4.out.alloc E4.out.size _⟩
    have HM := hid (SXM.out hok h0)
    have h0' : (r == 0) = false := by simpa using h0
    have SA := hid (sg_ab h0 RD.out.1 RD.out.2)
    clear SXB SXE SXM hok
    by_cases hneg : r < 0
    · obtain ⟨sg1, ab1⟩ := sg_neg hneg
      rw [sg1, ab1] at HM
      have hr0 := SA.out
      rw [sg1, ab1] at hr0
      obtain ⟨_, hr1, hr2⟩ := hr0
      have OPP := hid (fun w => implOpp r e w (by omega) (by omega))
      have INV := hid (fun w => implInv (-r) e w (by omega))
      clear sg1 ab1
      go_wp2_with (fail)
      refine V3.out.mono ?_
      rintro e2 w4 ⟨rfl, b4⟩
      have E4 := hid (E3.out.trans (b4.mono E3.out.size))
      have F4 := hid (fb_below F3.out b4)
      have O4 := hid (sown_below OW.out b4)
      obtain ⟨x0, x1, x2, x3, x4⟩ := fb_cells F4.out
      clear b4 V3 E3 F3 OW
      go_wp2_with (fail)
      obtain ⟨b10, hb10⟩ : ∃ b10, b10 = w4.heap.size := ⟨_, rfl⟩
      obtain ⟨W5, hW5⟩ : ∃ W5, W5 = w4.alloc (.cells #[.int .i64 r, .int .i64 e] 30) := ⟨_, rfl⟩
      have A5 : Below w4.heap.size w4 W5 := by rw [hW5]; exact (Below.refl _ _).alloc (Nat.le_refl _) _
      have P5 := hid (show FB W5 b10 r e by rw [hW5, hb10]; exact fb_new w4 r e)
      have F5 := hid (fb_below F4.out A5)
      have O5 := hid (sown_below O4.out A5)
      have E5 := hid (E4.out.trans (A5.mono E4.out.size))
      have hb10w : w.heap.size ≤ b10 := by rw [hb10]; exact E4.out.size
      have hbb : b8 ≠ b10 := by omega
      rw [← hW5, ← hb10]
      clear hW5 A5 F4 O4 E4 x0 x1 x2 x3 x4 hb10
      refine (OPP.out _).mono ?_
      rintro e2 w6 ⟨rfl, b6⟩
      have P6 := hid (fb_below P5.out b6)
      have F6 := hid (fb_below F5.out b6)
      have O6 := hid (sown_below O5.out b6)
      have E6 := hid (E5.out.trans (b6.mono E5.out.size))
      obtain ⟨y0, y1, y2, y3, y4⟩ := fb_cells P6.out
      have P7 := hid (fb_set P6.out (-r) e)
      have F7 := hid (fb_other F6.out (x := b10) (fun h => hbb h.symm) (.int .i64 (-r)) (.int .i64 e))
      have O7 := hid (show SOwn w.heap.size ((w6.setCell ⟨b10, 0, none⟩ (.int .i64 (-r))).setCell ⟨b10, 1, none⟩ (.int .i64 e)) g3 c3 zs from ⟨O6.out.1, srow_fset O6.out.2 P6.out _ _⟩)
      have E7 := hid (fset_below E6.out hb10w (.int .i64 (-r)) (.int .i64 e))
      obtain ⟨w7, hw7⟩ : ∃ w7, w7 = (w6.setCell ⟨b10, 0, none⟩ (.int .i64 (-r))).setCell ⟨b10, 1, none⟩ (.int .i64 e) := ⟨_, rfl⟩
      rw [← hw7] at P7 F7 O7 E7
      obtain ⟨z0, z1, z2, z3, z4⟩ := fb_cells P7.out
      rw [hw7] at z0 z1
      clear b6 P5 F5 O5 E5
      go_wp2_with (fail)
      rw [← hw7]
      clear hw7 z0 z1 z2 z3 z4 y0 y1 y2 y3 y4 P6 F6 O6 E6
      refine (INV.out _).mono ?_
      rintro e2 w8 ⟨rfl, b8'⟩
      have F8 := hid (fb_below F7.out b8')
      have O8 := hid (sown_below O7.out b8')
      have E8 := hid (E7.out.trans (b8'.mono E7.out.size))
      obtain ⟨y0, y1, y2, y3, y4⟩ := fb_cells F8.out
      have O9 := hid (show ((w8.setCell ⟨b8, 0, none⟩ (.int .i64 e)).setCell ⟨b8, 1, none⟩ (.int .i64 (-r))).ownsRow w.heap.size 94 2 (.slice (some ⟨g3, 0, none⟩) zs.length c3) zs.length (sgCells zs) from srow_fset O8.out.2 F8.out _ _)
      have F9 := hid (fb_set F8.out e (-r))
      have E9 := hid (fset_below E8.out hb (.int .i64 e) (.int .i64 (-r)))
      clear b8'
      go_wp2_with (fail)
      go_roundw
      case rel => exact ⟨zs, -1, e, (-r), rfl, .inr rfl, by omega, by omega, by omega, by omega, HZ1.out.2, O9.out, F9.out, HM, E9.out⟩
      case measure =>
        have m1 := HLV.out
        have m2 := HL3.out
        have m3 := HZ1.out
        show 61 - zs.length < 61 - lenV _
        rw [m1]
        omega
    · obtain ⟨sg1, ab1⟩ := sg_pos' hneg
      rw [sg1, ab1] at HM
      have hr0 := SA.out
      rw [sg1, ab1] at hr0
      obtain ⟨_, hr1, hr2⟩ := hr0
      have INV := hid (fun w => implInv r e w (by omega))
      clear sg1 ab1
      go_wp2_with (fail)
      refine V3.out.mono ?_
      rintro e2 w4 ⟨rfl, b4⟩
      have E4 := hid (E3.out.trans (b4.mono E3.out.size))
      have F4 := hid (fb_below F3.out b4)
      have O4 := hid (sown_below OW.out b4)
      obtain ⟨x0, x1, x2, x3, x4⟩ := fb_cells F4.out
      clear b4 V3 E3 F3 OW
      go_wp2_with (fail)
      obtain ⟨b10, hb10⟩ : ∃ b10, b10 = w4.heap.size := ⟨_, rfl⟩
      obtain ⟨W5, hW5⟩ : ∃ W5, W5 = w4.alloc (.cells #[.int .i64 r, .int .i64 e] 30) := ⟨_, rfl⟩
      have A5 : Below w4.heap.size w4 W5 := by rw [hW5]; exact (Below.refl _ _).alloc (Nat.le_refl _) _
      have P5 := hid (show FB W5 b10 r e by rw [hW5, hb10]; exact fb_new w4 r e)
      have F5 := hid (fb_below F4.out A5)
      have O5 := hid (sown_below O4.out A5)
      have E5 := hid (E4.out.trans (A5.mono E4.out.size))
      have hb10w : w.heap.size ≤ b10 := by rw [hb10]; exact E4.out.size
      have hbb : b8 ≠ b10 := by omega
      rw [← hW5, ← hb10]
      clear hW5 A5 F4 O4 E4 x0 x1 x2 x3 x4 hb10
      refine (INV.out _).mono ?_
      rintro e2 w8 ⟨rfl, b8'⟩
      have F8 := hid (fb_below F5.out b8')
      have O8 := hid (sown_below O5.out b8')
      have E8 := hid (E5.out.trans (b8'.mono E5.out.size))
      obtain ⟨y0, y1, y2, y3, y4⟩ := fb_cells F8.out
      have O9 := hid (show ((w8.setCell ⟨b8, 0, none⟩ (.int .i64 e)).setCell ⟨b8, 1, none⟩ (.int .i64 r)).ownsRow w.heap.size 94 2 (.slice (some ⟨g3, 0, none⟩) zs.length c3) zs.length (sgCells zs) from srow_fset O8.out.2 F8.out _ _)
      have F9 := hid (fb_set F8.out e r)
      have E9 := hid (fset_below E8.out hb (.int .i64 e) (.int .i64 r))
      clear b8'
      go_wp2_with (fail)
      go_roundw
      case rel => exact ⟨zs, 1, e, r, rfl, .inl rfl, by omega, by omega, by omega, by omega, HZ1.out.2, O9.out, F9.out, HM, E9.out⟩
      case measure =>
        have m1 := HLV.out
        have m2 := HL3.out
        have m3 := HZ1.out
        show 61 - zs.length < 61 - lenV _
        rw [m1]
        omega

set_option maxRecDepth 100000 in
set_option maxHeartbeats 3200000 in
theorem expandRule3 (n d : Int) (a0 a1 a2 a3 : Addr) (w : World) (hs : Errs a0 a1 a2 a3 w) (h1 : -1000000000 ≤ n) (h2 : n ≤ 1000000000) (h3 : 1 ≤ d) (h4 : d ≤ 1000000000) :
    Calls Tryd.prog 109 #[.agg #[.int .i64 n, .int .i64 d], .iface 155 (.agg #[])] w fun e w' => SErrR a0 a1 a3 w.heap.size (sxc 3 [] 1 n d) e w' ∧ Below w.heap.size w w' := by
  obtain ⟨i0, hi, hz0, hz1, hz2⟩ := info_parts infoG
  have hm := method3
  have HS := hid hs
  have hT2 := hid (fun n d w => term3 n d w)
  clear hs
  go_enter Tryd.func109, Tryd.ntmps109
  go_wp2_with (fail)
  go_region
  obtain ⟨W, hW⟩ : ∃ W, W = ((w.alloc (.cells #[.int .i64 n, .int .i64 d] 30)).alloc (.cells #[.int .i64 n, .int .i64 d] 30)).drew := ⟨_, rfl⟩
  have E0 := hid (show Below w.heap.size w W by rw [hW]; exact (((Below.refl w.heap.size w).alloc (Nat.le_refl _) _).alloc (by simp) _).drew)
  obtain ⟨b8, hb8⟩ : ∃ b8, b8 = w.heap.size + 1 := ⟨_, rfl⟩
  have B0 := hid (show FB W b8 n d by
    rw [hW, hb8]
    have := fb_new (w.alloc (.cells #[.int .i64 n, .int .i64 d] 30)) n d
    rwa [World.size_alloc] at this)
  have hb : w.heap.size ≤ b8 := by omega
  rw [← hW, ← hb8]
  clear hW hb8
  go_wp2_with (fail)
  go_loopw [6, 7, 9, 10] (fun v u7 u9 u10 wr => ∃ (l : List (Int × Int)) (s m e : Int), u7 = .int .i64 s ∧ (s = 1 ∨ s = -1) ∧ -1000000000 ≤ m ∧ m ≤ 1000000000 ∧ 1 ≤ e ∧ e ≤ 1000000000 ∧ l.length ≤ 60 ∧ wr.ownsRow w.heap.size 94 2 v l.length (sgCells l) ∧ FB wr b8 m e ∧ Hid (sxc 3 [] 1 n d = sxc 3 l s m e) ∧ Below w.heap.size w wr) (fun v _ _ _ _ => 61 - lenV v)
  case atStart => exact ⟨[], 1, n, d, rfl, .inl rfl, h1, h2, h3, h4, by simp, World.ownsRow_nil _ _ _ _, B0.out, hid rfl, E0.out⟩
  case round =>
    obtain ⟨l, s, m, e, rfl, hs1, hm1, hm2, he1, he2, hl, hown, hfb, hst, hbel⟩ := hrel
    have HBEL := hid hbel
    have HOWN := hid hown
    have HFB := hid hfb
    obtain ⟨x0, x1, x2, x3, x4⟩ := fb_cells hfb
    have hbw : w.heap.size ≤ wr.heap.size := hbel.size
    have HLV := hid (lenV_row hown)
    have K1 := hid (kt_rest 3 m e he1)
    have K2 := hid (kt_bd 3 m e he1)
    have TT := hid (fun w => hT2.out m e w hm1 hm2 he1 he2)
    have SXB := hid (fun h => (hst.out).trans (sxc_bad (k := 3) (l := l) (s := s) (n := m) (d := e) h))
    have SXE := hid (fun h h0 => (hst.out).trans (sxc_end (k := 3) (l := l) (s := s) (n := m) (d := e) h h0))
    have SXM := hid (fun h h0 => (hst.out).trans (sxc_more (k := 3) (l := l) (s := s) (n := m) (d := e) h h0))
    clear hbel hown hfb hst
    generalize kt 3 m e = t at *
    go_wp2_with (fail)
    refine (TT.out _).mono ?_
    rintro e2 w1 ⟨rfl, b1⟩
    have E1 := hid (HBEL.out.trans (b1.mono hbw))
    have O1 := hid (HOWN.out.kept (below_grows b1) (Classical.em _))
    have F1 := hid (fb_below HFB.out b1)
    have hb1 : w.heap.size ≤ w1.heap.size := E1.out.size
    clear b1 TT HBEL HOWN HFB x0 x1 x2 x3 x4
    go_wp2_with (at_builtin; refine wpList_append_own _ rfl _ _ 24 rfl w.heap.size 94 i0 (.agg #[.int .i64 0, .int .i64 0]) 2 16 Tryd.underlying24 hi hz0 hz1 hz2 rfl (by decide) _ l.length (sgCells l) (by rfl) ?c0 ⟨w1.heap.size, 0, none⟩ 1 1 [.int .i64 s, .int .i64 t] (by rfl) ?c1 ?c2 ?c3 ?c4 ?c5 ?c6 ?c7)
    case c0 => exact O1.out.alloc _
    case c1 => rfl
    case c2 => exact snews2 _ _ _ _
    case c3 => exact sg_one _ _
    case c4 => unfold maxLen; omega
    case c5 => omega
    case c6 => (first | omega | (simp <;> omega))
    intro v2 w3 hown2 hgrow2 _
    have HO2 := hid (show w3.ownsRow w.heap.size 94 2 v2 (l ++ [(s, t)]).length (sgCells (l ++ [(s, t)])) by
      rw [← sgCells_more, List.length_append]; exact hown2)
    have E3 := hid ((E1.out.alloc hb1 (.cells #[.int .i64 s, .int .i64 t] 94)).grown hgrow2 (by first | omega | (simp <;> omega)) (fun k hk => (O1.out.lt k hk).1))
    have F3 := hid (show FB w3 b8 m e by
      have h8 := fb_below F1.out ((Below.refl _ _).alloc (Nat.le_refl _) (.cells #[.int .i64 s, .int .i64 t] 94))
      unfold FB
      rw [hgrow2.block b8 (fb_lt h8) (srow_other (O1.out.alloc _) h8 (by decide))]
      exact h8)
    have HL3 := hid (show (l ++ [(s, t)]).length = l.length + 1 by simp)
    obtain ⟨zs, hzs⟩ : ∃ zs, zs = l ++ [(s, t)] := ⟨_, rfl⟩
    rw [← hzs] at HO2 HL3 SXB SXE SXM
    obtain ⟨g3, c3, rfl, O3⟩ := srow_more HO2.out (by have := HL3.out; omega)
    have OW := hid O3
    have hlz : zs.length ≤ 2000000000 := by have := HL3.out; omega
    have V3 := hid (implValidS g3 c3 zs w3 hlz (sown_cap O3) (sown_sgs O3))
    have HS3 := hid (errs_below HS.out E3.out)
    clear hown2 hgrow2 hzs O3 O1 F1 E1 HO2
    cases hok : okS zs
    · rw [hok] at V3
      have HR := hid (SXB.out hok)
      clear SXB SXE SXM hok
      go_wp2_with (fail)
      refine V3.out.mono ?_
      rintro e2 w4 ⟨rfl, b4⟩
      have E4 := hid (E3.out.trans (b4.mono E3.out.size))
      have g0 := (errs_below HS3.out b4).2.2.2.1
      clear b4 V3
      go_wp2_with (fail)
      go_quiet (fail)
      go_wp2_with (fail)
      go_ret2
      exact ⟨⟨_, by rw [HR.out]; rfl, by rw [HR.out]; exact sback_nil⟩, below_drewN E4.out _⟩
    rw [hok] at V3
    have K1o := K1.out
    have K2o := K2.out
    have p1 : -2000000000 ≤ t * e := by omega
    have p2 : t * e ≤ 2000000000 := by omega
    have q1 : -1000000001 ≤ t := by omega
    have q2 : t ≤ 1000000001 := by omega
    have r1 : -1000000000 ≤ m - t * e := by omega
    have r2 : m - t * e ≤ 1000000000 := by omega
    have HZ1 := hid (show 1 ≤ zs.length ∧ zs.length ≤ 60 from okS_len hok)
    have RD := hid (show -e ≤ m - t * e ∧ m - t * e ≤ e from K1o)
    clear K1 K2 K1o K2o
    generalize hy : t * e = y at *
    generalize hr : m - y = r at *
    by_cases h0 : r = 0
    · subst h0
      have HR := hid (SXE.out hok rfl)
      clear SXB SXE SXM hok
      go_wp2_with (fail)
      refine V3.out.mono ?_
      rintro e2 w4 ⟨rfl, b4⟩
      have E4 := hid (E3.out.trans (b4.mono E3.out.size))
      have F4 := hid (fb_below F3.out b4)
      have O4 := hid (sown_below OW.out b4)
      obtain ⟨x0, x1, x2, x3, x4⟩ := fb_cells F4.out
      clear b4 V3
      go_wp2_with (fail)
      go_ret2
      exact ⟨⟨_, by rw [HR.out]; rfl, by rw [HR.out]; exact .inr ⟨_, _, rfl, sown_below O4.out ((Below.refl _ _).alloc (Nat.le_refl _) _)⟩⟩, E4.out.alloc E4.out.size _⟩
    have HM := hid (SXM.out hok h0)
    have h0' : (r == 0) = false := by simpa using h0
    have SA := hid (sg_ab h0 RD.out.1 RD.out.2)
    clear SXB SXE SXM hok
    by_cases hneg : r < 0
    · obtain ⟨sg1, ab1⟩ := sg_neg hneg
      rw [sg1, ab1] at HM
      have hr0 := SA.out
      rw [sg1, ab1] at hr0
      obtain ⟨_, hr1, hr2⟩ := hr0
      have OPP := hid (fun w => implOpp r e w (by omega) (by omega))
      have INV := hid (fun w => implInv (-r) e w (by omega))
      clear sg1 ab1
      go_wp2_with (fail)
      refine V3.out.mono ?_
      rintro e2 w4 ⟨rfl, b4⟩
      have E4 := hid (E3.out.trans (b4.mono E3.out.size))
      have F4 := hid (fb_below F3.out b4)
      have O4 := hid (sown_below OW.out b4)
      obtain ⟨x0, x1, x2, x3, x4⟩ := fb_cells F4.out
      clear b4 V3 E3 F3 OW
      go_wp2_with (fail)
      obtain ⟨b10, hb10⟩ : ∃ b10, b10 = w4.heap.size := ⟨_, rfl⟩
      obtain ⟨W5, hW5⟩ : ∃ W5, W5 = w4.alloc (.cells #[.int .i64 r, .int .i64 e] 30) := ⟨_, rfl⟩
      have A5 : Below w4.heap.size w4 W5 := by rw [hW5]; exact (Below.refl _ _).alloc (Nat.le_refl _) _
      have P5 := hid (show FB W5 b10 r e by rw [hW5, hb10]; exact fb_new w4 r e)
      have F5 := hid (fb_below F4.out A5)
      have O5 := hid (sown_below O4.out A5)
      have E5 := hid (E4.out.trans (A5.mono E4.out.size))
      have hb10w : w.heap.size ≤ b10 := by rw [hb10]; exact E4.out.size
      have hbb : b8 ≠ b10 := by omega
      rw [← hW5, ← hb10]
      clear hW5 A5 F4 O4 E4 x0 x1 x2 x3 x4 hb10
      refine (OPP.out _).mono ?_
      rintro e2 w6 ⟨rfl, b6⟩
      have P6 := hid (fb_below P5.out b6)
      have F6 := hid (fb_below F5.out b6)
      have O6 := hid (sown_below O5.out b6)
      have E6 := hid (E5.out.trans (b6.mono E5.out.size))
      obtain ⟨y0, y1, y2, y3, y4⟩ := fb_cells P6.out
      have P7 := hid (fb_set P6.out (-r) e)
      have F7 := hid (fb_other F6.out (x := b10) (fun h => hbb h.symm) (.int .i64 (-r)) (.int .i64 e))
      have O7 := hid (show SOwn w.heap.size ((w6.setCell ⟨b10, 0, none⟩ (.int .i64 (-r))).setCell ⟨b10, 1, none⟩ (.int .i64 e)) g3 c3 zs from ⟨O6.out.1, srow_fset O6.out.2 P6.out _ _⟩)
      have E7 := hid (fset_below E6.out hb10w (.int .i64 (-r)) (.int .i64 e))
      obtain ⟨w7, hw7⟩ : ∃ w7, w7 = (w6.setCell ⟨b10, 0, none⟩ (.int .i64 (-r))).setCell ⟨b10, 1, none⟩ (.int .i64 e) := ⟨_, rfl⟩
      rw [← hw7] at P7 F7 O7 E7
      obtain ⟨z0, z1, z2, z3, z4⟩ := fb_cells P7.out
      rw [hw7] at z0 z1
      clear b6 P5 F5 O5 E5
      go_wp2_with (fail)
      rw [← hw7]
      clear hw7 z0 z1 z2 z3 z4 y0 y1 y2 y3 y4 P6 F6 O6 E6
      refine (INV.out _).mono ?_
      rintro e2 w8 ⟨rfl, b8'⟩
      have F8 := hid (fb_below F7.out b8')
      have O8 := hid (sown_below O7.out b8')
      have E8 := hid (E7.out.trans (b8'.mono E7.out.size))
      obtain ⟨y0, y1, y2, y3, y4⟩ := fb_cells F8.out
      have O9 := hid (show ((w8.setCell ⟨b8, 0, none⟩ (.int .i64 e)).setCell ⟨b8, 1, none⟩ (.int .i64 (-r))).ownsRow w.heap.size 94 2 (.slice (some ⟨g3, 0, none⟩) zs.length c3) zs.length (sgCells zs) from srow_fset O8.out.2 F8.out _ _)
      have F9 := hid (fb_set F8.out e (-r))
      have E9 := hid (fset_below E8.out hb (.int .i64 e) (.int .i64 (-r)))
      clear b8'
      go_wp2_with (fail)
      go_roundw
      case rel => exact ⟨zs, -1, e, (-r), rfl, .inr rfl, by omega, by omega, by omega, by omega, HZ1.out.2, O9.out, F9.out, HM, E9.out⟩
      case measure =>
        have m1 := HLV.out
        have m2 := HL3.out
        have m3 := HZ1.out
        show 61 - zs.length < 61 - lenV _
        rw [m1]
        omega
    · obtain ⟨sg1, ab1⟩ := sg_pos' hneg
      rw [sg1, ab1] at HM
      have hr0 := SA.out
      rw [sg1, ab1] at hr0
      obtain ⟨_, hr1, hr2⟩ := hr0
      have INV := hid (fun w => implInv r e w (by omega))
      clear sg1 ab1
      go_wp2_with (fail)
      refine V3.out.mono ?_
      rintro e2 w4 ⟨rfl, b4⟩
      have E4 := hid (E3.out.trans (b4.mono E3.out.size))
      have F4 := hid (fb_below F3.out b4)
      have O4 := hid (sown_below OW.out b4)
      obtain ⟨x0, x1, x2, x3, x4⟩ := fb_cells F4.out
      clear b4 V3 E3 F3 OW
      go_wp2_with (fail)
      obtain ⟨b10, hb10⟩ : ∃ b10, b10 = w4.heap.size := ⟨_, rfl⟩
      obtain ⟨W5, hW5⟩ : ∃ W5, W5 = w4.alloc (.cells #[.int .i64 r, .int .i64 e] 30) := ⟨_, rfl⟩
      have A5 : Below w4.heap.size w4 W5 := by rw [hW5]; exact (Below.refl _ _).alloc (Nat.le_refl _) _
      have P5 := hid (show FB W5 b10 r e by rw [hW5, hb10]; exact fb_new w4 r e)
      have F5 := hid (fb_below F4.out A5)
      have O5 := hid (sown_below O4.out A5)
      have E5 := hid (E4.out.trans (A5.mono E4.out.size))
      have hb10w : w.heap.size ≤ b10 := by rw [hb10]; exact E4.out.size
      have hbb : b8 ≠ b10 := by omega
      rw [← hW5, ← hb10]
      clear hW5 A5 F4 O4 E4 x0 x1 x2 x3 x4 hb10
      refine (INV.out _).mono ?_
      rintro e2 w8 ⟨rfl, b8'⟩
      have F8 := hid (fb_below F5.out b8')
      have O8 := hid (sown_below O5.out b8')
      have E8 := hid (E5.out.trans (b8'.mono E5.out.size))
      obtain ⟨y0, y1, y2, y3, y4⟩ := fb_cells F8.out
      have O9 := hid (show ((w8.setCell ⟨b8, 0, none⟩ (.int .i64 e)).setCell ⟨b8, 1, none⟩ (.int .i64 r)).ownsRow w.heap.size 94 2 (.slice (some ⟨g3, 0, none⟩) zs.length c3) zs.length (sgCells zs) from srow_fset O8.out.2 F8.out _ _)
      have F9 := hid (fb_set F8.out e r)
      have E9 := hid (fset_below E8.out hb (.int .i64 e) (.int .i64 r))
      clear b8'
      go_wp2_with (fail)
      go_roundw
      case rel => exact ⟨zs, 1, e, r, rfl, .inl rfl, by omega, by omega, by omega, by omega, HZ1.out.2, O9.out, F9.out, HM, E9.out⟩
      case measure =>
        have m1 := HLV.out
        have m2 := HL3.out
        have m3 := HZ1.out
        show 61 - zs.length < 61 - lenV _
        rw [m1]
        omega

set_option maxRecDepth 100000 in
set_option maxHeartbeats 3200000 in
theorem expandRule4 (n d : Int) (a0 a1 a2 a3 : Addr) (w : World) (hs : Errs a0 a1 a2 a3 w) (h1 : -1000000000 ≤ n) (h2 : n ≤ 1000000000) (h3 : 1 ≤ d) (h4 : d ≤ 1000000000) :
    Calls Tryd.prog 109 #[.agg #[.int .i64 n, .int .i64 d], .iface 156 (.agg #[])] w fun e w' => SErrR a0 a1 a3 w.heap.size (sxc 4 [] 1 n d) e w' ∧ Below w.heap.size w w' := by
  obtain ⟨i0, hi, hz0, hz1, hz2⟩ := info_parts infoG
  have hm := method4
  have HS := hid hs
  have hT2 := hid (fun n d w => term4 n d w)
  clear hs
  go_enter Tryd.func109, Tryd.ntmps109
  go_wp2_with (fail)
  go_region
  obtain ⟨W, hW⟩ : ∃ W, W = ((w.alloc (.cells #[.int .i64 n, .int .i64 d] 30)).alloc (.cells #[.int .i64 n, .int .i64 d] 30)).drew := ⟨_, rfl⟩
  have E0 := hid (show Below w.heap.size w W by rw [hW]; exact (((Below.refl w.heap.size w).alloc (Nat.le_refl _) _).alloc (by simp) _).drew)
  obtain ⟨b8, hb8⟩ : ∃ b8, b8 = w.heap.size + 1 := ⟨_, rfl⟩
  have B0 := hid (show FB W b8 n d by
    rw [hW, hb8]
    have := fb_new (w.alloc (.cells #[.int .i64 n, .int .i64 d] 30)) n d
    rwa [World.size_alloc] at this)
  have hb : w.heap.size ≤ b8 := by omega
  rw [← hW, ← hb8]
  clear hW hb8
  go_wp2_with (fail)
  go_loopw [6, 7, 9, 10] (fun v u7 u9 u10 wr => ∃ (l : List (Int × Int)) (s m e : Int), u7 = .int .i64 s ∧ (s = 1 ∨ s = -1) ∧ -1000000000 ≤ m ∧ m ≤ 1000000000 ∧ 1 ≤ e ∧ e ≤ 1000000000 ∧ l.length ≤ 60 ∧ wr.ownsRow w.heap.size 94 2 v l.length (sgCells l) ∧ FB wr b8 m e ∧ Hid (sxc 4 [] 1 n d = sxc 4 l s m e) ∧ Below w.heap.size w wr) (fun v _ _ _ _ => 61 - lenV v)
  case atStart => exact ⟨[], 1, n, d, rfl, .inl rfl, h1, h2, h3, h4, by simp, World.ownsRow_nil _ _ _ _, B0.out, hid rfl, E0.out⟩
  case round =>
    obtain ⟨l, s, m, e, rfl, hs1, hm1, hm2, he1, he2, hl, hown, hfb, hst, hbel⟩ := hrel
    have HBEL := hid hbel
    have HOWN := hid hown
    have HFB := hid hfb
    obtain ⟨x0, x1, x2, x3, x4⟩ := fb_cells hfb
    have hbw : w.heap.size ≤ wr.heap.size := hbel.size
    have HLV := hid (lenV_row hown)
    have K1 := hid (kt_rest 4 m e he1)
    have K2 := hid (kt_bd 4 m e he1)
    have TT := hid (fun w => hT2.out m e w hm1 hm2 he1 he2)
    have SXB := hid (fun h => (hst.out).trans (sxc_bad (k := 4) (l := l) (s := s) (n := m) (d := e) h))
    have SXE := hid (fun h h0 => (hst.out).trans (sxc_end (k := 4) (l := l) (s := s) (n := m) (d := e) h h0))
    have SXM := hid (fun h h0 => (hst.out).trans (sxc_more (k := 4) (l := l) (s := s) (n := m) (d := e) h h0))
    clear hbel hown hfb hst
    generalize kt 4 m e = t at *
    go_wp2_with (fail)
    refine (TT.out _).mono ?_
    rintro e2 w1 ⟨rfl, b1⟩
    have E1 := hid (HBEL.out.trans (b1.mono hbw))
    have O1 := hid (HOWN.out.kept (below_grows b1) (Classical.em _))
    have F1 := hid (fb_below HFB.out b1)
    have hb1 : w.heap.size ≤ w1.heap.size := E1.out.size
    clear b1 TT HBEL HOWN HFB x0 x1 x2 x3 x4
    go_wp2_with (at_builtin; refine wpList_append_own _ rfl _ _ 24 rfl w.heap.size 94 i0 (.agg #[.int .i64 0, .int .i64 0]) 2 16 Tryd.underlying24 hi hz0 hz1 hz2 rfl (by decide) _ l.length (sgCells l) (by rfl) ?c0 ⟨w1.heap.size, 0, none⟩ 1 1 [.int .i64 s, .int .i64 t] (by rfl) ?c1 ?c2 ?c3 ?c4 ?c5 ?c6 ?c7)
    case c0 => exact O1.out.alloc _
    case c1 => rfl
    case c2 => exact snews2 _ _ _ _
    case c3 => exact sg_one _ _
    case c4 => unfold maxLen; omega
    case c5 => omega
    case c6 => (first | omega | (simp <;> omega))
    intro v2 w3 hown2 hgrow2 _
    have HO2 := hid (show w3.ownsRow w.heap.size 94 2 v2 (l ++ [(s, t)]).length (sgCells (l ++ [(s, t)])) by
      rw [← sgCells_more, List.length_append]; exact hown2)
    have E3 := hid ((E1.out.alloc hb1 (.cells #[.int .i64 s, .int .i64 t] 94)).grown hgrow2 (by first | omega | (simp <;> omega)) (fun k hk => (O1.out.lt k hk).1))
    have F3 := hid (show FB w3 b8 m e by
      have h8 := fb_below F1.out ((Below.refl _ _).alloc (Nat.le_refl _) (.cells #[.int .i64 s, .int .i64 t] 94))
      unfold FB
      rw [hgrow2.block b8 (fb_lt h8) (srow_other (O1.out.alloc _) h8 (by decide))]
      exact h8)
    have HL3 := hid (show (l ++ [(s, t)]).length = l.length + 1 by simp)
    obtain ⟨zs, hzs⟩ : ∃ zs, zs = l ++ [(s, t)] := ⟨_, rfl⟩
    rw [← hzs] at HO2 HL3 SXB SXE SXM
    obtain ⟨g3, c3, rfl, O3⟩ := srow_more HO2.out (by have := HL3.out; omega)
    have OW := hid O3
    have hlz : zs.length ≤ 2000000000 := by have := HL3.out; omega
    have V3 := hid (implValidS g3 c3 zs w3 hlz (sown_cap O3) (sown_sgs O3))
    have HS3 := hid (errs_below HS.out E3.out)
    clear hown2 hgrow2 hzs O3 O1 F1 E1 HO2
    cases hok : okS zs
    · rw [hok] at V3
      have HR := hid (SXB.out hok)
      clear SXB SXE SXM hok
      go_wp2_with (fail)
      refine V3.out.mono ?_
      rintro e2 w4 ⟨rfl, b4⟩
      have E4 := hid (E3.out.trans (b4.mono E3.out.size))
      have g0 := (errs_below HS3.out b4).2.2.2.1
      clear b4 V3
      go_wp2_with (fail)
      go_quiet (fail)
      go_wp2_with (fail)
      go_ret2
      exact ⟨⟨_, by rw [HR.out]; rfl, by rw [HR.out]; exact sback_nil⟩, below_drewN E4.out _⟩
    rw [hok] at V3
    have K1o := K1.out
    have K2o := K2.out
    have p1 : -2000000000 ≤ t * e := by omega
    have p2 : t * e ≤ 2000000000 := by omega
    have q1 : -1000000001 ≤ t := by omega
    have q2 : t ≤ 1000000001 := by omega
    have r1 : -1000000000 ≤ m - t * e := by omega
    have r2 : m - t * e ≤ 1000000000 := by omega
    have HZ1 := hid (show 1 ≤ zs.length ∧ zs.length ≤ 60 from okS_len hok)
    have RD := hid (show -e ≤ m - t * e ∧ m - t * e ≤ e from K1o)
    clear K1 K2 K1o K2o
    generalize hy : t * e = y at *
    generalize hr : m - y = r at *
    by_cases h0 : r = 0
    · subst h0
      have HR := hid (SXE.out hok rfl)
      clear SXB SXE SXM hok
      go_wp2_with (fail)
      refine V3.out.mono ?_
      rintro e2 w4 ⟨rfl, b4⟩
      have E4 := hid (E3.out.trans (b4.mono E3.out.size))
      have F4 := hid (fb_below F3.out b4)
      have O4 := hid (sown_below OW.out b4)
      obtain ⟨x0, x1, x2, x3, x4⟩ := fb_cells F4.out
      clear b4 V3
      go_wp2_with (fail)
      go_ret2
      exact ⟨⟨_, by rw [HR.out]; rfl, by rw [HR.out]; exact .inr ⟨_, _, rfl, sown_below O4.out ((Below.refl _ _).alloc (Nat.le_refl _) _)⟩⟩, E4.out.alloc E4.out.size _⟩
    have HM := hid (SXM.out hok h0)
    have h0' : (r == 0) = false := by simpa using h0
    have SA := hid (sg_ab h0 RD.out.1 RD.out.2)
    clear SXB SXE SXM hok
    by_cases hneg : r < 0
    · obtain ⟨sg1, ab1⟩ := sg_neg hneg
      rw [sg1, ab1] at HM
      have hr0 := SA.out
      rw [sg1, ab1] at hr0
      obtain ⟨_, hr1, hr2⟩ := hr0
      have OPP := hid (fun w => implOpp r e w (by omega) (by omega))
      have INV := hid (fun w => implInv (-r) e w (by omega))
      clear sg1 ab1
      go_wp2_with (fail)
      refine V3.out.mono ?_
      rintro e2 w4 ⟨rfl, b4⟩
      have E4 := hid (E3.out.trans (b4.mono E3.out.size))
      have F4 := hid (fb_below F3.out b4)
      have O4 := hid (sown_below OW.out b4)
      obtain ⟨x0, x1, x2, x3, x4⟩ := fb_cells F4.out
      clear b4 V3 E3 F3 OW
      go_wp2_with (fail)
      obtain ⟨b10, hb10⟩ : ∃ b10, b10 = w4.heap.size := ⟨_, rfl⟩
      obtain ⟨W5, hW5⟩ : ∃ W5, W5 = w4.alloc (.cells #[.int .i64 r, .int .i64 e] 30) := ⟨_, rfl⟩
      have A5 : Below w4.heap.size w4 W5 := by rw [hW5]; exact (Below.refl _ _).alloc (Nat.le_refl _) _
      have P5 := hid (show FB W5 b10 r e by rw [hW5, hb10]; exact fb_new w4 r e)
      have F5 := hid (fb_below F4.out A5)
      have O5 := hid (sown_below O4.out A5)
      have E5 := hid (E4.out.trans (A5.mono E4.out.size))
      have hb10w : w.heap.size ≤ b10 := by rw [hb10]; exact E4.out.size
      have hbb : b8 ≠ b10 := by omega
      rw [← hW5, ← hb10]
      clear hW5 A5 F4 O4 E4 x0 x1 x2 x3 x4 hb10
      refine (OPP.out _).mono ?_
      rintro e2 w6 ⟨rfl, b6⟩
      have P6 := hid (fb_below P5.out b6)
      have F6 := hid (fb_below F5.out b6)
      have O6 := hid (sown_below O5.out b6)
      have E6 := hid (E5.out.trans (b6.mono E5.out.size))
      obtain ⟨y0, y1, y2, y3, y4⟩ := fb_cells P6.out
      have P7 := hid (fb_set P6.out (-r) e)
      have F7 := hid (fb_other F6.out (x := b10) (fun h => hbb h.symm) (.int .i64 (-r)) (.int .i64 e))
      have O7 := hid (show SOwn w.heap.size ((w6.setCell ⟨b10, 0, none⟩ (.int .i64 (-r))).setCell ⟨b10, 1, none⟩ (.int .i64 e)) g3 c3 zs from ⟨O6.out.1, srow_fset O6.out.2 P6.out _ _⟩)
      have E7 := hid (fset_below E6.out hb10w (.int .i64 (-r)) (.int .i64 e))
      obtain ⟨w7, hw7⟩ : ∃ w7, w7 = (w6.setCell ⟨b10, 0, none⟩ (.int .i64 (-r))).setCell ⟨b10, 1, none⟩ (.int .i64 e) := ⟨_, rfl⟩
      rw [← hw7] at P7 F7 O7 E7
      obtain ⟨z0, z1, z2, z3, z4⟩ := fb_cells P7.out
      rw [hw7] at z0 z1
      clear b6 P5 F5 O5 E5
      go_wp2_with (fail)
      rw [← hw7]
      clear hw7 z0 z1 z2 z3 z4 y0 y1 y2 y3 y4 P6 F6 O6 E6
      refine (INV.out _).mono ?_
      rintro e2 w8 ⟨rfl, b8'⟩
      have F8 := hid (fb_below F7.out b8')
      have O8 := hid (sown_below O7.out b8')
      have E8 := hid (E7.out.trans (b8'.mono E7.out.size))
      obtain ⟨y0, y1, y2, y3, y4⟩ := fb_cells F8.out
      have O9 := hid (show ((w8.setCell ⟨b8, 0, none⟩ (.int .i64 e)).setCell ⟨b8, 1, none⟩ (.int .i64 (-r))).ownsRow w.heap.size 94 2 (.slice (some ⟨g3, 0, none⟩) zs.length c3) zs.length (sgCells zs) from srow_fset O8.out.2 F8.out _ _)
      have F9 := hid (fb_set F8.out e (-r))
      have E9 := hid (fset_below E8.out hb (.int .i64 e) (.int .i64 (-r)))
      clear b8'
      go_wp2_with (fail)
      go_roundw
      case rel => exact ⟨zs, -1, e, (-r), rfl, .inr rfl, by omega, by omega, by omega, by omega, HZ1.out.2, O9.out, F9.out, HM, E9.out⟩
      case measure =>
        have m1 := HLV.out
        have m2 := HL3.out
        have m3 := HZ1.out
        show 61 - zs.length < 61 - lenV _
        rw [m1]
        omega
    · obtain ⟨sg1, ab1⟩ := sg_pos' hneg
      rw [sg1, ab1] at HM
      have hr0 := SA.out
      rw [sg1, ab1] at hr0
      obtain ⟨_, hr1, hr2⟩ := hr0
      have INV := hid (fun w => implInv r e w (by omega))
      clear sg1 ab1
      go_wp2_with (fail)
      refine V3.out.mono ?_
      rintro e2 w4 ⟨rfl, b4⟩
      have E4 := hid (E3.out.trans (b4.mono E3.out.size))
      have F4 := hid (fb_below F3.out b4)
      have O4 := hid (sown_below OW.out b4)
      obtain ⟨x0, x1, x2, x3, x4⟩ := fb_cells F4.out
      clear b4 V3 E3 F3 OW
      go_wp2_with (fail)
      obtain ⟨b10, hb10⟩ : ∃ b10, b10 = w4.heap.size := ⟨_, rfl⟩
      obtain ⟨W5, hW5⟩ : ∃ W5, W5 = w4.alloc (.cells #[.int .i64 r, .int .i64 e] 30) := ⟨_, rfl⟩
      have A5 : Below w4.heap.size w4 W5 := by rw [hW5]; exact (Below.refl _ _).alloc (Nat.le_refl _) _
      have P5 := hid (show FB W5 b10 r e by rw [hW5, hb10]; exact fb_new w4 r e)
      have F5 := hid (fb_below F4.out A5)
      have O5 := hid (sown_below O4.out A5)
      have E5 := hid (E4.out.trans (A5.mono E4.out.size))
      have hb10w : w.heap.size ≤ b10 := by rw [hb10]; exact E4.out.size
      have hbb : b8 ≠ b10 := by omega
      rw [← hW5, ← hb10]
      clear hW5 A5 F4 O4 E4 x0 x1 x2 x3 x4 hb10
      refine (INV.out _).mono ?_
      rintro e2 w8 ⟨rfl, b8'⟩
      have F8 := hid (fb_below F5.out b8')
      have O8 := hid (sown_below O5.out b8')
      have E8 := hid (E5.out.trans (b8'.mono E5.out.size))
      obtain ⟨y0, y1, y2, y3, y4⟩ := fb_cells F8.out
      have O9 := hid (show ((w8.setCell ⟨b8, 0, none⟩ (.int .i64 e)).setCell ⟨b8, 1, none⟩ (.int .i64 r)).ownsRow w.heap.size 94 2 (.slice (some ⟨g3, 0, none⟩) zs.length c3) zs.length (sgCells zs) from srow_fset O8.out.2 F8.out _ _)
      have F9 := hid (fb_set F8.out e r)
      have E9 := hid (fset_below E8.out hb (.int .i64 e) (.int .i64 r))
      clear b8'
      go_wp2_with (fail)
      go_roundw
      case rel => exact ⟨zs, 1, e, r, rfl, .inl rfl, by omega, by omega, by omega, by omega, HZ1.out.2, O9.out, F9.out, HM, E9.out⟩
      case measure =>
        have m1 := HLV.out
        have m2 := HL3.out
        have m3 := HZ1.out
        show 61 - zs.length < 61 - lenV _
        rw [m1]
        omega

end Go.Proofs.YtipegemhcmfnmaaDoor
