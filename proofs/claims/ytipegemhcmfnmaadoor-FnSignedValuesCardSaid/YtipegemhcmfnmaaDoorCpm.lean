/- Contract: all convergents of terms with signs, by the model. -/
import Derived.Test.YtipegemhcmfnmaaDoorCpl
namespace Go.Proofs.YtipegemhcmfnmaaDoor
open Go.RowKit

set_option maxRecDepth 100000 in
set_option maxHeartbeats 3200000 in
theorem specCvs (g c : Nat) (xs : List (Int × Int)) (w : World) (hok : okS xs = true) (ha : Sgs w g 0 xs) :
    Calls Tryd.prog 62 #[.slice (some ⟨g, 0, none⟩) xs.length c] w fun e w' => FListR w.heap.size (scv 1 0 0 1 xs) e w' ∧ Below w.heap.size w w' := by
  obtain ⟨i0, hi, hz0, hz1, hz2⟩ := info_parts infoF
  have HI := hid hi
  clear hi
  have HA := hid ha
  have HO := hid (okS_iff.1 hok)
  obtain ⟨hx1, hx60⟩ := okS_len hok
  clear ha hok
  go_enter Tryd.func62, Tryd.ntmps62
  go_wp2_with (fail)
  have R0 := hid (show (w.alloc (.cells #[] 30)).ownsRow w.heap.size 30 2 (.slice (some ⟨w.heap.size, 0, none⟩) 0 0) 0 (frCells []) from
    World.ownsRow_lit w #[] 0 (Nat.le_refl _) (by decide) rfl)
  have E0 := hid ((Below.refl w.heap.size w).alloc (Nat.le_refl _) (.cells #[] 30))
  go_loopw [4, 5, 6, 7, 8, 9, 10, 11, 12, 13] (fun v u5 u6 u7 u8 i u10 u11 u12 u13 wr => ∃ (k : Nat) (l : List (Int × Int)) (p q pp qq : Int), i = .int .i64 k ∧ u5 = .int .i64 p ∧ u6 = .int .i64 q ∧ u7 = .int .i64 pp ∧ u8 = .int .i64 qq ∧ k ≤ xs.length ∧ l.length ≤ k ∧ wr.ownsRow w.heap.size 30 2 v l.length (frCells l) ∧ Bd p ∧ Bd q ∧ Bd pp ∧ Bd qq ∧ Nbr p q pp qq ∧ Hid (scv 1 0 0 1 xs = app l (scv p q pp qq (xs.drop k))) ∧ Below w.heap.size w wr) (fun _ _ _ _ _ i _ _ _ _ _ => xs.length - (RowKit.intOf i).toNat)
  case atStart => exact ⟨0, [], 1, 0, 0, 1, rfl, rfl, rfl, rfl, rfl, by omega, by simp, R0.out, by constructor <;> omega, by constructor <;> omega, by constructor <;> omega, by constructor <;> omega, .inl (by decide), hid (by
    rw [List.drop_zero]
    unfold app
    split
    · rename_i h; rw [List.nil_append]; exact Prod.ext rfl h
    · rename_i h; exact Prod.ext ((scv_code xs 1 0 0 1).2 h) rfl), E0.out⟩
  case round =>
    obtain ⟨k, l, p, q, pp, qq, rfl, rfl, rfl, rfl, rfl, hk, hlk, hown, hp, hq, hpp, hqq, hnb, hst, hbel⟩ := hrel
    have HBEL := hid hbel
    have HOWN := hid hown
    have hk0 : (0 : Int) ≤ (k : Int) := by omega
    have hbw : w.heap.size ≤ wr.heap.size := hbel.size
    by_cases hlt : k < xs.length
    · have hlt' : (k : Int) < (xs.length : Int) := by omega
      obtain ⟨⟨s, t⟩, hxk⟩ : ∃ x, xs[k]? = some x := ⟨_, List.getElem?_eq_getElem hlt⟩
      obtain ⟨ca1, ca2⟩ := sgs_at HA.out hxk
      have hgl : g < w.heap.size := World.block_lt_of_cell? _ _ ca1
      have da1 := (hbel.cell (p := ⟨g, k * 2, none⟩) hgl).trans ca1
      have da2 := (hbel.cell (p := ⟨g, k * 2 + 1, none⟩) hgl).trans ca2
      dsimp only at da1 da2
      obtain ⟨hs1, ht1, ht2, _, _⟩ := okAt_facts (HO.out.2 k _ hxk)
      dsimp only at hs1 ht1 ht2
      have ht : Bd t := ⟨ht1, ht2⟩
      have hst2 := hst.out
      rw [List.drop_eq_getElem_cons hlt, (List.getElem?_eq_some_iff.1 hxk).2] at hst2
      have HST := hid hst2
      have HN2 := hid (nbr_step (t := t) hnb hs1)
      obtain ⟨m1, m2⟩ := bd_mul ht hp
      obtain ⟨m3, m4⟩ := bd_mul ht hq
      obtain ⟨m5, m6⟩ := sg_mul hs1 hpp
      obtain ⟨m7, m8⟩ := sg_mul hs1 hqq
      have n1 : -2000000000000000000 ≤ t * p + s * pp := by omega
      have n2 : t * p + s * pp ≤ 2000000000000000000 := by omega
      have n3 : -2000000000000000000 ≤ t * q + s * qq := by omega
      have n4 : t * q + s * qq ≤ 2000000000000000000 := by omega
      have HP := hid hp
      have HQ := hid hq
      have SC0 := hid (fun h => HST.out.trans (congrArg (app l) (scv_zero (p := p) (q := q) (pp := pp) (qq := qq) (s := s) (t := t) (r := xs.drop (k + 1)) h)))
      have SC1 := hid (fun h h2 => HST.out.trans (congrArg (app l) (scv_full (p := p) (q := q) (pp := pp) (qq := qq) (s := s) (t := t) (r := xs.drop (k + 1)) h h2)))
      have SC2 := hid (fun h h2 => HST.out.trans (congrArg (app l) (scv_more (p := p) (q := q) (pp := pp) (qq := qq) (s := s) (t := t) (r := xs.drop (k + 1)) h h2)))
      clear hst hst2 hown hbel hp hq hpp hqq ca1 ca2 hxk HST hnb ht
      generalize hx1' : t * p = x1 at *
      generalize hx2' : t * q = x2 at *
      generalize hx3' : s * pp = x3 at *
      generalize hx4' : s * qq = x4 at *
      have hgc := nbr_gc HN2.out
      generalize hnp : x1 + x3 = bp at *
      generalize hnq : x2 + x4 = bq at *
      go_wp2_with (fail)
      go_quiet (fail)
      go_wp2_with (fail)
      go_quiet (fail)
      by_cases hz : bq = 0
      · subst hz
        have HR := hid (SC0.out rfl)
        clear SC0 SC1 SC2 hgc
        go_wp2_with (fail)
        go_ret2
        exact ⟨⟨_, by rw [HR.out]; rfl, by rw [HR.out]; exact .inl ⟨rfl, rfl⟩⟩, below_drewN HBEL.out _⟩
      have e1 := low_nbr hgc
      have e2 := ok_nbr hgc hz
      have HRR := hid (show lowR bp bq = fullR (nrm bp bq).1 (nrm bp bq).2 (okF (nrm bp bq).1 (nrm bp bq).2) by rw [← e1]; rfl)
      have FL := hid (fun w => specFull bp bq w (by omega) (by omega) (by omega) (by omega) hz)
      rw [HRR.out, e2] at FL
      have hz' : (bq == 0) = false := by simpa using hz
      cases hbd : (bdN bp && bdN bq)
      · rw [hbd, fullR_no] at FL
        have HR := hid (SC1.out hz hbd)
        clear SC0 SC1 SC2 hgc hbd hz HRR e1 e2
        go_wp2_with (fail)
        refine (FL.out _).mono ?_
        rintro e w4 ⟨rfl, b4⟩
        have E4 := hid ((below_drewN HBEL.out _).trans (b4.mono hbw))
        clear b4 FL
        go_wp2_with (fail)
        go_ret2
        exact ⟨⟨_, by rw [HR.out]; rfl, by rw [HR.out]; exact .inl ⟨rfl, rfl⟩⟩, E4.out.alloc E4.out.size _⟩
      · rw [hbd, fullR_yes] at FL
        have HR := hid (SC2.out hz hbd)
        obtain ⟨hnp1, hnq1⟩ := nrm_bd hbd
        have HNP := hid hnp1
        have HNQ := hid hnq1
        obtain ⟨k1, k2⟩ := hnp1
        obtain ⟨k3, k4⟩ := hnq1
        have S1 := hid (fun w => specSize bq w (by omega) (by omega))
        have S2 := hid (fun w => specSize bp w (by omega) (by omega))
        have s1 : ¬ (1000000000 : Int) < (bq.natAbs : Int) := by omega
        have s2 : ¬ (1000000000 : Int) < (bp.natAbs : Int) := by omega
        clear SC0 SC1 SC2 hgc hbd hz HRR e1 e2
        rw [app_app] at HR
        generalize nrm bp bq = z at *
        obtain ⟨z0, z1⟩ := z
        dsimp only at FL
        go_wp2_with (fail)
        refine (FL.out _).mono ?_
        rintro e w4 ⟨rfl, b4⟩
        have E3 := hid ((below_drewN HBEL.out _).trans (b4.mono hbw))
        have E4 := hid (E3.out.alloc E3.out.size (.cells #[.int .i64 z0, .int .i64 z1] 30))
        have A4 : Below w4.heap.size w4 (w4.alloc (.cells #[.int .i64 z0, .int .i64 z1] 30)) := (Below.refl _ _).alloc (Nat.le_refl _) _
        have O3 := HOWN.out.kept (below_grows ((below_drewN (Below.refl _ _) _).trans b4)) (Classical.em _)
        have O4 := hid (O3.kept (below_grows A4) (Classical.em _))
        have Z4 := hid (fb_new w4 z0 z1)
        obtain ⟨u0, u1, _, _, _⟩ := fb_cells Z4.out
        have hb4 : w.heap.size ≤ w4.heap.size + 1 := by have := E3.out.size; omega
        clear b4 FL O3 A4
        dsimp only
        go_wp2_with (fail)
        refine (S1.out _).mono ?_
        rintro e w5 ⟨rfl, rfl⟩
        go_wp2_with (fail)
        refine (S2.out _).mono ?_
        rintro e w5 ⟨rfl, rfl⟩
        go_wp2_with (at_builtin; refine wpList_append_own _ rfl _ _ 26 rfl w.heap.size 30 i0 (.agg #[.int .i64 0, .int .i64 0]) 2 16 Tryd.underlying26 HI.out hz0 hz1 hz2 rfl (by decide) _ l.length (frCells l) (by rfl) ?c0 ⟨w4.heap.size + 1, 0, none⟩ 1 1 [.int .i64 z0, .int .i64 z1] (by rfl) ?c1 ?c2 ?c3 ?c4 ?c5 ?c6 ?c7)
        case c0 => exact O4.out.alloc _
        case c1 => rfl
        case c2 =>
          have h := news2 (w4.alloc (.cells #[.int .i64 z0, .int .i64 z1] 30)) (.int .i64 z0) (.int .i64 z1) 30
          rw [World.size_alloc] at h
          exact h
        case c3 => intro u hu; rcases List.mem_cons.1 hu with rfl | hu; rfl; obtain rfl := List.mem_singleton.1 hu; rfl
        case c4 => unfold maxLen; omega
        case c5 => omega
        case c6 => (first | omega | (simp <;> omega))
        intro v2 w5 hown2 hgrow2 _
        have HO2 := hid (show w5.ownsRow w.heap.size 30 2 v2 (l ++ [(z0, z1)]).length (frCells (l ++ [(z0, z1)])) by
          rw [← frCells_more, List.length_append]; exact hown2)
        have E5 := hid ((E4.out.alloc E4.out.size (.cells #[.int .i64 z0, .int .i64 z1] 30)).grown hgrow2 (by first | omega | (simp <;> omega)) (fun k hk => (O4.out.lt k hk).1))
        have HL5 := hid (show (l ++ [(z0, z1)]).length ≤ k + 1 by simp; omega)
        obtain ⟨zs, hzs⟩ : ∃ zs, zs = l ++ [(z0, z1)] := ⟨_, rfl⟩
        rw [← hzs] at HO2 HR HL5
        clear hown2 hgrow2 hzs u0 u1
        go_wp2_with (fail)
        go_roundw
        case rel => exact ⟨k + 1, zs, bp, bq, p, q, by go_num, rfl, rfl, rfl, rfl, by omega, HL5.out, HO2.out, HNP.out, HNQ.out, HP.out, HQ.out, HN2.out, HR, E5.out⟩
        case measure => simp only [RowKit.intOf]; omega
    · have hlt' : ¬ (k : Int) < (xs.length : Int) := by omega
      have HR := hid (show scv 1 0 0 1 xs = (l, 0) by
        rw [hst.out, List.drop_eq_nil_of_le (by omega)]
        show (l ++ [], (0 : Int)) = _
        rw [List.append_nil])
      clear hst hown hbel
      go_wp2_with (fail)
      go_ret2
      exact ⟨⟨_, by rw [HR.out]; rfl, by rw [HR.out]; exact frow_back HOWN.out rfl⟩, HBEL.out⟩

end Go.Proofs.YtipegemhcmfnmaaDoor
