/- Contract: terms with signs are read by the program. -/
import Derived.Test.YtipegemhcmfnmaaDoorRsl
namespace Go.Proofs.YtipegemhcmfnmaaDoor
open Go.RowKit Go.Lib

set_option maxRecDepth 100000 in
set_option maxHeartbeats 20000000 in
theorem implRS (s : ByteArray) (w : World) (hs : s.size ≤ 1048576) (hw : Wg w) :
    Calls Tryd.prog 55 #[.string s] w fun e w' => SBoolR w.heap.size (rsG s.data.toList) e w' ∧ Below w.heap.size w w' := by
  obtain ⟨i0, hi, hz0, hz1, hz2⟩ := info_parts infoG
  obtain ⟨mm, hmm⟩ := hw.2.2.2
  have hsz : ((⟨#[43]⟩ ++ s : ByteArray)).size = s.size + 1 := by
    rw [ByteArray.size_append]; show 1 + s.size = _; omega
  have SP := hid (Tryd.strings_Split (⟨#[43]⟩ ++ s) ⟨#[32]⟩ mm w (by rw [hsz]; omega) hmm (by decide))
  obtain ⟨lp1, lp2⟩ := libParts s
  have hll : s.data.toList.length ≤ 1048576 := by rw [data_len]; exact hs
  rw [← lp2] at SP
  have lp3 := congrArg List.length lp1
  rw [List.length_map] at lp3
  have lp4 := partsG_le s.data.toList
  have lp5 := partsG_len s.data.toList
  generalize Lib.splitB ⟨#[32]⟩ 0 (countB (⟨#[43]⟩ ++ s) ⟨#[32]⟩) (⟨#[43]⟩ ++ s) = ps at *
  have hpl : ps.length ≤ 1048577 := by omega
  have hp1 : 1 ≤ ps.length := by omega
  have HP := hid lp1
  have HLL := hid hll
  have HW := hid hw
  have hq1 : ¬ 9223372036854775807 < 1 + s.size := by omega
  clear lp1 lp2 lp3 lp4 lp5 hll hmm hw hsz
  go_enter Tryd.func55, Tryd.ntmps55
  go_wp2_with (fail)
  refine SP.out.mono ?_
  rintro e u ⟨rfl, hu⟩
  have E0 := hid (show Below w.heap.size w u by rw [hu]; exact (Below.refl _ _).alloc (Nat.le_refl _) _)
  have P0 := hid (show PR u w.heap.size ps by
    rw [hu]
    intro j x hj
    unfold World.cell?
    rw [World.alloc_heap_new]
    simp [hj])
  have HU := hid (wg_below HW.out E0.out)
  clear hu SP HW
  go_wp2_with (fail)
  go_loopw [4, 6, 7, 8, 13] (fun v _ _ _ i wr => ∃ (k : Nat) (ys : List (Int × Int)), i = .int .i64 k ∧ k ≤ ps.length ∧ ys.length = k ∧ wr.ownsRow u.heap.size 94 2 v ys.length (sgCells ys) ∧ Hid (rdEs ((partsG s.data.toList).take k) = some ys) ∧ Below u.heap.size u wr) (fun _ _ _ _ i _ => ps.length - (RowKit.intOf i).toNat)
  case atStart => exact ⟨0, [], rfl, by omega, rfl, World.ownsRow_nil _ _ _ _, hid rfl, Below.refl _ _⟩
  case round =>
    obtain ⟨k, ys, rfl, hk, hyk, hown, hrd, hbel⟩ := hrel
    have HBEL := hid hbel
    have HOWN := hid hown
    have hk0 : (0 : Int) ≤ (k : Int) := by omega
    have hbw : u.heap.size ≤ wr.heap.size := hbel.size
    by_cases hlt : k < ps.length
    · have hlt' : (k : Int) < (ps.length : Int) := by omega
      obtain ⟨x, hxk⟩ : ∃ t, ps[k]? = some t := ⟨_, List.getElem?_eq_getElem hlt⟩
      have cx := pr_below P0.out hbel k x hxk
      obtain ⟨s1, s2, s3⟩ := rs_step HP.out hxk hrd.out
      have C := hid (implST x wr (by have := HLL.out; omega) (wg_below HU.out hbel))
      have HV := hid (show stV x.data.toList = .tuple #[.agg #[.int .i64 (stS x.data.toList).1, .int .i64 (stS x.data.toList).2.1], .bool (stS x.data.toList).2.2] from rfl)
      rw [HV.out] at C
      generalize stS x.data.toList = r at *
      obtain ⟨a, t, b⟩ := r
      have S2 := hid s2
      have S3 := hid s3
      have HYK := hid hyk
      clear hbel hxk hown hrd hyk s1 s2 s3 HV
      dsimp only at C
      cases b
      · have HR := hid (S2.out rfl)
        clear S2 S3
        go_wp2_with (fail)
        refine C.out.mono ?_
        rintro e w2 ⟨rfl, b2⟩
        have E2 := hid (HBEL.out.trans (b2.mono hbw))
        clear b2
        go_wp2_with (fail)
        go_ret2
        exact ⟨⟨_, by rw [HR.out]; rfl, by rw [HR.out]; exact rs_nil⟩, E0.out.trans ((E2.out.alloc E2.out.size _).mono E0.out.size)⟩
      · have HR := hid (S3.out rfl)
        clear S2 S3
        go_wp2_with (fail)
        refine C.out.mono ?_
        rintro e w2 ⟨rfl, b2⟩
        have E2 := hid (HBEL.out.trans (b2.mono hbw))
        have O2 := hid (HOWN.out.kept (below_grows b2) (Classical.em _))
        have hb2 : u.heap.size ≤ w2.heap.size := E2.out.size
        have hl6 : ys.length ≤ 1048577 := by have := HYK.out; omega
        clear b2 C
        go_wp2_with (at_builtin; refine wpList_append_own _ rfl _ _ 24 rfl u.heap.size 94 i0 (.agg #[.int .i64 0, .int .i64 0]) 2 16 Tryd.underlying24 hi hz0 hz1 hz2 rfl (by decide) _ ys.length (sgCells ys) (by rfl) ?c0 ⟨w2.heap.size + 1, 0, none⟩ 1 1 [.int .i64 a, .int .i64 t] (by rfl) ?c1 ?c2 ?c3 ?c4 ?c5 ?c6 ?c7)
        case c0 => exact (O2.out.alloc _).alloc _
        case c1 => rfl
        case c2 =>
          have h := snews2 (w2.alloc (.cells #[.int .i64 a, .int .i64 t] 94)) (.int .i64 a) (.int .i64 t) 94
          rw [World.size_alloc] at h
          exact h
        case c3 => exact rs_one _ _
        case c4 => unfold maxLen; omega
        case c5 => omega
        case c6 => (first | omega | (simp <;> omega))
        intro v2 w3 hown2 hgrow2 _
        have HO2 := hid (show w3.ownsRow u.heap.size 94 2 v2 (ys ++ [(a, t)]).length (sgCells (ys ++ [(a, t)])) by
          rw [← sgCells_more, List.length_append]; exact hown2)
        have E3 := hid (((E2.out.alloc hb2 (.cells #[.int .i64 a, .int .i64 t] 94)).alloc (by rw [World.size_alloc]; omega) (.cells #[.int .i64 a, .int .i64 t] 94)).grown hgrow2 (by first | omega | (simp <;> omega)) (fun k hk => (O2.out.lt k hk).1))
        have HL3 := hid (show (ys ++ [(a, t)]).length = k + 1 by have := HYK.out; simp; omega)
        obtain ⟨zs, hzs⟩ : ∃ zs, zs = ys ++ [(a, t)] := ⟨_, rfl⟩
        have HR2 := hid (show rdEs ((partsG s.data.toList).take (k + 1)) = some zs by rw [hzs]; exact HR.out)
        rw [← hzs] at HO2 HL3
        clear hown2 hgrow2 hzs HR
        go_wp2_with (fail)
        go_roundw
        case rel => exact ⟨k + 1, zs, by go_num, by omega, HL3.out, HO2.out, HR2, E3.out⟩
        case measure => simp [RowKit.intOf]; omega
    · have hlt' : ¬ (k : Int) < (ps.length : Int) := by omega
      have HALL := hid (show rdEs (partsG s.data.toList) = some ys by
        have h1 := hrd.out
        rw [List.take_of_length_le (by rw [← HP.out, List.length_map]; omega)] at h1
        exact h1)
      obtain ⟨g3, c3, rfl, O3⟩ := rs_more hown (by omega)
      have O3H := hid O3
      have V := hid (implValidS g3 c3 ys wr (by omega) (sown_cap O3) (sown_sgs O3))
      have HNO := hid (fun h => rsG_no HALL.out h)
      have HOK := hid (fun h => rsG_ok HALL.out h)
      clear hbel hown hrd hyk O3 HOWN
      generalize okS ys = b at *
      cases b
      · have HR := hid (HNO.out rfl)
        clear HNO HOK
        go_wp2_with (fail)
        refine V.out.mono ?_
        rintro e w4 ⟨rfl, b4⟩
        have E4 := hid (HBEL.out.trans (b4.mono hbw))
        clear b4
        go_wp2_with (fail)
        go_ret2
        exact ⟨⟨_, by rw [HR.out]; rfl, by rw [HR.out]; exact rs_nil⟩, E0.out.trans (E4.out.mono E0.out.size)⟩
      · have HR := hid (HOK.out rfl)
        clear HNO HOK
        go_wp2_with (fail)
        refine V.out.mono ?_
        rintro e w4 ⟨rfl, b4⟩
        have E4 := hid (HBEL.out.trans (b4.mono hbw))
        have O4 := hid (sown_below O3H.out b4)
        clear b4
        go_wp2_with (fail)
        go_ret2
        exact ⟨⟨_, by rw [HR.out]; rfl, by rw [HR.out]; exact .inr ⟨_, _, rfl, sown_mono O4.out E0.out.size⟩⟩, E0.out.trans (E4.out.mono E0.out.size)⟩

end Go.Proofs.YtipegemhcmfnmaaDoor
