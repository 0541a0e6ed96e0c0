/- Contract: the text of terms with signs, as the program writes it. -/
import Derived.Test.YtipegemhcmfnmaaDoorStm
import Derived.Test.YtipegemhcmfnmaaDoorFmt
import Derived.Test.YtipegemhcmfnmaaDoorSp
import Derived.Test.YtipegemhcmfnmaaDoorFb
import Derived.Test.YtipegemhcmfnmaaDoorShelfJ
import Derived.Test.YtipegemhcmfnmaaDoorShelfB
namespace Go.Proofs.YtipegemhcmfnmaaDoor
open Go.RowKit Go.Lib

def PowS (w : World) : Prop := TabIs Tryd.prog w "internal/strconv.uint64pow10" .u64 pow10Tab
theorem pows_below {w w' : World} (h : PowS w) (hb : Below w.heap.size w w') : PowS w' := tab_below h hb

theorem implEl (s t : Int) (w : World) (hs : s = 1 ∨ s = -1) (h1 : -1000000000 ≤ t) (h2 : t ≤ 1000000000) (hp : PowS w) :
    Calls Tryd.prog 84 #[.agg #[.int .i64 s, .int .i64 t]] w fun e w' => e = .returned (.string ⟨(el (s, t)).toArray⟩) ∧ Below w.heap.size w w' := by
  have A : Below w.heap.size w (w.alloc (.cells #[.int .i64 s, .int .i64 t] 94)) := (Below.refl _ _).alloc (Nat.le_refl _) _
  have D := hid (implDec t _ (by omega) (by omega) (pows_below hp A))
  have EA := hid A
  have HL := hid (itoa_len20 (n := t) (by omega))
  have HE := hid (show el (s, t) = (if s < 0 then 45 else 43) :: itoa t from rfl)
  clear A hp
  generalize itoa t = st at *
  have hq := HL.out
  have hq1 : ¬ 9223372036854775807 < 1 + st.length := by omega
  have hq2 : ¬ 9223372036854775807 < st.length + 1 := by omega
  rcases hs with rfl | rfl
  · have HR := hid (show (⟨#[43]⟩ ++ ⟨st.toArray⟩ : ByteArray) = ⟨(el (1, t)).toArray⟩ from bytes_of (by rw [HE.out, if_neg (by decide), bytes_more _ _ st rfl]; rfl))
    clear HE hq
    go_enter Tryd.func84, Tryd.ntmps84
    go_wp2_with (fail)
    refine D.out.mono ?_
    rintro e w1 ⟨rfl, b1⟩
    have E1 := hid (EA.out.trans (b1.mono EA.out.size))
    clear b1
    go_wp2_with (fail)
    go_ret
    exact ⟨by rw [← HR.out]; rfl, E1.out⟩
  · have HR := hid (show (⟨#[45]⟩ ++ ⟨st.toArray⟩ : ByteArray) = ⟨(el (-1, t)).toArray⟩ from bytes_of (by rw [HE.out, if_pos (by decide), bytes_more _ _ st rfl]; rfl))
    clear HE hq
    go_enter Tryd.func84, Tryd.ntmps84
    go_wp2_with (fail)
    refine D.out.mono ?_
    rintro e w1 ⟨rfl, b1⟩
    have E1 := hid (EA.out.trans (b1.mono EA.out.size))
    clear b1
    go_wp2_with (fail)
    go_ret
    exact ⟨by rw [← HR.out]; rfl, E1.out⟩

set_option maxRecDepth 100000 in
set_option maxHeartbeats 1600000 in
theorem implTextS (g c : Nat) (xs : List (Int × Int)) (w : World) (hx : xs.length ≤ 2000000000) (hc : xs.length ≤ c) (ha : Sgs w g 0 xs) (hp : PowS w) :
    Calls Tryd.prog 53 #[.slice (some ⟨g, 0, none⟩) xs.length c] w fun e w' => e = .returned (.string ⟨(sgO xs).toArray⟩) ∧ Below w.heap.size w w' := by
  obtain ⟨i0, hi, hz0, hz1, hz2⟩ := info_parts info9
  have HA := hid ha
  have HP := hid hp
  have V := hid (implValidS g c xs w hx hc ha)
  clear ha hp hc
  cases hok : okS xs
  · rw [hok] at V
    rw [sgO_no hok]
    clear hok
    go_enter Tryd.func53, Tryd.ntmps53
    go_wp2_with (fail)
    refine V.out.mono ?_
    rintro e w1 ⟨rfl, b1⟩
    have E1 := hid b1
    clear b1
    go_wp2_with (fail)
    go_ret
    exact ⟨rfl, E1.out⟩
  rw [hok] at V
  rw [sgO_ok hok]
  obtain ⟨h1, h2⟩ := okS_len hok
  have HB := hid (fun j x hj => okS_bd hok (j := j) (x := x) hj)
  have HJ := hid (join_el hok)
  clear hok
  go_enter Tryd.func53, Tryd.ntmps53
  go_wp2_with (fail)
  refine V.out.mono ?_
  rintro e w1 ⟨rfl, b1⟩
  have E1 := hid b1
  clear b1 V
  go_wp2_with (fail)
  go_loopw [3, 5, 11] (fun v u i wr => ∃ (k : Nat) (ts : List ByteArray), i = .int .i64 k ∧ k ≤ xs.length ∧ ts.length = k ∧ wr.ownsRow w.heap.size 9 1 v ts.length (strCells ts) ∧ Hid (ts.map (·.data.toList) = (xs.take k).map el) ∧ Below w.heap.size w wr) (fun _ _ i _ => xs.length - (RowKit.intOf i).toNat)
  case atStart => exact ⟨0, [], rfl, by omega, rfl, World.ownsRow_nil _ _ _ _, hid rfl, E1.out⟩
  case round =>
    obtain ⟨k, ts, rfl, hk, htk, hown, hts, hbel⟩ := hrel
    have HBEL := hid hbel
    have HOWN := hid hown
    have hk0 : (0 : Int) ≤ (k : Int) := by omega
    have hHTK := hid htk
    have hbw : w.heap.size ≤ wr.heap.size := hbel.size
    by_cases hlt : k < xs.length
    · have hlt' : (k : Int) < (xs.length : Int) := by omega
      obtain ⟨⟨s, t⟩, hxk⟩ : ∃ t, xs[k]? = some t := ⟨_, List.getElem?_eq_getElem hlt⟩
      obtain ⟨ca1, ca2⟩ := sgs_at (sgs_below HA.out hbel) hxk
      dsimp only at ca1 ca2
      obtain ⟨hs1, ht1, ht2⟩ := HB.out _ _ hxk
      dsimp only at hs1 ht1 ht2
      have A1 : Below wr.heap.size wr (wr.alloc (.cells #[.int .i64 s, .int .i64 t] 94)) := (Below.refl _ _).alloc (Nat.le_refl _) _
      have EW := hid (HBEL.out.trans (A1.mono hbw))
      have OW := hid (HOWN.out.kept (below_grows A1) (Classical.em _))
      have DK := hid (implEl s t _ hs1 ht1 ht2 (pows_below HP.out EW.out))
      have HTS := hid (show (ts ++ [(⟨(el (s, t)).toArray⟩ : ByteArray)]).map (·.data.toList) = (xs.take (k + 1)).map el by
        rw [List.map_append, hts.out, List.take_add_one, hxk, List.map_append]; rfl)
      generalize el (s, t) = st at *
      clear hbel hxk hown hts htk A1 hs1
      go_wp2_with (fail)
      refine DK.out.mono ?_
      rintro e w2 ⟨rfl, b2⟩
      have E2 := hid (EW.out.trans (b2.mono EW.out.size))
      have hb2 : w.heap.size ≤ w2.heap.size := E2.out.size
      have O2 := hid (OW.out.kept (below_grows b2) (Classical.em _))
      have hl60 : ts.length ≤ 60 := by have := hHTK.out; omega
      clear b2 DK
      go_wp2_with (at_builtin; refine wpList_append_own _ rfl _ _ 88 rfl w.heap.size 9 i0 (.string ByteArray.empty) 1 16 Tryd.underlying88 hi hz0 hz1 hz2 rfl (by decide) _ ts.length (strCells ts) (by rfl) ?c0 ⟨w2.heap.size, 0, none⟩ 1 1 [.string ⟨st.toArray⟩] (by rfl) ?c1 ?c2 ?c3 ?c4 ?c5 ?c6 ?c7)
      case c0 => exact O2.out.alloc _
      case c1 => rfl
      case c2 => exact news_one _ _ _
      case c3 => intro u hu; obtain rfl := List.mem_singleton.1 hu; rfl
      case c4 => unfold maxLen; omega
      case c5 => omega
      case c6 => (first | omega | (simp <;> omega))
      intro v2 w3 hown2 hgrow2 _
      have HO2 := hid (show w3.ownsRow w.heap.size 9 1 v2 (ts ++ [(⟨st.toArray⟩ : ByteArray)]).length (strCells (ts ++ [(⟨st.toArray⟩ : ByteArray)])) by
        rw [← strCells_more, List.length_append]; exact hown2)
      have HE2 := hid ((E2.out.alloc hb2 _).grown hgrow2 (by first | omega | (simp <;> omega)) (fun g hg => (O2.out.lt g hg).1))
      have HL2 := hid (show (ts ++ [(⟨st.toArray⟩ : ByteArray)]).length = k + 1 by have := hHTK.out; simp; omega)
      obtain ⟨us, hus⟩ : ∃ us, us = ts ++ [(⟨st.toArray⟩ : ByteArray)] := ⟨_, rfl⟩
      rw [← hus] at HO2 HL2 HTS
      clear hown2 hgrow2 hus
      go_wp2_with (fail)
      go_roundw
      case rel => exact ⟨k + 1, us, by go_num, by omega, HL2.out, HO2.out, HTS, HE2.out⟩
      case measure => simp [RowKit.intOf]; omega
    · have hlt' : ¬ (k : Int) < (xs.length : Int) := by omega
      have htl : ts.map (·.data.toList) = xs.map el := by rw [hts.out, List.take_of_length_le (by omega)]
      obtain ⟨g5, c5, rfl, hg5, own5⟩ := rowOf_own HOWN.out rfl rfl (by omega)
      have hcap : ts.length ≤ c5 := by
        rcases own5.2 with ⟨h', _⟩ | ⟨g', cap', cur, h', _, _, hnc, _⟩
        · simp at h'
        · simp only [Value.slice.injEq] at h'; omega
      have hg6 : g5 < wr.heap.size := (own5.lt _ rfl).2
      have J := hid (Tryd.strings_Join g5 0 c5 ts ⟨#[32]⟩ wr (fun j x hj => by rw [Nat.zero_add]; exact row_cells own5 j _ (by unfold strCells; rw [List.getElem?_map, hj]; rfl)) hg6 (by omega) hcap (by
        rw [htl]
        have := sjoin_len (xs.map el) (fun x hx => by
          obtain ⟨y, hy, rfl⟩ := List.mem_map.1 hx
          obtain ⟨j, hj⟩ := List.mem_iff_getElem?.1 hy
          exact el_len (HB.out j y hj).2)
        rw [List.length_map] at this
        show (join (xs.map el) [32]).length ≤ _
        omega))
      rw [htl] at J
      have e32 : (⟨#[32]⟩ : ByteArray).data.toList = [32] := rfl
      rw [e32, HJ.out] at J
      have TP := hid (Tryd.strings_TrimPrefix ⟨(43 :: sgT xs).toArray⟩ ⟨#[43]⟩)
      have e43 : trimPrefix (⟨(43 :: sgT xs).toArray⟩ : ByteArray).data.toList (⟨#[43]⟩ : ByteArray).data.toList = sgT xs := by
        show trimPrefix (43 :: sgT xs) [43] = sgT xs
        unfold trimPrefix hasPrefix
        simp
      rw [e43] at TP
      clear htl hbel hown hts own5 hHTK htk e43 e32
      generalize (⟨(43 :: sgT xs).toArray⟩ : ByteArray) = S at *
      go_wp2_with (fail)
      refine J.out.mono ?_
      rintro e w2 ⟨rfl, b2⟩
      have E2 := hid (HBEL.out.trans (b2.mono HBEL.out.size))
      clear b2
      go_wp2_with (fail)
      refine (TP.out _).mono ?_
      rintro e u ⟨rfl, hu⟩
      rw [hu]
      clear hu
      go_wp2_with (fail)
      go_ret
      exact ⟨rfl, E2.out⟩

end Go.Proofs.YtipegemhcmfnmaaDoor
