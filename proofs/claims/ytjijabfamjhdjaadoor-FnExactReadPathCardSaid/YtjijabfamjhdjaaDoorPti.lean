/- Contract: the text of a path, as the program writes it. -/
import Derived.Test.YtjijabfamjhdjaaDoorPtx
import Derived.Test.YtjijabfamjhdjaaDoorFmt
import Derived.Test.YtjijabfamjhdjaaDoorSp
import Derived.Test.YtjijabfamjhdjaaDoorShelfJ
namespace Go.Proofs.YtjijabfamjhdjaaDoor
open Go.RowKit Go.Lib

def PowP (w : World) : Prop := TabIs Tryd.prog w "internal/strconv.uint64pow10" .u64 pow10Tab
theorem powp_below {w w' : World} (h : PowP w) (hb : Below w.heap.size w w') : PowP w' := tab_below h hb

theorem implLetter (k : Nat) (w : World) (hk : k ≤ 1000000) :
    Calls Tryd.prog 62 #[.int .i64 k] w fun e w' => e = .returned (.string ⟨#[if k % 2 = 0 then 82 else 76]⟩) ∧ w' = w := by
  have hk0 : (0 : Int) ≤ (k : Int) := by omega
  by_cases hev : k % 2 = 0
  · have hrr : (((k : Int).tmod 2) == 0) = true := by rw [Int.tmod_eq_emod_of_nonneg (by omega)]; rw [show (k : Int) % 2 = 0 by omega]; rfl
    have hrr2 : ((k : Int) % 2 == 0) = true := by rw [show (k : Int) % 2 = 0 by omega]; rfl
    rw [if_pos hev]
    go_enter Tryd.func62, Tryd.ntmps62
    go_wp2_with (fail)
    go_ret
    exact ⟨rfl, rfl⟩
  · have hrr : (((k : Int).tmod 2) == 0) = false := by rw [Int.tmod_eq_emod_of_nonneg (by omega)]; rw [show (k : Int) % 2 = 1 by omega]; rfl
    have hrr2 : ((k : Int) % 2 == 0) = false := by rw [show (k : Int) % 2 = 1 by omega]; rfl
    rw [if_neg hev]
    go_enter Tryd.func62, Tryd.ntmps62
    go_wp2_with (fail)
    go_ret
    exact ⟨rfl, rfl⟩

set_option maxRecDepth 100000 in
set_option maxHeartbeats 3200000 in
theorem implTextP (g c : Nat) (xs : List Int) (w : World) (hx : xs.length ≤ 2000000000) (hc : xs.length ≤ c) (ha : Ints w g 0 xs) (hp : PowP w) :
    Calls Tryd.prog 30 #[.slice (some ⟨g, 0, none⟩) xs.length c] w fun e w' => e = .returned (.string ⟨(ptO xs).toArray⟩) ∧ Below w.heap.size w w' := by
  obtain ⟨i0, hi, hz0, hz1, hz2⟩ := info_parts info9
  have HA := hid ha
  have HP := hid hp
  have V := hid (implValidPath g c xs w hx hc ha)
  clear ha hp hc
  cases hok : okP xs
  · rw [hok] at V
    rw [ptO_no hok]
    clear hok
    go_enter Tryd.func30, Tryd.ntmps30
    go_wp2_with (fail)
    refine V.out.mono ?_
    rintro e w1 ⟨rfl, b1⟩
    have E1 := hid b1
    clear b1
    go_wp2_with (fail)
    go_ret
    exact ⟨rfl, E1.out⟩
  rw [hok] at V
  rw [ptO_ok hok]
  by_cases hne : xs = []
  · subst hne
    go_enter Tryd.func30, Tryd.ntmps30
    go_wp2_with (fail)
    refine V.out.mono ?_
    rintro e w1 ⟨rfl, b1⟩
    have E1 := hid b1
    clear b1
    go_wp2_with (fail)
    go_ret
    exact ⟨rfl, E1.out⟩
  have hl := okP_len hok
  have hpos := List.length_pos_iff.2 hne
  have hl0 : ((xs.length : Int) == 0) = false := by simpa using hne
  have HB := hid (fun j x hj => okP_bd hok (xs := xs) (j := j) (x := x) hj)
  have HJ := hid (ptT_more hne)
  have HNE := hid (rns_ne hok hne)
  have HLN := hid (fun k => rns_len21 hok k)
  clear hok
  go_enter Tryd.func30, Tryd.ntmps30
  go_wp2_with (fail)
  refine V.out.mono ?_
  rintro e w1 ⟨rfl, b1⟩
  have E1 := hid b1
  clear b1 V
  go_wp2_with (fail)
  go_loopw [3, 4, 5, 14] (fun v _ _ i wr => ∃ (k : Nat) (ts : List ByteArray), i = .int .i64 k ∧ k ≤ xs.length ∧ ts.length ≤ k ∧ wr.ownsRow w.heap.size 9 1 v ts.length (strCells ts) ∧ Hid (ts.map (·.data.toList) = rns 0 (xs.take k)) ∧ Below w.heap.size w wr) (fun _ _ _ i _ => xs.length - (RowKit.intOf i).toNat)
  case atStart => exact ⟨0, [], rfl, by omega, Nat.le_refl _, World.ownsRow_nil _ _ _ _, hid rfl, E1.out⟩
  case round =>
    obtain ⟨k, ts, rfl, hk, htk, hown, hts, hbel⟩ := hrel
    have HBEL := hid hbel
    have HOWN := hid hown
    have hk0 : (0 : Int) ≤ (k : Int) := by omega
    have hHTK := hid htk
    have hbw : w.heap.size ≤ wr.heap.size := hbel.size
    by_cases hlt : k < xs.length
    · have hlt' : (k : Int) < (xs.length : Int) := by omega
      obtain ⟨x, hxk⟩ : ∃ t, xs[k]? = some t := ⟨_, List.getElem?_eq_getElem hlt⟩
      have ca1 := ints_at (ints_below HA.out hbel) hxk
      obtain ⟨ht1, ht2⟩ := HB.out _ _ hxk
      by_cases hx0 : x = 0
      · subst hx0
        have HTS := hid (show ts.map (·.data.toList) = rns 0 (xs.take (k + 1)) by rw [rns_zero hxk]; exact hts.out)
        clear hbel hxk hown hts htk
        go_wp2_with (fail)
        go_roundw
        case rel => exact ⟨k + 1, ts, by go_num, by omega, by have := hHTK.out; omega, HOWN.out, HTS, HBEL.out⟩
        case measure => simp [RowKit.intOf]; omega
      have hxp : (0 : Int) < x := by omega
      have L := hid (fun w => implLetter k w (by omega))
      have DK := hid (fun (w2 : World) (h : Below w.heap.size w w2) => implDec x w2 (by omega) (by omega) (powp_below HP.out h))
      have HST := hid (show (itoa x).length ≤ 20 from itoa_len20 (by omega))
      have HRN := hid (show (⟨#[if k % 2 = 0 then 82 else 76]⟩ ++ ⟨(itoa x).toArray⟩ : ByteArray) = ⟨(rn k x).toArray⟩ from bytes_of (by unfold rn; simp [ByteArray.data_append]))
      have HTS := hid (show (ts ++ [(⟨(rn k x).toArray⟩ : ByteArray)]).map (·.data.toList) = rns 0 (xs.take (k + 1)) by
        rw [List.map_append, hts.out, rns_more hxk hx0]; rfl)
      have hl1 : (⟨#[if k % 2 = 0 then 82 else 76]⟩ : ByteArray).size = 1 := rfl
      generalize (⟨#[if k % 2 = 0 then 82 else 76]⟩ : ByteArray) = LT at *
      generalize itoa x = sx at *
      generalize rn k x = st at *
      have hq := HST.out
      have hq1 : ¬ 9223372036854775807 < LT.size + sx.length := by omega
      have hq2 : ¬ 9223372036854775807 < 1 + sx.length := by omega
      clear hbel hxk hown hts htk
      go_wp2_with (fail)
      refine (L.out _).mono ?_
      rintro e u ⟨rfl, hu⟩
      rw [hu]
      clear hu
      go_wp2_with (fail)
      refine (DK.out _ HBEL.out).mono ?_
      rintro e w2 ⟨rfl, b2⟩
      have E2 := hid (HBEL.out.trans (b2.mono HBEL.out.size))
      have hb2 : w.heap.size ≤ w2.heap.size := E2.out.size
      have O2 := hid (HOWN.out.kept (below_grows b2) (Classical.em _))
      have hl60 : ts.length ≤ 60 := by have := hHTK.out; omega
      clear b2 DK
      go_wp2_with (at_builtin; rw [HRN.out]; refine wpList_append_own _ rfl _ _ 35 rfl w.heap.size 9 i0 (.string ByteArray.empty) 1 16 Tryd.underlying35 hi hz0 hz1 hz2 rfl (by decide) _ ts.length (strCells ts) (by rfl) ?c0 ⟨w2.heap.size, 0, none⟩ 1 1 [.string ⟨st.toArray⟩] (by rfl) ?c1 ?c2 ?c3 ?c4 ?c5 ?c6 ?c7)
      case c0 => exact O2.out.alloc _
      case c1 => rfl
      case c2 => exact news_one _ _ _
      case c3 => intro u hu; obtain rfl := List.mem_singleton.1 hu; rfl
      case c4 => unfold maxLen; omega
      case c5 => omega
      case c6 => (first | omega | (simp <;> omega))
      intro v2 w3 hown2 hgrow2 _
      have HO2 := hid (show w3.ownsRow w.heap.size 9 1 v2 (ts ++ [(⟨st.toArray⟩ : ByteArray)]).length (strCells (ts ++ [(⟨st.toArray⟩ : ByteArray)])) by
        rw [← strCells_more, List.length_append]; exact hown2)
      have HE2 := hid ((E2.out.alloc hb2 _).grown hgrow2 (by first | omega | (simp <;> omega)) (fun g hg => (O2.out.lt g hg).1))
      have HL2 := hid (show (ts ++ [(⟨st.toArray⟩ : ByteArray)]).length ≤ k + 1 by have := hHTK.out; simp; omega)
      obtain ⟨us, hus⟩ : ∃ us, us = ts ++ [(⟨st.toArray⟩ : ByteArray)] := ⟨_, rfl⟩
      rw [← hus] at HO2 HL2 HTS
      clear hown2 hgrow2 hus
      go_wp2_with (fail)
      go_roundw
      case rel => exact ⟨k + 1, us, by go_num, by omega, HL2.out, HO2.out, HTS, HE2.out⟩
      case measure => simp [RowKit.intOf]; omega
    · have hlt' : ¬ (k : Int) < (xs.length : Int) := by omega
      have htl : ts.map (·.data.toList) = rns 0 xs := by rw [hts.out, List.take_of_length_le (by omega)]
      have htn : 0 < ts.length := by
        rcases Nat.eq_zero_or_pos ts.length with h | h
        · exact absurd (by rw [← htl, List.length_eq_zero_iff.1 h]; rfl) HNE.out
        · exact h
      obtain ⟨g5, c5, rfl, hg5, own5⟩ := rowOf_own HOWN.out rfl rfl htn
      have hcap : ts.length ≤ c5 := by
        rcases own5.2 with ⟨h', _⟩ | ⟨g', cap', cur, h', _, _, hnc, _⟩
        · simp at h'
        · simp only [Value.slice.injEq] at h'; omega
      have hg6 : g5 < wr.heap.size := (own5.lt _ rfl).2
      have J := hid (Tryd.strings_Join g5 0 c5 ts ⟨#[32]⟩ wr (fun j x hj => by rw [Nat.zero_add]; exact row_cells own5 j _ (by unfold strCells; rw [List.getElem?_map, hj]; rfl)) hg6 (by omega) hcap (by
        rw [htl]
        have h1 := pjoin_len (rns 0 xs) (by have := HLN.out xs.length; rwa [List.take_length] at this)
        have h2 := rns_len 0 xs
        show (join (rns 0 xs) [32]).length ≤ _
        omega))
      rw [htl] at J
      have e32 : (⟨#[32]⟩ : ByteArray).data.toList = [32] := rfl
      rw [e32, ← HJ.out] at J
      clear htl hbel hown hts own5 hHTK htk e32
      go_wp2_with (fail)
      refine J.out.mono ?_
      rintro e w2 ⟨rfl, b2⟩
      have E2 := hid (HBEL.out.trans (b2.mono HBEL.out.size))
      clear b2
      go_wp2_with (fail)
      go_ret
      exact ⟨rfl, E2.out⟩

end Go.Proofs.YtjijabfamjhdjaaDoor
