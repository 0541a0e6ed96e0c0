/- Contract: the text of a path, by the model. -/
import Derived.Test.YtjijabfamjhdjaaDoorPtm
namespace Go.Proofs.YtjijabfamjhdjaaDoor
open Go.RowKit Go.Lib

theorem isE_no {l : List UInt8} (h : l ≠ []) : l.isEmpty = false := by cases l with | nil => exact absurd rfl h | cons _ _ => rfl
set_option maxRecDepth 100000 in
set_option maxHeartbeats 3200000 in
theorem specTextPL (g c : Nat) (xs : List Int) (w : World) (hok : okP xs = true) (ha : Ints w g 0 xs) :
    Calls Tryd.prog 60 #[.slice (some ⟨g, 0, none⟩) xs.length c] w fun e w' => e = .returned (.string ⟨(ptT xs).toArray⟩) ∧ Below w.heap.size w w' := by
  have HA := hid ha
  have hl := okP_len hok
  have HB := hid (fun j x hj => okP_bd hok (xs := xs) (j := j) (x := x) hj)
  have HNE := hid (fun h => rns_ne hok h)
  clear ha hok
  go_enter Tryd.func60, Tryd.ntmps60
  go_wp2_with (fail)
  go_loopw [3, 4] (fun s i wr => ∃ (k : Nat) (T : ByteArray), i = .int .i64 k ∧ k ≤ xs.length ∧ s = .string T ∧ T.size ≤ 30 * k ∧ Hid (T.data.toList = join (rns 0 (xs.take k)) [32]) ∧ Below w.heap.size w wr) (fun _ i _ => xs.length - (RowKit.intOf i).toNat)
  case atStart => exact ⟨0, ⟨#[]⟩, rfl, by omega, rfl, by decide, hid rfl, Below.refl _ _⟩
  case round =>
    obtain ⟨k, T, rfl, hk, rfl, hT, hpre, hbel⟩ := hrel
    have HBEL := hid hbel
    have hk0 : (0 : Int) ≤ (k : Int) := by omega
    by_cases hlt : k < xs.length
    · have hlt' : (k : Int) < (xs.length : Int) := by omega
      obtain ⟨x, hxk⟩ : ∃ t, xs[k]? = some t := ⟨_, List.getElem?_eq_getElem hlt⟩
      have ca1 := ints_at (ints_below HA.out hbel) hxk
      obtain ⟨hb1, hb2⟩ := HB.out _ _ hxk
      by_cases hx0 : x = 0
      · subst hx0
        have HN := hid (show T.data.toList = join (rns 0 (xs.take (k + 1))) [32] by rw [rns_zero hxk]; exact hpre.out)
        clear hpre hbel hxk
        go_wp2_with (fail)
        go_roundw
        case rel => exact ⟨k + 1, T, by go_num, by omega, rfl, by omega, HN, HBEL.out⟩
        case measure => simp [RowKit.intOf]; omega
      have hx1 : (x == 0) = false := by simpa using hx0
      have DK := hid (fun w => specDec x w (by omega) (by omega))
      by_cases hev : k % 2 = 0
      · have HRN := hid (show rn k x = 82 :: itoa x by unfold rn; rw [if_pos hev])
        have hrr : (((k : Int).tmod 2) == 0) = true := by rw [Int.tmod_eq_emod_of_nonneg (by omega)]; rw [show (k : Int) % 2 = 0 by omega]; rfl
        have hrr2 : ((k : Int) % 2 == 0) = true := by rw [show (k : Int) % 2 = 0 by omega]; rfl
        have HST := hid (show (itoa x).length ≤ 20 from itoa_len20 (by omega))
        generalize itoa x = st at *
        have hst := HST.out
        have hq1 : ¬ 9223372036854775807 < 1 + st.length := by omega
        have hq1' : ¬ 9223372036854775807 < st.length + 1 := by omega
        by_cases hem : rns 0 (xs.take k) = []
        · have hT0 : T = ⟨([] : List UInt8).toArray⟩ := bytes_of (by rw [hpre.out, hem]; rfl)
          have HN := hid (show (⟨([] : List UInt8).toArray⟩ ++ (⟨#[82]⟩ ++ ⟨st.toArray⟩) : ByteArray).data.toList = join (rns 0 (xs.take (k + 1))) [32] by
            rw [rns_more hxk hx0, hem, List.nil_append, join_one, HRN.out]; simp [ByteArray.data_append])
          have HNS := hid (show (⟨([] : List UInt8).toArray⟩ ++ (⟨#[82]⟩ ++ ⟨st.toArray⟩) : ByteArray).size ≤ 30 * (k + 1) by
            rw [bytes_size HN.out, rns_more hxk hx0, hem, List.nil_append, join_one, HRN.out]; simp; omega)
          subst hT0
          clear hpre hem hbel hxk HRN
          go_wp2_with (fail)
          refine (DK.out _).mono ?_
          rintro e w2 ⟨rfl, b2⟩
          have E2 := hid (HBEL.out.trans (b2.mono HBEL.out.size))
          clear b2
          go_wp2_with (fail)
          go_roundw
          case rel => exact ⟨k + 1, _, by go_num, by omega, rfl, HNS.out, HN, E2.out⟩
          case measure => simp [RowKit.intOf]; omega
        · have hTn : T.toList.isEmpty = false := by
            rw [Lib.toList_data, hpre.out]; exact isE_no (pjoin_ne hem (rns_no _ _))
          have HN := hid (show (T ++ ⟨#[32]⟩ ++ (⟨#[82]⟩ ++ ⟨st.toArray⟩) : ByteArray).data.toList = join (rns 0 (xs.take (k + 1))) [32] by
            rw [rns_more hxk hx0, pjoin_snoc hem, HRN.out, ← hpre.out]; simp [ByteArray.data_append])
          have HNS := hid (show (T ++ ⟨#[32]⟩ ++ (⟨#[82]⟩ ++ ⟨st.toArray⟩) : ByteArray).size ≤ 30 * (k + 1) by
            rw [bytes_size HN.out, rns_more hxk hx0, pjoin_snoc hem, HRN.out, List.length_append, ← bytes_size hpre.out]; simp; omega)
          have hq3 : ¬ 9223372036854775807 < T.size + 1 := by omega
          have hq4 : ¬ 9223372036854775807 < T.size + 1 + (1 + st.length) := by omega
          have hq4' : ¬ 9223372036854775807 < T.size + 1 + (st.length + 1) := by omega
          clear hpre hem hbel hxk HRN
          go_wp2_with (fail)
          refine (DK.out _).mono ?_
          rintro e w2 ⟨rfl, b2⟩
          have E2 := hid (HBEL.out.trans (b2.mono HBEL.out.size))
          clear b2
          go_wp2_with (fail)
          go_roundw
          case rel => exact ⟨k + 1, _, by go_num, by omega, rfl, HNS.out, HN, E2.out⟩
          case measure => simp [RowKit.intOf]; omega
      · have HRN := hid (show rn k x = 76 :: itoa x by unfold rn; rw [if_neg hev])
        have hrr : (((k : Int).tmod 2) == 0) = false := by rw [Int.tmod_eq_emod_of_nonneg (by omega)]; rw [show (k : Int) % 2 = 1 by omega]; rfl
        have hrr2 : ((k : Int) % 2 == 0) = false := by rw [show (k : Int) % 2 = 1 by omega]; rfl
        have HST := hid (show (itoa x).length ≤ 20 from itoa_len20 (by omega))
        generalize itoa x = st at *
        have hst := HST.out
        have hq1 : ¬ 9223372036854775807 < 1 + st.length := by omega
        have hq1' : ¬ 9223372036854775807 < st.length + 1 := by omega
        by_cases hem : rns 0 (xs.take k) = []
        · have hT0 : T = ⟨([] : List UInt8).toArray⟩ := bytes_of (by rw [hpre.out, hem]; rfl)
          have HN := hid (show (⟨([] : List UInt8).toArray⟩ ++ (⟨#[76]⟩ ++ ⟨st.toArray⟩) : ByteArray).data.toList = join (rns 0 (xs.take (k + 1))) [32] by
            rw [rns_more hxk hx0, hem, List.nil_append, join_one, HRN.out]; simp [ByteArray.data_append])
          have HNS := hid (show (⟨([] : List UInt8).toArray⟩ ++ (⟨#[76]⟩ ++ ⟨st.toArray⟩) : ByteArray).size ≤ 30 * (k + 1) by
            rw [bytes_size HN.out, rns_more hxk hx0, hem, List.nil_append, join_one, HRN.out]; simp; omega)
          subst hT0
          clear hpre hem hbel hxk HRN
          go_wp2_with (fail)
          refine (DK.out _).mono ?_
          rintro e w2 ⟨rfl, b2⟩
          have E2 := hid (HBEL.out.trans (b2.mono HBEL.out.size))
          clear b2
          go_wp2_with (fail)
          go_roundw
          case rel => exact ⟨k + 1, _, by go_num, by omega, rfl, HNS.out, HN, E2.out⟩
          case measure => simp [RowKit.intOf]; omega
        · have hTn : T.toList.isEmpty = false := by
            rw [Lib.toList_data, hpre.out]; exact isE_no (pjoin_ne hem (rns_no _ _))
          have HN := hid (show (T ++ ⟨#[32]⟩ ++ (⟨#[76]⟩ ++ ⟨st.toArray⟩) : ByteArray).data.toList = join (rns 0 (xs.take (k + 1))) [32] by
            rw [rns_more hxk hx0, pjoin_snoc hem, HRN.out, ← hpre.out]; simp [ByteArray.data_append])
          have HNS := hid (show (T ++ ⟨#[32]⟩ ++ (⟨#[76]⟩ ++ ⟨st.toArray⟩) : ByteArray).size ≤ 30 * (k + 1) by
            rw [bytes_size HN.out, rns_more hxk hx0, pjoin_snoc hem, HRN.out, List.length_append, ← bytes_size hpre.out]; simp; omega)
          have hq3 : ¬ 9223372036854775807 < T.size + 1 := by omega
          have hq4 : ¬ 9223372036854775807 < T.size + 1 + (1 + st.length) := by omega
          have hq4' : ¬ 9223372036854775807 < T.size + 1 + (st.length + 1) := by omega
          clear hpre hem hbel hxk HRN
          go_wp2_with (fail)
          refine (DK.out _).mono ?_
          rintro e w2 ⟨rfl, b2⟩
          have E2 := hid (HBEL.out.trans (b2.mono HBEL.out.size))
          clear b2
          go_wp2_with (fail)
          go_roundw
          case rel => exact ⟨k + 1, _, by go_num, by omega, rfl, HNS.out, HN, E2.out⟩
          case measure => simp [RowKit.intOf]; omega
    · have hlt' : ¬ (k : Int) < (xs.length : Int) := by omega
      have hke : k = xs.length := by omega
      have hall : T.data.toList = join (rns 0 xs) [32] := by rw [hpre.out, hke, List.take_length]
      by_cases h0 : xs = []
      · have hT0 : T = ⟨([] : List UInt8).toArray⟩ := bytes_of (by rw [hall, h0]; rfl)
        subst hT0
        rw [h0]
        clear hbel hpre hke hall
        go_wp2_with (fail)
        go_ret
        exact ⟨rfl, HBEL.out⟩
      · have hTn : T.toList.isEmpty = false := by rw [Lib.toList_data, hall]; exact isE_no (pjoin_ne (HNE.out h0) (rns_no _ _))
        have HR := hid (show T = ⟨(ptT xs).toArray⟩ from bytes_of (by rw [ptT_more h0]; exact hall))
        clear hbel hpre hke hall
        go_wp2_with (fail)
        go_ret
        exact ⟨by rw [← HR.out]; rfl, HBEL.out⟩

theorem specTextP (g c : Nat) (xs : List Int) (w : World) (hx : xs.length ≤ 2000000000) (ha : Ints w g 0 xs) :
    Calls Tryd.prog 28 #[.slice (some ⟨g, 0, none⟩) xs.length c] w fun e w' => e = .returned (.string ⟨(ptO xs).toArray⟩) ∧ Below w.heap.size w w' := by
  have HA := hid ha
  have V1 := hid (specOkP g c xs w hx ha)
  clear ha
  cases ho1 : okP xs
  · rw [ho1] at V1
    rw [ptO_no ho1]
    go_enter Tryd.func28, Tryd.ntmps28
    go_wp2_with (fail)
    refine V1.out.mono ?_
    rintro e w1 ⟨rfl, b1⟩
    have E1 := hid b1
    clear b1
    go_wp2_with (fail)
    go_ret
    exact ⟨rfl, E1.out⟩
  · rw [ho1] at V1
    rw [ptO_ok ho1]
    have C := hid (fun w1 (h : Below w.heap.size w w1) => specTextPL g c xs w1 ho1 (ints_below HA.out h))
    clear ho1
    go_enter Tryd.func28, Tryd.ntmps28
    go_wp2_with (fail)
    refine V1.out.mono ?_
    rintro e w1 ⟨rfl, b1⟩
    have E1 := hid b1
    clear b1
    go_wp2_with (fail)
    refine (C.out _ E1.out).mono ?_
    rintro e w2 ⟨rfl, b2⟩
    have E2 := hid (E1.out.trans (b2.mono E1.out.size))
    clear b2
    go_wp2_with (fail)
    go_ret
    exact ⟨rfl, E2.out⟩

end Go.Proofs.YtjijabfamjhdjaaDoor
