/- Contract: the terms that a text spells, as the model reads them. -/
import Derived.Test.YtbbgkflkabkoeaaDoorRsm
import Derived.Test.YtbbgkflkabkoeaaDoorRd2
import Derived.Test.YtbbgkflkabkoeaaDoorRtp
import Derived.Test.YtbbgkflkabkoeaaDoorTxs
namespace Go.Proofs.YtbbgkflkabkoeaaDoor
open Go.RowKit Go.Lib

theorem txt_eq (l : List UInt8) (s : ByteArray) : ((⟨l.toArray⟩ : ByteArray).toList == s.toList) = decide (l = s.data.toList) := by
  rw [Lib.toList_data, Lib.toList_data]
  by_cases h : l = s.data.toList
  · rw [decide_eq_true h]; subst h; simp
  · rw [decide_eq_false h, beq_eq_false_iff_ne]; exact h
theorem drop_last (t : ByteArray) : (t.extract 0 (t.size - 1)).data.toList = t.data.toList.dropLast := by
  rw [ext_list, List.drop_zero, Nat.sub_zero, List.dropLast_eq_take, data_len]
theorem inner_of (s : ByteArray) (z : Nat) (hze : s.size - 1 = z) (h3 : 3 ≤ s.size) (h0 : (s[0]'(by omega)).toNat = 91) (hz : (s[z]'(by omega)).toNat = 93) : s.data.toList = 91 :: ((s.extract 1 z).data.toList ++ [93]) := by
  subst hze
  have hl : s.data.toList.length = s.size := data_len s
  have a0 : s.data.toList[0]'(by omega) = 91 := (byte_at s 0 (by omega)).trans (UInt8.toNat_inj.1 h0)
  have az : s.data.toList[s.size - 1]'(by omega) = 93 := (byte_at s (s.size - 1) (by omega)).trans (UInt8.toNat_inj.1 hz)
  rw [ext_list]
  apply List.ext_getElem
  · simp; omega
  · intro i h1 h2
    cases i with
    | zero => exact a0
    | succ i =>
      rw [List.getElem_cons_succ]
      by_cases hi : i < s.size - 2
      · rw [List.getElem_append_left (by simp; omega)]
        simp
      · have e : i + 1 = s.size - 1 := by omega
        rw [List.getElem_append_right (by simp; omega)]
        simp only [e, az]
        simp

theorem splitB_size : ∀ (l : List UInt8) (p : List UInt8), p ∈ splitB 32 l → p.length ≤ l.length
  | [], p, h => by
    have : p = [] := by simpa [splitB] using h
    subst this; simp
  | x :: r, p, h => by
    rw [splitB_cons] at h
    split at h
    · rcases List.mem_cons.1 h with rfl | h
      · simp
      · have := splitB_size r p h
        simp; omega
    · split at h
      · rename_i he
        rw [List.mem_singleton] at h
        subst h; simp
      · rename_i q qs he
        rcases List.mem_cons.1 h with rfl | h
        · have := splitB_size r q (by rw [he]; simp)
          simp; omega
        · have := splitB_size r p (by rw [he]; simp [h])
          simp; omega

set_option maxHeartbeats 3200000 in
theorem specRT (s : ByteArray) (w : World) (hs : s.size ≤ 1048576) :
    Calls Tryd.prog 9 #[.string s] w fun e w' => BoolR w.heap.size (rtT s.data.toList) e w' ∧ Below w.heap.size w w' := by
  obtain ⟨i0, hi, hz0, hz1, hz2⟩ := info_parts infoI
  have HSL := hid (data_len s)
  have hn0 : (0 : Int) ≤ (s.size : Int) := by omega
  by_cases h3 : s.size < 3
  · have h3' : (s.size : Int) < 3 := by omega
    have HR := hid (show rtT s.data.toList = ([], false) from rtT_no fun xs hx => by have := (isT_head hx).1; rw [HSL.out] at this; omega)
    go_enter Tryd.func9, Tryd.ntmps9
    go_wp2_with (fail)
    go_ret2
    exact ⟨by rw [HR.out]; exact ⟨_, rfl, backNil⟩, Below.refl _ _⟩
  have h3' : ¬ (s.size : Int) < 3 := by omega
  have hp0 : 0 < s.size := by omega
  have hp0' : (0 : Int) < (s.size : Int) := by omega
  by_cases h0 : (s[0]'hp0).toNat = 91
  · have hq0 : (((s[0]'hp0).toNat : Int) != 91) = false := by rw [h0]; rfl
    obtain ⟨z, hze⟩ : ∃ z, s.size - 1 = z := ⟨_, rfl⟩
    have hpz : z < s.size := by omega
    have tz : (s.size : Int) - 1 = (z : Int) := by omega
    have tz1 : (0 : Int) ≤ (z : Int) := by omega
    have tz2 : (z : Int) < (s.size : Int) := by omega
    have tz3 : (1 : Int) ≤ (z : Int) := by omega
    have tz4 : (z : Int) ≤ (s.size : Int) := by omega
    have HZE := hid hze
    by_cases hz : (s[z]'hpz).toNat = 93
    · have hqz : (((s[z]'hpz).toNat : Int) != 93) = false := by rw [hz]; rfl
      have HIN := hid (inner_of s z hze (by omega) h0 hz)
      have hisz : (s.extract 1 z).size ≤ 1048576 := by rw [← data_len, ext_list, List.length_take]; omega
      have HISI := hid hisz
      have HWD := hid (fun w => specWords (s.extract 1 z) w hisz)
      have HB := hid (show rtT s.data.toList = rtT s.data.toList from rfl)
      clear h0 hz hisz hze
      generalize hin : (s.extract 1 z).data.toList = inner at HIN HWD
      have HISZ := hid (show inner.length ≤ 1048576 by have := congrArg List.length HIN.out; simp at this; omega)
      clear hin
      go_enter Tryd.func9, Tryd.ntmps9
      go_wp2_with (fail)
      refine (HWD.out _).mono ?_
      rintro e w1 ⟨v1, ys, rfl, ⟨g1, c1, rfl, hg1, own1⟩, hym, hyl, b1⟩
      have C1 := hid (fun (j : Nat) (x : ByteArray) (hj : ys[j]? = some x) => row_cell own1 j hj)
      have E1 := hid b1
      have HYM := hid hym
      have hy9 : ys.length ≤ 2000000 := by have := HISI.out; omega
      have HISW := hid (show ∀ xs, IsT s.data.toList xs → ys.length = xs.length ∧ ∀ (k : Nat) (t : ByteArray) (z : Int), ys[k]? = some t → xs[k]? = some z → numS (if k + 1 < ys.length then t.data.toList.dropLast else t.data.toList) = (z, true) from fun xs hx => by
        rw [HIN.out] at hx
        obtain ⟨q1, q2⟩ := isT_words hx
        have hyx : ys.length = xs.length := by rw [← q1, ← HYM.out, List.length_map]
        refine ⟨hyx, fun k t z ht hz => ?_⟩
        have := q2 k t.data.toList z (by rw [← HYM.out, List.getElem?_map, ht]; rfl) hz
        rw [hyx]
        exact this)
      have HNE := hid (show ∀ (k : Nat) (t : ByteArray), ys[k]? = some t → 0 < t.size from fun k t ht => by
        have h1 : t.data.toList ∈ wordsB inner := by rw [← HYM.out]; exact List.mem_map_of_mem (List.mem_of_getElem? ht)
        unfold wordsB at h1
        have h2 := (List.mem_filter.1 h1).2
        rw [← data_len]
        cases h : t.data.toList with
        | nil => rw [h] at h2; cases h2
        | cons _ _ => simp)
      have HSZ := hid (show ∀ (k : Nat) (t : ByteArray), ys[k]? = some t → t.size ≤ 1048576 from fun k t ht => by
        have h1 : t.data.toList ∈ wordsB inner := by rw [← HYM.out]; exact List.mem_map_of_mem (List.mem_of_getElem? ht)
        unfold wordsB at h1
        have h2 := splitB_size inner _ (List.mem_filter.1 h1).1
        rw [data_len] at h2
        have := HISZ.out
        omega)
      have hbw : w.heap.size ≤ w1.heap.size := b1.size
      clear own1 b1 hym hyl hg1 HB
      go_wp2_with (fail)
      go_loopw [6, 7, 8, 9, 10] (fun v i u1 u2 u3 wr => ∃ (k : Nat) (zs : List Int) (g2 c2 : Nat), i = .int .i64 k ∧ k ≤ ys.length ∧ zs.length = k ∧ v = .slice (some ⟨g2, 0, none⟩) zs.length c2 ∧ Own w1.heap.size wr g2 c2 zs ∧ Hid (∀ xs, IsT s.data.toList xs → zs = xs.take k) ∧ Below w1.heap.size w1 wr) (fun _ i _ _ _ _ => ys.length - (RowKit.intOf i).toNat)
      case atStart => exact ⟨0, [], w1.heap.size, 0, rfl, by omega, rfl, rfl, ⟨Nat.le_refl _, lit_none _ _ (Nat.le_refl _)⟩, hid fun xs _ => by simp, (Below.refl _ _).alloc (Nat.le_refl _) _⟩
      case round =>
        obtain ⟨k, zs, g2, c2, rfl, hk, hzk, rfl, hown, hst, hbel⟩ := hrel
        have HBEL := hid hbel
        have HOWN := hid hown
        have HZK := hid hzk
        have hk0 : (0 : Int) ≤ (k : Int) := by omega
        have hb : w.heap.size ≤ wr.heap.size := Nat.le_trans hbw hbel.size
        by_cases hlt : k < ys.length
        · have hlt' : (k : Int) < (ys.length : Int) := by omega
          obtain ⟨t, htk⟩ : ∃ t, ys[k]? = some t := ⟨_, List.getElem?_eq_getElem hlt⟩
          have ca1 := C1.out k t htk
          have ca0 := (hbel.cell (p := ⟨g1, k, none⟩) (World.block_lt_of_cell? _ _ ca1)).trans ca1
          have htp := HNE.out _ _ htk
          have htz := HSZ.out _ _ htk
          have HTK := hid htk
          have hz9 : zs.length ≤ 2000000 := by omega
          clear ca1 hbel hown hzk htk
          by_cases hlast : k + 1 < ys.length
          · have hlast' : (k : Int) + 1 < (ys.length : Int) := by omega
            obtain ⟨m, hme⟩ : ∃ m, t.size - 1 = m := ⟨_, rfl⟩
            have q0 : (t.size : Int) - 1 = (m : Int) := by omega
            have q1 : (0 : Int) ≤ (m : Int) := by omega
            have q2 : (m : Int) ≤ (t.size : Int) := by omega
            have hxs : (t.extract 0 m).size ≤ 1048576 := by rw [← data_len, ext_list, List.length_take]; omega
            have DN := hid (fun w => specNum (t.extract 0 m) w hxs)
            have HNUM := hid (show ∀ xs z, IsT s.data.toList xs → xs[k]? = some z → numS (t.extract 0 m).data.toList = (z, true) from fun xs z hx hz => by
              have := (HISW.out xs hx).2 k t z HTK.out hz
              rw [if_pos hlast] at this
              rw [← hme, drop_last]; exact this)
            clear hxs hme
            obtain ⟨v, b, hnv⟩ : ∃ v b, numS (t.extract 0 m).data.toList = (v, b) := ⟨_, _, rfl⟩
            rw [hnv] at HNUM
            rw [show numV (t.extract 0 m).data.toList = .tuple #[.int .i64 v, .bool b] by unfold numV; rw [hnv]] at DN
            have HGET := hid (show ∀ xs, IsT s.data.toList xs → ∃ z, xs[k]? = some z from fun xs hx => ⟨_, List.getElem?_eq_getElem (by rw [← (HISW.out xs hx).1]; exact hlt)⟩)
            clear hnv
            cases b
            · have HR := hid (show rtT s.data.toList = ([], false) from rtT_no fun xs hx => by
                obtain ⟨z, hz⟩ := HGET.out xs hx
                have := HNUM.out xs z hx hz
                injection this with _ h; cases h)
              clear hst
              go_wp2_with (fail)
              refine (DN.out _).mono ?_
              rintro e w2 ⟨rfl, b2⟩
              have E2 := hid (E1.out.trans ((HBEL.out.trans (b2.mono HBEL.out.size)).mono hbw))
              clear b2
              go_wp2_with (fail)
              go_ret2
              exact ⟨by rw [HR.out]; exact ⟨_, rfl, backNil⟩, E2.out⟩
            · have HST := hid (show ∀ xs, IsT s.data.toList xs → zs ++ [v] = xs.take (k + 1) from fun xs hx => by
                obtain ⟨z, hz⟩ := HGET.out xs hx
                have h1 := HNUM.out xs z hx hz
                have h2 : v = z := by injection h1
                rw [List.take_add_one, hz, hst.out xs hx, h2]; rfl)
              clear hst
              go_wp2_with (fail)
              refine (DN.out _).mono ?_
              rintro e w2 ⟨rfl, b2⟩
              have F2 := hid (HBEL.out.trans (b2.mono HBEL.out.size))
              have O2 := hid (own_below HOWN.out b2)
              have hb2 : w1.heap.size ≤ w2.heap.size := F2.out.size
              have hg2 := O2.out.1
              have hgr := HOWN.out.1
              clear b2
              go_wp2_with (at_builtin; refine wpList_append_own _ rfl _ _ 22 rfl w1.heap.size 2 i0 (.int .i64 0) 1 8 Tryd.underlying22 hi hz0 hz1 hz2 rfl (by decide) _ zs.length (intCells zs) (by rfl) ?ka0 ⟨w2.heap.size, 0, none⟩ 1 1 [.int .i64 v] (by rfl) ?ka1 ?ka2 ?ka3 ?ka4 ?ka5 ?ka6 ?ka7)
              case ka0 => exact O2.out.2.alloc _
              case ka1 => rfl
              case ka2 => exact news1 _ _ _
              case ka3 => intro u hu; obtain rfl := List.mem_singleton.1 hu; rfl
              case ka4 => unfold maxLen; omega
              case ka5 => omega
              case ka6 => (first | omega | (simp <;> omega))
              intro v2 w3 hown2 hgrow2 _
              obtain ⟨g3, c3, rfl, o3⟩ := own_more (xs := zs ++ [v]) hown2 (by simp) (intCells_more _ _) (by simp)
              have HO3 := hid o3
              have HE3 := hid ((F2.out.alloc F2.out.size (.cells #[.int .i64 v] 2)).grown hgrow2 (by have := F2.out.size; simp; omega) (fun i hi => by
                have h' : g2 = i := Option.some.inj hi
                have := HOWN.out.1
                omega))
              have HL3 := hid (show (zs ++ [v]).length = k + 1 by have := HZK.out; simp; omega)
              obtain ⟨us, hus⟩ : ∃ us, us = zs ++ [v] := ⟨_, rfl⟩
              rw [← hus] at HO3 HL3 HST ⊢
              clear hown2 hgrow2 hus o3
              go_wp2_with (fail)
              go_roundw
              case rel => exact ⟨k + 1, us, g3, c3, by go_num, by omega, HL3.out, rfl, HO3.out, HST, HE3.out⟩
              case measure => simp [RowKit.intOf]; omega
          · have hlast' : ¬ (k : Int) + 1 < (ys.length : Int) := by omega
            have DN := hid (fun w => specNum t w htz)
            have HNUM := hid (show ∀ xs z, IsT s.data.toList xs → xs[k]? = some z → numS t.data.toList = (z, true) from fun xs z hx hz => by
              have := (HISW.out xs hx).2 k t z HTK.out hz
              rw [if_neg hlast] at this
              exact this)
            obtain ⟨tt, htt⟩ : ∃ tt, tt = t := ⟨_, rfl⟩
            rw [← htt] at DN HNUM
            obtain ⟨v, b, hnv⟩ : ∃ v b, numS tt.data.toList = (v, b) := ⟨_, _, rfl⟩
            rw [hnv] at HNUM
            rw [show numV tt.data.toList = .tuple #[.int .i64 v, .bool b] by unfold numV; rw [hnv]] at DN
            have HGET := hid (show ∀ xs, IsT s.data.toList xs → ∃ z, xs[k]? = some z from fun xs hx => ⟨_, List.getElem?_eq_getElem (by rw [← (HISW.out xs hx).1]; exact hlt)⟩)
            clear hnv
            subst htt
            cases b
            · have HR := hid (show rtT s.data.toList = ([], false) from rtT_no fun xs hx => by
                obtain ⟨z, hz⟩ := HGET.out xs hx
                have := HNUM.out xs z hx hz
                injection this with _ h; cases h)
              clear hst
              go_wp2_with (fail)
              refine (DN.out _).mono ?_
              rintro e w2 ⟨rfl, b2⟩
              have E2 := hid (E1.out.trans ((HBEL.out.trans (b2.mono HBEL.out.size)).mono hbw))
              clear b2
              go_wp2_with (fail)
              go_ret2
              exact ⟨by rw [HR.out]; exact ⟨_, rfl, backNil⟩, E2.out⟩
            · have HST := hid (show ∀ xs, IsT s.data.toList xs → zs ++ [v] = xs.take (k + 1) from fun xs hx => by
                obtain ⟨z, hz⟩ := HGET.out xs hx
                have h1 := HNUM.out xs z hx hz
                have h2 : v = z := by injection h1
                rw [List.take_add_one, hz, hst.out xs hx, h2]; rfl)
              clear hst
              go_wp2_with (fail)
              refine (DN.out _).mono ?_
              rintro e w2 ⟨rfl, b2⟩
              have F2 := hid (HBEL.out.trans (b2.mono HBEL.out.size))
              have O2 := hid (own_below HOWN.out b2)
              have hb2 : w1.heap.size ≤ w2.heap.size := F2.out.size
              have hg2 := O2.out.1
              have hgr := HOWN.out.1
              clear b2
              go_wp2_with (at_builtin; refine wpList_append_own _ rfl _ _ 22 rfl w1.heap.size 2 i0 (.int .i64 0) 1 8 Tryd.underlying22 hi hz0 hz1 hz2 rfl (by decide) _ zs.length (intCells zs) (by rfl) ?kb0 ⟨w2.heap.size, 0, none⟩ 1 1 [.int .i64 v] (by rfl) ?kb1 ?kb2 ?kb3 ?kb4 ?kb5 ?kb6 ?kb7)
              case kb0 => exact O2.out.2.alloc _
              case kb1 => rfl
              case kb2 => exact news1 _ _ _
              case kb3 => intro u hu; obtain rfl := List.mem_singleton.1 hu; rfl
              case kb4 => unfold maxLen; omega
              case kb5 => omega
              case kb6 => (first | omega | (simp <;> omega))
              intro v2 w3 hown2 hgrow2 _
              obtain ⟨g3, c3, rfl, o3⟩ := own_more (xs := zs ++ [v]) hown2 (by simp) (intCells_more _ _) (by simp)
              have HO3 := hid o3
              have HE3 := hid ((F2.out.alloc F2.out.size (.cells #[.int .i64 v] 2)).grown hgrow2 (by have := F2.out.size; simp; omega) (fun i hi => by
                have h' : g2 = i := Option.some.inj hi
                have := HOWN.out.1
                omega))
              have HL3 := hid (show (zs ++ [v]).length = k + 1 by have := HZK.out; simp; omega)
              obtain ⟨us, hus⟩ : ∃ us, us = zs ++ [v] := ⟨_, rfl⟩
              rw [← hus] at HO3 HL3 HST ⊢
              clear hown2 hgrow2 hus o3
              go_wp2_with (fail)
              go_roundw
              case rel => exact ⟨k + 1, us, g3, c3, by go_num, by omega, HL3.out, rfl, HO3.out, HST, HE3.out⟩
              case measure => simp [RowKit.intOf]; omega
        · have hlt' : ¬ (k : Int) < (ys.length : Int) := by omega
          have HX := hid (show ∀ xs, IsT s.data.toList xs → zs = xs from fun xs hx => by
            rw [hst.out xs hx, List.take_of_length_le (by rw [← (HISW.out xs hx).1]; omega)])
          have VT := hid (specOkT g2 c2 zs wr (by omega) (own_ints HOWN.out))
          have EB := hid (E1.out.trans (HBEL.out.mono hbw))
          clear hbel hown hst hzk
          cases hok : okT zs
          · rw [hok] at VT
            have HR := hid (show rtT s.data.toList = ([], false) from rtT_no fun xs hx => by
              have := HX.out xs hx
              rw [this, hx.1] at hok; cases hok)
            clear hok
            go_wp2_with (fail)
            refine VT.out.mono ?_
            rintro e w2 ⟨rfl, b2⟩
            have E2 := hid (EB.out.trans (b2.mono EB.out.size))
            clear b2
            go_wp2_with (fail)
            go_ret2
            exact ⟨by rw [HR.out]; exact ⟨_, rfl, backNil⟩, E2.out⟩
          · rw [hok] at VT
            have hzl := okT_len hok
            have TX := hid (fun (w2 : World) (h : Below wr.heap.size wr w2) => specTextL g2 c2 zs w2 hzl.1 hzl.2 (okT_bdT hok) (ints_below (own_ints HOWN.out) h))
            have hxl : zs.length ≤ 60 := hzl.2
            clear hzl
            by_cases ht : txT zs = s.data.toList
            · have HR := hid (show rtT s.data.toList = (zs, true) from rtT_yes ⟨hok, ht⟩)
              have hte : ((⟨(txT zs).toArray⟩ : ByteArray).toList == s.toList) = true := by rw [txt_eq, decide_eq_true ht]
              have htn : ((⟨(txT zs).toArray⟩ : ByteArray).toList != s.toList) = false := by unfold bne; rw [hte]; rfl
              clear hok ht
              go_wp2_with (fail)
              refine VT.out.mono ?_
              rintro e w2 ⟨rfl, b2⟩
              have E2 := hid (EB.out.trans (b2.mono EB.out.size))
              have B2 := hid b2
              clear b2
              go_wp2_with (fail)
              refine (TX.out _ B2.out).mono ?_
              rintro e w3 ⟨rfl, b3⟩
              have E3 := hid (E2.out.trans (b3.mono E2.out.size))
              have O3 := hid (own_below HOWN.out (B2.out.trans (b3.mono B2.out.size)))
              clear b3
              generalize (⟨(txT zs).toArray⟩ : ByteArray) = U at *
              go_wp2_with (fail)
              go_ret2
              exact ⟨by rw [HR.out]; exact ⟨_, rfl, .inr ⟨_, _, rfl, own_mono O3.out hbw⟩⟩, E3.out⟩
            · have HR := hid (show rtT s.data.toList = ([], false) from rtT_no fun xs hx => by
                have := HX.out xs hx
                rw [this] at ht
                exact ht hx.2)
              have hte : ((⟨(txT zs).toArray⟩ : ByteArray).toList == s.toList) = false := by rw [txt_eq, decide_eq_false ht]
              have htn : ((⟨(txT zs).toArray⟩ : ByteArray).toList != s.toList) = true := by unfold bne; rw [hte]; rfl
              clear hok ht
              go_wp2_with (fail)
              refine VT.out.mono ?_
              rintro e w2 ⟨rfl, b2⟩
              have E2 := hid (EB.out.trans (b2.mono EB.out.size))
              have B2 := hid b2
              clear b2
              go_wp2_with (fail)
              refine (TX.out _ B2.out).mono ?_
              rintro e w3 ⟨rfl, b3⟩
              have E3 := hid (E2.out.trans (b3.mono E2.out.size))
              clear b3
              generalize (⟨(txT zs).toArray⟩ : ByteArray) = U at *
              go_wp2_with (fail)
              go_ret2
              exact ⟨by rw [HR.out]; exact ⟨_, rfl, backNil⟩, E3.out⟩
    · have hqz : (((s[z]'hpz).toNat : Int) != 93) = true := by
        rw [bne_iff_ne]; omega
      have HR := hid (show rtT s.data.toList = ([], false) from rtT_no fun xs hx => by
        have := (isT_head hx).2.2
        rw [HSL.out, HZE.out, List.getElem?_eq_getElem (by rw [HSL.out]; exact hpz)] at this
        have h9 := (byte_at s z hpz).symm.trans (Option.some.inj this)
        exact hz (by rw [h9]; rfl))
      clear hz h0 hze
      go_enter Tryd.func9, Tryd.ntmps9
      go_wp2_with (fail)
      go_ret2
      exact ⟨by rw [HR.out]; exact ⟨_, rfl, backNil⟩, Below.refl _ _⟩
  · have hq0 : (((s[0]'hp0).toNat : Int) != 91) = true := by
      rw [bne_iff_ne]; omega
    have HR := hid (show rtT s.data.toList = ([], false) from rtT_no fun xs hx => by
      have := (isT_head hx).2.1
      rw [List.getElem?_eq_getElem (by rw [HSL.out]; exact hp0)] at this
      have h9 := (byte_at s 0 hp0).symm.trans (Option.some.inj this)
      exact h0 (by rw [h9]; rfl))
    clear h0
    go_enter Tryd.func9, Tryd.ntmps9
    go_wp2_with (fail)
    go_ret2
    exact ⟨by rw [HR.out]; exact ⟨_, rfl, backNil⟩, Below.refl _ _⟩
end Go.Proofs.YtbbgkflkabkoeaaDoor
