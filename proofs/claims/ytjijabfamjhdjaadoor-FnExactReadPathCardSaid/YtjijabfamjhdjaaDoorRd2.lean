/- Contracts: the number that a text spells, as the model reads it. -/
import Derived.Test.YtjijabfamjhdjaaDoorRd
namespace Go.Proofs.YtjijabfamjhdjaaDoor
open Go.RowKit Go.Lib

theorem isD_dig {c : UInt8} (h : digB c.toNat = true) : isD c = true := isD_iff.2 (by have := digB_iff.1 h; omega)
theorem isD_no {c : UInt8} (h : digB c.toNat = false) : isD c = false := by
  rw [Bool.eq_false_iff]
  intro e
  have := isD_iff.1 e
  rw [digB_iff.2 (by omega)] at h
  cases h
theorem len_data (t : ByteArray) : t.data.toList.length = t.size := Array.length_toList
theorem take_more (t : ByteArray) (k : Nat) (h : k < t.size) : t.data.toList.take (k + 1) = t.data.toList.take k ++ [t[k]'h] := by
  rw [← byte_at t k h, List.take_append_getElem]
theorem all_more {t : ByteArray} {k : Nat} (h : k < t.size) (ha : (t.data.toList.take k).all isD = true) (hc : digB (t[k]'h).toNat = true) : (t.data.toList.take (k + 1)).all isD = true := by
  rw [take_more t k h, List.all_append, ha]
  show (true && (isD _ && true)) = true
  rw [isD_dig hc]; rfl
theorem val_more {t : ByteArray} {k : Nat} (h : k < t.size) (hc : digB (t[k]'h).toNat = true) : (valD 0 (t.data.toList.take (k + 1)) : Int) = 10 * (valD 0 (t.data.toList.take k) : Int) + (((t[k]'h).toNat : Int) - 48) := by
  have := digB_iff.1 hc
  rw [take_more t k h, valD_snoc]
  omega
theorem val_take {t : ByteArray} {k : Nat} (hk : k < 18) (ha : (t.data.toList.take k).all isD = true) : valD 0 (t.data.toList.take k) < 100000000000000000 := by
  have h1 := valD_lt _ 0 ha
  have h0 : (t.data.toList.take k).length ≤ 17 := by rw [List.length_take]; omega
  have h2 : 10 ^ (t.data.toList.take k).length ≤ 10 ^ 17 := Nat.pow_le_pow_right (by omega) h0
  rw [show (10 : Nat) ^ 17 = 100000000000000000 from rfl] at h2
  generalize 10 ^ (t.data.toList.take k).length = p at h1 h2
  omega
theorem undigit_at {t : ByteArray} {k : Nat} (h : k < t.size) (hc : digB (t[k]'h).toNat = false) : t.data.toList.all isD = false := by
  rw [Bool.eq_false_iff]
  intro e
  have h2 := List.all_eq_true.1 e _ (List.getElem_mem (show k < t.data.toList.length by rw [len_data]; exact h))
  rw [byte_at t k h, isD_no hc] at h2
  cases h2
theorem byte_at? (s : ByteArray) (k : Nat) (h : k < s.size) : s.data.toList[k]? = some (s[k]'h) := by
  rw [List.getElem?_eq_getElem (by rw [len_data]; exact h), byte_at s k h]
theorem drop_dash {s : ByteArray} (h : 0 < s.size) (hc : (s[0]'h).toNat = 45) : dropM s.data.toList = (s.extract 1 s.size).data.toList ∧ negM s.data.toList = true ∧ (s.extract 1 s.size).size = s.size - 1 := by
  have e0 : s.data.toList[0]? = some (s[0]'h) := byte_at? s 0 h
  have e1 := len_data s
  have e3 : (s.extract 1 s.size).data.toList = s.data.toList.drop 1 := by
    rw [ByteArray.data_extract, Array.toList_extract, List.extract_eq_take_drop]
    exact List.take_of_length_le (by rw [List.length_drop, e1]; exact Nat.le_refl _)
  have e4 := len_data (s.extract 1 s.size)
  rw [e3, List.length_drop, e1] at e4
  refine ⟨?_, ?_, e4.symm⟩
  · rw [e3]
    generalize s.data.toList = l at e0 e1
    cases l with
    | nil => simp at e1; omega
    | cons c r =>
      have e5 : c = s[0]'h := by simpa using e0
      rw [dropM_cons, if_pos (by rw [e5]; exact hc)]; rfl
  · generalize s.data.toList = l at e0 e1
    cases l with
    | nil => simp at e1; omega
    | cons c r =>
      have e5 : c = s[0]'h := by simpa using e0
      exact decide_eq_true (by rw [e5]; exact hc)
theorem drop_none {s : ByteArray} (h : 0 < s.size) (hc : ¬ (s[0]'h).toNat = 45) : dropM s.data.toList = s.data.toList ∧ negM s.data.toList = false := by
  have e0 : s.data.toList[0]? = some (s[0]'h) := byte_at? s 0 h
  have e1 := len_data s
  generalize s.data.toList = l at e0 e1
  cases l with
  | nil => simp at e1; omega
  | cons c r =>
    have e5 : c = s[0]'h := by simpa using e0
    exact ⟨by rw [dropM_cons, if_neg (by rw [e5]; exact hc)], decide_eq_false (by rw [e5]; exact hc)⟩

theorem isEmpty_no {s : ByteArray} (h : 0 < s.size) : s.toList.isEmpty = false := by
  rw [Lib.toList_data, List.isEmpty_eq_false_iff]
  intro e
  have := len_data s
  rw [e] at this
  simp at this
  omega

set_option maxRecDepth 100000 in
set_option maxHeartbeats 1600000 in
theorem specNumDash (s t : ByteArray) (w : World) (hs : s.size ≤ 1048576) (h0 : 0 < s.size) (hx : s.extract 1 s.size = t) (hz : t.size = s.size - 1) (hc : (((s[0]'h0).toNat : Int) == 45) = true) (hd : dropM s.data.toList = t.data.toList) (hn : negM s.data.toList = true) :
    Calls Tryd.prog 66 #[.string s] w fun e w' => e = .returned (numV s.data.toList) ∧ Below w.heap.size w w' := by
  have e1 : s.toList.isEmpty = false := isEmpty_no h0
  have hp : (0 : Int) < (s.size : Int) := by omega
  have hp1 : (1 : Int) ≤ (s.size : Int) := by omega
  have hv0 : 0 ≤ ((s[0]'h0).toNat : Int) ∧ ((s[0]'h0).toNat : Int) < 256 := by have := UInt8.toNat_lt (s[0]'h0); omega
  have hts : (t.size : Int) < (s.size : Int) := by omega

  by_cases hb : t.size < 1 ∨ 18 < t.size
  · have E := hid (show numV s.data.toList = .tuple #[.int .i64 0, .bool false] by
      rcases hb with hb | hb
      · exact numV_no (numS_empty (by rw [hd, len_data]; exact hb))
      · exact numV_no (numS_long (by rw [hd, len_data]; exact hb)))
    by_cases h1 : t.size < 1
    · have h1' : (t.size : Int) < 1 := by omega
      clear hd hn hb h1
      go_enter Tryd.func66, Tryd.ntmps66
      go_wp2_with (fail)
      go_ret2
      exact ⟨by rw [E.out]; rfl, Below.refl _ _⟩
    · have h1' : ¬ (t.size : Int) < 1 := by omega
      have h2' : (18 : Int) < (t.size : Int) := by omega
      clear hd hn hb h1
      go_enter Tryd.func66, Tryd.ntmps66
      go_wp2_with (fail)
      go_ret2
      exact ⟨by rw [E.out]; rfl, Below.refl _ _⟩
  · have h1' : ¬ (t.size : Int) < 1 := by omega
    have h2' : ¬ (18 : Int) < (t.size : Int) := by omega
    have ht18 : t.size ≤ 18 := by omega
    have HD := hid hd
    have HN := hid hn
    clear hd hn hb
    go_enter Tryd.func66, Tryd.ntmps66
    go_wp2_with (fail)
    clear hx hz
    go_loop [5, 6] (fun n i => ∃ k : Nat, k ≤ t.size ∧ i = .int .i64 k ∧ n = .int .i64 (valD 0 (t.data.toList.take k) : Nat) ∧ Hid ((t.data.toList.take k).all isD = true)) (fun _ i => t.size - (RowKit.intOf i).toNat)
    case atStart => exact ⟨0, by omega, rfl, rfl, hid rfl⟩
    case round =>
      obtain ⟨k, hk, rfl, rfl, hall⟩ := hrel
      by_cases hlt : k < t.size
      · have hlt' : (k : Int) < (t.size : Int) := by omega
        cases c1 : digB (t[k]'hlt).toNat with
        | false =>
          have C1 := hid c1
          have E := hid (numV_no (numS_undigit (l := s.data.toList) (by rw [HD.out]; exact undigit_at hlt c1)))
          clear c1
          generalize valD 0 (t.data.toList.take k) = n
          go_wp2_with (fail)
          refine (specDigit _ _).mono ?_
          rintro e w0 ⟨rfl, rfl⟩
          rw [C1.out]
          go_wp2_with (fail)
          go_ret2
          exact ⟨by rw [E.out]; rfl, Below.refl _ _⟩
        | true =>
          have C1 := hid c1
          have V1 := hid (val_more hlt c1)
          have A1 := hid (all_more hlt hall.out c1)
          obtain ⟨b1, b2⟩ := digB_iff.1 c1
          have hvt := val_take (by omega) hall.out
          generalize valD 0 (t.data.toList.take k) = n at V1 hvt
          have hn0 : (0 : Int) ≤ (n : Int) := by omega
          have hn1 : (n : Int) < 100000000000000000 := by omega
          have hc0 : (0 : Int) ≤ ((t[k]'hlt).toNat : Int) - 48 := by omega
          clear c1 hvt
          go_wp2_with (fail)
          refine (specDigit _ _).mono ?_
          rintro e w0 ⟨rfl, rfl⟩
          rw [C1.out]
          go_wp2_with (fail)
          go_round
          case rel => exact ⟨k + 1, by omega, by go_num, by rw [V1.out], A1⟩
          case measure => simp [RowKit.intOf]; omega
      · have hlt' : ¬ (k : Int) < (t.size : Int) := by omega
        have hkk : t.data.toList.take k = t.data.toList := List.take_of_length_le (by rw [len_data]; omega)
        rw [hkk]
        have ha := hall.out
        rw [hkk] at ha
        have hvs := valD_small ha (by rw [len_data]; exact ht18)
        have hsg : sgV s.data.toList = -(valD 0 t.data.toList : Int) := by unfold sgV; rw [HN.out, HD.out]; rfl
        have hit : goodD s.data.toList ↔ itoa (-(valD 0 t.data.toList : Int)) = s.data.toList := by
          unfold goodD
          rw [hsg, HD.out, len_data]
          exact ⟨fun g => g.2.2.2, fun g => ⟨by omega, ht18, ha, g⟩⟩
        by_cases hg : itoa (-(valD 0 t.data.toList : Int)) = s.data.toList
        · have E := hid (numV_yes (by rw [numS_yes (hit.2 hg), hsg]))
          have HC := hid (fun w => specDec (-(valD 0 t.data.toList : Int)) w (by omega) (by omega))
          have hse : (⟨(itoa (-(valD 0 t.data.toList : Int))).toArray⟩ : ByteArray) = s := by rw [hg]
          rw [hse] at HC
          generalize valD 0 t.data.toList = n at HC E hvs
          have hn0 : (0 : Int) ≤ (n : Int) := by omega
          have hn1 : (n : Int) < 1000000000000000000 := by omega
          clear hkk ha hvs hsg hit hg hse
          go_wp2_with (fail)
          refine (HC.out _).mono ?_
          rintro e w1 ⟨rfl, hb⟩
          go_wp2_with (fail)
          go_ret2
          exact ⟨by rw [E.out]; rfl, hb⟩
        · have E := hid (numV_no (numS_no (fun g => hg (hit.1 g))))
          have HC := hid (fun w => specDec (-(valD 0 t.data.toList : Int)) w (by omega) (by omega))
          have hse : ¬ (⟨(itoa (-(valD 0 t.data.toList : Int))).toArray⟩ : ByteArray) = s := by intro e; exact hg (congrArg (fun b : ByteArray => b.data.toList) e)
          generalize (⟨(itoa (-(valD 0 t.data.toList : Int))).toArray⟩ : ByteArray) = u at HC hse
          have hse2 : (u.toList == s.toList) = false := bytes_ne hse
          generalize valD 0 t.data.toList = n at HC hvs
          have hn0 : (0 : Int) ≤ (n : Int) := by omega
          have hn1 : (n : Int) < 1000000000000000000 := by omega
          clear hkk ha hvs hsg hit hg hse
          go_wp2_with (fail)
          refine (HC.out _).mono ?_
          rintro e w1 ⟨rfl, hb⟩
          go_wp2_with (fail)
          go_ret2
          exact ⟨by rw [E.out]; rfl, hb⟩

set_option maxRecDepth 100000 in
set_option maxHeartbeats 1600000 in
theorem specNumPlain (s : ByteArray) (w : World) (hs : s.size ≤ 1048576) (h0 : 0 < s.size) (hc : (((s[0]'h0).toNat : Int) == 45) = false) (hd : dropM s.data.toList = s.data.toList) (hn : negM s.data.toList = false) :
    Calls Tryd.prog 66 #[.string s] w fun e w' => e = .returned (numV s.data.toList) ∧ Below w.heap.size w w' := by
  have e1 : s.toList.isEmpty = false := isEmpty_no h0
  have hp : (0 : Int) < (s.size : Int) := by omega
  have hv0 : 0 ≤ ((s[0]'h0).toNat : Int) ∧ ((s[0]'h0).toNat : Int) < 256 := by have := UInt8.toNat_lt (s[0]'h0); omega

  by_cases hb : s.size < 1 ∨ 18 < s.size
  · have E := hid (show numV s.data.toList = .tuple #[.int .i64 0, .bool false] by
      rcases hb with hb | hb
      · exact numV_no (numS_empty (by rw [hd, len_data]; exact hb))
      · exact numV_no (numS_long (by rw [hd, len_data]; exact hb)))
    by_cases h1 : s.size < 1
    · have h1' : (s.size : Int) < 1 := by omega
      clear hd hn hb h1
      go_enter Tryd.func66, Tryd.ntmps66
      go_wp2_with (fail)
      go_ret2
      exact ⟨by rw [E.out]; rfl, Below.refl _ _⟩
    · have h1' : ¬ (s.size : Int) < 1 := by omega
      have h2' : (18 : Int) < (s.size : Int) := by omega
      clear hd hn hb h1
      go_enter Tryd.func66, Tryd.ntmps66
      go_wp2_with (fail)
      go_ret2
      exact ⟨by rw [E.out]; rfl, Below.refl _ _⟩
  · have h1' : ¬ (s.size : Int) < 1 := by omega
    have h2' : ¬ (18 : Int) < (s.size : Int) := by omega
    have ht18 : s.size ≤ 18 := by omega
    have HD := hid hd
    have HN := hid hn
    clear hd hn hb
    go_enter Tryd.func66, Tryd.ntmps66
    go_wp2_with (fail)
    go_loop [5, 6] (fun n i => ∃ k : Nat, k ≤ s.size ∧ i = .int .i64 k ∧ n = .int .i64 (valD 0 (s.data.toList.take k) : Nat) ∧ Hid ((s.data.toList.take k).all isD = true)) (fun _ i => s.size - (RowKit.intOf i).toNat)
    case atStart => exact ⟨0, by omega, rfl, rfl, hid rfl⟩
    case round =>
      obtain ⟨k, hk, rfl, rfl, hall⟩ := hrel
      by_cases hlt : k < s.size
      · have hlt' : (k : Int) < (s.size : Int) := by omega
        cases c1 : digB (s[k]'hlt).toNat with
        | false =>
          have C1 := hid c1
          have E := hid (numV_no (numS_undigit (l := s.data.toList) (by rw [HD.out]; exact undigit_at hlt c1)))
          clear c1
          generalize valD 0 (s.data.toList.take k) = n
          go_wp2_with (fail)
          refine (specDigit _ _).mono ?_
          rintro e w0 ⟨rfl, rfl⟩
          rw [C1.out]
          go_wp2_with (fail)
          go_ret2
          exact ⟨by rw [E.out]; rfl, Below.refl _ _⟩
        | true =>
          have C1 := hid c1
          have V1 := hid (val_more hlt c1)
          have A1 := hid (all_more hlt hall.out c1)
          obtain ⟨b1, b2⟩ := digB_iff.1 c1
          have hvt := val_take (by omega) hall.out
          generalize valD 0 (s.data.toList.take k) = n at V1 hvt
          have hn0 : (0 : Int) ≤ (n : Int) := by omega
          have hn1 : (n : Int) < 100000000000000000 := by omega
          have hc0 : (0 : Int) ≤ ((s[k]'hlt).toNat : Int) - 48 := by omega
          clear c1 hvt
          go_wp2_with (fail)
          refine (specDigit _ _).mono ?_
          rintro e w0 ⟨rfl, rfl⟩
          rw [C1.out]
          go_wp2_with (fail)
          go_round
          case rel => exact ⟨k + 1, by omega, by go_num, by rw [V1.out], A1⟩
          case measure => simp [RowKit.intOf]; omega
      · have hlt' : ¬ (k : Int) < (s.size : Int) := by omega
        have hkk : s.data.toList.take k = s.data.toList := List.take_of_length_le (by rw [len_data]; omega)
        rw [hkk]
        have ha := hall.out
        rw [hkk] at ha
        have hvs := valD_small ha (by rw [len_data]; exact ht18)
        have hsg : sgV s.data.toList = (valD 0 s.data.toList : Int) := by unfold sgV; rw [HN.out, HD.out]; rfl
        have hit : goodD s.data.toList ↔ itoa ((valD 0 s.data.toList : Int)) = s.data.toList := by
          unfold goodD
          rw [hsg, HD.out, len_data]
          exact ⟨fun g => g.2.2.2, fun g => ⟨by omega, ht18, ha, g⟩⟩
        by_cases hg : itoa ((valD 0 s.data.toList : Int)) = s.data.toList
        · have E := hid (numV_yes (by rw [numS_yes (hit.2 hg), hsg]))
          have HC := hid (fun w => specDec ((valD 0 s.data.toList : Int)) w (by omega) (by omega))
          have hse : (⟨(itoa ((valD 0 s.data.toList : Int))).toArray⟩ : ByteArray) = s := by rw [hg]
          rw [hse] at HC
          generalize valD 0 s.data.toList = n at HC E hvs
          have hn0 : (0 : Int) ≤ (n : Int) := by omega
          have hn1 : (n : Int) < 1000000000000000000 := by omega
          clear hkk ha hvs hsg hit hg hse
          go_wp2_with (fail)
          refine (HC.out _).mono ?_
          rintro e w1 ⟨rfl, hb⟩
          go_wp2_with (fail)
          go_ret2
          exact ⟨by rw [E.out]; rfl, hb⟩
        · have E := hid (numV_no (numS_no (fun g => hg (hit.1 g))))
          have HC := hid (fun w => specDec ((valD 0 s.data.toList : Int)) w (by omega) (by omega))
          have hse : ¬ (⟨(itoa ((valD 0 s.data.toList : Int))).toArray⟩ : ByteArray) = s := by intro e; exact hg (congrArg (fun b : ByteArray => b.data.toList) e)
          generalize (⟨(itoa ((valD 0 s.data.toList : Int))).toArray⟩ : ByteArray) = u at HC hse
          have hse2 : (u.toList == s.toList) = false := bytes_ne hse
          generalize valD 0 s.data.toList = n at HC hvs
          have hn0 : (0 : Int) ≤ (n : Int) := by omega
          have hn1 : (n : Int) < 1000000000000000000 := by omega
          clear hkk ha hvs hsg hit hg hse
          go_wp2_with (fail)
          refine (HC.out _).mono ?_
          rintro e w1 ⟨rfl, hb⟩
          go_wp2_with (fail)
          go_ret2
          exact ⟨by rw [E.out]; rfl, hb⟩

theorem specNum (s : ByteArray) (w : World) (hs : s.size ≤ 1048576) :
    Calls Tryd.prog 66 #[.string s] w fun e w' => e = .returned (numV s.data.toList) ∧ Below w.heap.size w w' := by
  by_cases h0 : 0 < s.size
  · by_cases hc : (s[0]'h0).toNat = 45
    · obtain ⟨hd, hn, hz⟩ := drop_dash h0 hc
      exact specNumDash s _ w hs h0 rfl hz (by simp [hc]) hd hn
    · obtain ⟨hd, hn⟩ := drop_none h0 hc
      exact specNumPlain s w hs h0 (by rw [beq_eq_false_iff_ne]; omega) hd hn
  · have hl := len_data s
    have hl0 : s.data.toList = [] := List.length_eq_zero_iff.1 (by omega)
    have e1 : s.toList = [] := by rw [Lib.toList_data]; exact hl0
    have e2 : s.toList.isEmpty = true := by rw [e1]; rfl
    have hz : (s.size : Int) < 1 := by omega
    have E := hid (numV_no (numS_empty (l := s.data.toList) (by rw [hl0]; decide)))
    clear hl hl0 h0
    go_enter Tryd.func66, Tryd.ntmps66
    go_wp2_with (fail)
    go_ret2
    exact ⟨by rw [E.out]; rfl, Below.refl _ _⟩

end Go.Proofs.YtjijabfamjhdjaaDoor
