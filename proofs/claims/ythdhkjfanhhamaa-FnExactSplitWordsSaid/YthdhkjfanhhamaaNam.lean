/- Contracts: which texts are names, as the program and the model tell it. -/
import Derived.Test.YthdhkjfanhhamaaCd
import Derived.Laws.RangeAny
import Derived.Lib.Strings
namespace Go.Proofs.Ythdhkjfanhhamaa
open Go.RowKit

def letB (x : Int) : Bool := decide (97 ≤ x ∧ x ≤ 122)
def digB (x : Int) : Bool := decide (48 ≤ x ∧ x ≤ 57)
theorem letB_iff {x : Int} : letB x = true ↔ 97 ≤ x ∧ x ≤ 122 := decide_eq_true_iff
theorem digB_iff {x : Int} : digB x = true ↔ 48 ≤ x ∧ x ≤ 57 := decide_eq_true_iff
theorem retBn {a b : Bool} (h : a = b) : Ending.returned (.bool a) = .returned (.bool b) := by rw [h]
theorem letB_no {x : Int} (h : ¬ (97 ≤ x ∧ x ≤ 122)) : letB x = false := by rw [Bool.eq_false_iff]; exact fun e => h (letB_iff.1 e)
theorem digB_no {x : Int} (h : ¬ (48 ≤ x ∧ x ≤ 57)) : digB x = false := by rw [Bool.eq_false_iff]; exact fun e => h (digB_iff.1 e)

theorem specSmall (x : Int) (w : World) : Calls Try.prog 53 #[.int .u8 x] w fun e w' => e = .returned (.bool (letB x)) ∧ w' = w := by
  by_cases h1 : 97 ≤ x
  · by_cases h2 : x ≤ 122
    · rw [letB_iff.2 ⟨h1, h2⟩]
      go_enter Try.func53, Try.ntmps53
      go_wp2
      go_ret
      exact ⟨rfl, rfl⟩
    · rw [letB_no (by omega)]
      go_enter Try.func53, Try.ntmps53
      go_wp2
      go_ret
      exact ⟨rfl, rfl⟩
  · rw [letB_no (by omega)]
    go_enter Try.func53, Try.ntmps53
    go_wp2
    go_ret
    exact ⟨rfl, rfl⟩
theorem specDigit (x : Int) (w : World) : Calls Try.prog 54 #[.int .u8 x] w fun e w' => e = .returned (.bool (digB x)) ∧ w' = w := by
  by_cases h1 : 48 ≤ x
  · by_cases h2 : x ≤ 57
    · rw [digB_iff.2 ⟨h1, h2⟩]
      go_enter Try.func54, Try.ntmps54
      go_wp2
      go_ret
      exact ⟨rfl, rfl⟩
    · rw [digB_no (by omega)]
      go_enter Try.func54, Try.ntmps54
      go_wp2
      go_ret
      exact ⟨rfl, rfl⟩
  · rw [digB_no (by omega)]
    go_enter Try.func54, Try.ntmps54
    go_wp2
    go_ret
    exact ⟨rfl, rfl⟩
theorem implSmall (x : Int) (w : World) : Calls Try.prog 55 #[.int .i32 x] w fun e w' => e = .returned (.bool (letB x)) ∧ w' = w := by
  by_cases h1 : 97 ≤ x
  · by_cases h2 : x ≤ 122
    · rw [letB_iff.2 ⟨h1, h2⟩]
      go_enter Try.func55, Try.ntmps55
      go_wp2
      go_ret
      exact ⟨rfl, rfl⟩
    · rw [letB_no (by omega)]
      go_enter Try.func55, Try.ntmps55
      go_wp2
      go_ret
      exact ⟨rfl, rfl⟩
  · rw [letB_no (by omega)]
    go_enter Try.func55, Try.ntmps55
    go_wp2
    go_ret
    exact ⟨rfl, rfl⟩
theorem implDigit (x : Int) (w : World) : Calls Try.prog 56 #[.int .i32 x] w fun e w' => e = .returned (.bool (digB x)) ∧ w' = w := by
  by_cases h1 : 48 ≤ x
  · by_cases h2 : x ≤ 57
    · rw [digB_iff.2 ⟨h1, h2⟩]
      go_enter Try.func56, Try.ntmps56
      go_wp2
      go_ret
      exact ⟨rfl, rfl⟩
    · rw [digB_no (by omega)]
      go_enter Try.func56, Try.ntmps56
      go_wp2
      go_ret
      exact ⟨rfl, rfl⟩
  · rw [digB_no (by omega)]
    go_enter Try.func56, Try.ntmps56
    go_wp2
    go_ret
    exact ⟨rfl, rfl⟩

/-- A letter, a digit or a hyphen. -/
def okC (x : Int) : Bool := letB x || (digB x || x == 45)
/-- Is a text a name? -/
def nmB (l : List UInt8) : Bool := decide (1 ≤ l.length ∧ l.length ≤ 12) && (letB (l.getD 0 0).toNat && l.all fun c => okC c.toNat)

theorem nmB_short {l : List UInt8} (h : ¬ (1 ≤ l.length ∧ l.length ≤ 12)) : nmB l = false := by unfold nmB; rw [decide_eq_false h]; rfl
theorem nmB_first {l : List UInt8} (h : letB (l.getD 0 0).toNat = false) : nmB l = false := by unfold nmB; rw [h]; simp
theorem nmB_bad {l : List UInt8} {k : Nat} (hk : k < l.length) (h : okC (l[k]).toNat = false) : nmB l = false := by
  unfold nmB
  have : l.all (fun c => okC c.toNat) = false := by
    rw [Bool.eq_false_iff]
    intro e
    have h2 : okC (l[k]).toNat = true := List.all_eq_true.1 e _ (List.getElem_mem hk)
    rw [h] at h2
    cases h2
  rw [this]; simp
theorem nmB_yes {l : List UInt8} (h : 1 ≤ l.length ∧ l.length ≤ 12) (h1 : letB (l.getD 0 0).toNat = true) (h2 : ∀ k (hk : k < l.length), okC (l[k]).toNat = true) : nmB l = true := by
  unfold nmB
  rw [decide_eq_true h, h1, Bool.true_and, Bool.true_and, List.all_eq_true]
  intro c hc
  obtain ⟨i, hi, rfl⟩ := List.getElem_of_mem hc
  exact h2 i hi

theorem byte_at (s : ByteArray) (k : Nat) (h : k < s.size) : s.data.toList[k]'(by rw [Array.length_toList]; exact h) = s[k]'h := by
  rw [Array.getElem_toList]; rfl
theorem nmS_first {s : ByteArray} (h : 0 < s.size) (h1 : letB (s[0]'h).toNat = false) : nmB s.data.toList = false := by
  refine nmB_first ?_
  rw [List.getD_eq_getElem?_getD, List.getElem?_eq_getElem (by rw [Array.length_toList]; exact h), Option.getD_some, byte_at s 0 h]; exact h1
theorem nmS_bad {s : ByteArray} {k : Nat} (h : k < s.size) (h1 : okC (s[k]'h).toNat = false) : nmB s.data.toList = false :=
  nmB_bad (k := k) (by rw [Array.length_toList]; exact h) (by rw [byte_at s k h]; exact h1)
theorem nmS_yes {s : ByteArray} (h : 0 < s.size) (h12 : s.size ≤ 12) (h1 : letB (s[0]'h).toNat = true) (h2 : ∀ k (hk : k < s.size), okC (s[k]'hk).toNat = true) : nmB s.data.toList = true := by
  have hL : s.data.toList.length = s.size := Array.length_toList
  refine nmB_yes (by omega) ?_ (fun k hk => ?_)
  · rw [List.getD_eq_getElem?_getD, List.getElem?_eq_getElem (by omega), Option.getD_some, byte_at s 0 h]; exact h1
  · rw [byte_at s k (by omega)]; exact h2 k (by omega)

set_option maxHeartbeats 400000 in
theorem specName (s : ByteArray) (w : World) (hs : s.size ≤ 1048576) :
    Calls Try.prog 22 #[.string s] w fun e w' => e = .returned (.bool (nmB s.data.toList)) ∧ w' = w := by
  have hL : s.data.toList.length = s.size := Array.length_toList
  by_cases h0 : s.size = 0
  · rw [nmB_short (by omega)]
    have e1 : s.toList = [] := by rw [Lib.toList_data]; exact List.length_eq_zero_iff.1 (by omega)
    have e2 : s.toList.isEmpty = true := by rw [e1]; rfl
    clear hL h0
    go_enter Try.func22, Try.ntmps22
    go_wp2_with (fail)
    go_ret
    exact ⟨rfl, rfl⟩
  · have e1 : s.toList.isEmpty = false := by
      rw [Lib.toList_data, List.isEmpty_eq_false_iff]
      intro e
      rw [e] at hL
      simp at hL
      omega
    by_cases h12 : 12 < s.size
    · rw [nmB_short (by omega)]
      have h12' : (12 : Int) < (s.size : Int) := by omega
      clear hL h0
      go_enter Try.func22, Try.ntmps22
      go_wp2_with (fail)
      go_ret
      exact ⟨rfl, rfl⟩
    · have h12' : ¬ (12 : Int) < (s.size : Int) := by omega
      have hp : (0 : Int) < (s.size : Int) := by omega
      have hp' : 0 < s.size := by omega
      have hv0 : 0 ≤ ((s[0]'hp').toNat : Int) ∧ ((s[0]'hp').toNat : Int) < 256 := by have := UInt8.toNat_lt (s[0]'hp'); omega
      cases hb : letB (s[0]'hp').toNat with
      | false =>
        rw [nmS_first hp' hb]
        have HB := hid hb
        clear hb hL h0
        go_enter Try.func22, Try.ntmps22
        go_wp2_with (fail)
        refine (specSmall _ _).mono ?_
        rintro e w0 ⟨rfl, rfl⟩
        rw [HB.out]
        go_wp2_with (fail)
        go_ret
        exact ⟨rfl, rfl⟩
      | true =>
        have HB := hid hb
        clear hb hL h0
        go_enter Try.func22, Try.ntmps22
        go_wp2_with (fail)
        refine (specSmall _ _).mono ?_
        rintro e w0 ⟨rfl, rfl⟩
        rw [HB.out]
        go_wp2_with (fail)
        go_loop [3] (fun i => ∃ k : Nat, k ≤ s.size ∧ i = .int .i64 k ∧ Hid (∀ j (_ : j < k) (h : j < s.size), okC (s[j]'h).toNat = true)) (fun i => s.size - (intOf i).toNat)
        case atStart => exact ⟨0, by omega, rfl, hid (fun j hj => by omega)⟩
        case round =>
          obtain ⟨k, hk, rfl, hall⟩ := hrel
          by_cases hlt : k < s.size
          · have hlt' : (k : Int) < (s.size : Int) := by omega
            cases c1 : letB (s[k]'hlt).toNat with
            | true =>
              have C1 := hid c1
              have OK := hid (show okC (s[k]'hlt).toNat = true by unfold okC; rw [c1]; rfl)
              clear c1
              go_wp2_with (fail)
              refine (specSmall _ _).mono ?_
              rintro e w0 ⟨rfl, rfl⟩
              rw [C1.out]
              go_wp2_with (fail)
              go_round
              case rel =>
                refine ⟨k + 1, by omega, by go_num, hid (fun j hj h => ?_)⟩
                by_cases hjk : j = k
                · subst hjk; exact OK.out
                · exact hall.out j (by omega) h
              case measure => simp [intOf]; omega
            | false =>
              cases c2 : digB (s[k]'hlt).toNat with
              | true =>
                have C1 := hid c1
                have C2 := hid c2
                have OK := hid (show okC (s[k]'hlt).toNat = true by unfold okC; rw [c1, c2]; rfl)
                clear c1 c2
                go_wp2_with (fail)
                refine (specSmall _ _).mono ?_
                rintro e w0 ⟨rfl, rfl⟩
                rw [C1.out]
                go_wp2_with (fail)
                refine (specDigit _ _).mono ?_
                rintro e w0 ⟨rfl, rfl⟩
                rw [C2.out]
                go_wp2_with (fail)
                go_round
                case rel =>
                  refine ⟨k + 1, by omega, by go_num, hid (fun j hj h => ?_)⟩
                  by_cases hjk : j = k
                  · subst hjk; exact OK.out
                  · exact hall.out j (by omega) h
                case measure => simp [intOf]; omega
              | false =>
                cases c3 : (((s[k]'hlt).toNat : Int) == 45) with
                | true =>
                  have C1 := hid c1
                  have C2 := hid c2
                  have OK := hid (show okC (s[k]'hlt).toNat = true by unfold okC; rw [c1, c2, c3]; rfl)
                  have c3' : (((s[k]'hlt).toNat : Int) != 45) = false := by simpa using c3
                  have C3 := hid c3'
                  clear c1 c2 c3 c3'
                  go_wp2_with (fail)
                  refine (specSmall _ _).mono ?_
                  rintro e w0 ⟨rfl, rfl⟩
                  rw [C1.out]
                  go_wp2_with (fail)
                  refine (specDigit _ _).mono ?_
                  rintro e w0 ⟨rfl, rfl⟩
                  rw [C2.out]
                  have c3 := C3.out
                  go_wp2_with (fail)
                  go_round
                  case rel =>
                    refine ⟨k + 1, by omega, by go_num, hid (fun j hj h => ?_)⟩
                    by_cases hjk : j = k
                    · subst hjk; exact OK.out
                    · exact hall.out j (by omega) h
                  case measure => simp [intOf]; omega
                | false =>
                  have C1 := hid c1
                  have C2 := hid c2
                  have NO := hid (nmS_bad hlt (show okC (s[k]'hlt).toNat = false by unfold okC; rw [c1, c2, c3]; rfl))
                  have c3' : (((s[k]'hlt).toNat : Int) != 45) = true := by simpa using c3
                  have C3 := hid c3'
                  clear c1 c2 c3 c3'
                  go_wp2_with (fail)
                  refine (specSmall _ _).mono ?_
                  rintro e w0 ⟨rfl, rfl⟩
                  rw [C1.out]
                  go_wp2_with (fail)
                  refine (specDigit _ _).mono ?_
                  rintro e w0 ⟨rfl, rfl⟩
                  rw [C2.out]
                  have c3 := C3.out
                  go_wp2_with (fail)
                  go_ret
                  exact ⟨retBn NO.out.symm, rfl⟩
          · have hlt' : ¬ (k : Int) < (s.size : Int) := by omega
            have YES := hid (nmS_yes hp' (by omega) HB.out (fun j hj => hall.out j (by omega) hj))
            go_wp2_with (fail)
            go_ret
            exact ⟨retBn YES.out.symm, rfl⟩

theorem okC_high {x : Int} (h : 128 ≤ x) : okC x = false := by
  unfold okC
  rw [letB_no (by omega), digB_no (by omega)]
  simp
  omega

set_option maxHeartbeats 800000 in
theorem implName (s : ByteArray) (w : World) (hs : s.size ≤ 1048576) :
    Calls Try.prog 23 #[.string s] w fun e w' => e = .returned (.bool (nmB s.data.toList)) ∧ Below w.heap.size w w' := by
  have hL : s.data.toList.length = s.size := Array.length_toList
  by_cases h0 : s.size = 0
  · rw [nmB_short (by omega)]
    have e1 : (s.size : Int) < 1 := by omega
    clear hL h0
    go_enter Try.func23, Try.ntmps23
    go_wp2_with (fail)
    go_ret
    exact ⟨rfl, Below.refl _ _⟩
  · by_cases h12 : 12 < s.size
    · rw [nmB_short (by omega)]
      have e1 : ¬ (s.size : Int) < 1 := by omega
      have h12' : (12 : Int) < (s.size : Int) := by omega
      clear hL h0
      go_enter Try.func23, Try.ntmps23
      go_wp2_with (fail)
      go_ret
      exact ⟨rfl, Below.refl _ _⟩
    · have e1 : ¬ (s.size : Int) < 1 := by omega
      have h12' : ¬ (12 : Int) < (s.size : Int) := by omega
      have hp' : 0 < s.size := by omega
      clear hL h0
      go_enter Try.func23, Try.ntmps23
      go_wp2_with (fail)
      go_loopw [3] (fun _ wr => ∃ k : Nat, k ≤ s.size ∧ wr = w.iter s k ∧ Hid ((∀ h : 0 < s.size, 0 < k → letB (s[0]'h).toNat = true) ∧ ∀ j (_ : j < k) (h : j < s.size), okC (s[j]'h).toNat = true)) (fun _ wr => s.size - wr.iterPos w.heap.size)
      case atStart => exact ⟨0, by omega, rfl, hid ⟨fun _ h => by omega, fun j hj => by omega⟩⟩
      case round =>
        obtain ⟨k, hk, rfl, hall⟩ := hrel
        by_cases hlt : k < s.size
        · have hv0 : 0 ≤ ((s[k]'hlt).toNat : Int) ∧ ((s[k]'hlt).toNat : Int) < 256 := by have := UInt8.toNat_lt (s[k]'hlt); omega
          by_cases ha : (s[k]'hlt).toNat < 128
          · have hnx : ∀ ty, (Instr.next (.pointer (some ⟨w.heap.size, 0, none⟩)) true ty).run Try.prog (w.iter s k) = _ := fun ty => run_next_ascii w s k ty hlt ha
            cases c1 : letB (s[k]'hlt).toNat with
            | true =>
              have C1 := hid c1
              have OK := hid (show okC (s[k]'hlt).toNat = true by unfold okC; rw [c1]; rfl)
              have FST := hid (show ∀ _ : 0 < k + 1, letB (s[0]'hp').toNat = true by
                intro _
                by_cases hk0 : k = 0
                · subst hk0; exact c1
                · exact hall.out.1 hp' (by omega))
              clear c1
              go_wp2_with (fail)
              refine (implSmall _ _).mono ?_
              rintro e w0 ⟨rfl, rfl⟩
              rw [C1.out]
              go_wp2_with (fail)
              go_roundw
              case rel =>
                refine ⟨k + 1, by omega, rfl, hid ⟨fun h h1 => ?_, fun j hj h => ?_⟩⟩
                · exact FST.out h1
                · by_cases hjk : j = k
                  · subst hjk; exact OK.out
                  · exact hall.out.2 j (by omega) h
              case measure => simp; omega
            | false =>
              by_cases hk0 : k = 0
              · subst hk0
                have NO := hid (nmS_first hlt c1)
                have C1 := hid c1
                clear c1
                go_wp2_with (fail)
                refine (implSmall _ _).mono ?_
                rintro e w0 ⟨rfl, rfl⟩
                rw [C1.out]
                go_wp2_with (fail)
                go_ret
                exact ⟨retBn NO.out.symm, (Below.refl _ _).alloc (Nat.le_refl _) _⟩
              · have hkz : ((k : Int) == 0) = false := by simp; omega
                have FST := hid (show ∀ _ : 0 < k + 1, letB (s[0]'hp').toNat = true from fun _ => hall.out.1 hp' (by omega))
                cases c2 : digB (s[k]'hlt).toNat with
                | true =>
                  have C1 := hid c1
                  have C2 := hid c2
                  have OK := hid (show okC (s[k]'hlt).toNat = true by unfold okC; rw [c1, c2]; rfl)
                  clear c1 c2 hk0
                  go_wp2_with (fail)
                  refine (implSmall _ _).mono ?_
                  rintro e w0 ⟨rfl, rfl⟩
                  rw [C1.out]
                  go_wp2_with (fail)
                  refine (implDigit _ _).mono ?_
                  rintro e w0 ⟨rfl, rfl⟩
                  rw [C2.out]
                  go_wp2_with (fail)
                  go_roundw
                  case rel =>
                    refine ⟨k + 1, by omega, rfl, hid ⟨fun h h1 => ?_, fun j hj h => ?_⟩⟩
                    · exact FST.out h1
                    · by_cases hjk : j = k
                      · subst hjk; exact OK.out
                      · exact hall.out.2 j (by omega) h
                  case measure => simp; omega
                | false =>
                  cases c3 : (((s[k]'hlt).toNat : Int) == 45) with
                  | true =>
                    have C1 := hid c1
                    have C2 := hid c2
                    have OK := hid (show okC (s[k]'hlt).toNat = true by unfold okC; rw [c1, c2, c3]; rfl)
                    have c3' : (((s[k]'hlt).toNat : Int) != 45) = false := by simpa using c3
                    have C3 := hid c3'
                    clear c1 c2 c3 c3' hk0
                    go_wp2_with (fail)
                    refine (implSmall _ _).mono ?_
                    rintro e w0 ⟨rfl, rfl⟩
                    rw [C1.out]
                    go_wp2_with (fail)
                    refine (implDigit _ _).mono ?_
                    rintro e w0 ⟨rfl, rfl⟩
                    rw [C2.out]
                    have c3 := C3.out
                    go_wp2_with (fail)
                    go_roundw
                    case rel =>
                      refine ⟨k + 1, by omega, rfl, hid ⟨fun h h1 => ?_, fun j hj h => ?_⟩⟩
                      · exact FST.out h1
                      · by_cases hjk : j = k
                        · subst hjk; exact OK.out
                        · exact hall.out.2 j (by omega) h
                    case measure => simp; omega
                  | false =>
                    have C1 := hid c1
                    have C2 := hid c2
                    have NO := hid (nmS_bad hlt (show okC (s[k]'hlt).toNat = false by unfold okC; rw [c1, c2, c3]; rfl))
                    have c3' : (((s[k]'hlt).toNat : Int) != 45) = true := by simpa using c3
                    have C3 := hid c3'
                    clear c1 c2 c3 c3' hk0
                    go_wp2_with (fail)
                    refine (implSmall _ _).mono ?_
                    rintro e w0 ⟨rfl, rfl⟩
                    rw [C1.out]
                    go_wp2_with (fail)
                    refine (implDigit _ _).mono ?_
                    rintro e w0 ⟨rfl, rfl⟩
                    rw [C2.out]
                    have c3 := C3.out
                    go_wp2_with (fail)
                    go_ret
                    exact ⟨retBn NO.out.symm, (Below.refl _ _).alloc (Nat.le_refl _) _⟩
          · have hnx : ∀ ty, (Instr.next (.pointer (some ⟨w.heap.size, 0, none⟩)) true ty).run Try.prog (w.iter s k) = _ := fun ty => run_next_any w s k ty hlt
            have hh := (decode_high s k hlt (by omega)).1
            have NO := hid (nmS_bad hlt (okC_high (by omega)))
            generalize (Utf8.decode s k).1 = r at hnx hh
            generalize (Utf8.decode s k).2 = q at hnx
            have C1 := hid (letB_no (x := (r : Int)) (by omega))
            have C2 := hid (digB_no (x := (r : Int)) (by omega))
            have c3 : ((r : Int) != 45) = true := by simp; omega
            by_cases hk0 : k = 0
            · subst hk0
              go_wp2_with (fail)
              refine (implSmall _ _).mono ?_
              rintro e w0 ⟨rfl, rfl⟩
              rw [C1.out]
              go_wp2_with (fail)
              go_ret
              exact ⟨retBn NO.out.symm, (Below.refl _ _).alloc (Nat.le_refl _) _⟩
            · have hkz : ((k : Int) == 0) = false := by simp; omega
              clear hk0
              go_wp2_with (fail)
              refine (implSmall _ _).mono ?_
              rintro e w0 ⟨rfl, rfl⟩
              rw [C1.out]
              go_wp2_with (fail)
              refine (implDigit _ _).mono ?_
              rintro e w0 ⟨rfl, rfl⟩
              rw [C2.out]
              go_wp2_with (fail)
              go_ret
              exact ⟨retBn NO.out.symm, (Below.refl _ _).alloc (Nat.le_refl _) _⟩
        · have hnx : ∀ ty, (Instr.next (.pointer (some ⟨w.heap.size, 0, none⟩)) true ty).run Try.prog (w.iter s k) = _ := fun ty => run_next_end w s k ty hlt
          have YES := hid (nmS_yes hp' (by omega) (hall.out.1 hp' (by omega)) (fun j hj => hall.out.2 j (by omega) hj))
          go_wp2_with (fail)
          go_ret
          exact ⟨retBn YES.out.symm, (Below.refl _ _).alloc (Nat.le_refl _) _⟩

end Go.Proofs.Ythdhkjfanhhamaa
