/- Mathematics: the text of terms with signs; and the contract of the model's text. -/
import Derived.Test.YtipegemhcmfnmaaDoorTxm
import Derived.Test.YtipegemhcmfnmaaDoorVs
namespace Go.Proofs.YtipegemhcmfnmaaDoor
open Go.RowKit Go.Lib

/-- The text of one element: its sign and its term. -/
def el (x : Int × Int) : List UInt8 := (if x.1 < 0 then 45 else 43) :: itoa x.2
/-- The text of terms with signs. -/
def sgT (xs : List (Int × Int)) : List UInt8 := itoa (xs.getD 0 (0, 0)).2 ++ joinTail [32] ((xs.drop 1).map el)
def sgO (xs : List (Int × Int)) : List UInt8 := if okS xs = true then sgT xs else []
theorem sgO_no {xs : List (Int × Int)} (h : okS xs = false) : sgO xs = [] := by unfold sgO; rw [h]; rfl
theorem sgO_ok {xs : List (Int × Int)} (h : okS xs = true) : sgO xs = sgT xs := by unfold sgO; rw [h]; rfl
/-- .. of the first k. -/
def spre (xs : List (Int × Int)) (k : Nat) : List UInt8 := itoa (xs.getD 0 (0, 0)).2 ++ joinTail [32] (((xs.drop 1).take (k - 1)).map el)
theorem spre_one (xs : List (Int × Int)) : spre xs 1 = itoa (xs.getD 0 (0, 0)).2 := by
  unfold spre
  show _ ++ joinTail [32] (List.map el (List.take 0 _)) = _
  rw [List.take_zero]
  unfold joinTail; simp
theorem spre_more {xs : List (Int × Int)} {k : Nat} {x : Int × Int} (hk : 1 ≤ k) (h : xs[k]? = some x) : spre xs (k + 1) = spre xs k ++ ([32] ++ el x) := by
  unfold spre
  have h1 : (xs.drop 1).take (k + 1 - 1) = (xs.drop 1).take (k - 1) ++ [x] := by
    rw [show k + 1 - 1 = (k - 1) + 1 by omega, List.take_add_one, List.getElem?_drop, show 1 + (k - 1) = k by omega, h]; rfl
  rw [h1, List.map_append, List.map_singleton, joinTail_more, List.append_assoc]
theorem spre_end {xs : List (Int × Int)} : spre xs xs.length = sgT xs := by
  unfold spre sgT
  rw [List.take_of_length_le (by rw [List.length_drop]; exact Nat.le_refl _)]
theorem el_len {x : Int × Int} (h : -1000000000 ≤ x.2 ∧ x.2 ≤ 1000000000) : (el x).length ≤ 21 := by
  have := itoa_len20 (n := x.2) (by omega)
  unfold el
  simp only [List.length_cons]
  omega
theorem okS_bd {xs : List (Int × Int)} (h : okS xs = true) {j : Nat} {x : Int × Int} (hj : xs[j]? = some x) : (x.1 = 1 ∨ x.1 = -1) ∧ (-1000000000 ≤ x.2 ∧ x.2 ≤ 1000000000) := by
  have := okAt_facts ((okS_iff.1 h).2 j x hj)
  exact ⟨this.1, this.2.1, this.2.2.1⟩
/-- What is joined begins with the plus sign of the first element. -/
theorem join_el {xs : List (Int × Int)} (h : okS xs = true) : join (xs.map el) [32] = 43 :: sgT xs := by
  have hl := okS_len h
  cases xs with
  | nil => simp at hl
  | cons x r =>
    have h1 := (okAt_facts ((okS_iff.1 h).2 0 x rfl)).2.2.2.1 rfl
    rw [List.map_cons, join_cons]
    show el x ++ joinTail [32] (r.map el) = 43 :: (itoa x.2 ++ joinTail [32] (r.map el))
    have : el x = 43 :: itoa x.2 := by unfold el; rw [if_neg (by omega)]
    rw [this]; rfl
theorem sjoinTail_len : ∀ (r : List (List UInt8)), (∀ x ∈ r, x.length ≤ 21) → (joinTail [32] r).length ≤ 22 * r.length
  | [], _ => by simp [joinTail]
  | x :: r, h => by
    have h1 := h x (by simp)
    have h2 := sjoinTail_len r (fun y hy => h y (by simp [hy]))
    unfold joinTail at h2 ⊢
    simp only [List.map_cons, List.flatten_cons, List.length_append, List.length_cons, List.length_nil]
    omega
theorem sjoin_len (r : List (List UInt8)) (h : ∀ x ∈ r, x.length ≤ 21) : (join r [32]).length ≤ 22 * r.length := by
  cases r with
  | nil => simp [join_nil]
  | cons x r =>
    rw [join_cons, List.length_append]
    have h1 := h x (by simp)
    have h2 := sjoinTail_len r (fun y hy => h y (by simp [hy]))
    simp only [List.length_cons]
    omega

set_option maxRecDepth 100000 in
set_option maxHeartbeats 1600000 in
theorem specTextSL (g c : Nat) (xs : List (Int × Int)) (w : World) (hok : okS xs = true) (ha : Sgs w g 0 xs) :
    Calls Tryd.prog 83 #[.slice (some ⟨g, 0, none⟩) xs.length c] w fun e w' => e = .returned (.string ⟨(sgT xs).toArray⟩) ∧ Below w.heap.size w w' := by
  have HA := hid ha
  obtain ⟨h1, h2⟩ := okS_len hok
  have HB := hid (fun j x hj => okS_bd hok (j := j) (x := x) hj)
  obtain ⟨⟨s0, t0⟩, hx0⟩ : ∃ x, xs[0]? = some x := ⟨_, List.getElem?_eq_getElem (by omega)⟩
  obtain ⟨c0, c1⟩ := sgs_at ha hx0
  simp only [Nat.zero_mul, Nat.zero_add] at c0 c1
  obtain ⟨_, hb1, hb2⟩ := HB.out 0 _ hx0
  dsimp only at hb1 hb2
  have D0 := hid (specDec t0 w (by omega) (by omega))
  have hs0 : (itoa t0).length ≤ 20 := itoa_len20 (by omega)
  have HP := hid (show spre xs 1 = itoa t0 by rw [spre_one, List.getD_eq_getElem?_getD, hx0]; rfl)
  have HE := hid (spre_end (xs := xs))
  have hn0 : (0 : Int) < (xs.length : Int) := by omega
  clear ha hok hx0
  generalize itoa t0 = sx at *
  go_enter Tryd.func83, Tryd.ntmps83
  go_wp2_with (fail)
  refine D0.out.mono ?_
  rintro e w1 ⟨rfl, b1⟩
  have E1 := hid b1
  clear b1
  go_wp2_with (fail)
  go_loopw [3, 4] (fun s i wr => ∃ (k : Nat) (T : ByteArray), i = .int .i64 k ∧ 1 ≤ k ∧ k ≤ xs.length ∧ s = .string T ∧ T.size ≤ 30 * k ∧ Hid (T.data.toList = spre xs k) ∧ Below w.heap.size w wr) (fun _ i _ => xs.length - (RowKit.intOf i).toNat)
  case atStart =>
    refine ⟨1, _, rfl, Nat.le_refl _, h1, rfl, ?_, hid (by rw [HP.out]), E1.out⟩
    rw [show (⟨sx.toArray⟩ : ByteArray).size = sx.length from by simp [ByteArray.size]]
    omega
  case round =>
    obtain ⟨k, T, rfl, hk1, hk, rfl, hT, hpre, hbel⟩ := hrel
    have HBEL := hid hbel
    have hk0 : (0 : Int) ≤ (k : Int) := by omega
    by_cases hlt : k < xs.length
    · have hlt' : (k : Int) < (xs.length : Int) := by omega
      obtain ⟨⟨s, t⟩, hxk⟩ : ∃ t, xs[k]? = some t := ⟨_, List.getElem?_eq_getElem hlt⟩
      obtain ⟨ca1, ca2⟩ := sgs_at (sgs_below HA.out hbel) hxk
      dsimp only at ca1 ca2
      obtain ⟨hs1, ht1, ht2⟩ := HB.out _ _ hxk
      dsimp only at hs1 ht1 ht2
      have DK := hid (fun w => specDec t w (by omega) (by omega))
      have hst : (itoa t).length ≤ 20 := itoa_len20 (by omega)
      have P1 := hid (spre_more hk1 hxk)
      have HEL := hid (show el (s, t) = (if s < 0 then 45 else 43) :: itoa t from rfl)
      generalize itoa t = st at *
      have hq1 : ¬ 9223372036854775807 < 2 + st.length := by omega
      have hq1' : ¬ 9223372036854775807 < st.length + 2 := by omega
      have hq2 : ¬ 9223372036854775807 < T.size + (2 + st.length) := by omega
      have hq2' : ¬ 9223372036854775807 < T.size + (st.length + 2) := by omega
      have HT := hid hT
      clear hbel hxk
      rcases hs1 with rfl | rfl
      · have HN := hid (show (T ++ (⟨#[32, 43]⟩ ++ ⟨st.toArray⟩) : ByteArray).data.toList = spre xs (k + 1) by
          rw [P1.out, HEL.out, if_neg (by decide), ByteArray.data_append, Array.toList_append, hpre.out, bytes_more _ _ st rfl]; rfl)
        have HNS := hid (show (T ++ (⟨#[32, 43]⟩ ++ ⟨st.toArray⟩) : ByteArray).size ≤ 30 * (k + 1) by
          rw [bytes_size HN.out, P1.out, HEL.out, if_neg (by decide)]
          have := bytes_size hpre.out
          have := HT.out
          simp
          omega)
        clear hpre P1 HEL
        go_wp2_with (fail)
        refine (DK.out _).mono ?_
        rintro e w2 ⟨rfl, b2⟩
        have E2 := hid (HBEL.out.trans (b2.mono HBEL.out.size))
        clear b2
        go_wp2_with (fail)
        go_roundw
        case rel => exact ⟨k + 1, _, by go_num, by omega, by omega, rfl, HNS.out, HN, E2.out⟩
        case measure => simp [RowKit.intOf]; omega
      · have HN := hid (show (T ++ (⟨#[32, 45]⟩ ++ ⟨st.toArray⟩) : ByteArray).data.toList = spre xs (k + 1) by
          rw [P1.out, HEL.out, if_pos (by decide), ByteArray.data_append, Array.toList_append, hpre.out, bytes_more _ _ st rfl]; rfl)
        have HNS := hid (show (T ++ (⟨#[32, 45]⟩ ++ ⟨st.toArray⟩) : ByteArray).size ≤ 30 * (k + 1) by
          rw [bytes_size HN.out, P1.out, HEL.out, if_pos (by decide)]
          have := bytes_size hpre.out
          have := HT.out
          simp
          omega)
        clear hpre P1 HEL
        go_wp2_with (fail)
        refine (DK.out _).mono ?_
        rintro e w2 ⟨rfl, b2⟩
        have E2 := hid (HBEL.out.trans (b2.mono HBEL.out.size))
        clear b2
        go_wp2_with (fail)
        go_roundw
        case rel => exact ⟨k + 1, _, by go_num, by omega, by omega, rfl, HNS.out, HN, E2.out⟩
        case measure => simp [RowKit.intOf]; omega
    · have hlt' : ¬ (k : Int) < (xs.length : Int) := by omega
      have hke : k = xs.length := by omega
      have HR := hid (show T = ⟨(sgT xs).toArray⟩ from bytes_of (by rw [hpre.out, hke]; exact HE.out))
      clear hbel hpre hke
      go_wp2_with (fail)
      go_ret
      exact ⟨by rw [← HR.out]; rfl, HBEL.out⟩

theorem specTextS (g c : Nat) (xs : List (Int × Int)) (w : World) (hx : xs.length ≤ 2000000000) (ha : Sgs w g 0 xs) :
    Calls Tryd.prog 52 #[.slice (some ⟨g, 0, none⟩) xs.length c] w fun e w' => e = .returned (.string ⟨(sgO xs).toArray⟩) ∧ Below w.heap.size w w' := by
  have HA := hid ha
  have V1 := hid (specOkS g c xs w hx ha)
  clear ha
  cases ho1 : okS xs
  · rw [ho1] at V1
    rw [sgO_no ho1]
    go_enter Tryd.func52, Tryd.ntmps52
    go_wp2_with (fail)
    refine V1.out.mono ?_
    rintro e w1 ⟨rfl, b1⟩
    have E1 := hid b1
    clear b1
    go_wp2_with (fail)
    go_ret
    exact ⟨rfl, E1.out⟩
  · rw [ho1] at V1
    rw [sgO_ok ho1]
    have C := hid (fun w1 (h : Below w.heap.size w w1) => specTextSL g c xs w1 ho1 (sgs_below HA.out h))
    clear ho1
    go_enter Tryd.func52, Tryd.ntmps52
    go_wp2_with (fail)
    refine V1.out.mono ?_
    rintro e w1 ⟨rfl, b1⟩
    have E1 := hid b1
    clear b1
    go_wp2_with (fail)
    refine (C.out _ E1.out).mono ?_
    rintro e w2 ⟨rfl, b2⟩
    have E2 := hid (E1.out.trans (b2.mono E1.out.size))
    clear b2
    go_wp2_with (fail)
    go_ret
    exact ⟨rfl, E2.out⟩

end Go.Proofs.YtipegemhcmfnmaaDoor
