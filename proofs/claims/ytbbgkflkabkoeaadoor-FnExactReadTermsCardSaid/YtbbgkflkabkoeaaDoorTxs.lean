/- Contract: the text of terms, as the model writes it. -/
import Derived.Test.YtbbgkflkabkoeaaDoorTxm
import Derived.Test.YtbbgkflkabkoeaaDoorVt
import Derived.Deep.RegionHeld3
namespace Go.Proofs.YtbbgkflkabkoeaaDoor
open Go.RowKit Go.Lib

theorem okT_bdT {xs : List Int} (h : okT xs = true) : ∀ (j : Nat) (x : Int), xs[j]? = some x → -1000000000 ≤ x ∧ x ≤ 1000000000 := by
  intro j x hj
  by_cases h0 : j = 0
  · subst h0
    have := okT_first h
    rw [List.getD_eq_getElem?_getD, hj] at this
    exact this
  · have := okT_at h (by omega) hj
    omega

set_option maxHeartbeats 1600000 in
theorem specTextL (g c : Nat) (xs : List Int) (w : World) (h1 : 1 ≤ xs.length) (h2 : xs.length ≤ 60) (hb : ∀ (j : Nat) (x : Int), xs[j]? = some x → -1000000000 ≤ x ∧ x ≤ 1000000000) (ha : Ints w g 0 xs) :
    Calls Tryd.prog 14 #[.slice (some ⟨g, 0, none⟩) xs.length c] w fun e w' => e = .returned (.string ⟨(txT xs).toArray⟩) ∧ Below w.heap.size w w' := by
  have HA := hid ha
  have HB := hid hb
  obtain ⟨x, hx0⟩ : ∃ x, xs[0]? = some x := ⟨_, List.getElem?_eq_getElem (by omega)⟩
  have c0 := ints_at ha hx0
  have hxb := hb _ _ hx0
  have D0 := hid (specDec x w (by omega) (by omega))
  have hs0 : (itoa x).length ≤ 20 := itoa_len20 (by omega)
  have HP := hid (show pre xs 1 = 91 :: itoa x by rw [pre_one, List.getD_eq_getElem?_getD, hx0]; rfl)
  have HE := hid (pre_end (xs := xs) h1)
  have hn0 : (0 : Int) < (xs.length : Int) := by omega
  have hq0 : ¬ 9223372036854775807 < 1 + (itoa x).length := by omega
  have hq0' : ¬ 9223372036854775807 < (itoa x).length + 1 := by omega
  clear ha hb hx0 hxb
  generalize itoa x = sx at *
  go_enter Tryd.func14, Tryd.ntmps14
  go_wp2_with (fail)
  refine D0.out.mono ?_
  rintro e w1 ⟨rfl, b1⟩
  have E1 := hid b1
  clear b1
  go_wp2_with (fail)
  go_loopw [3, 4] (fun s i wr => ∃ (k : Nat) (T : ByteArray), i = .int .i64 k ∧ 1 ≤ k ∧ k ≤ xs.length ∧ s = .string T ∧ T.size ≤ 30 * k ∧ Hid (T.data.toList = pre xs k) ∧ Below w.heap.size w wr) (fun _ i _ => xs.length - (RowKit.intOf i).toNat)
  case atStart =>
    have ht : (⟨#[91]⟩ ++ ⟨sx.toArray⟩ : ByteArray).data.toList = pre xs 1 := by rw [HP.out, bytes_more _ [91] _ rfl]; rfl
    refine ⟨1, _, rfl, Nat.le_refl _, h1, rfl, ?_, hid ht, E1.out⟩
    rw [bytes_size ht, HP.out]
    simp
    omega
  case round =>
    obtain ⟨k, T, rfl, hk1, hk, rfl, hT, hpre, hbel⟩ := hrel
    have HBEL := hid hbel
    have hk0 : (0 : Int) ≤ (k : Int) := by omega
    by_cases hlt : k < xs.length
    · have hlt' : (k : Int) < (xs.length : Int) := by omega
      obtain ⟨t, hxk⟩ : ∃ t, xs[k]? = some t := ⟨_, List.getElem?_eq_getElem hlt⟩
      have ca1 := ints_at HA.out hxk
      have ca0 := (hbel.cell (p := ⟨g, k, none⟩) (World.block_lt_of_cell? _ _ ca1)).trans ca1
      have htb := HB.out _ _ hxk
      have DK := hid (fun w => specDec t w (by omega) (by omega))
      have hst : (itoa t).length ≤ 20 := itoa_len20 (by omega)
      have P1 := hid (show k = 1 → pre xs (k + 1) = pre xs k ++ [59, 32] ++ itoa t from fun e => by subst e; exact pre_first hxk)
      have P2 := hid (show 2 ≤ k → pre xs (k + 1) = pre xs k ++ [44, 32] ++ itoa t from fun e => pre_more e hxk)
      generalize itoa t = st at *
      have hq1 : ¬ 9223372036854775807 < T.size + 2 := by omega
      have hq2 : ¬ 9223372036854775807 < T.size + 2 + st.length := by omega
      have HT := hid hT
      clear ca1 hbel hxk htb
      by_cases h11 : k = 1
      · subst h11
        have HN := hid (show (T ++ ⟨#[59, 32]⟩ ++ ⟨st.toArray⟩ : ByteArray).data.toList = pre xs (1 + 1) by
          rw [P1.out rfl, bytes_more _ _ _ (bytes_more _ _ [59, 32] hpre.out)])
        have HNS := hid (show (T ++ ⟨#[59, 32]⟩ ++ ⟨st.toArray⟩ : ByteArray).size ≤ 30 * (1 + 1) by
          rw [bytes_size HN.out, P1.out rfl]
          have := bytes_size hpre.out
          have := HT.out
          simp
          omega)
        clear hpre P1 P2
        go_wp2_with (fail)
        refine (DK.out _).mono ?_
        rintro e w2 ⟨rfl, b2⟩
        have E2 := hid (HBEL.out.trans (b2.mono HBEL.out.size))
        clear b2
        go_wp2_with (fail)
        go_roundw
        case rel => exact ⟨1 + 1, _, by go_num, by omega, by omega, rfl, HNS.out, HN, E2.out⟩
        case measure => simp [RowKit.intOf]; omega
      · have h11' : ¬ (k : Int) = 1 := by omega
        have HN := hid (show (T ++ ⟨#[44, 32]⟩ ++ ⟨st.toArray⟩ : ByteArray).data.toList = pre xs (k + 1) by
          rw [P2.out (by omega), bytes_more _ _ _ (bytes_more _ _ [44, 32] hpre.out)])
        have HNS := hid (show (T ++ ⟨#[44, 32]⟩ ++ ⟨st.toArray⟩ : ByteArray).size ≤ 30 * (k + 1) by
          rw [bytes_size HN.out, P2.out (by omega)]
          have := bytes_size hpre.out
          have := HT.out
          simp
          omega)
        clear h11 hpre P1 P2
        go_wp2_with (fail)
        refine (DK.out _).mono ?_
        rintro e w2 ⟨rfl, b2⟩
        have E2 := hid (HBEL.out.trans (b2.mono HBEL.out.size))
        clear b2
        go_wp2_with (fail)
        go_roundw
        case rel => exact ⟨k + 1, _, by go_num, by omega, by omega, rfl, HNS.out, HN, E2.out⟩
        case measure => simp [RowKit.intOf]; omega
    · have hlt' : ¬ (k : Int) < (xs.length : Int) := by omega
      have hke : k = xs.length := by omega
      have HR := hid (show (T ++ ⟨#[93]⟩ : ByteArray) = ⟨(txT xs).toArray⟩ from bytes_of (by rw [bytes_more _ _ [93] hpre.out, hke]; exact HE.out))
      have hq1 : ¬ 9223372036854775807 < T.size + 1 := by omega
      clear hbel hpre hke
      go_wp2_with (fail)
      go_ret
      exact ⟨by rw [← HR.out]; rfl, HBEL.out⟩

theorem specTextT (g c : Nat) (xs : List Int) (w : World) (hx : xs.length ≤ 2000000000) (ha : Ints w g 0 xs) :
    Calls Tryd.prog 5 #[.slice (some ⟨g, 0, none⟩) xs.length c] w fun e w' => e = .returned (.string ⟨(if okT xs then txT xs else []).toArray⟩) ∧ Below w.heap.size w w' := by
  have HA := hid ha
  have V1 := hid (specOkT g c xs w hx ha)
  clear ha
  cases ho1 : okT xs
  · rw [ho1] at V1
    go_enter Tryd.func5, Tryd.ntmps5
    go_wp2_with (fail)
    refine V1.out.mono ?_
    rintro e w1 ⟨rfl, b1⟩
    have E1 := hid b1
    clear b1
    go_wp2_with (fail)
    go_ret
    exact ⟨rfl, E1.out⟩
  · rw [ho1] at V1
    have hl := okT_len ho1
    have C := hid (fun w1 (h : Below w.heap.size w w1) => specTextL g c xs w1 hl.1 hl.2 (okT_bdT ho1) (ints_below HA.out h))
    clear hl
    go_enter Tryd.func5, Tryd.ntmps5
    go_wp2_with (fail)
    refine V1.out.mono ?_
    rintro e w1 ⟨rfl, b1⟩
    have E1 := hid b1
    clear b1
    go_wp2_with (fail)
    refine (C.out _ E1.out).mono ?_
    rintro e w2 ⟨rfl, b2⟩
    have E2 := hid (E1.out.trans (b2.mono E1.out.size))
    clear b2
    go_wp2_with (fail)
    go_ret
    exact ⟨rfl, E2.out⟩

end Go.Proofs.YtbbgkflkabkoeaaDoor
