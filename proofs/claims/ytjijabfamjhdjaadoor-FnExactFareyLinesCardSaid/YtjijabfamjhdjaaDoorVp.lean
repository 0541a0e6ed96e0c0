/- Contracts: which lists are paths, by the program and by the model. -/
import Derived.Test.YtjijabfamjhdjaaDoorVt
import Derived.Test.YtjijabfamjhdjaaDoorTrm
namespace Go.Proofs.YtjijabfamjhdjaaDoor
open Go.RowKit

theorem implValidPath (g c : Nat) (xs : List Int) (w : World) (hx : xs.length ≤ 2000000000) (hc : xs.length ≤ c) (ha : Ints w g 0 xs) :
    Calls Tryd.prog 61 #[.slice (some ⟨g, 0, none⟩) xs.length c] w fun e w' => e = .returned (.bool (okP xs)) ∧ Below w.heap.size w w' := by
  by_cases h1 : 60 < xs.length
  · have h1' : (60 : Int) < (xs.length : Int) := by omega
    have HR := hid (okP_long (xs := xs) (by omega))
    clear ha
    go_enter Tryd.func61, Tryd.ntmps61
    go_wp2_with (fail)
    go_ret
    exact ⟨retBv HR.out.symm, Below.refl _ _⟩
  · have h1' : ¬ (60 : Int) < (xs.length : Int) := by omega
    by_cases h2 : 1 < xs.length
    · have h2' : (1 : Int) < (xs.length : Int) := by omega
      have h3 : (0 : Int) < (xs.length : Int) := by omega
      have h4 : (xs.length : Int) ≤ (c : Int) := by omega
      have h5 : (1 : Int) ≤ (xs.length : Int) := by omega
      have hc1 : c ≠ 1 := by omega
      obtain ⟨x, hx0⟩ : ∃ x, xs[0]? = some x := ⟨_, List.getElem?_eq_getElem (by omega)⟩
      have c0 := ints_at ha hx0
      by_cases hz : x = 0
      · subst hz
        have HR := hid (okP_zero (xs := xs) (by omega) h2 hx0)
        have W2 := hid (allWithin 1 1000000000 g (0 + 1) (xs.length - 1) (c - 1) (xs.drop 1) w (by simp) (by simp; omega) (ints_drop ha 1))
        clear ha hx0
        go_enter Tryd.func61, Tryd.ntmps61
        go_wp2_with (fail)
        refine W2.out.mono ?_
        rintro e w1 ⟨rfl, b1⟩
        go_wp2_with (fail)
        go_ret
        exact ⟨retBv (by rw [← List.drop_one]; exact HR.out.symm), b1⟩
      · have hz' : (x == 0) = false := by simpa using hz
        have HR := hid (okP_all (xs := xs) (by omega) (fun h => hz (by have := h.2; rw [hx0] at this; simpa using this)))
        have W2 := hid (allWithin 1 1000000000 g 0 xs.length c xs w rfl (by omega) ha)
        clear ha hx0
        go_enter Tryd.func61, Tryd.ntmps61
        go_wp2_with (fail)
        refine W2.out.mono ?_
        rintro e w1 ⟨rfl, b1⟩
        go_wp2_with (fail)
        go_ret
        exact ⟨retBv HR.out.symm, b1⟩
    · have h2' : ¬ (1 : Int) < (xs.length : Int) := by omega
      have HR := hid (okP_all (xs := xs) (by omega) (fun h => h2 h.1))
      have W2 := hid (allWithin 1 1000000000 g 0 xs.length c xs w rfl (by omega) ha)
      clear ha
      go_enter Tryd.func61, Tryd.ntmps61
      go_wp2_with (fail)
      refine W2.out.mono ?_
      rintro e w1 ⟨rfl, b1⟩
      go_wp2_with (fail)
      go_ret
      exact ⟨retBv HR.out.symm, b1⟩

/-- The model's test: each element by its bounds. -/
theorem specOkP (g c : Nat) (xs : List Int) (w : World) (hx : xs.length ≤ 2000000000) (ha : Ints w g 0 xs) :
    Calls Tryd.prog 59 #[.slice (some ⟨g, 0, none⟩) xs.length c] w fun e w' => e = .returned (.bool (okP xs)) ∧ Below w.heap.size w w' := by
  have HA := hid ha
  clear ha
  go_enter Tryd.func59, Tryd.ntmps59
  go_wp2_with (fail)
  go_loopw [3, 4] (fun i u wr => ∃ k : Nat, k ≤ xs.length ∧ i = .int .i64 k ∧ Hid (∀ (j : Nat) (x : Int), j < k → xs[j]? = some x → lowP xs j ≤ x ∧ x ≤ 1000000000) ∧ Below w.heap.size w wr) (fun i _ _ => xs.length - (RowKit.intOf i).toNat)
  case atStart => exact ⟨0, by omega, rfl, hid fun j x hj => by omega, Below.refl _ _⟩
  case round =>
    obtain ⟨k, hk, rfl, hall, hbel⟩ := hrel
    have HBEL := hid hbel
    have hk0 : (0 : Int) ≤ (k : Int) := by omega
    by_cases hlt : k < xs.length
    · have hlt' : (k : Int) < (xs.length : Int) := by omega
      obtain ⟨x, hxk⟩ : ∃ x, xs[k]? = some x := ⟨_, List.getElem?_eq_getElem hlt⟩
      have ca1 := ints_at HA.out hxk
      have ca0 := (hbel.cell (p := ⟨g, k, none⟩) (World.block_lt_of_cell? _ _ ca1)).trans ca1
      have HXK := hid hxk
      have SI := hid (fun lo w => specIn x lo 1000000000 w)
      have HBAD := hid (show inB (lowP xs k) 1000000000 x = false → okP xs = false from fun hb => okP_bad HXK.out (fun h => by rw [inB_yes h] at hb; simp at hb))
      have HGOOD := hid (show inB (lowP xs k) 1000000000 x = true → ∀ (j : Nat) (y : Int), j < k + 1 → xs[j]? = some y → lowP xs j ≤ y ∧ y ≤ 1000000000 from fun hb j y hj hy => by
        by_cases hjk : j = k
        · subst hjk
          have : x = y := by have := HXK.out.symm.trans hy; simpa using this
          rw [← this]
          exact inB_iff.1 hb
        · exact hall.out j y (by omega) hy)
      clear ca1 hbel hxk hall
      by_cases hz : k = 0
      · subst hz
        by_cases h2 : 1 < xs.length
        · have h2' : (1 : Int) < (xs.length : Int) := by omega
          have hlo : lowP xs 0 = 0 := if_pos ⟨rfl, h2⟩
          rw [hlo] at HBAD HGOOD
          clear hlo
          go_wp2_with (fail)
          refine (SI.out _ _).mono ?_
          rintro e w1 ⟨rfl, rfl⟩
          cases hb : inB 0 1000000000 x
          · go_wp2_with (fail)
            go_ret
            exact ⟨retBv (HBAD.out hb).symm, HBEL.out⟩
          · have HALL := hid (HGOOD.out hb)
            go_wp2_with (fail)
            go_roundw
            case rel => exact ⟨1, by omega, by go_num, HALL, HBEL.out⟩
            case measure => simp [RowKit.intOf]; omega
        · have h2' : ¬ (1 : Int) < (xs.length : Int) := by omega
          have hlo : lowP xs 0 = 1 := if_neg (fun h => h2 h.2)
          rw [hlo] at HBAD HGOOD
          clear hlo
          go_wp2_with (fail)
          refine (SI.out _ _).mono ?_
          rintro e w1 ⟨rfl, rfl⟩
          cases hb : inB 1 1000000000 x
          · go_wp2_with (fail)
            go_ret
            exact ⟨retBv (HBAD.out hb).symm, HBEL.out⟩
          · have HALL := hid (HGOOD.out hb)
            go_wp2_with (fail)
            go_roundw
            case rel => exact ⟨1, by omega, by go_num, HALL, HBEL.out⟩
            case measure => simp [RowKit.intOf]; omega
      · have hlo : lowP xs k = 1 := lowP_next (by omega)
        rw [hlo] at HBAD HGOOD
        have hz' : ¬ (k : Int) = 0 := by omega
        clear hlo
        go_wp2_with (fail)
        refine (SI.out _ _).mono ?_
        rintro e w1 ⟨rfl, rfl⟩
        cases hb : inB 1 1000000000 x
        · go_wp2_with (fail)
          go_ret
          exact ⟨retBv (HBAD.out hb).symm, HBEL.out⟩
        · have HALL := hid (HGOOD.out hb)
          go_wp2_with (fail)
          go_roundw
          case rel => exact ⟨k + 1, by omega, by go_num, HALL, HBEL.out⟩
          case measure => simp [RowKit.intOf]; omega
    · have hlt' : ¬ (k : Int) < (xs.length : Int) := by omega
      have HR := hid (show decide ((xs.length : Int) ≤ 60) = okP xs by
        by_cases h1 : xs.length ≤ 60
        · rw [decide_eq_true (by omega)]
          exact (okP_iff.2 ⟨h1, fun j x hj => hall.out j x (by have := (List.getElem?_eq_some_iff.1 hj).1; omega) hj⟩).symm
        · rw [decide_eq_false (by omega)]
          exact (okP_long h1).symm)
      clear hbel hall
      go_wp2_with (fail)
      go_ret
      exact ⟨retBv HR.out, HBEL.out⟩

end Go.Proofs.YtjijabfamjhdjaaDoor
