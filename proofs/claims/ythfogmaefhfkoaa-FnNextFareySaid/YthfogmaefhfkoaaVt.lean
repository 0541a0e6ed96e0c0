/- Contracts: which lists are terms, by the program and by the model. -/
import Derived.Test.YthfogmaefhfkoaaLi
import Derived.Test.YthfogmaefhfkoaaTm
namespace Go.Proofs.Ythfogmaefhfkoaa
open Go.RowKit

theorem retBv {a b : Bool} (h : a = b) : Ending.returned (.bool a) = .returned (.bool b) := by rw [h]
theorem all_bad {lo hi : Int} {xs : List Int} {k : Nat} {x : Int} (hx : xs[k]? = some x) (h : ¬ (lo ≤ x ∧ x ≤ hi)) : xs.all (inB lo hi) = false := by
  rw [Bool.eq_false_iff]
  intro e
  exact h (inB_iff.1 (List.all_eq_true.1 e x (List.mem_of_getElem? hx)))
theorem all_good {lo hi : Int} {xs : List Int} (h : ∀ (j : Nat) (x : Int), xs[j]? = some x → lo ≤ x ∧ x ≤ hi) : xs.all (inB lo hi) = true := by
  rw [List.all_eq_true]
  intro x hx
  obtain ⟨j, hj⟩ := List.mem_iff_getElem?.1 hx
  exact inB_yes (h j x hj)

/-- Whether all numbers lie within bounds, by the program. -/
theorem allWithin (lo hi : Int) (g o n c : Nat) (xs : List Int) (w : World) (hn : n = xs.length) (hx : xs.length ≤ 2000000000) (ha : Ints w g o xs) :
    Calls Try.prog 103 #[.int .i64 lo, .int .i64 hi, .slice (some ⟨g, o, none⟩) n c] w fun e w' => e = .returned (.bool (xs.all (inB lo hi))) ∧ Below w.heap.size w w' := by
  subst hn
  have HA := hid ha
  clear ha
  go_enter Try.func103, Try.ntmps103
  go_wp2_with (fail)
  go_loopw [8, 11] (fun u i wr => ∃ k : Nat, k ≤ xs.length ∧ i = .int .i64 k ∧ Hid (∀ j x, j < k → xs[j]? = some x → lo ≤ x ∧ x ≤ hi) ∧ Below w.heap.size w wr) (fun _ i _ => xs.length - (RowKit.intOf i).toNat)
  case atStart => exact ⟨0, by omega, rfl, hid fun j x hj => by omega, Below.refl _ _⟩
  case round =>
    obtain ⟨k, hk, rfl, hall, hbel⟩ := hrel
    have HBEL := hid hbel
    have hk0 : (0 : Int) ≤ (k : Int) := by omega
    by_cases hlt : k < xs.length
    · have hlt' : (k : Int) < (xs.length : Int) := by omega
      obtain ⟨x, hxk⟩ : ∃ x, xs[k]? = some x := ⟨_, List.getElem?_eq_getElem hlt⟩
      have ca1 := HA.out k x hxk
      have ca0 := (hbel.cell (p := ⟨g, o + k, none⟩) (World.block_lt_of_cell? _ _ ca1)).trans ca1
      have HXK := hid hxk
      clear ca1 hbel hxk
      by_cases h1 : x < lo
      · go_wp2_with (fail)
        go_ret
        exact ⟨retBv (all_bad HXK.out (by omega)).symm, HBEL.out⟩
      · by_cases h2 : hi < x
        · go_wp2_with (fail)
          go_ret
          exact ⟨retBv (all_bad HXK.out (by omega)).symm, HBEL.out⟩
        · have HALL := hid (show ∀ j x, j < k + 1 → xs[j]? = some x → lo ≤ x ∧ x ≤ hi by
            intro j y hj hy
            by_cases hjk : j = k
            · subst hjk
              have : x = y := by have := HXK.out.symm.trans hy; simpa using this
              omega
            · exact hall.out j y (by omega) hy)
          clear hall
          go_wp2_with (fail)
          go_roundw
          case rel => exact ⟨k + 1, by omega, by go_num, HALL, HBEL.out⟩
          case measure => simp [RowKit.intOf]; omega
    · have hlt' : ¬ (k : Int) < (xs.length : Int) := by omega
      have HR := hid (show xs.all (inB lo hi) = true from all_good fun j x hj => hall.out j x (by
        have := (List.getElem?_eq_some_iff.1 hj).1
        omega) hj)
      clear hbel hall
      go_wp2_with (fail)
      go_ret
      exact ⟨retBv HR.out.symm, HBEL.out⟩

theorem lit_one (w : World) (x : Int) : Ints (w.alloc (.cells #[.int .i64 x] 2)) w.heap.size 0 [x] := by
  have h := World.ownsRow_lit (base := w.heap.size) (e := 2) (size := 1) w #[.int .i64 x] 1 (Nat.le_refl _) (by decide) rfl
  exact own_ints (B := w.heap.size) (c := 1) (xs := [x]) ⟨Nat.le_refl _, h⟩

/-- The model's test: each element by its bounds. -/
theorem specOkT (g c : Nat) (xs : List Int) (w : World) (hx : xs.length ≤ 2000000000) (ha : Ints w g 0 xs) :
    Calls Try.prog 159 #[.slice (some ⟨g, 0, none⟩) xs.length c] w fun e w' => e = .returned (.bool (okT xs)) ∧ Below w.heap.size w w' := by
  have HA := hid ha
  clear ha
  go_enter Try.func159, Try.ntmps159
  go_wp2_with (fail)
  go_loopw [3, 4] (fun i u wr => ∃ k : Nat, k ≤ xs.length ∧ i = .int .i64 k ∧ Hid (∀ (j : Nat) (x : Int), j < k → xs[j]? = some x → (if j = 0 then -1000000000 else 1) ≤ x ∧ x ≤ 1000000000) ∧ Below w.heap.size w wr) (fun i _ _ => xs.length - (RowKit.intOf i).toNat)
  case atStart => exact ⟨0, by omega, rfl, hid fun j x hj => by omega, Below.refl _ _⟩
  case round =>
    obtain ⟨k, hk, rfl, hall, hbel⟩ := hrel
    have HBEL := hid hbel
    have hk0 : (0 : Int) ≤ (k : Int) := by omega
    by_cases hlt : k < xs.length
    · have hlt' : (k : Int) < (xs.length : Int) := by omega
      obtain ⟨x, hxk⟩ : ∃ x, xs[k]? = some x := ⟨_, List.getElem?_eq_getElem hlt⟩
      have ca1 := ints_at HA.out hxk
      have ca0 := (hbel.cell (p := ⟨g, k, none⟩) (World.block_lt_of_cell? _ _ ca1)).trans ca1
      have HXK := hid hxk
      have SI := hid (fun lo w => specIn x lo 1000000000 w)
      have HBAD := hid (show ∀ b, inB (if k = 0 then -1000000000 else 1) 1000000000 x = b → b = false → okT xs = false from fun b hb hf => by
        subst hf
        by_cases h1 : 1 ≤ xs.length ∧ xs.length ≤ 60
        · rw [okT_long h1]
          by_cases hz : k = 0
          · subst hz
            rw [if_pos rfl] at hb
            rw [List.getD_eq_getElem?_getD, HXK.out]
            show (inB (-1000000000) 1000000000 x && _) = false
            rw [hb]; rfl
          · rw [if_neg hz] at hb
            have : (xs.drop 1)[k - 1]? = some x := by rw [List.getElem?_drop, show 1 + (k - 1) = k by omega]; exact HXK.out
            rw [all_bad this (by intro e; rw [inB_yes e] at hb; simp at hb)]
            simp
        · exact okT_short h1)
      have HGOOD := hid (show inB (if k = 0 then -1000000000 else 1) 1000000000 x = true → ∀ (j : Nat) (y : Int), j < k + 1 → xs[j]? = some y → (if j = 0 then -1000000000 else 1) ≤ y ∧ y ≤ 1000000000 from fun hb j y hj hy => by
        by_cases hjk : j = k
        · subst hjk
          have : x = y := by have := HXK.out.symm.trans hy; simpa using this
          rw [← this]
          exact inB_iff.1 hb
        · exact hall.out j y (by omega) hy)
      clear ca1 hbel hxk hall
      by_cases hz : k = 0
      · subst hz
        rw [if_pos rfl] at HBAD HGOOD
        go_wp2_with (fail)
        refine (SI.out _ _).mono ?_
        rintro e w1 ⟨rfl, rfl⟩
        cases hb : inB (-1000000000) 1000000000 x
        · go_wp2_with (fail)
          go_ret
          exact ⟨retBv (HBAD.out _ hb rfl).symm, HBEL.out⟩
        · have HALL := hid (HGOOD.out hb)
          go_wp2_with (fail)
          go_roundw
          case rel => exact ⟨1, by omega, by go_num, HALL, HBEL.out⟩
          case measure => simp [RowKit.intOf]; omega
      · rw [if_neg hz] at HBAD HGOOD
        have hz' : ¬ (k : Int) = 0 := by omega
        go_wp2_with (fail)
        refine (SI.out _ _).mono ?_
        rintro e w1 ⟨rfl, rfl⟩
        cases hb : inB 1 1000000000 x
        · go_wp2_with (fail)
          go_ret
          exact ⟨retBv (HBAD.out _ hb rfl).symm, HBEL.out⟩
        · have HALL := hid (HGOOD.out hb)
          go_wp2_with (fail)
          go_roundw
          case rel => exact ⟨k + 1, by omega, by go_num, HALL, HBEL.out⟩
          case measure => simp [RowKit.intOf]; omega
    · have hlt' : ¬ (k : Int) < (xs.length : Int) := by omega
      have SI := hid (fun w => specIn (xs.length : Int) 1 60 w)
      have HR := hid (show inB 1 60 (xs.length : Int) = okT xs by
        by_cases h1 : 1 ≤ xs.length ∧ xs.length ≤ 60
        · rw [okT_long h1, inB_yes ⟨by omega, by omega⟩]
          rw [all_good (lo := 1) (hi := 1000000000) (xs := xs.drop 1) (fun j x hj => by
            rw [List.getElem?_drop] at hj
            have h2 := (List.getElem?_eq_some_iff.1 hj).1
            have := hall.out (1 + j) x (by omega) hj
            rw [if_neg (by omega)] at this
            exact this)]
          have h3 : xs[0]? = some (xs.getD 0 0) := by rw [List.getD_eq_getElem?_getD, List.getElem?_eq_getElem (by omega : 0 < xs.length)]; rfl
          have := hall.out 0 _ (by omega) h3
          rw [if_pos rfl] at this
          rw [inB_yes this]; rfl
        · rw [okT_short h1, inB_no (by omega)])
      clear hbel hall
      go_wp2_with (fail)
      refine (SI.out _).mono ?_
      rintro e w1 ⟨rfl, rfl⟩
      rw [HR.out]
      go_wp2_with (fail)
      go_ret
      exact ⟨rfl, HBEL.out⟩

end Go.Proofs.Ythfogmaefhfkoaa
