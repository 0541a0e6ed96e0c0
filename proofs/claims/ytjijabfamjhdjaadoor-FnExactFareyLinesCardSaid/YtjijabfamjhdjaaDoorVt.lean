/- Contracts: which lists are terms, by the program and by the model. -/
import Derived.Test.YtjijabfamjhdjaaDoorLi
import Derived.Test.YtjijabfamjhdjaaDoorTm
namespace Go.Proofs.YtjijabfamjhdjaaDoor
open Go.RowKit

theorem retBv {a b : Bool} (h : a = b) : Ending.returned (.bool a) = .returned (.bool b) := by rw [h]
theorem all_bad {lo hi : Int} {xs : List Int} {k : Nat} {x : Int} (hx : xs[k]? = some x) (h : ¬ (lo ≤ x ∧ x ≤ hi)) : xs.all (inB lo hi) = false := by
  rw [Bool.eq_false_iff]
  intro e
  exact h (inB_iff.1 (List.all_eq_true.1 e x (List.mem_of_getElem? hx)))
theorem all_good {lo hi : Int} {xs : List Int} (h : ∀ (j : Nat) (x : Int), xs[j]? = some x → lo ≤ x ∧ x ≤ hi) : xs.all (inB lo hi) = true := by
  rw [List.all_eq_true]
  intro x hx
  obtain ⟨j, hj⟩ := List.mem_iff_getElem?.1 hx
  exact inB_yes (h j x hj)

/-- Whether all numbers lie within bounds, by the program. -/
theorem allWithin (lo hi : Int) (g o n c : Nat) (xs : List Int) (w : World) (hn : n = xs.length) (hx : xs.length ≤ 2000000000) (ha : Ints w g o xs) :
    Calls Tryd.prog 41 #[.int .i64 lo, .int .i64 hi, .slice (some ⟨g, o, none⟩) n c] w fun e w' => e = .returned (.bool (xs.all (inB lo hi))) ∧ Below w.heap.size w w' := by
  subst hn
  have HA := hid ha
  clear ha
  go_enter Tryd.func41, Tryd.ntmps41
  go_wp2_with (fail)
  go_loopw [8, 11] (fun u i wr => ∃ k : Nat, k ≤ xs.length ∧ i = .int .i64 k ∧ Hid (∀ j x, j < k → xs[j]? = some x → lo ≤ x ∧ x ≤ hi) ∧ Below w.heap.size w wr) (fun _ i _ => xs.length - (RowKit.intOf i).toNat)
  case atStart => exact ⟨0, by omega, rfl, hid fun j x hj => by omega, Below.refl _ _⟩
  case round =>
    obtain ⟨k, hk, rfl, hall, hbel⟩ := hrel
    have HBEL := hid hbel
    have hk0 : (0 : Int) ≤ (k : Int) := by omega
    by_cases hlt : k < xs.length
    · have hlt' : (k : Int) < (xs.length : Int) := by omega
      obtain ⟨x, hxk⟩ : ∃ x, xs[k]? = some x := ⟨_, List.getElem?_eq_getElem hlt⟩
      have ca1 := HA.out k x hxk
      have ca0 := (hbel.cell (p := ⟨g, o + k, none⟩) (World.block_lt_of_cell? _ _ ca1)).trans ca1
      have HXK := hid hxk
      clear ca1 hbel hxk
      by_cases h1 : x < lo
      · go_wp2_with (fail)
        go_ret
        exact ⟨retBv (all_bad HXK.out (by omega)).symm, HBEL.out⟩
      · by_cases h2 : hi < x
        · go_wp2_with (fail)
          go_ret
          exact ⟨retBv (all_bad HXK.out (by omega)).symm, HBEL.out⟩
        · have HALL := hid (show ∀ j x, j < k + 1 → xs[j]? = some x → lo ≤ x ∧ x ≤ hi by
            intro j y hj hy
            by_cases hjk : j = k
            · subst hjk
              have : x = y := by have := HXK.out.symm.trans hy; simpa using this
              omega
            · exact hall.out j y (by omega) hy)
          clear hall
          go_wp2_with (fail)
          go_roundw
          case rel => exact ⟨k + 1, by omega, by go_num, HALL, HBEL.out⟩
          case measure => simp [RowKit.intOf]; omega
    · have hlt' : ¬ (k : Int) < (xs.length : Int) := by omega
      have HR := hid (show xs.all (inB lo hi) = true from all_good fun j x hj => hall.out j x (by
        have := (List.getElem?_eq_some_iff.1 hj).1
        omega) hj)
      clear hbel hall
      go_wp2_with (fail)
      go_ret
      exact ⟨retBv HR.out.symm, HBEL.out⟩

theorem lit_one (w : World) (x : Int) : Ints (w.alloc (.cells #[.int .i64 x] 2)) w.heap.size 0 [x] := by
  have h := World.ownsRow_lit (base := w.heap.size) (e := 2) (size := 1) w #[.int .i64 x] 1 (Nat.le_refl _) (by decide) rfl
  exact own_ints (B := w.heap.size) (c := 1) (xs := [x]) ⟨Nat.le_refl _, h⟩

end Go.Proofs.YtjijabfamjhdjaaDoor
