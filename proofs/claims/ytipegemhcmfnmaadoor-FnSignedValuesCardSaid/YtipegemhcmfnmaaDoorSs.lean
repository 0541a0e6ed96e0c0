/- Contracts: whether two lists of terms with signs are the same, by the program and by the model. -/
import Derived.Test.YtipegemhcmfnmaaDoorVs
import Derived.BigQuiet
import Derived.Laws.StructEq
namespace Go.Proofs.YtipegemhcmfnmaaDoor
open Go.RowKit

theorem args_cells {w : World} {a : Option Addr} {n c : Nat} {xs : List (Int × Int)} (h : ArgS w (.slice a n c) xs) {j : Nat} {x : Int × Int} (hj : xs[j]? = some x) :
    ∃ g o, a = some ⟨g, o, none⟩ ∧ w.cell? ⟨g, o + j * 2, none⟩ = some (.int .i64 x.1) ∧ w.cell? ⟨g, o + j * 2 + 1, none⟩ = some (.int .i64 x.2) := by
  rcases h with ⟨_, _, _, rfl⟩ | ⟨g, o, c', h, hs⟩
  · simp at hj
  · simp only [Value.slice.injEq] at h
    obtain ⟨rfl, _, _⟩ := h
    obtain ⟨h1, h2⟩ := hs j x hj
    exact ⟨g, o, rfl, h1, h2⟩

theorem specSameL (a b : Option Addr) (ca cb : Nat) (xs ys : List (Int × Int)) (w : World) (hx : xs.length ≤ 2000000000) (_hy : ys.length ≤ 2000000000) (ha : ArgS w (.slice a xs.length ca) xs) (hb : ArgS w (.slice b ys.length cb) ys) :
    Calls Tryd.prog 73 #[.slice a xs.length ca, .slice b ys.length cb] w fun e w' => e = .returned (.bool (decide (xs = ys))) ∧ Below w.heap.size w w' := by
  by_cases hl : xs.length = ys.length
  · have HA := hid ha
    have HB := hid hb
    have hne : ((xs.length : Int) != (xs.length : Int)) = false := by simp
    have HL := hid hl
    rw [← hl]
    clear ha hb hl
    go_enter Tryd.func73, Tryd.ntmps73
    go_wp2_with (fail)
    go_loopw [5] (fun i wr => ∃ k : Nat, k ≤ xs.length ∧ i = .int .i64 k ∧ Hid (∀ j, j < k → xs[j]? = ys[j]?) ∧ Below w.heap.size w wr) (fun i _ => xs.length - (RowKit.intOf i).toNat)
    case atStart => exact ⟨0, by omega, rfl, hid fun j hj => by omega, Below.refl _ _⟩
    case round =>
      obtain ⟨k, hk, rfl, hall, hbel⟩ := hrel
      have HBEL := hid hbel
      have hk0 : (0 : Int) ≤ (k : Int) := by omega
      by_cases hlt : k < xs.length
      · have hlt' : (k : Int) < (xs.length : Int) := by omega
        obtain ⟨⟨p, q⟩, hxk⟩ : ∃ x, xs[k]? = some x := ⟨_, List.getElem?_eq_getElem hlt⟩
        obtain ⟨⟨m, n⟩, hyk⟩ : ∃ x, ys[k]? = some x := ⟨_, List.getElem?_eq_getElem (by have := HL.out; omega)⟩
        obtain ⟨ga, oa, rfl, da1, da2⟩ := args_cells (args_below HA.out hbel) hxk
        obtain ⟨gb, ob, rfl, db1, db2⟩ := args_cells (args_below HB.out hbel) hyk
        dsimp only at da1 da2 db1 db2
        have NE := hid (show (p, q) ≠ (m, n) → decide (xs = ys) = false from fun h => by
          rw [decide_eq_false_iff_not]
          intro e
          rw [e, hyk] at hxk
          simp only [Option.some.injEq] at hxk
          exact h hxk.symm)
        have EQ := hid (show (p, q) = (m, n) → ∀ j, j < k + 1 → xs[j]? = ys[j]? from fun h j hj => by
          by_cases hjk : j = k
          · subst hjk; rw [hxk, hyk, h]
          · exact hall.out j (by omega))
        clear hall hbel hxk hyk
        by_cases h1 : p = m
        · by_cases h2 : q = n
          · subst h1 h2
            have HR := hid (EQ.out rfl)
            have e1 : (p == p) = true := by simp
            have e2 : (q == q) = true := by simp
            clear EQ NE
            go_wp2_with (fail)
            go_quiet (fail)
            go_wp2_with (fail)
            go_roundw
            case rel => exact ⟨k + 1, by omega, by go_num, HR, below_drewN HBEL.out _⟩
            case measure => simp [RowKit.intOf]; omega
          · subst h1
            have HR := hid (NE.out (by simp [h2]))
            have e1 : (p == p) = true := by simp
            have e2 : (q == n) = false := by simpa using h2
            clear EQ NE h2
            go_wp2_with (fail)
            go_quiet (fail)
            go_wp2_with (fail)
            go_ret
            exact ⟨retBs HR.out.symm, below_drewN HBEL.out _⟩
        · have HR := hid (NE.out (by simp [h1]))
          have e1 : (p == m) = false := by simpa using h1
          clear EQ NE h1
          go_wp2_with (fail)
          go_quiet (fail)
          go_wp2_with (fail)
          go_ret
          exact ⟨retBs HR.out.symm, below_drewN HBEL.out _⟩
      · have hlt' : ¬ (k : Int) < (xs.length : Int) := by omega
        have HR := hid (show decide (xs = ys) = true by
          rw [decide_eq_true_iff]
          exact List.ext_getElem? fun j => by
            by_cases hj : j < k
            · exact hall.out j hj
            · rw [List.getElem?_eq_none (by omega), List.getElem?_eq_none (by have := HL.out; omega)])
        clear hall hbel
        go_wp2_with (fail)
        go_ret
        exact ⟨retBs HR.out.symm, HBEL.out⟩
  · have hne : ((xs.length : Int) != (ys.length : Int)) = true := by simp; omega
    have HR := hid (show decide (xs = ys) = false by rw [decide_eq_false_iff_not]; intro e; exact hl (by rw [e]))
    clear ha hb hl
    go_enter Tryd.func73, Tryd.ntmps73
    go_wp2_with (fail)
    go_ret
    exact ⟨retBs HR.out.symm, Below.refl _ _⟩

theorem specSame (a b : Option Addr) (ca cb : Nat) (xs ys : List (Int × Int)) (w : World) (hx : xs.length ≤ 2000000000) (_hy : ys.length ≤ 2000000000) (ha : ArgS w (.slice a xs.length ca) xs) (hb : ArgS w (.slice b ys.length cb) ys) :
    Calls Tryd.prog 29 #[.slice a xs.length ca, .slice b ys.length cb] w fun e w' => e = .returned (.bool (decide (xs = ys))) ∧ Below w.heap.size w w' := by
  have S := hid (specSameL a b ca cb xs ys w hx _hy ha hb)
  clear ha hb
  go_enter Tryd.func29, Tryd.ntmps29
  go_wp2_with (fail)
  refine S.out.mono ?_
  rintro e w1 ⟨rfl, hb1⟩
  go_wp2_with (fail)
  go_ret
  exact ⟨rfl, hb1⟩

theorem sliceEq (a b : Option Addr) (ca cb : Nat) (xs ys : List (Int × Int)) (w : World) (hx : xs.length ≤ 2000000000) (_hy : ys.length ≤ 2000000000) (ha : ArgS w (.slice a xs.length ca) xs) (hb : ArgS w (.slice b ys.length cb) ys) :
    Calls Tryd.prog 113 #[.slice a xs.length ca, .slice b ys.length cb] w fun e w' => e = .returned (.bool (decide (xs = ys))) ∧ Below w.heap.size w w' := by
  by_cases hl : xs.length = ys.length
  · have HA := hid ha
    have HB := hid hb
    have hne : ((xs.length : Int) != (xs.length : Int)) = false := by simp
    have HL := hid hl
    rw [← hl]
    clear ha hb hl
    go_enter Tryd.func113, Tryd.ntmps113
    go_wp2_with (fail)
    go_loopw [5, 13] (fun u i wr => ∃ k : Nat, k ≤ xs.length ∧ i = .int .i64 k ∧ Hid (∀ j, j < k → xs[j]? = ys[j]?) ∧ Below w.heap.size w wr) (fun _ i _ => xs.length - (RowKit.intOf i).toNat)
    case atStart => exact ⟨0, by omega, rfl, hid fun j hj => by omega, Below.refl _ _⟩
    case round =>
      obtain ⟨k, hk, rfl, hall, hbel⟩ := hrel
      have HBEL := hid hbel
      have hk0 : (0 : Int) ≤ (k : Int) := by omega
      by_cases hlt : k < xs.length
      · have hlt' : (k : Int) < (xs.length : Int) := by omega
        obtain ⟨⟨p, q⟩, hxk⟩ : ∃ x, xs[k]? = some x := ⟨_, List.getElem?_eq_getElem hlt⟩
        obtain ⟨⟨m, n⟩, hyk⟩ : ∃ x, ys[k]? = some x := ⟨_, List.getElem?_eq_getElem (by have := HL.out; omega)⟩
        obtain ⟨ga, oa, rfl, da1, da2⟩ := args_cells (args_below HA.out hbel) hxk
        obtain ⟨gb, ob, rfl, db1, db2⟩ := args_cells (args_below HB.out hbel) hyk
        dsimp only at da1 da2 db1 db2
        have NE := hid (show (p, q) ≠ (m, n) → decide (xs = ys) = false from fun h => by
          rw [decide_eq_false_iff_not]
          intro e
          rw [e, hyk] at hxk
          simp only [Option.some.injEq] at hxk
          exact h hxk.symm)
        have EQ := hid (show (p, q) = (m, n) → ∀ j, j < k + 1 → xs[j]? = ys[j]? from fun h j hj => by
          by_cases hjk : j = k
          · subst hjk; rw [hxk, hyk, h]
          · exact hall.out j (by omega))
        clear hall hbel hxk hyk
        by_cases h1 : p = m
        · by_cases h2 : q = n
          · subst h1 h2
            have HR := hid (EQ.out rfl)
            have e1 : (p == p) = true := by simp
            have e2 : (q == q) = true := by simp
            clear EQ NE
            go_wp2_with (fail)
            go_quiet (fail)
            go_wp2_with (fail)
            go_roundw
            case rel => exact ⟨k + 1, by omega, by go_num, HR, below_drewN HBEL.out _⟩
            case measure => simp [RowKit.intOf]; omega
          · subst h1
            have HR := hid (NE.out (by simp [h2]))
            have e1 : (p == p) = true := by simp
            have e2 : (q == n) = false := by simpa using h2
            clear EQ NE h2
            go_wp2_with (fail)
            go_quiet (fail)
            go_wp2_with (fail)
            go_ret
            exact ⟨retBs HR.out.symm, below_drewN HBEL.out _⟩
        · have HR := hid (NE.out (by simp [h1]))
          have e1 : (p == m) = false := by simpa using h1
          clear EQ NE h1
          go_wp2_with (fail)
          go_quiet (fail)
          go_wp2_with (fail)
          go_ret
          exact ⟨retBs HR.out.symm, below_drewN HBEL.out _⟩
      · have hlt' : ¬ (k : Int) < (xs.length : Int) := by omega
        have HR := hid (show decide (xs = ys) = true by
          rw [decide_eq_true_iff]
          exact List.ext_getElem? fun j => by
            by_cases hj : j < k
            · exact hall.out j hj
            · rw [List.getElem?_eq_none (by omega), List.getElem?_eq_none (by have := HL.out; omega)])
        clear hall hbel
        go_wp2_with (fail)
        go_ret
        exact ⟨retBs HR.out.symm, HBEL.out⟩
  · have hne : ((xs.length : Int) != (ys.length : Int)) = true := by simp; omega
    have HR := hid (show decide (xs = ys) = false by rw [decide_eq_false_iff_not]; intro e; exact hl (by rw [e]))
    clear ha hb hl
    go_enter Tryd.func113, Tryd.ntmps113
    go_wp2_with (fail)
    go_ret
    exact ⟨retBs HR.out.symm, Below.refl _ _⟩

theorem implSame (a b : Option Addr) (ca cb : Nat) (xs ys : List (Int × Int)) (w : World) (hx : xs.length ≤ 2000000000) (_hy : ys.length ≤ 2000000000) (ha : ArgS w (.slice a xs.length ca) xs) (hb : ArgS w (.slice b ys.length cb) ys) :
    Calls Tryd.prog 82 #[.slice a xs.length ca, .slice b ys.length cb] w fun e w' => e = .returned (.bool (decide (xs = ys))) ∧ Below w.heap.size w w' := by
  have S := hid (sliceEq a b ca cb xs ys w hx _hy ha hb)
  clear ha hb
  go_enter Tryd.func82, Tryd.ntmps82
  go_wp2_with (fail)
  refine S.out.mono ?_
  rintro e w1 ⟨rfl, hb1⟩
  go_wp2_with (fail)
  go_ret
  exact ⟨rfl, hb1⟩

end Go.Proofs.YtipegemhcmfnmaaDoor
