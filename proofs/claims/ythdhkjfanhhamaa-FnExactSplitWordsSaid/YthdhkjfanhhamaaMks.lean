/- Contracts: a row of texts is marked, and the marks are looked for. -/
import Derived.Test.YthdhkjfanhhamaaMt
import Derived.Test.YthdhkjfanhhamaaMtx
namespace Go.Proofs.Ythdhkjfanhhamaa
open Go.RowKit Go.Lib

def mkB (j : Nat) : ByteArray := ⟨(mkText (1 + (j : Int))).toArray⟩

/-- The marks are held: nothing is changed. -/
theorem heldRow (ga ca n : Nat) (w : World) (hn : n ≤ 2000000) (ha : ∀ j, j < n → w.cell? ⟨ga, j, none⟩ = some (.string (mkB j))) :
    Calls Try.prog 28 #[.slice (some ⟨ga, 0, none⟩) n ca, .int .i64 1] w fun e w' => e = .returned (.int .i64 (1 + (n : Int))) ∧ Below w.heap.size w w' := by
  have HA := hid ha
  clear ha
  go_enter Try.func28, Try.ntmps28
  go_wp2_with (fail)
  go_loopw [1, 5] (fun q i wr => ∃ k : Nat, k ≤ n ∧ i = .int .i64 k ∧ q = .int .i64 (1 + (k : Int)) ∧ Below w.heap.size w wr) (fun _ i _ => n - (RowKit.intOf i).toNat)
  case atStart => exact ⟨0, by omega, rfl, rfl, Below.refl _ _⟩
  case round =>
    obtain ⟨k, hk, rfl, rfl, hbel⟩ := hrel
    have HBEL := hid hbel
    have hk0 : (0 : Int) ≤ (k : Int) := by omega
    by_cases hlt : k < n
    · have hlt' : (k : Int) < (n : Int) := by omega
      have ca1 := HA.out k hlt
      have hgl := World.block_lt_of_cell? _ _ ca1
      have ca0 := (hbel.cell (p := ⟨ga, k, none⟩) hgl).trans ca1
      clear ca1 hbel
      have HM := hid (fun w => markText (1 + (k : Int)) w (by omega) (by omega))
      have hmk : (⟨(mkText (1 + (k : Int))).toArray⟩ : ByteArray) = mkB k := rfl
      rw [hmk] at HM
      generalize mkB k = x at ca0 HM
      have hgr : ga < wr.heap.size := Nat.lt_of_lt_of_le hgl HBEL.out.size
      have hwr : w.heap.size ≤ wr.heap.size := HBEL.out.size
      have hxx : (x.toList == x.toList) = true := by simp
      go_wp2_with (fail)
      go_region_held3 (fun w' => w'.cell? ⟨ga, k, none⟩ = some (.string x))
        (first | (with_reducible exact c1) | (with_reducible exact ca0) | go_keep)
        ((go_at_call 62; refine (HM.out _).mono ?_; rintro e w1 ⟨rfl, hb1⟩; have c1 : w1.cell? ⟨ga, k, none⟩ = some (.string x) := (hb1.cell (p := ⟨ga, k, none⟩) (by first | omega | (simp <;> omega))).trans (by go_simp); have e1 : Below w.heap.size w w1 := by { refine Below.trans ?_ (hb1.mono (by first | omega | (simp <;> omega))); first | exact HBEL.out | exact HBEL.out.drew | exact below_drewN HBEL.out _ }))
      go_wp2_with (fail)
      go_roundw
      case rel => first | exact ⟨k + 1, by omega, by go_num, by go_num, e1⟩ | exact ⟨k + 1, by omega, by go_num, by go_num, e1.drew⟩
      case measure => simp [RowKit.intOf]; omega
    · have hlt' : ¬ (k : Int) < (n : Int) := by omega
      have hkn : k = n := by omega
      subst hkn
      clear hbel
      go_wp2_with (fail)
      go_ret
      exact ⟨rfl, HBEL.out⟩

theorem strCells_set (ys : List ByteArray) (k : Nat) (x : ByteArray) : strCells (ys.set k x) = (strCells ys).set k (.string x) := by unfold strCells; rw [List.map_set]
theorem below_grows {w w' : World} (h : Below w.heap.size w w') : w.grownBy w' none := ⟨h.os, h.tape, h.output, h.size, fun i hi _ => h.block i hi⟩

/-- Every place of a row of its own is marked. -/
theorem markRow (ga ca B : Nat) (xs : List ByteArray) (w : World) (hn : xs.length ≤ 2000000) (hB : B ≤ ga) (hown : w.ownsRow B 9 1 (.slice (some ⟨ga, 0, none⟩) xs.length ca) xs.length (strCells xs)) :
    Calls Try.prog 27 #[.slice (some ⟨ga, 0, none⟩) xs.length ca, .int .i64 1] w fun e w' => e = .returned (.int .i64 (1 + (xs.length : Int))) ∧ (∀ j, j < xs.length → w'.cell? ⟨ga, j, none⟩ = some (.string (mkB j))) ∧ Below B w w' := by
  have hga : ga < w.heap.size := (hown.lt _ rfl).2
  have HO := hid hown
  clear hown
  go_enter Try.func27, Try.ntmps27
  go_wp2_with (fail)
  go_loopw [1, 5] (fun q i wr => ∃ (k : Nat) (ys : List ByteArray), k ≤ xs.length ∧ i = .int .i64 k ∧ q = .int .i64 (1 + (k : Int)) ∧ Hid (ys.length = xs.length ∧ ∀ j, j < k → ys[j]? = some (mkB j)) ∧ wr.ownsRow B 9 1 (.slice (some ⟨ga, 0, none⟩) xs.length ca) xs.length (strCells ys) ∧ Below B w wr) (fun _ i _ => xs.length - (RowKit.intOf i).toNat)
  case atStart => exact ⟨0, xs, by omega, rfl, rfl, hid ⟨rfl, fun j hj => by omega⟩, HO.out, Below.refl _ _⟩
  case round =>
    obtain ⟨k, ys, hk, rfl, rfl, hys, hown, hbel⟩ := hrel
    have HOWN := hid hown
    have HBEL := hid hbel
    have hk0 : (0 : Int) ≤ (k : Int) := by omega
    have hgr : ga < wr.heap.size := (hown.lt _ rfl).2
    clear hown hbel
    by_cases hlt : k < xs.length
    · have hlt' : (k : Int) < (xs.length : Int) := by omega
      have HM := hid (fun w => markText (1 + (k : Int)) w (by omega) (by omega))
      have hmk : (⟨(mkText (1 + (k : Int))).toArray⟩ : ByteArray) = mkB k := rfl
      rw [hmk] at HM
      have hf0 : wr.frozen? ⟨ga, k, none⟩ = false := HOWN.out.frozenAt k
      have hc0 : (wr.cell? ⟨ga, k, none⟩).isSome = true := by rw [HOWN.out.cellAt k (by omega)]; simp [strCells, hys.out.1, hlt]
      clear hmk
      go_wp2_with (fail)
      refine (HM.out _).mono ?_
      rintro e w1 ⟨rfl, hb1⟩
      have O1 := HOWN.out.kept (below_grows hb1) (.inr (by simp [Value.ownBlock]))
      have f1 : w1.frozen? ⟨ga, k, none⟩ = false := O1.frozenAt k
      obtain ⟨y, c1⟩ : ∃ y, w1.cell? ⟨ga, k, none⟩ = some (.string y) := by
        have hk2 : k < ys.length := by rw [hys.out.1]; exact hlt
        exact ⟨ys[k]'hk2, by rw [O1.cellAt k (by omega)]; simp [strCells, List.getElem?_eq_getElem hk2]⟩
      have e1 : Below B w w1 := HBEL.out.trans (hb1.mono (by omega))
      have HYS2 := hid (show (ys.set k (mkB k)).length = xs.length ∧ ∀ j, j < k + 1 → (ys.set k (mkB k))[j]? = some (mkB j) by
        refine ⟨by rw [List.length_set]; exact hys.out.1, fun j hj => ?_⟩
        by_cases hjk : j = k
        · subst hjk; rw [List.getElem?_set_self (by rw [hys.out.1]; exact hlt)]
        · rw [List.getElem?_set_ne (fun e => hjk e.symm)]; exact hys.out.2 j (by omega))
      have O2 := hid (O1.stored k (.string (mkB k))).1
      have E2 := hid (e1.setCell (p := ⟨ga, k, none⟩) hB (.string (mkB k)))
      clear O1 e1 hb1 hf0 hc0
      generalize mkB k = x at O2 E2 HYS2 ⊢
      go_wp2_with (fail)
      go_roundw
      case rel => exact ⟨k + 1, ys.set k x, by omega, by go_num, by go_num, HYS2, by rw [strCells_set]; exact O2.out, E2.out⟩
      case measure => simp [RowKit.intOf]; omega
    · have hlt' : ¬ (k : Int) < (xs.length : Int) := by omega
      have hkn : k = xs.length := by omega
      have HC := hid (show ∀ j, j < xs.length → wr.cell? ⟨ga, j, none⟩ = some (.string (mkB j)) from fun j hj => by
        have h1 := hys.out.2 j (by omega)
        have hown := HOWN.out
        rw [← hys.out.1] at hown
        exact row_cell hown j h1)
      subst hkn
      go_wp2_with (fail)
      go_ret
      exact ⟨rfl, HC.out, HBEL.out⟩

end Go.Proofs.Ythdhkjfanhhamaa
