/- Contracts: the law's own mark of a place, and two rows of texts that are alike. -/
import Derived.Test.YthdhkjfanhhamaaSw
import Derived.Deep.RegionHeld3
namespace Go.Proofs.Ythdhkjfanhhamaa
open Go.RowKit Go.Lib

/-- Two rows that hold the same texts are alike. -/
theorem eqRows (ga gb ca cb : Nat) (xs : List ByteArray) (w : World) (hx : xs.length ≤ 2000000) (ha : ∀ j x, xs[j]? = some x → w.cell? ⟨ga, j, none⟩ = some (.string x)) (hb : ∀ j x, xs[j]? = some x → w.cell? ⟨gb, j, none⟩ = some (.string x)) :
    Calls Try.prog 26 #[.slice (some ⟨ga, 0, none⟩) xs.length ca, .slice (some ⟨gb, 0, none⟩) xs.length cb] w fun e w' => e = .returned (.bool true) ∧ Below w.heap.size w w' := by
  have HA := hid ha
  have HB := hid hb
  clear ha hb
  go_enter Try.func26, Try.ntmps26
  go_wp2_with (fail)
  go_loopw [5] (fun i wr => ∃ k : Nat, k ≤ xs.length ∧ i = .int .i64 k ∧ Below w.heap.size w wr) (fun i _ => xs.length - (RowKit.intOf i).toNat)
  case atStart => exact ⟨0, by omega, rfl, Below.refl _ _⟩
  case round =>
    obtain ⟨k, hk, rfl, hbel⟩ := hrel
    have HBEL := hid hbel
    have hk0 : (0 : Int) ≤ (k : Int) := by omega
    by_cases hlt : k < xs.length
    · have hlt' : (k : Int) < (xs.length : Int) := by omega
      have ca1 := HA.out k _ (List.getElem?_eq_getElem hlt)
      have cb1 := HB.out k _ (List.getElem?_eq_getElem hlt)
      have ca0 := (hbel.cell (p := ⟨ga, k, none⟩) (World.block_lt_of_cell? _ _ ca1)).trans ca1
      have cb0 := (hbel.cell (p := ⟨gb, k, none⟩) (World.block_lt_of_cell? _ _ cb1)).trans cb1
      clear ca1 cb1 hbel
      generalize xs[k]'hlt = x at ca0 cb0
      go_wp2_with (fail)
      go_region_held3 (fun w' => w'.cell? ⟨ga, k, none⟩ = some (.string x) ∧ w'.cell? ⟨gb, k, none⟩ = some (.string x)) (first | (exact ⟨ca0, cb0⟩) | go_keep) (fail)
      go_wp2_with (fail)
      go_roundw
      case rel => exact ⟨k + 1, by omega, by go_num, HBEL.out.trans (Below.drew (Below.refl _ _))⟩
      case measure => simp [RowKit.intOf]; omega
    · have hlt' : ¬ (k : Int) < (xs.length : Int) := by omega
      clear hbel
      go_wp2_with (fail)
      go_ret
      exact ⟨rfl, HBEL.out⟩

end Go.Proofs.Ythdhkjfanhhamaa
