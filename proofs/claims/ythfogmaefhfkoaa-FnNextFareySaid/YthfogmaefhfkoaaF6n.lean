/- Contracts: the laws' own comparison of two lists of fractions, and their bound. -/
import Derived.Test.YthfogmaefhfkoaaFmk
import Derived.BigQuiet
import Derived.Laws.StructEq
namespace Go.Proofs.Ythfogmaefhfkoaa
open Go.RowKit

theorem f6big (ca : Option Addr) (len cap : Nat) (w : World) :
    Calls Try.prog 18 #[.slice ca len cap] w fun e w' => e = .returned (.bool (decide (4096 < len))) ∧ w' = w := by
  by_cases h : 4096 < len
  · have h' : (4096 : Int) < (len : Int) := by omega
    rw [decide_eq_true h]
    clear h
    go_enter Try.func18, Try.ntmps18
    go_wp2_with (fail)
    go_ret
    exact ⟨rfl, rfl⟩
  · have h' : ¬ (4096 : Int) < (len : Int) := by omega
    rw [decide_eq_false h]
    clear h
    go_enter Try.func18, Try.ntmps18
    go_wp2_with (fail)
    go_ret
    exact ⟨rfl, rfl⟩
theorem fback_at {B : Nat} {w : World} {a : Option Addr} {n c : Nat} {xs : List (Int × Int)} (h : FBack B w (.slice a n c) xs) {j : Nat} {x : Int × Int} (hj : xs[j]? = some x) :
    ∃ g, a = some ⟨g, 0, none⟩ ∧ w.cell? ⟨g, j * 2, none⟩ = some (.int .i64 x.1) ∧ w.cell? ⟨g, j * 2 + 1, none⟩ = some (.int .i64 x.2) := by
  rcases h with ⟨_, rfl⟩ | ⟨g, c', h, ho⟩
  · simp at hj
  · simp only [Value.slice.injEq] at h
    obtain ⟨rfl, _, _⟩ := h
    obtain ⟨h1, h2⟩ := fown_cells ho hj
    exact ⟨g, rfl, h1, h2⟩

theorem f6frs {A B : Nat} (a b : Option Addr) (ca cb : Nat) (xs : List (Int × Int)) (w : World) (hx : xs.length ≤ 2000000) (ha : FBack A w (.slice a xs.length ca) xs) (hb : FBack B w (.slice b xs.length cb) xs) :
    Calls Try.prog 65 #[.slice a xs.length ca, .slice b xs.length cb] w fun e w' => e = .returned (.bool true) ∧ Below w.heap.size w w' := by
  have HA := hid ha
  have HB := hid hb
  have hne : ((xs.length : Int) != (xs.length : Int)) = false := by simp
  clear ha hb
  go_enter Try.func65, Try.ntmps65
  go_wp2_with (fail)
  go_loopw [5] (fun i wr => ∃ k : Nat, k ≤ xs.length ∧ i = .int .i64 k ∧ Below w.heap.size w wr) (fun i _ => xs.length - (RowKit.intOf i).toNat)
  case atStart => exact ⟨0, by omega, rfl, Below.refl _ _⟩
  case round =>
    obtain ⟨k, hk, rfl, hbel⟩ := hrel
    have HBEL := hid hbel
    have hk0 : (0 : Int) ≤ (k : Int) := by omega
    by_cases hlt : k < xs.length
    · have hlt' : (k : Int) < (xs.length : Int) := by omega
      obtain ⟨⟨p, q⟩, hxk⟩ : ∃ x, xs[k]? = some x := ⟨_, List.getElem?_eq_getElem hlt⟩
      obtain ⟨ga, rfl, da1, da2⟩ := fback_at (fback_below HA.out hbel) hxk
      obtain ⟨gb, rfl, db1, db2⟩ := fback_at (fback_below HB.out hbel) hxk
      dsimp only at da1 da2 db1 db2
      have e1 : (p == p) = true := by simp
      have e2 : (q == q) = true := by simp
      clear hbel hxk
      go_wp2_with (fail)
      go_quiet (fail)
      go_wp2_with (fail)
      go_roundw
      case rel => exact ⟨k + 1, by omega, by go_num, below_drewN HBEL.out _⟩
      case measure => simp [RowKit.intOf]; omega
    · have hlt' : ¬ (k : Int) < (xs.length : Int) := by omega
      clear hbel
      go_wp2_with (fail)
      go_ret
      exact ⟨rfl, HBEL.out⟩

end Go.Proofs.Ythfogmaefhfkoaa
