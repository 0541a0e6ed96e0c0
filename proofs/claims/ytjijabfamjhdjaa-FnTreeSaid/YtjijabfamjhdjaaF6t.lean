/- Contracts: the laws' own comparisons of two lists of numbers, and their bound. -/
import Derived.Test.YtjijabfamjhdjaaLi
import Derived.BigQuiet
import Derived.Laws.StructEq
namespace Go.Proofs.Ytjijabfamjhdjaa
open Go.RowKit

theorem f6big (ca : Option Addr) (len cap : Nat) (w : World) :
    Calls Try.prog 7 #[.slice ca len cap] w fun e w' => e = .returned (.bool (decide (4096 < len))) ∧ w' = w := by
  by_cases h : 4096 < len
  · have h' : (4096 : Int) < (len : Int) := by omega
    rw [decide_eq_true h]
    clear h
    go_enter Try.func7, Try.ntmps7
    go_wp2_with (fail)
    go_ret
    exact ⟨rfl, rfl⟩
  · have h' : ¬ (4096 : Int) < (len : Int) := by omega
    rw [decide_eq_false h]
    clear h
    go_enter Try.func7, Try.ntmps7
    go_wp2_with (fail)
    go_ret
    exact ⟨rfl, rfl⟩
theorem arg_at {w : World} {a : Option Addr} {n c : Nat} {xs : List Int} (h : Arg w (.slice a n c) xs) {j : Nat} {x : Int} (hj : xs[j]? = some x) :
    ∃ g o, a = some ⟨g, o, none⟩ ∧ w.cell? ⟨g, o + j, none⟩ = some (.int .i64 x) := by
  rcases h with ⟨_, _, _, rfl⟩ | ⟨g, o, c', h, hs⟩
  · simp at hj
  · simp only [Value.slice.injEq] at h
    obtain ⟨rfl, _, _⟩ := h
    exact ⟨g, o, rfl, hs j x hj⟩

theorem f6ints (a b : Option Addr) (ca cb : Nat) (xs : List Int) (w : World) (hx : xs.length ≤ 2000000) (ha : Arg w (.slice a xs.length ca) xs) (hb : Arg w (.slice b xs.length cb) xs) :
    Calls Try.prog 21 #[.slice a xs.length ca, .slice b xs.length cb] w fun e w' => e = .returned (.bool true) ∧ Below w.heap.size w w' := by
  have HA := hid ha
  have HB := hid hb
  have hne : ((xs.length : Int) != (xs.length : Int)) = false := by simp
  clear ha hb
  go_enter Try.func21, Try.ntmps21
  go_wp2_with (fail)
  go_loopw [5] (fun i wr => ∃ k : Nat, k ≤ xs.length ∧ i = .int .i64 k ∧ Below w.heap.size w wr) (fun i _ => xs.length - (RowKit.intOf i).toNat)
  case atStart => exact ⟨0, by omega, rfl, Below.refl _ _⟩
  case round =>
    obtain ⟨k, hk, rfl, hbel⟩ := hrel
    have HBEL := hid hbel
    have hk0 : (0 : Int) ≤ (k : Int) := by omega
    by_cases hlt : k < xs.length
    · have hlt' : (k : Int) < (xs.length : Int) := by omega
      obtain ⟨x, hxk⟩ : ∃ x, xs[k]? = some x := ⟨_, List.getElem?_eq_getElem hlt⟩
      obtain ⟨ga, oa, rfl, da⟩ := arg_at (arg_below HA.out hbel) hxk
      obtain ⟨gb, ob, rfl, db⟩ := arg_at (arg_below HB.out hbel) hxk
      have e1 : (x != x) = false := by simp
      clear hbel hxk
      go_wp2_with (fail)
      go_quiet (fail)
      go_wp2_with (fail)
      go_roundw
      case rel => exact ⟨k + 1, by omega, by go_num, below_drewN HBEL.out _⟩
      case measure => simp [RowKit.intOf]; omega
    · have hlt' : ¬ (k : Int) < (xs.length : Int) := by omega
      clear hbel
      go_wp2_with (fail)
      go_ret
      exact ⟨rfl, HBEL.out⟩


end Go.Proofs.Ytjijabfamjhdjaa
