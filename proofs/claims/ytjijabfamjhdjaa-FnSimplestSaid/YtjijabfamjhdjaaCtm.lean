/- Contracts: how many elements two lists have in common at the beginning. -/
import Derived.Test.YtjijabfamjhdjaaLi
import Derived.Test.YtjijabfamjhdjaaTm
namespace Go.Proofs.Ytjijabfamjhdjaa
open Go.RowKit

/-- By the program. -/
theorem implCommonLen (ga oa ca gb ob cb : Nat) (xs ys : List Int) (w : World) (hx : xs.length ≤ 2000000000) (hy : ys.length ≤ 2000000000) (ha : Ints w ga oa xs) (hb : Ints w gb ob ys) :
    Calls Try.prog 94 #[.slice (some ⟨ga, oa, none⟩) xs.length ca, .slice (some ⟨gb, ob, none⟩) ys.length cb] w fun e w' => e = .returned (.int .i64 ((comm xs ys : Nat) : Int)) ∧ Below w.heap.size w w' := by
  have HA := hid ha
  have HB := hid hb
  clear ha hb
  go_enter Try.func94, Try.ntmps94
  go_wp2_with (fail)
  go_loopw [5] (fun i wr => ∃ k : Nat, k ≤ xs.length ∧ k ≤ ys.length ∧ i = .int .i64 k ∧ Hid (∀ j, j < k → ∃ x, xs[j]? = some x ∧ ys[j]? = some x) ∧ Below w.heap.size w wr) (fun i _ => xs.length - (RowKit.intOf i).toNat)
  case atStart => exact ⟨0, by omega, by omega, rfl, hid fun j hj => by omega, Below.refl _ _⟩
  case round =>
    obtain ⟨k, hk, hk2, rfl, hall, hbel⟩ := hrel
    have HBEL := hid hbel
    have hk0 : (0 : Int) ≤ (k : Int) := by omega
    by_cases hlt : k < xs.length
    · by_cases hlt2 : k < ys.length
      · have hlt' : (k : Int) < (xs.length : Int) := by omega
        have hlt2' : (k : Int) < (ys.length : Int) := by omega
        obtain ⟨x, hxk⟩ : ∃ x, xs[k]? = some x := ⟨_, List.getElem?_eq_getElem hlt⟩
        obtain ⟨y, hyk⟩ : ∃ y, ys[k]? = some y := ⟨_, List.getElem?_eq_getElem hlt2⟩
        have ca1 := HA.out k x hxk
        have cb1 := HB.out k y hyk
        have ca0 := (hbel.cell (p := ⟨ga, oa + k, none⟩) (World.block_lt_of_cell? _ _ ca1)).trans ca1
        have cb0 := (hbel.cell (p := ⟨gb, ob + k, none⟩) (World.block_lt_of_cell? _ _ cb1)).trans cb1
        have HXK := hid hxk
        have HYK := hid hyk
        clear ca1 cb1 hbel hxk hyk
        by_cases he : x = y
        · subst he
          have HALL := hid (show ∀ j, j < k + 1 → ∃ x, xs[j]? = some x ∧ ys[j]? = some x by
            intro j hj
            by_cases hjk : j = k
            · subst hjk; exact ⟨x, HXK.out, HYK.out⟩
            · exact hall.out j (by omega))
          have hxx : (x == x) = true := by simp
          clear hall
          go_wp2_with (fail)
          go_quiet (fail)
          go_wp2_with (fail)
          go_roundw
          case rel => exact ⟨k + 1, by omega, by omega, by go_num, HALL, below_drewN HBEL.out _⟩
          case measure => simp [RowKit.intOf]; omega
        · have hxx : (x == y) = false := by simpa using he
          have HE := hid he
          have HR := hid (show comm xs ys = k from comm_at hall.out (fun a b h1 h2 => by
            rw [HXK.out] at h1; rw [HYK.out] at h2
            have e1 : x = a := by simpa using h1
            have e2 : y = b := by simpa using h2
            rw [← e1, ← e2]; exact HE.out) hk hk2)
          clear hall he
          go_wp2_with (fail)
          go_quiet (fail)
          go_wp2_with (fail)
          go_ret
          exact ⟨by rw [HR.out]; rfl, below_drewN HBEL.out _⟩
      · have hlt' : (k : Int) < (xs.length : Int) := by omega
        have hlt2' : ¬ (k : Int) < (ys.length : Int) := by omega
        have hd2 : decide ((k : Int) < (ys.length : Int)) = false := by simpa using hlt2'
        have HR := hid (show comm xs ys = k from comm_at hall.out (fun a b h1 h2 => by
            have := (List.getElem?_eq_some_iff.1 h2).1
            omega) hk hk2)
        clear hall hbel
        go_wp2_with (fail)
        go_quiet (fail)
        go_wp2_with (fail)
        go_ret
        exact ⟨by rw [HR.out]; rfl, below_drewN HBEL.out _⟩
    · have hlt' : ¬ (k : Int) < (xs.length : Int) := by omega
      have hd2 : decide ((k : Int) < (xs.length : Int)) = false := by simpa using hlt'
      have HR := hid (show comm xs ys = k from comm_at hall.out (fun a b h1 h2 => by
            have := (List.getElem?_eq_some_iff.1 h1).1
            omega) hk hk2)
      clear hall hbel
      go_wp2_with (fail)
      go_quiet (fail)
      go_wp2_with (fail)
      go_ret
      exact ⟨by rw [HR.out]; rfl, below_drewN HBEL.out _⟩

end Go.Proofs.Ytjijabfamjhdjaa
