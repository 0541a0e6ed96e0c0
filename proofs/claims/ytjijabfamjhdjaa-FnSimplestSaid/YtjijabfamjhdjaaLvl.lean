/- Contracts: the number of steps to a fraction, by the program and by the model. -/
import Derived.Test.YtjijabfamjhdjaaPth
namespace Go.Proofs.Ytjijabfamjhdjaa
open Go.RowKit

def sm : List Int → Int
  | [] => 0
  | x :: r => x + sm r
theorem sm_append : ∀ (xs ys : List Int), sm (xs ++ ys) = sm xs + sm ys
  | [], ys => by simp [sm]
  | x :: xs, ys => by
    show x + sm (xs ++ ys) = x + sm xs + sm ys
    rw [sm_append xs ys]; omega
theorem sm_next {xs : List Int} {k : Nat} {x : Int} (h : xs[k]? = some x) : sm (xs.take (k + 1)) = sm (xs.take k) + x := by
  rw [List.take_add_one, h, sm_append]
  show sm (xs.take k) + (x + 0) = _
  omega
theorem sm_bd : ∀ (xs : List Int), (∀ x ∈ xs, 0 ≤ x ∧ x ≤ 1000000000) → 0 ≤ sm xs ∧ sm xs ≤ 1000000000 * xs.length
  | [], _ => by simp [sm]
  | x :: xs, h => by
    have h1 := h x (by simp)
    have h2 := sm_bd xs fun y hy => h y (by simp [hy])
    show 0 ≤ x + sm xs ∧ x + sm xs ≤ _
    simp only [List.length_cons]
    omega
theorem okP_mem {xs : List Int} (h : okP xs = true) : ∀ x ∈ xs, 0 ≤ x ∧ x ≤ 1000000000 := by
  intro x hx
  obtain ⟨j, hj⟩ := List.mem_iff_getElem?.1 hx
  exact okP_bd h hj

/-- The number of steps, and a code. -/
def lvlT (n d : Int) : Int × Int := if code1 n d = 0 then (sm (pathF n d), 0) else (0, code1 n d)
theorem lvlT_no {n d : Int} (h : code1 n d ≠ 0) : lvlT n d = (0, code1 n d) := if_neg h
theorem lvlT_ok {n d : Int} (h : code1 n d = 0) : lvlT n d = (sm (pathF n d), 0) := if_pos h

theorem implLevel (n d : Int) (w : World) :
    Calls Try.prog 11 #[.agg #[.int .i64 n, .int .i64 d]] w fun e w' => e = .returned (.tuple #[.int .i64 (lvlT n d).1, .int .i64 (lvlT n d).2]) ∧ Below w.heap.size w w' := by
  have HP := hid (fun w => implPathTo n d w)
  obtain ⟨xs, k5, hxs, hk, hmem, hlt⟩ : ∃ xs k, pthT n d = (xs, k) ∧ lvlT n d = (sm xs, k) ∧ (∀ x ∈ xs, 0 ≤ x ∧ x ≤ 1000000000) ∧ xs.length ≤ 60 := by
    have hl := pthT_len (n := n) (d := d)
    by_cases hc : code1 n d = 0
    · obtain ⟨h1, h2⟩ := code1_zero hc
      rw [pthT_ok hc] at hl
      exact ⟨_, _, pthT_ok hc, lvlT_ok hc, okP_mem (path_ok h1 h2), hl⟩
    · exact ⟨[], _, pthT_no hc, lvlT_no hc, by simp, by simp⟩
  rw [hxs] at HP
  rw [hk]
  have HM := hid hmem
  clear hxs hk hmem
  go_enter Try.func11, Try.ntmps11
  go_wp2_with (fail)
  refine (HP.out _).mono ?_
  rintro e w1 ⟨⟨v, rfl, r⟩, b1⟩
  have E1 := hid (((Below.refl w.heap.size w).alloc (Nat.le_refl _) (.cells #[.int .i64 n, .int .i64 d] 25)).trans (b1.mono (by simp)))
  have HR := hid r
  clear b1 r
  have HFORM : ∃ a c, v = .slice a xs.length c ∧ ∀ j x, xs[j]? = some x → ∃ g, a = some ⟨g, 0, none⟩ ∧ w1.cell? ⟨g, j, none⟩ = some (.int .i64 x) := by
    rcases HR.out with ⟨h1, h2⟩ | ⟨g, c, h1, h2⟩
    · have h2 : xs = [] := h2
      subst h2
      exact ⟨none, 0, h1, fun j x hj => by simp at hj⟩
    · exact ⟨some ⟨g, 0, none⟩, c, h1, fun j x hj => ⟨g, rfl, ints_at (own_ints h2) hj⟩⟩
  obtain ⟨a, c, rfl, hcell⟩ := HFORM
  have HCELL := hid hcell
  clear hcell HR
  go_wp2_with (fail)
  go_loop [6, 8, 16] (fun s u i => ∃ k : Nat, k ≤ xs.length ∧ i = .int .i64 k ∧ s = .int .i64 (sm (xs.take k))) (fun _ _ i => xs.length - (RowKit.intOf i).toNat)
  case atStart => exact ⟨0, by omega, rfl, rfl⟩
  case round =>
    obtain ⟨k, hk, rfl, rfl⟩ := hrel
    have hk0 : (0 : Int) ≤ (k : Int) := by omega
    by_cases hlt2 : k < xs.length
    · have hlt' : (k : Int) < (xs.length : Int) := by omega
      obtain ⟨x, hxk⟩ : ∃ x, xs[k]? = some x := ⟨_, List.getElem?_eq_getElem hlt2⟩
      obtain ⟨g, rfl, ca⟩ := HCELL.out k x hxk
      have hb1 := sm_bd (xs.take k) fun y hy => HM.out y (List.mem_of_mem_take hy)
      have hl1 : (xs.take k).length ≤ 60 := by rw [List.length_take]; omega
      have hb2 := HM.out x (List.mem_of_getElem? hxk)
      have HS := hid (sm_next hxk)
      have b1 : 0 ≤ sm (xs.take k) := hb1.1
      have b2 : sm (xs.take k) ≤ 60000000000 := by omega
      have b3 : 0 ≤ x := hb2.1
      have b4 : x ≤ 1000000000 := hb2.2
      clear hb1 hb2 hl1 hxk
      generalize sm (xs.take k) = S at *
      go_wp2_with (fail)
      go_round
      case rel => exact ⟨k + 1, by omega, by go_num, by rw [HS.out]⟩
      case measure => simp [RowKit.intOf]; omega
    · have hlt' : ¬ (k : Int) < (xs.length : Int) := by omega
      have HS := hid (show sm (xs.take k) = sm xs by rw [List.take_of_length_le (by omega)])
      generalize sm (xs.take k) = S at *
      go_wp2_with (fail)
      go_ret2
      exact ⟨by rw [HS.out]; rfl, E1.out⟩

theorem specSumL (g c : Nat) (xs : List Int) (w : World) (hx : xs.length ≤ 60) (hm : ∀ x ∈ xs, 0 ≤ x ∧ x ≤ 1000000000) (ha : Ints w g 0 xs) :
    Calls Try.prog 51 #[.slice (some ⟨g, 0, none⟩) xs.length c] w fun e w' => e = .returned (.int .i64 (sm xs)) ∧ w' = w := by
  have HA := hid ha
  have HM := hid hm
  clear ha hm
  go_enter Try.func51, Try.ntmps51
  go_wp2_with (fail)
  go_loop [3, 4] (fun s i => ∃ k : Nat, k ≤ xs.length ∧ i = .int .i64 k ∧ s = .int .i64 (sm (xs.take k))) (fun _ i => xs.length - (RowKit.intOf i).toNat)
  case atStart => exact ⟨0, by omega, rfl, rfl⟩
  case round =>
    obtain ⟨k, hk, rfl, rfl⟩ := hrel
    have hk0 : (0 : Int) ≤ (k : Int) := by omega
    by_cases hlt2 : k < xs.length
    · have hlt' : (k : Int) < (xs.length : Int) := by omega
      obtain ⟨x, hxk⟩ : ∃ x, xs[k]? = some x := ⟨_, List.getElem?_eq_getElem hlt2⟩
      have ca := ints_at HA.out hxk
      have hb1 := sm_bd (xs.take k) fun y hy => HM.out y (List.mem_of_mem_take hy)
      have hl1 : (xs.take k).length ≤ 60 := by rw [List.length_take]; omega
      have hb2 := HM.out x (List.mem_of_getElem? hxk)
      have HS := hid (sm_next hxk)
      have b1 : 0 ≤ sm (xs.take k) := hb1.1
      have b2 : sm (xs.take k) ≤ 60000000000 := by omega
      have b3 : 0 ≤ x := hb2.1
      have b4 : x ≤ 1000000000 := hb2.2
      clear hb1 hb2 hl1 hxk
      generalize sm (xs.take k) = S at *
      go_wp2_with (fail)
      go_round
      case rel => exact ⟨k + 1, by omega, by go_num, by rw [HS.out]⟩
      case measure => simp [RowKit.intOf]; omega
    · have hlt' : ¬ (k : Int) < (xs.length : Int) := by omega
      have HS := hid (show sm (xs.take k) = sm xs by rw [List.take_of_length_le (by omega)])
      generalize sm (xs.take k) = S at *
      go_wp2_with (fail)
      go_ret
      exact ⟨by rw [HS.out]; rfl, rfl⟩

theorem specLevel (n d : Int) (w : World) :
    Calls Try.prog 12 #[.agg #[.int .i64 n, .int .i64 d]] w fun e w' => e = .returned (.tuple #[.int .i64 (lvlT n d).1, .int .i64 (lvlT n d).2]) ∧ Below w.heap.size w w' := by
  have CV := hid (two_new w 25 (.int .i64 n) (.int .i64 d))
  have HC := hid (specCode n d (w.alloc (.cells #[.int .i64 n, .int .i64 d] 25)))
  by_cases hc : code1 n d = 0
  · obtain ⟨ho, hn⟩ := code1_zero hc
    rw [lvlT_ok hc]
    rw [hc] at HC
    have HR := hid (fun w => specPathL n d w ho hn)
    have hok := path_ok ho hn
    have HSU := hid (fun (g c : Nat) (w : World) (h : Ints w g 0 (pathF n d)) => specSumL g c (pathF n d) w (okP_len hok) (okP_mem hok) h)
    clear hc ho hn hok
    generalize pathF n d = xs at *
    go_enter Try.func12, Try.ntmps12
    go_wp2_with (fail)
    refine HC.out.mono ?_
    rintro e w1 ⟨rfl, b1⟩
    have qa := (b1.cell (p := ⟨w.heap.size, 0, none⟩) (by simp)).trans CV.out.1
    have qb := (b1.cell (p := ⟨w.heap.size, 1, none⟩) (by simp)).trans CV.out.2
    have E1 := hid (((Below.refl w.heap.size w).alloc (Nat.le_refl _) (.cells #[.int .i64 n, .int .i64 d] 25)).trans (b1.mono (by simp)))
    clear b1
    go_wp2_with (fail)
    refine (HR.out _).mono ?_
    rintro e w2 ⟨g, c, rfl, o, b2⟩
    have O := hid (own_ints o)
    have E2 := hid (E1.out.trans (b2.mono E1.out.size))
    clear o b2
    go_wp2_with (fail)
    refine (HSU.out _ _ _ O.out).mono ?_
    rintro e w3 ⟨rfl, rfl⟩
    go_wp2_with (fail)
    go_ret2
    exact ⟨rfl, E2.out⟩
  · rw [lvlT_no hc]
    generalize code1 n d = k at *
    have hk : (k != 0) = true := by simpa using hc
    go_enter Try.func12, Try.ntmps12
    go_wp2_with (fail)
    refine HC.out.mono ?_
    rintro e w1 ⟨rfl, b1⟩
    have E1 := hid (((Below.refl w.heap.size w).alloc (Nat.le_refl _) (.cells #[.int .i64 n, .int .i64 d] 25)).trans (b1.mono (by simp)))
    clear b1
    go_wp2_with (fail)
    go_ret2
    exact ⟨rfl, E1.out⟩

end Go.Proofs.Ytjijabfamjhdjaa
