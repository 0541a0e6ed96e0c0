/- Contracts: terms are copied, and brought into short form. -/
import Derived.Test.YtjijabfamjhdjaaVt
import Derived.Lib.SliceRun
namespace Go.Proofs.Ytjijabfamjhdjaa
open Go.RowKit

theorem own_more {B : Nat} {w : World} {v : Value} {n : Nat} {cs : List Value} {xs : List Int} (h : w.ownsRow B 2 1 v n cs) (hn : n = xs.length) (hc : cs = intCells xs) (h0 : 0 < xs.length) : ∃ g c, v = .slice (some ⟨g, 0, none⟩) xs.length c ∧ Own B w g c xs := by
  subst hn hc
  obtain ⟨g, cap, rfl, hg, _⟩ := h.form h0
  exact ⟨g, cap, rfl, hg, h⟩
theorem int_cells_one (xs : List Int) : ∀ u ∈ intCells xs, u.oneCell' = true := by
  intro u hu
  obtain ⟨x, _, rfl⟩ := List.mem_map.1 hu
  rfl
theorem lit_none (w : World) (B : Nat) (hB : B ≤ w.heap.size) : (w.alloc (.cells #[] 2)).ownsRow B 2 1 (.slice (some ⟨w.heap.size, 0, none⟩) 0 0) 0 (intCells []) := World.ownsRow_lit w #[] 0 hB (by decide) rfl

/-- A copy, by the library. -/
theorem implClone (g o c : Nat) (xs : List Int) (w : World) (h0 : 0 < xs.length) (hx : xs.length ≤ 2000000000) (ha : Ints w g o xs) :
    Calls Try.prog 95 #[.slice (some ⟨g, o, none⟩) xs.length c] w fun e w' => ∃ g' c', e = .returned (.slice (some ⟨g', 0, none⟩) xs.length c') ∧ Own w.heap.size w' g' c' xs ∧ Below w.heap.size w w' := by
  obtain ⟨i0, hi, hz0, hz1, hz2⟩ := info_parts infoI
  have HA := hid ha
  clear ha
  have q22 : ∀ (w : World) (a : Option Addr) (n c n' c' : Nat), (binOp .eql 27 (.slice a n c) (.slice none n' c')).run Try.prog w = .ok (.bool a.isNone) w := fun w a n c n' c' => Lib.run_eql_slice_nil w _ _ a n c n' c' Try.underlying27
  go_enter Try.func95, Try.ntmps95
  go_wp2_with (at_builtin; refine wpList_append_own _ rfl _ _ 27 rfl w.heap.size 2 i0 (.int .i64 0) 1 8 Try.underlying27 hi hz0 hz1 hz2 rfl (by decide) _ 0 (intCells []) (by rfl) ?c0 ⟨g, o, none⟩ xs.length c (intCells xs) (by rfl) ?c1 ?c2 ?c3 ?c4 ?c5 ?c6 ?c7)
  case c0 => exact lit_none w _ (Nat.le_refl _)
  case c1 => rw [intCells_length]; omega
  case c2 =>
    intro j u hj
    unfold intCells at hj
    rw [List.getElem?_map] at hj
    obtain ⟨x, hx1, rfl⟩ := Option.map_eq_some_iff.1 hj
    have h1 := ints_below HA.out ((Below.refl w.heap.size w).alloc (Nat.le_refl _) (.cells #[] 2)) j x hx1
    rw [add_off]
    exact h1
  case c3 => exact int_cells_one xs
  case c4 => unfold maxLen; omega
  case c5 => omega
  case c6 => (first | omega | (simp <;> omega))
  intro v2 w2 hown2 hgrow2 _
  obtain ⟨g2, c2, rfl, hown3⟩ := own_more (xs := xs) hown2 (by simp) (by rfl) h0
  have HOWN := hid hown3
  have HBEL := hid (((Below.refl w.heap.size w).alloc (Nat.le_refl _) (.cells #[] 2)).grown hgrow2 (by first | omega | (simp <;> omega)) (fun k hk => by have h' : w.heap.size = k := Option.some.inj hk; omega))
  clear hown2 hown3 hgrow2
  go_wp2_with (fail)
  go_ret
  exact ⟨g2, c2, by simp, HOWN.out, HBEL.out⟩

/-- A copy, by the model. -/
theorem specOwnL (g o c : Nat) (xs : List Int) (w : World) (h0 : 0 < xs.length) (hx : xs.length ≤ 2000000000) (ha : Ints w g o xs) :
    Calls Try.prog 88 #[.slice (some ⟨g, o, none⟩) xs.length c] w fun e w' => ∃ g' c', e = .returned (.slice (some ⟨g', 0, none⟩) xs.length c') ∧ Own w.heap.size w' g' c' xs ∧ Below w.heap.size w w' := by
  obtain ⟨i0, hi, hz0, hz1, hz2⟩ := info_parts infoI
  have HA := hid ha
  clear ha
  go_enter Try.func88, Try.ntmps88
  go_wp2_with (at_builtin; refine wpList_append_own _ rfl _ _ 27 rfl w.heap.size 2 i0 (.int .i64 0) 1 8 Try.underlying27 hi hz0 hz1 hz2 rfl (by decide) _ 0 (intCells []) (by rfl) ?c0 ⟨g, o, none⟩ xs.length c (intCells xs) (by rfl) ?c1 ?c2 ?c3 ?c4 ?c5 ?c6 ?c7)
  case c0 => exact lit_none w _ (Nat.le_refl _)
  case c1 => rw [intCells_length]; omega
  case c2 =>
    intro j u hj
    unfold intCells at hj
    rw [List.getElem?_map] at hj
    obtain ⟨x, hx1, rfl⟩ := Option.map_eq_some_iff.1 hj
    have h1 := ints_below HA.out ((Below.refl w.heap.size w).alloc (Nat.le_refl _) (.cells #[] 2)) j x hx1
    rw [add_off]
    exact h1
  case c3 => exact int_cells_one xs
  case c4 => unfold maxLen; omega
  case c5 => omega
  case c6 => (first | omega | (simp <;> omega))
  intro v2 w2 hown2 hgrow2 _
  obtain ⟨g2, c2, rfl, hown3⟩ := own_more (xs := xs) hown2 (by simp) (by rfl) h0
  have HOWN := hid hown3
  have HBEL := hid (((Below.refl w.heap.size w).alloc (Nat.le_refl _) (.cells #[] 2)).grown hgrow2 (by first | omega | (simp <;> omega)) (fun k hk => by have h' : w.heap.size = k := Option.some.inj hk; omega))
  clear hown2 hown3 hgrow2
  go_wp2_with (fail)
  go_ret
  exact ⟨g2, c2, by simp, HOWN.out, HBEL.out⟩

end Go.Proofs.Ytjijabfamjhdjaa
