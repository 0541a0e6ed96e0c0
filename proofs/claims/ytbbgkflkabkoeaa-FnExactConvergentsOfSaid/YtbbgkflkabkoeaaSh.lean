/- Contracts: terms are copied, and brought into short form. -/
import Derived.Test.YtbbgkflkabkoeaaVt
import Derived.Lib.SliceRun
namespace Go.Proofs.Ytbbgkflkabkoeaa
open Go.RowKit

theorem own_more {B : Nat} {w : World} {v : Value} {n : Nat} {cs : List Value} {xs : List Int} (h : w.ownsRow B 2 1 v n cs) (hn : n = xs.length) (hc : cs = intCells xs) (h0 : 0 < xs.length) : ∃ g c, v = .slice (some ⟨g, 0, none⟩) xs.length c ∧ Own B w g c xs := by
  subst hn hc
  obtain ⟨g, cap, rfl, hg, _⟩ := h.form h0
  exact ⟨g, cap, rfl, hg, h⟩
theorem int_cells_one (xs : List Int) : ∀ u ∈ intCells xs, u.oneCell' = true := by
  intro u hu
  obtain ⟨x, _, rfl⟩ := List.mem_map.1 hu
  rfl
theorem lit_none (w : World) (B : Nat) (hB : B ≤ w.heap.size) : (w.alloc (.cells #[] 2)).ownsRow B 2 1 (.slice (some ⟨w.heap.size, 0, none⟩) 0 0) 0 (intCells []) := World.ownsRow_lit w #[] 0 hB (by decide) rfl

/-- A copy, by the library. -/
theorem implClone (g o c : Nat) (xs : List Int) (w : World) (h0 : 0 < xs.length) (hx : xs.length ≤ 2000000000) (ha : Ints w g o xs) :
    Calls Try.prog 72 #[.slice (some ⟨g, o, none⟩) xs.length c] w fun e w' => ∃ g' c', e = .returned (.slice (some ⟨g', 0, none⟩) xs.length c') ∧ Own w.heap.size w' g' c' xs ∧ Below w.heap.size w w' := by
  obtain ⟨i0, hi, hz0, hz1, hz2⟩ := info_parts infoI
  have HA := hid ha
  clear ha
  have q22 : ∀ (w : World) (a : Option Addr) (n c n' c' : Nat), (binOp .eql 28 (.slice a n c) (.slice none n' c')).run Try.prog w = .ok (.bool a.isNone) w := fun w a n c n' c' => Lib.run_eql_slice_nil w _ _ a n c n' c' Try.underlying28
  go_enter Try.func72, Try.ntmps72
  go_wp2_with (at_builtin; refine wpList_append_own _ rfl _ _ 28 rfl w.heap.size 2 i0 (.int .i64 0) 1 8 Try.underlying28 hi hz0 hz1 hz2 rfl (by decide) _ 0 (intCells []) (by rfl) ?c0 ⟨g, o, none⟩ xs.length c (intCells xs) (by rfl) ?c1 ?c2 ?c3 ?c4 ?c5 ?c6 ?c7)
  case c0 => exact lit_none w _ (Nat.le_refl _)
  case c1 => rw [intCells_length]; omega
  case c2 =>
    intro j u hj
    unfold intCells at hj
    rw [List.getElem?_map] at hj
    obtain ⟨x, hx1, rfl⟩ := Option.map_eq_some_iff.1 hj
    have h1 := ints_below HA.out ((Below.refl w.heap.size w).alloc (Nat.le_refl _) (.cells #[] 2)) j x hx1
    rw [add_off]
    exact h1
  case c3 => exact int_cells_one xs
  case c4 => unfold maxLen; omega
  case c5 => omega
  case c6 => (first | omega | (simp <;> omega))
  intro v2 w2 hown2 hgrow2 _
  obtain ⟨g2, c2, rfl, hown3⟩ := own_more (xs := xs) hown2 (by simp) (by rfl) h0
  have HOWN := hid hown3
  have HBEL := hid (((Below.refl w.heap.size w).alloc (Nat.le_refl _) (.cells #[] 2)).grown hgrow2 (by first | omega | (simp <;> omega)) (fun k hk => by have h' : w.heap.size = k := Option.some.inj hk; omega))
  clear hown2 hown3 hgrow2
  go_wp2_with (fail)
  go_ret
  exact ⟨g2, c2, by simp, HOWN.out, HBEL.out⟩

/-- A copy, by the model. -/
theorem specOwnL (g o c : Nat) (xs : List Int) (w : World) (h0 : 0 < xs.length) (hx : xs.length ≤ 2000000000) (ha : Ints w g o xs) :
    Calls Try.prog 71 #[.slice (some ⟨g, o, none⟩) xs.length c] w fun e w' => ∃ g' c', e = .returned (.slice (some ⟨g', 0, none⟩) xs.length c') ∧ Own w.heap.size w' g' c' xs ∧ Below w.heap.size w w' := by
  obtain ⟨i0, hi, hz0, hz1, hz2⟩ := info_parts infoI
  have HA := hid ha
  clear ha
  go_enter Try.func71, Try.ntmps71
  go_wp2_with (at_builtin; refine wpList_append_own _ rfl _ _ 28 rfl w.heap.size 2 i0 (.int .i64 0) 1 8 Try.underlying28 hi hz0 hz1 hz2 rfl (by decide) _ 0 (intCells []) (by rfl) ?c0 ⟨g, o, none⟩ xs.length c (intCells xs) (by rfl) ?c1 ?c2 ?c3 ?c4 ?c5 ?c6 ?c7)
  case c0 => exact lit_none w _ (Nat.le_refl _)
  case c1 => rw [intCells_length]; omega
  case c2 =>
    intro j u hj
    unfold intCells at hj
    rw [List.getElem?_map] at hj
    obtain ⟨x, hx1, rfl⟩ := Option.map_eq_some_iff.1 hj
    have h1 := ints_below HA.out ((Below.refl w.heap.size w).alloc (Nat.le_refl _) (.cells #[] 2)) j x hx1
    rw [add_off]
    exact h1
  case c3 => exact int_cells_one xs
  case c4 => unfold maxLen; omega
  case c5 => omega
  case c6 => (first | omega | (simp <;> omega))
  intro v2 w2 hown2 hgrow2 _
  obtain ⟨g2, c2, rfl, hown3⟩ := own_more (xs := xs) hown2 (by simp) (by rfl) h0
  have HOWN := hid hown3
  have HBEL := hid (((Below.refl w.heap.size w).alloc (Nat.le_refl _) (.cells #[] 2)).grown hgrow2 (by first | omega | (simp <;> omega)) (fun k hk => by have h' : w.heap.size = k := Option.some.inj hk; omega))
  clear hown2 hown3 hgrow2
  go_wp2_with (fail)
  go_ret
  exact ⟨g2, c2, by simp, HOWN.out, HBEL.out⟩

/-- The short form, by the program. -/
theorem implShort (g c : Nat) (xs : List Int) (w : World) (h0 : 0 < xs.length) (hx : xs.length ≤ 60) (hb : ∀ (j : Nat) (x : Int), xs[j]? = some x → -1000000000 ≤ x ∧ x ≤ 1000000000) (ha : Ints w g 0 xs) :
    Calls Try.prog 51 #[.slice (some ⟨g, 0, none⟩) xs.length c] w fun e w' => ∃ g' c', e = .returned (.slice (some ⟨g', 0, none⟩) (short xs).length c') ∧ Own w.heap.size w' g' c' (short xs) ∧ Below w.heap.size w w' := by
  have HC := hid (implClone g 0 c xs w h0 (by omega) ha)
  have HA := hid ha
  clear ha
  by_cases h1 : 1 < xs.length
  · obtain ⟨z, hz⟩ : ∃ z, xs[xs.length - 1]? = some z := ⟨_, List.getElem?_eq_getElem (by omega)⟩
    obtain ⟨y, hy⟩ : ∃ y, xs[xs.length - 2]? = some y := ⟨_, List.getElem?_eq_getElem (by omega)⟩
    have hzy := hb _ _ hy
    have HZ := hid hz
    have HY := hid hy
    have t1 : ((xs.length : Int) - 1).toNat = xs.length - 1 := by omega
    have t2 : ((xs.length : Int) - 2).toNat = xs.length - 2 := by omega
    have t3 : ((xs.length : Int) - 1 - 1).toNat = xs.length - 2 := by omega
    have p1 : (1 : Int) < (xs.length : Int) := by omega
    have p2 : (0 : Int) < (xs.length : Int) - 1 := by omega
    have cz := ints_at HA.out hz
    clear hz hy
    by_cases hz1 : z = 1
    · subst hz1
      have HS := hid (short_yes h1 HZ.out)
      have HL := hid (short_yes_len h1 HZ.out)
      have hyd : xs.getD (xs.length - 2) 0 = y := by rw [List.getD_eq_getElem?_getD, HY.out]; rfl
      rw [hyd] at HS
      clear hyd
      go_enter Try.func51, Try.ntmps51
      go_wp2_with (fail)
      refine HC.out.mono ?_
      rintro e w1 ⟨g1, c1, rfl, o1, b1⟩
      have HO := hid o1
      have HB := hid b1
      have cz1 := ints_at (own_ints o1) HZ.out
      have cy1 := ints_at (own_ints o1) HY.out
      have cz2 := (b1.cell (p := ⟨g, xs.length - 1, none⟩) (World.block_lt_of_cell? _ _ cz)).trans cz
      have hcap := own_cap o1
      have f1 := own_frozen o1 (xs.length - 2)
      obtain ⟨hB1, OT⟩ := own_take o1 (xs.length - 1) (by omega)
      have hOT := hid OT
      have OS := hid ((OT.stored (xs.length - 2) (.int .i64 (y + 1))).1)
      have E2 := hid (b1.setCell (p := ⟨g1, xs.length - 2, none⟩) hB1 (.int .i64 (y + 1)))
      clear o1 b1 OT cz
      go_wp2_with (fail)
      go_ret
      refine ⟨g1, c1, by rw [HL.out]; rfl, ⟨hB1, ?_⟩, E2.out⟩
      have h2 := OS.out
      rw [← intCells_set, ← HS.out] at h2
      have h3 := HL.out
      rw [← h3] at h2
      exact h2
    · have HS := hid (short_no (xs := xs) (by rw [HZ.out]; simp [hz1]))
      go_enter Try.func51, Try.ntmps51
      go_wp2_with (fail)
      refine HC.out.mono ?_
      rintro e w1 ⟨g1, c1, rfl, o1, b1⟩
      have HO := hid o1
      have HB := hid b1
      have cz1 := ints_at (own_ints o1) HZ.out
      have cz2 := (b1.cell (p := ⟨g, xs.length - 1, none⟩) (World.block_lt_of_cell? _ _ cz)).trans cz
      clear o1 b1 cz
      go_wp2_with (fail)
      go_ret
      exact ⟨g1, c1, by rw [HS.out]; rfl, by rw [HS.out]; exact HO.out, HB.out⟩
  · have HS := hid (short_no (xs := xs) (fun h => h1 h.1))
    have p1 : ¬ (1 : Int) < (xs.length : Int) := by omega
    have p2 : ¬ (0 : Int) < (xs.length : Int) - 1 := by omega
    go_enter Try.func51, Try.ntmps51
    go_wp2_with (fail)
    refine HC.out.mono ?_
    rintro e w1 ⟨g1, c1, rfl, o1, b1⟩
    have HO := hid o1
    have HB := hid b1
    clear o1 b1
    go_wp2_with (fail)
    go_ret
    exact ⟨g1, c1, by rw [HS.out]; rfl, by rw [HS.out]; exact HO.out, HB.out⟩

/-- The short form, by the model. -/
theorem specShort (g c : Nat) (xs : List Int) (w : World) (h0 : 0 < xs.length) (hx : xs.length ≤ 60) (hb : ∀ (j : Nat) (x : Int), xs[j]? = some x → -1000000000 ≤ x ∧ x ≤ 1000000000) (ha : Ints w g 0 xs) :
    Calls Try.prog 50 #[.slice (some ⟨g, 0, none⟩) xs.length c] w fun e w' => ∃ g' c', e = .returned (.slice (some ⟨g', 0, none⟩) (short xs).length c') ∧ Own w.heap.size w' g' c' (short xs) ∧ Below w.heap.size w w' := by
  have HC := hid (specOwnL g 0 c xs w h0 (by omega) ha)
  have HA := hid ha
  clear ha
  by_cases h1 : 1 < xs.length
  · obtain ⟨z, hz⟩ : ∃ z, xs[xs.length - 1]? = some z := ⟨_, List.getElem?_eq_getElem (by omega)⟩
    obtain ⟨y, hy⟩ : ∃ y, xs[xs.length - 2]? = some y := ⟨_, List.getElem?_eq_getElem (by omega)⟩
    have hzy := hb _ _ hy
    have HZ := hid hz
    have HY := hid hy
    have t1 : ((xs.length : Int) - 1).toNat = xs.length - 1 := by omega
    have t2 : ((xs.length : Int) - 2).toNat = xs.length - 2 := by omega
    have t3 : ((xs.length : Int) - 1 - 1).toNat = xs.length - 2 := by omega
    have p1 : (1 : Int) < (xs.length : Int) := by omega
    have p2 : (0 : Int) < (xs.length : Int) - 1 := by omega
    have cz := ints_at HA.out hz
    clear hz hy
    by_cases hz1 : z = 1
    · subst hz1
      have HS := hid (short_yes h1 HZ.out)
      have HL := hid (short_yes_len h1 HZ.out)
      have hyd : xs.getD (xs.length - 2) 0 = y := by rw [List.getD_eq_getElem?_getD, HY.out]; rfl
      rw [hyd] at HS
      clear hyd
      go_enter Try.func50, Try.ntmps50
      go_wp2_with (fail)
      refine HC.out.mono ?_
      rintro e w1 ⟨g1, c1, rfl, o1, b1⟩
      have HO := hid o1
      have HB := hid b1
      have cz1 := ints_at (own_ints o1) HZ.out
      have cy1 := ints_at (own_ints o1) HY.out
      have cz2 := (b1.cell (p := ⟨g, xs.length - 1, none⟩) (World.block_lt_of_cell? _ _ cz)).trans cz
      have hcap := own_cap o1
      have f1 := own_frozen o1 (xs.length - 2)
      obtain ⟨hB1, OT⟩ := own_take o1 (xs.length - 1) (by omega)
      have hOT := hid OT
      have OS := hid ((OT.stored (xs.length - 2) (.int .i64 (y + 1))).1)
      have E2 := hid (b1.setCell (p := ⟨g1, xs.length - 2, none⟩) hB1 (.int .i64 (y + 1)))
      clear o1 b1 OT cz
      go_wp2_with (fail)
      go_ret
      refine ⟨g1, c1, by rw [HL.out]; rfl, ⟨hB1, ?_⟩, E2.out⟩
      have h2 := OS.out
      rw [← intCells_set, ← HS.out] at h2
      have h3 := HL.out
      rw [← h3] at h2
      exact h2
    · have HS := hid (short_no (xs := xs) (by rw [HZ.out]; simp [hz1]))
      go_enter Try.func50, Try.ntmps50
      go_wp2_with (fail)
      refine HC.out.mono ?_
      rintro e w1 ⟨g1, c1, rfl, o1, b1⟩
      have HO := hid o1
      have HB := hid b1
      have cz1 := ints_at (own_ints o1) HZ.out
      have cz2 := (b1.cell (p := ⟨g, xs.length - 1, none⟩) (World.block_lt_of_cell? _ _ cz)).trans cz
      clear o1 b1 cz
      go_wp2_with (fail)
      go_ret
      exact ⟨g1, c1, by rw [HS.out]; rfl, by rw [HS.out]; exact HO.out, HB.out⟩
  · have HS := hid (short_no (xs := xs) (fun h => h1 h.1))
    have p1 : ¬ (1 : Int) < (xs.length : Int) := by omega
    have p2 : ¬ (0 : Int) < (xs.length : Int) - 1 := by omega
    go_enter Try.func50, Try.ntmps50
    go_wp2_with (fail)
    refine HC.out.mono ?_
    rintro e w1 ⟨g1, c1, rfl, o1, b1⟩
    have HO := hid o1
    have HB := hid b1
    clear o1 b1
    go_wp2_with (fail)
    go_ret
    exact ⟨g1, c1, by rw [HS.out]; rfl, by rw [HS.out]; exact HO.out, HB.out⟩

end Go.Proofs.Ytbbgkflkabkoeaa
