/- Contract: the parts of a text without blanks, as the model parts it. -/
import Derived.Test.YtbbgkflkabkoeaaDoorSp
import Derived.OneCell
import Derived.Deep.Onto
namespace Go.Proofs.YtbbgkflkabkoeaaDoor
open Go.RowKit Go.Lib

/-- The parts that are not empty. -/
def wordsB (l : List UInt8) : List (List UInt8) := (splitB 32 l).filter fun p => !p.isEmpty

theorem add_zero_sw (g j : Nat) : Addr.add ⟨g, 0, none⟩ j = ⟨g, j, none⟩ := by
  unfold Addr.add; split <;> simp_all

theorem row_cell {B : Nat} {w : World} {xs : List ByteArray} {g cap : Nat} (h : w.ownsRow B 9 1 (.slice (some ⟨g, 0, none⟩) xs.length cap) xs.length (strCells xs)) (j : Nat) {x : ByteArray} (hj : xs[j]? = some x) : w.cell? ⟨g, j, none⟩ = some (.string x) := by
  have := h.cells (g := g) rfl j (.string x) (by unfold strCells; rw [List.getElem?_map, hj]; rfl)
  rwa [add_zero_sw] at this

theorem filter_more {xs : List ByteArray} {k : Nat} (h : k < xs.length) {q : List UInt8 → Bool} : ((xs.take (k + 1)).map (·.data.toList)).filter q = ((xs.take k).map (·.data.toList)).filter q ++ (if q (xs[k]'h).data.toList then [(xs[k]'h).data.toList] else []) := by
  rw [← List.take_append_getElem h, List.map_append, List.filter_append]
  cases hq : q (xs[k]'h).data.toList <;> simp [hq]

set_option maxRecDepth 100000 in
set_option maxHeartbeats 1600000 in
theorem specWords (s : ByteArray) (w : World) (hs : s.size ≤ 1048576) :
    Calls Tryd.prog 18 #[.string s] w fun e w' => ∃ v ys, e = .returned v ∧ RowOf w.heap.size w' v ys ∧ ys.map (·.data.toList) = wordsB s.data.toList ∧ ys.length ≤ s.size + 1 ∧ Below w.heap.size w w' := by
  obtain ⟨i0, hi, hz0, hz1, hz2⟩ := info_parts info9
  have HSP := hid (show ∀ w', Calls Tryd.prog 30 #[.string s, .int .u8 32] w' fun e w' => ∃ v xs, e = .returned v ∧ RowOf _ w' v xs ∧ xs.map (·.data.toList) = splitB 32 s.data.toList ∧ xs.length ≤ s.size + 1 ∧ Below _ _ w' from fun w' => specSplit s 32 w' hs)
  go_enter Tryd.func18, Tryd.ntmps18
  go_wp2_with (fail)
  refine (HSP.out _).mono ?_
  rintro e w1 ⟨v, xs, rfl, ⟨g, cap, rfl, hg, hown⟩, hm, hlen, hb1⟩
  have hcells : Hid (∀ j x, xs[j]? = some x → w1.cell? ⟨g, j, none⟩ = some (.string x)) := hid fun j x hj => row_cell hown j hj
  have hglt : g < w1.heap.size := by
    rcases hown.2 with ⟨h, _⟩ | ⟨g', cap', cur, h, _, hg', _⟩
    · cases h
    · injection h with h1
      injection h1 with h2
      injection h2 with h3
      subst h3
      exact lt_of_block hg'
  clear hown hg
  have HB1 := hid hb1
  have hzb : w.heap.size ≤ w1.heap.size := hb1.size
  clear hb1 HSP
  go_wp2_with (fail)
  go_loopw [4, 5] (fun v i wr => ∃ (ys : List ByteArray) (g2 cap2 k : Nat), v = .slice (some ⟨g2, 0, none⟩) ys.length cap2 ∧ i = .int .i64 k ∧ k ≤ xs.length ∧ ys.length ≤ k ∧ w1.heap.size ≤ g2 ∧ wr.ownsRow w1.heap.size 9 1 (.slice (some ⟨g2, 0, none⟩) ys.length cap2) ys.length (strCells ys) ∧ Hid (ys.map (·.data.toList) = ((xs.take k).map (·.data.toList)).filter fun p => !p.isEmpty) ∧ Below w1.heap.size w1 wr) (fun _ i _ => xs.length - (RowKit.intOf i).toNat)
  case atStart =>
    refine ⟨[], w1.heap.size, 0, 0, rfl, rfl, by omega, Nat.le_refl _, Nat.le_refl _, ?_, hid rfl, (Below.refl _ _).alloc (Nat.le_refl _) _⟩
    exact World.ownsRow_lit w1 #[] 0 (Nat.le_refl _) (by decide) rfl
  case round =>
    obtain ⟨ys, g2, cap2, k, rfl, rfl, hk, hyk, hg2, hown, hd, hbel⟩ := hrel
    have HOWN := hid hown
    have HBEL := hid hbel
    have hb : w1.heap.size ≤ wr.heap.size := hbel.size
    clear hown
    by_cases hlt : k < xs.length
    · have hlt' : (k : Int) < (xs.length : Int) := by omega
      have hk0 : (0 : Int) ≤ (k : Int) := by omega
      have hcell : wr.cell? ⟨g, k, none⟩ = some (.string (xs[k]'hlt)) := (hbel.cell (p := ⟨g, k, none⟩) hglt).trans (hcells.out k _ (List.getElem?_eq_getElem hlt))
      have hfm := @filter_more xs k hlt (fun p => !p.isEmpty)
      clear hbel
      generalize xs[k]'hlt = x at hcell hfm
      cases hx : x.data.toList.isEmpty with
      | true =>
        have hxe : x.toList.isEmpty = true := by rw [Lib.toList_data]; exact hx
        have HD2 := hid (show ys.map (·.data.toList) = ((xs.take (k + 1)).map (·.data.toList)).filter fun p => !p.isEmpty by
          rw [hfm, hd.out]; simp [hx])
        clear hx hfm
        go_wp2_with (fail)
        go_roundw
        case rel => exact ⟨ys, g2, cap2, k + 1, rfl, by go_num, by omega, by omega, hg2, HOWN.out, HD2, HBEL.out⟩
        case measure => simp only [RowKit.intOf]; omega
      | false =>
        have hxe : x.toList.isEmpty = false := by rw [Lib.toList_data]; exact hx
        have HD2 := hid (show (ys ++ [x]).map (·.data.toList) = ((xs.take (k + 1)).map (·.data.toList)).filter fun p => !p.isEmpty by
          rw [hfm, List.map_append, hd.out]; simp [hx])
        clear hx hfm
        go_wp2_with (at_builtin; refine wpList_append_own _ rfl _ _ 33 rfl w1.heap.size 9 i0 (.string ByteArray.empty) 1 16 Tryd.underlying33 hi hz0 hz1 hz2 rfl (by decide) _ ys.length (strCells ys) (by rfl) ?c0 ⟨wr.heap.size, 0, none⟩ 1 1 [.string x] (by rfl) ?c1 ?c2 ?c3 ?c4 ?c5 ?c6 ?c7)
        case c0 => exact HOWN.out.alloc _
        case c3 => rfl
        case c4 => unfold maxLen; omega
        case c5 => omega
        case c6 => (first | omega | (simp; omega))
        intro v2 w2 hown2 hgrow2 _
        obtain ⟨g3, cap3, rfl, hg3, hown3⟩ := rowOf_own hown2 (by simp) (strCells_more _ _) (by simp)
        have HOWN3 := hid hown3
        have HBEL2 := hid ((HBEL.out.alloc hb _).grown hgrow2 (by first | omega | (simp; omega)) (fun k hk => by have h' : g2 = k := Option.some.inj hk; omega))
        clear hown2 hown3 hgrow2
        go_wp2_with (fail)
        go_roundw
        case rel => exact ⟨_, g3, cap3, k + 1, rfl, by go_num, by omega, by simp; omega, hg3, HOWN3.out, HD2, HBEL2.out⟩
        case measure => simp only [RowKit.intOf]; omega
    · have hlt' : ¬ (k : Int) < (xs.length : Int) := by omega
      have HD2 := hid (show ys.map (·.data.toList) = wordsB s.data.toList by
        unfold wordsB
        rw [hd.out, List.take_of_length_le (by omega), hm])
      clear hbel
      go_wp2_with (fail)
      go_ret
      exact ⟨_, rfl, ys, ⟨g2, cap2, rfl, by omega, HOWN.out.mono hzb⟩, HD2.out, by omega, HB1.out.trans (HBEL.out.mono hzb)⟩

end Go.Proofs.YtbbgkflkabkoeaaDoor
