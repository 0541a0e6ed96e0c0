/- The law on FareyLines, walked. -/
import Derived.Test.YtjijabfamjhdjaaDoorFli
import Derived.Test.YtjijabfamjhdjaaDoorMkl
namespace Go.Proofs.YtjijabfamjhdjaaDoor.pExactFareyLines
open Go.RowKit Go.Lib

theorem eqZero (a b : Option Addr) (ca cb : Nat) (w : World) :
    Calls Tryd.prog 36 #[.slice a 0 ca, .slice b 0 cb] w fun e w' => e = .returned (.bool true) ∧ Below w.heap.size w w' := by
  go_enter Tryd.func36, Tryd.ntmps36
  go_wp2_with (fail)
  go_loopw [5] (fun i wr => i = .int .i64 0 ∧ Below w.heap.size w wr) (fun _ _ => 0)
  case atStart => exact ⟨rfl, Below.refl _ _⟩
  case round =>
    obtain ⟨rfl, hbel⟩ := hrel
    have HBEL := hid hbel
    clear hbel
    go_wp2_with (fail)
    go_ret
    exact ⟨rfl, HBEL.out⟩
theorem markZero (a : Option Addr) (ca : Nat) (w : World) :
    Calls Tryd.prog 37 #[.slice a 0 ca, .int .i64 1] w fun e w' => e = .returned (.int .i64 1) ∧ Below w.heap.size w w' := by
  go_enter Tryd.func37, Tryd.ntmps37
  go_wp2_with (fail)
  go_loopw [1, 5] (fun q i wr => i = .int .i64 0 ∧ q = .int .i64 1 ∧ Below w.heap.size w wr) (fun _ _ _ => 0)
  case atStart => exact ⟨rfl, rfl, Below.refl _ _⟩
  case round =>
    obtain ⟨rfl, rfl, hbel⟩ := hrel
    have HBEL := hid hbel
    clear hbel
    go_wp2_with (fail)
    go_ret
    exact ⟨rfl, HBEL.out⟩
theorem heldZero (a : Option Addr) (ca : Nat) (w : World) :
    Calls Tryd.prog 38 #[.slice a 0 ca, .int .i64 1] w fun e w' => e = .returned (.int .i64 1) ∧ Below w.heap.size w w' := by
  go_enter Tryd.func38, Tryd.ntmps38
  go_wp2_with (fail)
  go_loopw [1, 5] (fun q i wr => i = .int .i64 0 ∧ q = .int .i64 1 ∧ Below w.heap.size w wr) (fun _ _ _ => 0)
  case atStart => exact ⟨rfl, rfl, Below.refl _ _⟩
  case round =>
    obtain ⟨rfl, rfl, hbel⟩ := hrel
    have HBEL := hid hbel
    clear hbel
    go_wp2_with (fail)
    go_ret
    exact ⟨rfl, HBEL.out⟩

/-- A row of texts, wherever it lies. -/
def RL (w : World) (u : Value) (xs : List ByteArray) : Prop := ∃ a c, u = .slice a xs.length c ∧ (xs = [] ∨ ∃ g, a = some ⟨g, 0, none⟩ ∧ ∀ (j : Nat) (x : ByteArray), xs[j]? = some x → w.cell? ⟨g, j, none⟩ = some (.string x))
theorem rl_below {w w' : World} {u : Value} {xs : List ByteArray} (h : RL w u xs) (hb : Below w.heap.size w w') : RL w' u xs := by
  obtain ⟨a, c, h1, h2⟩ := h
  refine ⟨a, c, h1, h2.imp id fun ⟨g, h3, h4⟩ => ⟨g, h3, fun j x hj => ?_⟩⟩
  exact (hb.cell (p := ⟨g, j, none⟩) (World.block_lt_of_cell? _ _ (h4 j x hj))).trans (h4 j x hj)
theorem rl_own {B : Nat} {w : World} {u : Value} {xs : List ByteArray} (h : w.ownsRow B 9 1 u xs.length (strCells xs)) : RL w u xs := by
  by_cases h0 : xs = []
  · obtain ⟨a, c, e⟩ := line_shape h
    exact ⟨a, c, e, .inl h0⟩
  · obtain ⟨g, c, e, hg, ho⟩ := rowOf_own h rfl rfl (List.length_pos_iff.2 h0)
    subst e
    exact ⟨_, c, rfl, .inr ⟨g, rfl, fun j x hj => row_cell ho j hj⟩⟩
/-- The marks stand in the row. -/
def Marked (v : Value) (n : Nat) (w : World) : Prop := (∃ a c, v = .slice a 0 c ∧ n = 0) ∨ ∃ ga ca, v = .slice (some ⟨ga, 0, none⟩) n ca ∧ ∀ j, j < n → w.cell? ⟨ga, j, none⟩ = some (.string (mkBQ j))
theorem marked_below {v : Value} {n : Nat} {w w' : World} (h : Marked v n w) (hb : Below w.heap.size w w') : Marked v n w' := by
  rcases h with h | ⟨ga, ca, hv, h⟩
  · exact .inl h
  · exact .inr ⟨ga, ca, hv, fun j hj => (hb.cell (p := ⟨ga, j, none⟩) (World.block_lt_of_cell? _ _ (h j hj))).trans (h j hj)⟩
theorem eqAny (v u : Value) (xs : List ByteArray) (w : World) (hx : xs.length ≤ 2000000) (ha : RL w v xs) (hb : RL w u xs) :
    Calls Tryd.prog 36 #[v, u] w fun e w' => e = .returned (.bool true) ∧ Below w.heap.size w w' := by
  obtain ⟨a, c, rfl, h1⟩ := ha
  obtain ⟨b, d, rfl, h2⟩ := hb
  by_cases h0 : xs = []
  · subst h0; exact eqZero a b c d w
  · obtain ⟨ga, rfl, k1⟩ := h1.resolve_left h0
    obtain ⟨gb, rfl, k2⟩ := h2.resolve_left h0
    exact eqRowsQ ga gb c d xs w hx k1 k2
theorem markAny (v : Value) (B : Nat) (xs : List ByteArray) (w : World) (hx : xs.length ≤ 2000000) (hB : B ≤ w.heap.size) (ha : w.ownsRow B 9 1 v xs.length (strCells xs)) :
    Calls Tryd.prog 37 #[v, .int .i64 1] w fun e w' => e = .returned (.int .i64 (1 + (xs.length : Int))) ∧ Marked v xs.length w' ∧ Below B w w' := by
  by_cases h0 : xs = []
  · subst h0
    obtain ⟨a, c, rfl⟩ := line_shape ha
    exact (markZero a c w).mono fun e w' ⟨he, hb⟩ => ⟨he, .inl ⟨a, c, rfl, rfl⟩, hb.mono hB⟩
  · obtain ⟨g, c, e, hg, ho⟩ := rowOf_own ha rfl rfl (List.length_pos_iff.2 h0)
    subst e
    exact (markRowQ g c B xs w hx hg ho).mono fun e w' ⟨he, hm, hb⟩ => ⟨he, .inr ⟨g, c, rfl, hm⟩, hb⟩
theorem heldAny (v : Value) (n : Nat) (w : World) (hx : n ≤ 2000000) (h : Marked v n w) :
    Calls Tryd.prog 38 #[v, .int .i64 1] w fun e w' => e = .returned (.int .i64 (1 + (n : Int))) ∧ Below w.heap.size w w' := by
  rcases h with ⟨a, c, rfl, rfl⟩ | ⟨ga, ca, rfl, h⟩
  · exact heldZero a c w
  · exact heldRowQ ga ca n w hx h

set_option maxHeartbeats 3200000 in
theorem walk (o : Int) (w : World) (hl : laidMet Tryd.prog Rows.fnExactFareyLinesRow.laid w) (_wn : (Lit.int .i64 o).wf = true) :
    Calls Tryd.prog 6 #[.int .i64 o] w fun e w' => e = .returned (.bool true) ∧ Below w.heap.size w w' := by
  have HP := hid (show PowL w from pow10_of hl (by simp [Rows.fnExactFareyLinesRow]))
  clear hl
  have HS := hid (specLines o w)
  have HI := hid (fun w' (h : Below w.heap.size w w') => implLines o w' (powl_below HP.out h))
  have hx : (linT o).1.length ≤ 2000000 := by
    unfold linT
    split
    · rename_i h; show (linesB o.toNat).length ≤ _; rw [linesB_len]; omega
    · simp
  generalize linT o = t at *
  obtain ⟨xs, cd⟩ := t
  dsimp only at hx
  have hcd : (cd != cd) = false := by simp
  go_enter Tryd.func6, Tryd.ntmps6
  go_wp2_with (fail)
  refine HS.out.mono ?_
  rintro e w1 ⟨⟨v0, rfl, r0⟩, b1⟩
  have E1 := hid b1
  have C1 := hid (rl_own r0)
  clear r0 b1 HS
  dsimp only
  go_wp2_with (fail)
  refine (HI.out _ E1.out).mono ?_
  rintro e w2 ⟨⟨v, rfl, own2⟩, b2⟩
  have C2 := hid (rl_below C1.out b2)
  have O2 := hid own2
  have B2 := hid b2
  have E2 := hid (E1.out.trans (b2.mono E1.out.size))
  clear own2 b2
  dsimp only at O2
  have HQ := hid (eqAny v v0 xs w2 hx (rl_own O2.out) C2.out)
  dsimp only
  go_wp2_with (fail)
  refine HQ.out.mono ?_
  rintro e w3 ⟨rfl, b3⟩
  have O3 := hid (O2.out.kept (row := none) (below_grows b3) (by cases v.ownBlock <;> simp))
  have B3 := hid (B2.out.trans (b3.mono B2.out.size))
  have E3 := hid (E2.out.trans (b3.mono E2.out.size))
  clear b3 HQ
  have HK := hid (markAny v w1.heap.size xs w3 hx B3.out.size O3.out)
  go_wp2_with (fail)
  refine HK.out.mono ?_
  rintro e w4 ⟨rfl, mk4, b4⟩
  have MK4 := hid mk4
  have B4 := hid (B3.out.trans b4)
  have E4 := hid (E3.out.trans (b4.mono E1.out.size))
  clear mk4 b4 HK
  have HH := hid (heldAny v xs.length w4 hx MK4.out)
  go_wp2_with (fail)
  refine HH.out.mono ?_
  rintro e w5 ⟨rfl, b5⟩
  have MK5 := hid (marked_below MK4.out b5)
  have B5 := hid (B4.out.trans (b5.mono B4.out.size))
  have E5 := hid (E4.out.trans (b5.mono E4.out.size))
  clear b5 HH
  have hq0 : ¬ (1 + (xs.length : Int)) < 0 := by omega
  have hqq : ((1 + (xs.length : Int)) != (1 + (xs.length : Int))) = false := by simp
  go_wp2_with (fail)
  refine (HI.out _ E5.out).mono ?_
  rintro e w6 ⟨⟨v6, rfl, own6⟩, b6⟩
  have MK6 := hid (marked_below MK5.out b6)
  have B6 := hid (B5.out.trans (b6.mono B5.out.size))
  have E6 := hid (E5.out.trans (b6.mono E5.out.size))
  have O6 := hid own6
  clear own6 b6
  dsimp only at O6
  have C6 := hid (rl_below C1.out B6.out)
  have HQ := hid (eqAny v6 v0 xs w6 hx (rl_own O6.out) C6.out)
  dsimp only
  go_wp2_with (fail)
  refine HQ.out.mono ?_
  rintro e w7 ⟨rfl, b7⟩
  have MK7 := hid (marked_below MK6.out b7)
  have E7 := hid (E6.out.trans (b7.mono E6.out.size))
  clear b7 HQ
  have HH := hid (heldAny v xs.length w7 hx MK7.out)
  go_wp2_with (fail)
  refine HH.out.mono ?_
  rintro e w8 ⟨rfl, b8⟩
  have E8 := hid (E7.out.trans (b8.mono E7.out.size))
  clear b8 HH
  go_wp2_with (fail)
  go_ret
  exact ⟨rfl, E8.out⟩

end Go.Proofs.YtjijabfamjhdjaaDoor.pExactFareyLines
