/- The law on SplitWords, walked. -/
import Derived.Test.YthdhkjfanhhamaaIsw
import Derived.Test.YthdhkjfanhhamaaMks
namespace Go.Proofs.Ythdhkjfanhhamaa.pExactSplitWords
open Go.RowKit Go.Lib

theorem eqNil (gb cb : Nat) (w : World) :
    Calls Try.prog 26 #[.slice none 0 0, .slice (some ⟨gb, 0, none⟩) 0 cb] w fun e w' => e = .returned (.bool true) ∧ Below w.heap.size w w' := by
  go_enter Try.func26, Try.ntmps26
  go_wp2_with (fail)
  go_loopw [5] (fun i wr => i = .int .i64 0 ∧ Below w.heap.size w wr) (fun _ _ => 0)
  case atStart => exact ⟨rfl, Below.refl _ _⟩
  case round =>
    obtain ⟨rfl, hbel⟩ := hrel
    have HBEL := hid hbel
    clear hbel
    go_wp2_with (fail)
    go_ret
    exact ⟨rfl, HBEL.out⟩
theorem markNil (w : World) :
    Calls Try.prog 27 #[.slice none 0 0, .int .i64 1] w fun e w' => e = .returned (.int .i64 1) ∧ Below w.heap.size w w' := by
  go_enter Try.func27, Try.ntmps27
  go_wp2_with (fail)
  go_loopw [1, 5] (fun q i wr => i = .int .i64 0 ∧ q = .int .i64 1 ∧ Below w.heap.size w wr) (fun _ _ _ => 0)
  case atStart => exact ⟨rfl, rfl, Below.refl _ _⟩
  case round =>
    obtain ⟨rfl, rfl, hbel⟩ := hrel
    have HBEL := hid hbel
    clear hbel
    go_wp2_with (fail)
    go_ret
    exact ⟨rfl, HBEL.out⟩
theorem heldNil (w : World) :
    Calls Try.prog 28 #[.slice none 0 0, .int .i64 1] w fun e w' => e = .returned (.int .i64 1) ∧ Below w.heap.size w w' := by
  go_enter Try.func28, Try.ntmps28
  go_wp2_with (fail)
  go_loopw [1, 5] (fun q i wr => i = .int .i64 0 ∧ q = .int .i64 1 ∧ Below w.heap.size w wr) (fun _ _ _ => 0)
  case atStart => exact ⟨rfl, rfl, Below.refl _ _⟩
  case round =>
    obtain ⟨rfl, rfl, hbel⟩ := hrel
    have HBEL := hid hbel
    clear hbel
    go_wp2_with (fail)
    go_ret
    exact ⟨rfl, HBEL.out⟩

/-- The marks stand in the row. -/
def Marked (v : Value) (n : Nat) (w : World) : Prop := (v = .slice none 0 0 ∧ n = 0) ∨ ∃ ga ca, v = .slice (some ⟨ga, 0, none⟩) n ca ∧ ∀ j, j < n → w.cell? ⟨ga, j, none⟩ = some (.string (mkB j))
theorem marked_below {v : Value} {n : Nat} {w w' : World} (h : Marked v n w) (hb : Below w.heap.size w w') : Marked v n w' := by
  rcases h with h | ⟨ga, ca, hv, h⟩
  · exact .inl h
  · exact .inr ⟨ga, ca, hv, fun j hj => (hb.cell (p := ⟨ga, j, none⟩) (World.block_lt_of_cell? _ _ (h j hj))).trans (h j hj)⟩

theorem eqAny (v : Value) (gb cb B : Nat) (xs : List ByteArray) (w : World) (hx : xs.length ≤ 2000000) (ha : w.ownsRow B 9 1 v xs.length (strCells xs)) (hb : ∀ j x, xs[j]? = some x → w.cell? ⟨gb, j, none⟩ = some (.string x)) :
    Calls Try.prog 26 #[v, .slice (some ⟨gb, 0, none⟩) xs.length cb] w fun e w' => e = .returned (.bool true) ∧ Below w.heap.size w w' := by
  rcases ha.2 with ⟨rfl, h0⟩ | ⟨g, cap, cur, rfl, _⟩
  · rw [h0]; exact eqNil gb cb w
  · exact eqRows g gb cap cb xs w hx (fun j x hj => row_cell ha j hj) hb
theorem markAny (v : Value) (B : Nat) (xs : List ByteArray) (w : World) (hx : xs.length ≤ 2000000) (hB : B ≤ w.heap.size) (ha : w.ownsRow B 9 1 v xs.length (strCells xs)) :
    Calls Try.prog 27 #[v, .int .i64 1] w fun e w' => e = .returned (.int .i64 (1 + (xs.length : Int))) ∧ Marked v xs.length w' ∧ Below B w w' := by
  rcases ha.2 with ⟨rfl, h0⟩ | ⟨g, cap, cur, rfl, hg, _⟩
  · rw [h0]; exact (markNil w).mono fun e w' ⟨he, hb⟩ => ⟨he, .inl ⟨rfl, rfl⟩, hb.mono hB⟩
  · exact (markRow g cap B xs w hx hg ha).mono fun e w' ⟨he, hm, hb⟩ => ⟨he, .inr ⟨g, cap, rfl, hm⟩, hb⟩
theorem heldAny (v : Value) (n : Nat) (w : World) (hx : n ≤ 2000000) (h : Marked v n w) :
    Calls Try.prog 28 #[v, .int .i64 1] w fun e w' => e = .returned (.int .i64 (1 + (n : Int))) ∧ Below w.heap.size w w' := by
  rcases h with ⟨rfl, rfl⟩ | ⟨ga, ca, rfl, h⟩
  · exact heldNil w
  · exact heldRow ga ca n w hx h

theorem texts_eq : ∀ {xs ys : List ByteArray}, xs.map (·.data.toList) = ys.map (·.data.toList) → xs = ys
  | [], [], _ => rfl
  | [], _ :: _, h => by simp at h
  | _ :: _, [], h => by simp at h
  | x :: xs, y :: ys, h => by
    obtain ⟨h1, h2⟩ := List.cons.inj h
    rw [texts_eq h2, ByteArray.ext (Array.toList_inj.1 h1)]

set_option maxHeartbeats 1600000 in
theorem walk (s : ByteArray) (w : World) (_ws : s.size ≤ maxLen) :
    Calls Try.prog 5 #[.string s] w fun e w' => e = .returned (.bool true) ∧ Below w.heap.size w w' := by
  by_cases hs : s.size ≤ 1048576
  · have hsz : ¬ (1048576 : Int) < (s.size : Int) := by omega
    have HS := hid (specWords s w hs)
    have HI := hid (fun w => implWords s w hs)
    clear _ws
    go_enter Try.func5, Try.ntmps5
    go_wp2_with (fail)
    refine HS.out.mono ?_
    rintro e w1 ⟨v0, xs, rfl, ⟨g0, c0, rfl, hg0, hown0⟩, hm0, hlen, e1⟩
    have hx : xs.length ≤ 2000000 := by omega
    have C1 := hid (show ∀ j x, xs[j]? = some x → w1.cell? ⟨g0, j, none⟩ = some (.string x) from fun j x hj => row_cell hown0 j hj)
    have M0 := hid hm0
    have E1 := hid e1
    clear hown0 hm0 e1 hlen hg0 HS hs
    go_wp2_with (fail)
    refine (HI.out _).mono ?_
    rintro e w2 ⟨v, ys, rfl, own2, hys, b2⟩
    obtain rfl : ys = xs := texts_eq (by rw [hys.out.1, M0.out])
    have C2 := hid (show ∀ j x, ys[j]? = some x → w2.cell? ⟨g0, j, none⟩ = some (.string x) from fun j x hj => (b2.cell (p := ⟨g0, j, none⟩) (World.block_lt_of_cell? _ _ (C1.out j x hj))).trans (C1.out j x hj))
    have O2 := hid own2
    have B2 := hid b2
    have E2 := hid (E1.out.trans (b2.mono E1.out.size))
    clear own2 hys b2
    have HQ := hid (eqAny v g0 c0 w1.heap.size ys w2 hx O2.out C2.out)
    go_wp2_with (fail)
    refine HQ.out.mono ?_
    rintro e w3 ⟨rfl, b3⟩
    have O3 := hid (O2.out.kept (row := none) (below_grows b3) (by cases v.ownBlock <;> simp))
    have B3 := hid (B2.out.trans (b3.mono B2.out.size))
    have E3 := hid (E2.out.trans (b3.mono E2.out.size))
    clear b3 HQ
    have HK := hid (markAny v w1.heap.size ys w3 hx B3.out.size O3.out)
    go_wp2_with (fail)
    refine HK.out.mono ?_
    rintro e w4 ⟨rfl, mk4, b4⟩
    have MK4 := hid mk4
    have B4 := hid (B3.out.trans b4)
    have E4 := hid (E3.out.trans (b4.mono E1.out.size))
    clear mk4 b4 HK
    have HH := hid (heldAny v ys.length w4 hx MK4.out)
    go_wp2_with (fail)
    refine HH.out.mono ?_
    rintro e w5 ⟨rfl, b5⟩
    have MK5 := hid (marked_below MK4.out b5)
    have B5 := hid (B4.out.trans (b5.mono B4.out.size))
    have E5 := hid (E4.out.trans (b5.mono E4.out.size))
    clear b5 HH
    have hq0 : ¬ (1 + (ys.length : Int)) < 0 := by omega
    have hqq : ((1 + (ys.length : Int)) != (1 + (ys.length : Int))) = false := by simp
    go_wp2_with (fail)
    refine (HI.out _).mono ?_
    rintro e w6 ⟨v6, zs, rfl, own6, hzs, b6⟩
    obtain rfl : zs = ys := texts_eq (by rw [hzs.out.1, M0.out])
    have O6 := hid own6
    have MK6 := hid (marked_below MK5.out b6)
    have B6 := hid (B5.out.trans (b6.mono B5.out.size))
    have E6 := hid (E5.out.trans (b6.mono E5.out.size))
    clear own6 hzs b6
    have C6 := hid (show ∀ j x, zs[j]? = some x → w6.cell? ⟨g0, j, none⟩ = some (.string x) from fun j x hj => (B6.out.cell (p := ⟨g0, j, none⟩) (World.block_lt_of_cell? _ _ (C1.out j x hj))).trans (C1.out j x hj))
    have HQ := hid (eqAny v6 g0 c0 w5.heap.size zs w6 hx O6.out C6.out)
    go_wp2_with (fail)
    refine HQ.out.mono ?_
    rintro e w7 ⟨rfl, b7⟩
    have MK7 := hid (marked_below MK6.out b7)
    have E7 := hid (E6.out.trans (b7.mono E6.out.size))
    clear b7 HQ
    have HH := hid (heldAny v zs.length w7 hx MK7.out)
    go_wp2_with (fail)
    refine HH.out.mono ?_
    rintro e w8 ⟨rfl, b8⟩
    have E8 := hid (E7.out.trans (b8.mono E7.out.size))
    clear b8 HH
    go_wp2_with (fail)
    go_ret
    exact ⟨rfl, E8.out⟩
  · have hsz : (1048576 : Int) < (s.size : Int) := by omega
    clear _ws hs
    go_enter Try.func5, Try.ntmps5
    go_wp2_with (fail)
    go_ret
    exact ⟨rfl, Below.refl _ _⟩

end Go.Proofs.Ythdhkjfanhhamaa.pExactSplitWords
