/- Contracts of the laws' own helpers for lists of fractions. -/
import Derived.Test.YthfogmaefhfkoaaCvt
import Derived.StillTailTactics
namespace Go.Proofs.Ythfogmaefhfkoaa
open Go.RowKit

theorem fr_cells {w : World} {g c B : Nat} {xs : List (Int × Int)} (h : FOwn B w g c xs) : ∀ (j : Nat) (x : Int × Int), xs[j]? = some x → w.cell? ⟨g, j * 2, none⟩ = some (.int .i64 x.1) ∧ w.cell? ⟨g, j * 2 + 1, none⟩ = some (.int .i64 x.2) := fun _ _ hj => fown_cells h hj

set_option maxRecDepth 100000 in
theorem eqFrRows (ga ca gb cb A B : Nat) (xs : List (Int × Int)) (w : World) (hn : xs.length ≤ 2000000) (ha : FOwn A w ga ca xs) (hb : FOwn B w gb cb xs) :
    Calls Try.prog 70 #[.slice (some ⟨ga, 0, none⟩) xs.length ca, .slice (some ⟨gb, 0, none⟩) xs.length cb] w fun e w' => e = .returned (.bool true) ∧ Below w.heap.size w w' := by
  have HA := hid (fr_cells ha)
  have HB := hid (fr_cells hb)
  clear ha hb
  have hne : ((xs.length : Int) != (xs.length : Int)) = false := by simp
  go_enter Try.func70, Try.ntmps70
  go_wp2_with (fail)
  go_loopw [5] (fun i wr => ∃ k : Nat, k ≤ xs.length ∧ i = .int .i64 k ∧ Below w.heap.size w wr) (fun i _ => xs.length - (RowKit.intOf i).toNat)
  case atStart => exact ⟨0, by omega, rfl, Below.refl _ _⟩
  case round =>
    obtain ⟨k, hk, rfl, hbel⟩ := hrel
    have HBEL := hid hbel
    have hk0 : (0 : Int) ≤ (k : Int) := by omega
    by_cases hlt : k < xs.length
    · have hlt' : (k : Int) < (xs.length : Int) := by omega
      obtain ⟨ca1, ca2⟩ := HA.out k _ (List.getElem?_eq_getElem hlt)
      obtain ⟨cb1, cb2⟩ := HB.out k _ (List.getElem?_eq_getElem hlt)
      have da1 := (hbel.cell (p := ⟨ga, k * 2, none⟩) (World.block_lt_of_cell? _ _ ca1)).trans ca1
      have da2 := (hbel.cell (p := ⟨ga, k * 2 + 1, none⟩) (World.block_lt_of_cell? _ _ ca2)).trans ca2
      have db1 := (hbel.cell (p := ⟨gb, k * 2, none⟩) (World.block_lt_of_cell? _ _ cb1)).trans cb1
      have db2 := (hbel.cell (p := ⟨gb, k * 2 + 1, none⟩) (World.block_lt_of_cell? _ _ cb2)).trans cb2
      clear ca1 cb1 ca2 cb2 hbel
      generalize xs[k]'hlt = x at da1 da2 db1 db2
      obtain ⟨p, q⟩ := x
      dsimp only at da1 da2 db1 db2
      have HQ := hid (eqFr p q)
      go_wp2_with (fail)
      go_still_tail 8, (by kernel_rfl)
      change wpList _ _ _ _ _ wr.drew
      have HB2 := hid (Below.drew HBEL.out)
      generalize wr.drew = w2 at *
      go_wp2_with (fail)
      refine (HQ.out _).mono ?_
      rintro e w3 ⟨rfl, b3⟩
      have HB3 := hid (HB2.out.trans (b3.mono HB2.out.size))
      clear b3
      go_wp2_with (fail)
      go_roundw
      case rel => exact ⟨k + 1, by omega, by go_num, HB3.out⟩
      case measure => simp [RowKit.intOf]; omega
    · have hlt' : ¬ (k : Int) < (xs.length : Int) := by omega
      clear hbel
      go_wp2_with (fail)
      go_ret
      exact ⟨rfl, HBEL.out⟩

theorem eqFrNil (a b : Option Addr) (ca cb : Nat) (w : World) :
    Calls Try.prog 70 #[.slice a 0 ca, .slice b 0 cb] w fun e w' => e = .returned (.bool true) ∧ Below w.heap.size w w' := by
  go_enter Try.func70, Try.ntmps70
  go_wp2_with (fail)
  go_loopw [5] (fun i wr => i = .int .i64 0 ∧ Below w.heap.size w wr) (fun _ _ => 0)
  case atStart => exact ⟨rfl, Below.refl _ _⟩
  case round =>
    obtain ⟨rfl, hbel⟩ := hrel
    have HBEL := hid hbel
    clear hbel
    go_wp2_with (fail)
    go_ret
    exact ⟨rfl, HBEL.out⟩
/-- Two lists of fractions, nil or not, that hold the same are alike. -/
theorem eqFrs {A B : Nat} (v u : Value) (xs : List (Int × Int)) (w : World) (hx : xs.length ≤ 2000000) (ha : FBack A w v xs) (hb : FBack B w u xs) :
    Calls Try.prog 70 #[v, u] w fun e w' => e = .returned (.bool true) ∧ Below w.heap.size w w' := by
  rcases ha with ⟨rfl, rfl⟩ | ⟨ga, ca, rfl, ha⟩
  · rcases hb with ⟨rfl, _⟩ | ⟨gb, cb, rfl, hb⟩
    · exact eqFrNil _ _ _ _ w
    · exact eqFrNil _ _ _ _ w
  · rcases hb with ⟨rfl, rfl⟩ | ⟨gb, cb, rfl, hb⟩
    · exact eqFrNil _ _ _ _ w
    · exact eqFrRows ga ca gb cb A B xs w hx ha hb

theorem heldFrRow (ga n ca : Nat) (w : World) (hn : n ≤ 2000000) (ha : ∀ j, j < n * 2 → w.cell? ⟨ga, j, none⟩ = some (.int .i64 (1 + (j : Int)))) :
    Calls Try.prog 72 #[.slice (some ⟨ga, 0, none⟩) n ca, .int .i64 1] w fun e w' => e = .returned (.int .i64 (1 + (n : Int) * 2)) ∧ Below w.heap.size w w' := by
  have HA := hid ha
  clear ha
  go_enter Try.func72, Try.ntmps72
  go_wp2_with (fail)
  go_loopw [1, 5] (fun q i wr => ∃ (k : Nat) (z : Int), k ≤ n ∧ i = .int .i64 k ∧ q = .int .i64 z ∧ z = 1 + (k : Int) * 2 ∧ Below w.heap.size w wr) (fun _ i _ => n - (RowKit.intOf i).toNat)
  case atStart => exact ⟨0, 1, by omega, rfl, rfl, by simp, Below.refl _ _⟩
  case round =>
    obtain ⟨k, z, hk, rfl, rfl, hz, hbel⟩ := hrel
    have HBEL := hid hbel
    have hk0 : (0 : Int) ≤ (k : Int) := by omega
    by_cases hlt : k < n
    · have hlt' : (k : Int) < (n : Int) := by omega
      have ca1 := HA.out (k * 2) (by omega)
      have cb1 := HA.out (k * 2 + 1) (by omega)
      have ca0 := (hbel.cell (p := ⟨ga, k * 2, none⟩) (World.block_lt_of_cell? _ _ ca1)).trans ca1
      have cb0 := (hbel.cell (p := ⟨ga, k * 2 + 1, none⟩) (World.block_lt_of_cell? _ _ cb1)).trans cb1
      rw [show (1 : Int) + ((k * 2 : Nat) : Int) = z by omega] at ca0
      rw [show (1 : Int) + ((k * 2 + 1 : Nat) : Int) = z + 1 by omega] at cb0
      have hxx : (z != z) = false := by simp
      have hyy : (z + 1 != z + 1) = false := by simp
      have hz1 : -1 < z := by omega
      have hz2 : z ≤ 4000001 := by omega
      have hzk := hid hz
      clear ca1 cb1 hbel hz
      go_wp2_with (fail)
      go_roundw
      case rel => exact ⟨k + 1, z + 1 + 1, by omega, by go_num, by go_num, by have := hzk.out; omega, HBEL.out⟩
      case measure => simp [RowKit.intOf]; omega
    · have hlt' : ¬ (k : Int) < (n : Int) := by omega
      have hkn : k = n := by omega
      subst hkn
      clear hbel
      go_wp2_with (fail)
      go_ret
      exact ⟨rfl, HBEL.out⟩
theorem heldFrNil (w : World) :
    Calls Try.prog 72 #[.slice none 0 0, .int .i64 1] w fun e w' => e = .returned (.int .i64 1) ∧ Below w.heap.size w w' := by
  go_enter Try.func72, Try.ntmps72
  go_wp2_with (fail)
  go_loopw [1, 5] (fun q i wr => i = .int .i64 0 ∧ q = .int .i64 1 ∧ Below w.heap.size w wr) (fun _ _ _ => 0)
  case atStart => exact ⟨rfl, rfl, Below.refl _ _⟩
  case round =>
    obtain ⟨rfl, rfl, hbel⟩ := hrel
    have HBEL := hid hbel
    clear hbel
    go_wp2_with (fail)
    go_ret
    exact ⟨rfl, HBEL.out⟩
theorem markFrNil (w : World) :
    Calls Try.prog 71 #[.slice none 0 0, .int .i64 1] w fun e w' => e = .returned (.int .i64 1) ∧ Below w.heap.size w w' := by
  go_enter Try.func71, Try.ntmps71
  go_wp2_with (fail)
  go_loopw [1, 5] (fun q i wr => i = .int .i64 0 ∧ q = .int .i64 1 ∧ Below w.heap.size w wr) (fun _ _ _ => 0)
  case atStart => exact ⟨rfl, rfl, Below.refl _ _⟩
  case round =>
    obtain ⟨rfl, rfl, hbel⟩ := hrel
    have HBEL := hid hbel
    clear hbel
    go_wp2_with (fail)
    go_ret
    exact ⟨rfl, HBEL.out⟩

theorem set_marks {cs : List Value} {n k : Nat} (h1 : cs.length = n) (h2 : ∀ j, j < k → cs[j]? = some (.int .i64 (1 + (j : Int)))) (hk : k < n) : (cs.set k (.int .i64 (1 + (k : Int)))).length = n ∧ ∀ j, j < k + 1 → (cs.set k (.int .i64 (1 + (k : Int))))[j]? = some (.int .i64 (1 + (j : Int))) := by
  refine ⟨by rw [List.length_set]; exact h1, fun j hj => ?_⟩
  by_cases hjk : j = k
  · subst hjk; rw [List.getElem?_set_self (by omega)]
  · rw [List.getElem?_set_ne (fun e => hjk e.symm)]; exact h2 j (by omega)

theorem markFrRow (ga ca B : Nat) (xs : List (Int × Int)) (w : World) (hn : xs.length ≤ 2000000) (hown : FOwn B w ga ca xs) :
    Calls Try.prog 71 #[.slice (some ⟨ga, 0, none⟩) xs.length ca, .int .i64 1] w fun e w' => e = .returned (.int .i64 (1 + (xs.length : Int) * 2)) ∧ (∀ j, j < xs.length * 2 → w'.cell? ⟨ga, j, none⟩ = some (.int .i64 (1 + (j : Int)))) ∧ w.grownBy w' (some ga) := by
  have HO := hid hown.2
  clear hown
  go_enter Try.func71, Try.ntmps71
  go_wp2_with (fail)
  go_loopw [1, 5] (fun q i wr => ∃ (k : Nat) (z : Int) (cs : List Value), k ≤ xs.length ∧ i = .int .i64 k ∧ q = .int .i64 z ∧ z = 1 + (k : Int) * 2 ∧ Hid (cs.length = xs.length * 2 ∧ ∀ j, j < k * 2 → cs[j]? = some (.int .i64 (1 + (j : Int)))) ∧ wr.ownsRow B 25 2 (.slice (some ⟨ga, 0, none⟩) xs.length ca) xs.length cs ∧ w.grownBy wr (some ga)) (fun _ i _ => xs.length - (RowKit.intOf i).toNat)
  case atStart => exact ⟨0, 1, frCells xs, by omega, rfl, rfl, by simp, hid ⟨frCells_length xs, fun j hj => by omega⟩, HO.out, World.grownBy.refl _ _⟩
  case round =>
    obtain ⟨k, z, cs, hk, rfl, rfl, hz, hys, hown, hbel⟩ := hrel
    have HOWN := hid hown
    have HBEL := hid hbel
    have hk0 : (0 : Int) ≤ (k : Int) := by omega
    clear hown hbel
    by_cases hlt : k < xs.length
    · have hlt' : (k : Int) < (xs.length : Int) := by omega
      have hl := hys.out.1
      have hf0 : wr.frozen? ⟨ga, k * 2, none⟩ = false := HOWN.out.frozenAt (k * 2)
      obtain ⟨y, hc0⟩ : ∃ y, wr.cell? ⟨ga, k * 2, none⟩ = some y := ⟨cs[k * 2]'(by omega), by rw [HOWN.out.cellAt (k * 2) (by omega)]; exact List.getElem?_eq_getElem (by omega)⟩
      obtain ⟨s1, s2⟩ := set_marks hys.out.1 hys.out.2 (show k * 2 < xs.length * 2 by omega)
      obtain ⟨o1, e1⟩ := HOWN.out.stored (k * 2) (.int .i64 (1 + ((k * 2 : Nat) : Int)))
      obtain ⟨t1, t2⟩ := set_marks s1 s2 (show k * 2 + 1 < xs.length * 2 by omega)
      obtain ⟨o2, e2⟩ := o1.stored (k * 2 + 1) (.int .i64 (1 + ((k * 2 + 1 : Nat) : Int)))
      have hf1 := o1.frozenAt (k * 2 + 1)
      obtain ⟨y1, hc1⟩ : ∃ y, (wr.setCell ⟨ga, k * 2, none⟩ (.int .i64 (1 + ((k * 2 : Nat) : Int)))).cell? ⟨ga, k * 2 + 1, none⟩ = some y := ⟨_, by rw [o1.cellAt (k * 2 + 1) (by omega)]; exact List.getElem?_eq_getElem (by omega)⟩
      have HE := hid (grown_trans (grown_trans HBEL.out e1) e2)
      have HO2 := hid o2
      have HT := hid (And.intro t1 t2)
      clear s1 s2 o1 e1 t1 t2 o2 e2 hl
      rw [show (1 : Int) + ((k * 2 : Nat) : Int) = z by omega] at HE HO2 HT hf1 hc1
      rw [show (1 : Int) + ((k * 2 + 1 : Nat) : Int) = z + 1 by omega] at HE HO2 HT
      have hz1 : -1 < z := by omega
      have hz2 : z ≤ 4000001 := by omega
      have hzk := hid hz
      clear hz
      go_wp2_with (fail)
      go_roundw
      case rel => exact ⟨k + 1, z + 1 + 1, _, by omega, by go_num, by go_num, by have := hzk.out; omega, hid ⟨HT.out.1, fun j hj => HT.out.2 j (by omega)⟩, HO2.out, HE.out⟩
      case measure => simp [RowKit.intOf]; omega
    · have hlt' : ¬ (k : Int) < (xs.length : Int) := by omega
      have hkn : k = xs.length := by omega
      have HC := hid (show ∀ j, j < xs.length * 2 → wr.cell? ⟨ga, j, none⟩ = some (.int .i64 (1 + (j : Int))) from fun j hj => by
        rw [HOWN.out.cellAt j (by omega)]
        exact hys.out.2 j (by omega))
      subst hkn
      go_wp2_with (fail)
      go_ret
      exact ⟨rfl, HC.out, HBEL.out⟩

theorem fback_grown {B g : Nat} {w w' : World} {v : Value} {xs : List (Int × Int)} (h : FBack B w v xs) (hb : w.grownBy w' (some g)) (hg : g < B) : FBack B w' v xs := by
  rcases h with h | ⟨g', c, rfl, h⟩
  · exact .inl h
  · exact .inr ⟨g', c, rfl, h.1, h.2.kept hb (.inr (by have := h.1; simp [Value.ownBlock]; omega))⟩
theorem fback_lt {B : Nat} {w : World} {v : Value} {xs : List (Int × Int)} (h : FBack B w v xs) : ∀ g c n, v = .slice (some ⟨g, 0, none⟩) n c → g < w.heap.size := by
  rcases h with ⟨rfl, _⟩ | ⟨g', c', rfl, h⟩
  · intro g c n e; simp at e
  · intro g c n e
    have := (h.2.lt g' rfl).2
    simp only [Value.slice.injEq, Option.some.injEq, Addr.mk.injEq] at e
    omega
/-- The marks stand in the row of fractions. -/
def MarkedF (v : Value) (n : Nat) (w : World) : Prop := (v = .slice none 0 0 ∧ n = 0) ∨ ∃ ga ca, v = .slice (some ⟨ga, 0, none⟩) n ca ∧ ∀ j, j < n * 2 → w.cell? ⟨ga, j, none⟩ = some (.int .i64 (1 + (j : Int)))
theorem markedF_below {v : Value} {n : Nat} {w w' : World} (h : MarkedF v n w) (hb : Below w.heap.size w w') : MarkedF v n w' := by
  rcases h with h | ⟨ga, ca, hv, h⟩
  · exact .inl h
  · exact .inr ⟨ga, ca, hv, fun j hj => (hb.cell (p := ⟨ga, j, none⟩) (World.block_lt_of_cell? _ _ (h j hj))).trans (h j hj)⟩
theorem markFrAny (v : Value) (B : Nat) (xs : List (Int × Int)) (w : World) (hx : xs.length ≤ 2000000) (hB : B ≤ w.heap.size) (ha : FBack B w v xs) :
    Calls Try.prog 71 #[v, .int .i64 1] w fun e w' => e = .returned (.int .i64 (1 + (xs.length : Int) * 2)) ∧ MarkedF v xs.length w' ∧ Below B w w' := by
  rcases ha with ⟨rfl, rfl⟩ | ⟨g, c, rfl, h⟩
  · exact (markFrNil w).mono fun e w' ⟨he, hb⟩ => ⟨he, .inl ⟨rfl, rfl⟩, hb.mono hB⟩
  · exact (markFrRow g c B xs w hx h).mono fun e w' ⟨he, hm, hb⟩ => ⟨he, .inr ⟨g, c, rfl, hm⟩, grown_below hb hB h.1⟩
theorem heldFrAny (v : Value) (n : Nat) (w : World) (hx : n ≤ 2000000) (h : MarkedF v n w) :
    Calls Try.prog 72 #[v, .int .i64 1] w fun e w' => e = .returned (.int .i64 (1 + (n : Int) * 2)) ∧ Below w.heap.size w w' := by
  rcases h with ⟨rfl, rfl⟩ | ⟨ga, ca, rfl, h⟩
  · exact heldFrNil w
  · exact heldFrRow ga n ca w hx h

end Go.Proofs.Ythfogmaefhfkoaa
