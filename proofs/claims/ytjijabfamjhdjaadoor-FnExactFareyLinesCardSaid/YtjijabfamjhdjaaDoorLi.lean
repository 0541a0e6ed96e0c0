/- Contracts: rows of numbers: copied, compared, marked, and the marks looked for. -/
import Derived.Test.YtjijabfamjhdjaaDoorFull
import Derived.Laws.AppendOwn
import Derived.Laws.OwnMore
import Derived.OwnWalk
import Derived.Deep.AppendLies
import Derived.Deep.OwnRows
import Derived.Deep.RegionHeld3
namespace Go.Proofs.YtjijabfamjhdjaaDoor
open Go.RowKit

theorem infoI : (Tryd.prog.info? 2).map (fun i => (i.zero, i.size, i.bytes)) = some (some (.int .i64 0), 1, 8) := by kernel_rfl

def intCells (xs : List Int) : List Value := xs.map (Value.int .i64)
theorem intCells_length (xs : List Int) : (intCells xs).length = xs.length := List.length_map ..
theorem intCells_more (xs : List Int) (x : Int) : intCells xs ++ [Value.int .i64 x] = intCells (xs ++ [x]) := by unfold intCells; rw [List.map_append]; rfl
theorem intCells_set (ys : List Int) (k : Nat) (x : Int) : intCells (ys.set k x) = (intCells ys).set k (.int .i64 x) := by unfold intCells; rw [List.map_set]
theorem intCells_append (xs ys : List Int) : intCells xs ++ intCells ys = intCells (xs ++ ys) := by unfold intCells; rw [List.map_append]
theorem intCells_take (n : Nat) (xs : List Int) : intCells (xs.take n) = (intCells xs).take n := by unfold intCells; rw [List.map_take]
theorem intCells_get {xs : List Int} {j : Nat} {x : Int} (h : xs[j]? = some x) : (intCells xs)[j]? = some (.int .i64 x) := by unfold intCells; rw [List.getElem?_map, h]; rfl

/-- The cells of a list of numbers. -/
def Ints (w : World) (g o : Nat) (xs : List Int) : Prop := ∀ j x, xs[j]? = some x → w.cell? ⟨g, o + j, none⟩ = some (.int .i64 x)
/-- A row of numbers that the call itself made. -/
def Own (B : Nat) (w : World) (g c : Nat) (xs : List Int) : Prop := B ≤ g ∧ w.ownsRow B 2 1 (.slice (some ⟨g, 0, none⟩) xs.length c) xs.length (intCells xs)

theorem below_grows {w w' : World} (h : Below w.heap.size w w') : w.grownBy w' none := ⟨h.os, h.tape, h.output, h.size, fun i hi _ => h.block i hi⟩
theorem ints_below {w w' : World} {g o : Nat} {xs : List Int} (h : Ints w g o xs) (hb : Below w.heap.size w w') : Ints w' g o xs :=
  fun j x hj => (hb.cell (p := ⟨g, o + j, none⟩) (World.block_lt_of_cell? _ _ (h j x hj))).trans (h j x hj)
theorem ints_kept {B : Nat} {w w' : World} {g o : Nat} {xs : List Int} (h : Ints w g o xs) (hg : g < B) (hb : Below B w w') : Ints w' g o xs :=
  fun j x hj => (hb.cell (p := ⟨g, o + j, none⟩) hg).trans (h j x hj)
theorem ints_at {w : World} {g : Nat} {xs : List Int} (h : Ints w g 0 xs) {j : Nat} {x : Int} (hj : xs[j]? = some x) : w.cell? ⟨g, j, none⟩ = some (.int .i64 x) := by
  have := h j x hj
  rwa [Nat.zero_add] at this
theorem ints_drop {w : World} {g o : Nat} {xs : List Int} (h : Ints w g o xs) (k : Nat) : Ints w g (o + k) (xs.drop k) := fun j x hj => by
  rw [List.getElem?_drop] at hj
  have := h (k + j) x hj
  rwa [← Nat.add_assoc] at this
theorem own_ints {B : Nat} {w : World} {g c : Nat} {xs : List Int} (h : Own B w g c xs) : Ints w g 0 xs := fun j x hj => by
  have h1 := h.2.cells (g := g) rfl j _ (intCells_get hj)
  have e : Addr.add ⟨g, 0, none⟩ j = ⟨g, 0 + j, none⟩ := by unfold Addr.add; split <;> simp_all
  rwa [e] at h1
theorem own_lt {B : Nat} {w : World} {g c : Nat} {xs : List Int} (h : Own B w g c xs) : g < w.heap.size := (h.2.lt _ rfl).2
theorem own_cap {B : Nat} {w : World} {g c : Nat} {xs : List Int} (h : Own B w g c xs) : xs.length ≤ c := by
  rcases h.2.2 with ⟨h', _⟩ | ⟨g', cap', cur, h', hb, hg, hnc, _⟩
  · simp at h'
  · simp only [Value.slice.injEq] at h'
    omega
theorem own_take {B : Nat} {w : World} {g c : Nat} {xs : List Int} (h : Own B w g c xs) (m : Nat) (hm : m ≤ xs.length) : B ≤ g ∧ w.ownsRow B 2 1 (.slice (some ⟨g, 0, none⟩) m c) m (intCells (xs.take m)) := by
  obtain ⟨hB, h1, h2⟩ := h
  refine ⟨hB, by rw [intCells_length, List.length_take]; omega, ?_⟩
  rcases h2 with ⟨h', _⟩ | ⟨g', cap', cur, h', hb, hg, hnc, hcm, hcs, htake⟩
  · simp at h'
  · simp only [Value.slice.injEq, Option.some.injEq, Addr.mk.injEq, and_true, true_and] at h'
    obtain ⟨rfl, rfl⟩ := h'
    refine .inr ⟨g, c, cur, rfl, hb, hg, by omega, hcm, hcs, ?_⟩
    rw [intCells_take, ← htake, List.take_take]
    congr 1
    omega
theorem own_below {B : Nat} {w w' : World} {g c : Nat} {xs : List Int} (h : Own B w g c xs) (hb : Below w.heap.size w w') : Own B w' g c xs := ⟨h.1, h.2.kept (below_grows hb) (.inr (by simp [Value.ownBlock]))⟩
theorem own_frozen {B : Nat} {w : World} {g c : Nat} {xs : List Int} (h : Own B w g c xs) (j : Nat) : w.frozen? ⟨g, j, none⟩ = false := h.2.frozenAt j

/-- A list that comes in: empty, or the cells of a block. -/
def Arg (w : World) (v : Value) (xs : List Int) : Prop := (∃ a c, v = .slice a 0 c ∧ xs = []) ∨ ∃ g o c, v = .slice (some ⟨g, o, none⟩) xs.length c ∧ Ints w g o xs
theorem arg_below {w w' : World} {v : Value} {xs : List Int} (h : Arg w v xs) (hb : Below w.heap.size w w') : Arg w' v xs := by
  rcases h with h | ⟨g, o, c, hv, h⟩
  · exact .inl h
  · exact .inr ⟨g, o, c, hv, ints_below h hb⟩
theorem arg_kept {w w' : World} {v : Value} {xs : List Int} (h : Arg w v xs) (hb : Below w.heap.size w w') : Arg w' v xs := arg_below h hb
theorem add_off (b off i : Nat) : Addr.add ⟨b, off, none⟩ i = ⟨b, off + i, none⟩ := by
  unfold Addr.add; split <;> simp_all
/-- The numbers of an argument that was opened. -/
theorem arg_row {w : World} {x : Addr} {len cap : Nat} {zs : List Int} (hl : len ≤ zs.length) (hc : ∀ i, i < zs.length → w.cell? (x.add i) = some (.int .i64 (zs.getD i 0))) : ∃ xs : List Int, len = xs.length ∧ Arg w (.slice (some x) len cap) xs := by
  by_cases h0 : len = 0
  · subst h0
    exact ⟨[], rfl, .inl ⟨_, _, rfl, rfl⟩⟩
  · obtain ⟨b, off, spot⟩ := x
    have h1 := hc 0 (by omega)
    have hspot : spot = none := by simpa [Addr.add] using World.cell?_spot h1
    subst hspot
    have hlt : (zs.take len).length = len := by rw [List.length_take]; omega
    refine ⟨zs.take len, hlt.symm, .inr ⟨b, off, cap, by rw [hlt], fun j y hj => ?_⟩⟩
    have h2 : j < len := by have := (List.getElem?_eq_some_iff.1 hj).1; omega
    have h3 := hc j (by omega)
    rw [add_off] at h3
    rw [List.getElem?_take_of_lt h2] at hj
    rw [h3, List.getD_eq_getElem?_getD, hj]; rfl
theorem own_arg {B : Nat} {w : World} {g c : Nat} {xs : List Int} (h : Own B w g c xs) : Arg w (.slice (some ⟨g, 0, none⟩) xs.length c) xs := .inr ⟨g, 0, c, rfl, own_ints h⟩

/-- The list is nil. -/
theorem copyNil (a : Option Addr) (ca : Nat) (w : World) :
    Calls Tryd.prog 29 #[.slice a 0 ca] w fun e w' => ∃ g c, e = .returned (.slice (some ⟨g, 0, none⟩) 0 c) ∧ Own w.heap.size w' g c [] ∧ Below w.heap.size w w' := by
  have hmk : ∀ w : World, (Instr.makeSlice 44 (.int .i64 0) (.int .i64 0)).run Tryd.prog w = .ok (.slice (some ⟨w.heap.size, 0, none⟩) 0 0) (w.alloc (.cells (madeCells #[.int .i64 0] 0) 2)) := run_make_row' (P := Tryd.prog) 44 2 (.int .i64 0) 8 Tryd.underlying44 infoI rfl .i64 .i64 0 (by omega) (by omega)
  have hm : (w.alloc (.cells (madeCells #[.int .i64 0] 0) 2)).ownsRow w.heap.size 2 1 (.slice (some ⟨w.heap.size, 0, none⟩) 0 0) 0 (intCells []) := by
    have h1 := World.ownsRow_lit (base := w.heap.size) (e := 2) (size := 1) w (madeCells #[.int .i64 0] 0) 0 (Nat.le_refl _) (by decide) (by simp [madeCells])
    rw [toList_madeCells_one] at h1
    exact h1
  have HM := hid hm
  clear hm
  go_enter Tryd.func29, Tryd.ntmps29
  go_wp2_with (fail)
  go_loopw [4] (fun i wr => i = .int .i64 0 ∧ wr.ownsRow w.heap.size 2 1 (.slice (some ⟨w.heap.size, 0, none⟩) 0 0) 0 (intCells []) ∧ Below w.heap.size w wr) (fun _ _ => 0)
  case atStart => exact ⟨rfl, HM.out, (Below.refl _ _).alloc (Nat.le_refl _) _⟩
  case round =>
    obtain ⟨rfl, hown, hbel⟩ := hrel
    have HBEL := hid hbel
    have HOWN := hid hown
    clear hbel hown
    go_wp2_with (fail)
    go_ret
    exact ⟨_, _, rfl, ⟨Nat.le_refl _, HOWN.out⟩, HBEL.out⟩

/-- The list lies in a block. -/
theorem copyRow (ga oa ca : Nat) (xs : List Int) (w : World) (hx : xs.length ≤ 1048576) (ha : Ints w ga oa xs) :
    Calls Tryd.prog 29 #[.slice (some ⟨ga, oa, none⟩) xs.length ca] w fun e w' => ∃ g c, e = .returned (.slice (some ⟨g, 0, none⟩) xs.length c) ∧ Own w.heap.size w' g c xs ∧ Below w.heap.size w w' := by
  have hmk := run_make_row' (P := Tryd.prog) 44 2 (.int .i64 0) 8 Tryd.underlying44 infoI rfl .i64 .i64 xs.length (by omega) (by omega)
  have hm : (w.alloc (.cells (madeCells #[.int .i64 0] xs.length) 2)).ownsRow w.heap.size 2 1 (.slice (some ⟨w.heap.size, 0, none⟩) xs.length xs.length) xs.length (intCells (List.replicate xs.length 0)) := by
    have h1 := World.ownsRow_lit (base := w.heap.size) (e := 2) (size := 1) w (madeCells #[.int .i64 0] xs.length) xs.length (Nat.le_refl _) (by unfold maxLen; omega) (by simp [madeCells])
    rw [toList_madeCells_one] at h1
    unfold intCells
    rw [List.map_replicate]
    exact h1
  have HM := hid hm
  have HA := hid ha
  clear hm ha
  go_enter Tryd.func29, Tryd.ntmps29
  go_wp2_with (fail)
  go_loopw [4] (fun i wr => ∃ (k : Nat) (ys : List Int), k ≤ xs.length ∧ i = .int .i64 k ∧ Hid (ys.length = xs.length ∧ ∀ j, j < k → ys[j]? = xs[j]?) ∧ wr.ownsRow w.heap.size 2 1 (.slice (some ⟨w.heap.size, 0, none⟩) xs.length xs.length) xs.length (intCells ys) ∧ Below w.heap.size w wr) (fun i _ => xs.length - (RowKit.intOf i).toNat)
  case atStart => exact ⟨0, _, by omega, rfl, hid ⟨by simp, fun j hj => by omega⟩, HM.out, (Below.refl _ _).alloc (Nat.le_refl _) _⟩
  case round =>
    obtain ⟨k, ys, hk, rfl, hys, hown, hbel⟩ := hrel
    have HBEL := hid hbel
    have HOWN := hid hown
    have hk0 : (0 : Int) ≤ (k : Int) := by omega
    by_cases hlt : k < xs.length
    · have hlt' : (k : Int) < (xs.length : Int) := by omega
      obtain ⟨x, hxk⟩ : ∃ x, xs[k]? = some x := ⟨_, List.getElem?_eq_getElem hlt⟩
      have ca1 := HA.out k x hxk
      have ca0 := (hbel.cell (p := ⟨ga, oa + k, none⟩) (World.block_lt_of_cell? _ _ ca1)).trans ca1
      have hf0 : wr.frozen? ⟨w.heap.size, k, none⟩ = false := HOWN.out.frozenAt k
      obtain ⟨y, hc0⟩ : ∃ y, wr.cell? ⟨w.heap.size, k, none⟩ = some (.int .i64 y) := by
        have hk2 : k < ys.length := by rw [hys.out.1]; exact hlt
        exact ⟨ys[k]'hk2, by rw [HOWN.out.cellAt k (by omega)]; exact intCells_get (List.getElem?_eq_getElem hk2)⟩
      have HYS2 := hid (show (ys.set k x).length = xs.length ∧ ∀ j, j < k + 1 → (ys.set k x)[j]? = xs[j]? by
        refine ⟨by rw [List.length_set]; exact hys.out.1, fun j hj => ?_⟩
        by_cases hjk : j = k
        · subst hjk; rw [List.getElem?_set_self (by rw [hys.out.1]; exact hlt), hxk]
        · rw [List.getElem?_set_ne (fun e => hjk e.symm)]; exact hys.out.2 j (by omega))
      have O2 := hid (HOWN.out.stored k (.int .i64 x)).1
      have E2 := hid (HBEL.out.setCell (p := ⟨w.heap.size, k, none⟩) (Nat.le_refl _) (.int .i64 x))
      clear hbel hown ca1 hxk
      go_wp2_with (fail)
      go_roundw
      case rel => exact ⟨k + 1, ys.set k x, by omega, by go_num, HYS2, by rw [intCells_set]; exact O2.out, E2.out⟩
      case measure => simp [RowKit.intOf]; omega
    · have hlt' : ¬ (k : Int) < (xs.length : Int) := by omega
      have e : ys = xs := List.ext_getElem? fun j => by
        by_cases hj : j < k
        · exact hys.out.2 j hj
        · rw [List.getElem?_eq_none (by rw [hys.out.1]; omega), List.getElem?_eq_none (by omega)]
      subst e
      clear hbel hown
      go_wp2_with (fail)
      go_ret
      exact ⟨_, _, rfl, ⟨Nat.le_refl _, HOWN.out⟩, HBEL.out⟩

theorem copyAny (v : Value) (xs : List Int) (w : World) (hx : xs.length ≤ 1048576) (ha : Arg w v xs) :
    Calls Tryd.prog 29 #[v] w fun e w' => ∃ g c, e = .returned (.slice (some ⟨g, 0, none⟩) xs.length c) ∧ Own w.heap.size w' g c xs ∧ Below w.heap.size w w' := by
  rcases ha with ⟨a, c, rfl, rfl⟩ | ⟨g, o, c, rfl, h⟩
  · exact copyNil a c w
  · exact copyRow g o c xs w hx h

/-- Two rows that hold the same numbers are alike. -/
theorem eqIntRows (ga oa ca gb ob cb : Nat) (xs : List Int) (w : World) (hx : xs.length ≤ 2000000000) (ha : Ints w ga oa xs) (hb : Ints w gb ob xs) :
    Calls Tryd.prog 31 #[.slice (some ⟨ga, oa, none⟩) xs.length ca, .slice (some ⟨gb, ob, none⟩) xs.length cb] w fun e w' => e = .returned (.bool true) ∧ Below w.heap.size w w' := by
  have HA := hid ha
  have HB := hid hb
  clear ha hb
  go_enter Tryd.func31, Tryd.ntmps31
  go_wp2_with (fail)
  go_loopw [5] (fun i wr => ∃ k : Nat, k ≤ xs.length ∧ i = .int .i64 k ∧ Below w.heap.size w wr) (fun i _ => xs.length - (RowKit.intOf i).toNat)
  case atStart => exact ⟨0, by omega, rfl, Below.refl _ _⟩
  case round =>
    obtain ⟨k, hk, rfl, hbel⟩ := hrel
    have HBEL := hid hbel
    have hk0 : (0 : Int) ≤ (k : Int) := by omega
    by_cases hlt : k < xs.length
    · have hlt' : (k : Int) < (xs.length : Int) := by omega
      have ca1 := HA.out k _ (List.getElem?_eq_getElem hlt)
      have cb1 := HB.out k _ (List.getElem?_eq_getElem hlt)
      have ca0 := (hbel.cell (p := ⟨ga, oa + k, none⟩) (World.block_lt_of_cell? _ _ ca1)).trans ca1
      have cb0 := (hbel.cell (p := ⟨gb, ob + k, none⟩) (World.block_lt_of_cell? _ _ cb1)).trans cb1
      clear ca1 cb1 hbel
      generalize xs[k]'hlt = x at ca0 cb0
      have hxx : (x != x) = false := by simp
      go_wp2_with (fail)
      go_quiet (fail)
      go_wp2_with (fail)
      go_roundw
      case rel => exact ⟨k + 1, by omega, by go_num, below_drewN HBEL.out _⟩
      case measure => simp [RowKit.intOf]; omega
    · have hlt' : ¬ (k : Int) < (xs.length : Int) := by omega
      clear hbel
      go_wp2_with (fail)
      go_ret
      exact ⟨rfl, HBEL.out⟩

theorem eqIntNil (a b : Option Addr) (ca cb : Nat) (w : World) :
    Calls Tryd.prog 31 #[.slice a 0 ca, .slice b 0 cb] w fun e w' => e = .returned (.bool true) ∧ Below w.heap.size w w' := by
  go_enter Tryd.func31, Tryd.ntmps31
  go_wp2_with (fail)
  go_loopw [5] (fun i wr => i = .int .i64 0 ∧ Below w.heap.size w wr) (fun _ _ => 0)
  case atStart => exact ⟨rfl, Below.refl _ _⟩
  case round =>
    obtain ⟨rfl, hbel⟩ := hrel
    have HBEL := hid hbel
    clear hbel
    go_wp2_with (fail)
    go_ret
    exact ⟨rfl, HBEL.out⟩
theorem arg_nil {w : World} {v : Value} (h : Arg w v []) : ∃ a c, v = .slice a 0 c := by
  rcases h with ⟨a, c, h, _⟩ | ⟨g, o, c, h, _⟩
  · exact ⟨a, c, h⟩
  · exact ⟨_, c, h⟩
/-- Two lists, nil or not, that hold the same numbers are alike. -/
theorem eqInts (v u : Value) (xs : List Int) (w : World) (hx : xs.length ≤ 2000000000) (ha : Arg w v xs) (hb : Arg w u xs) :
    Calls Tryd.prog 31 #[v, u] w fun e w' => e = .returned (.bool true) ∧ Below w.heap.size w w' := by
  rcases ha with ⟨a, c, rfl, rfl⟩ | ⟨ga, oa, ca, rfl, ha⟩
  · obtain ⟨b, d, rfl⟩ := arg_nil hb
    exact eqIntNil a b c d w
  · rcases hb with ⟨b, d, rfl, rfl⟩ | ⟨gb, ob, cb, rfl, hb⟩
    · exact eqIntNil _ b ca d w
    · exact eqIntRows ga oa ca gb ob cb xs w hx ha hb

theorem heldRow (ga n ca : Nat) (w : World) (hn : n ≤ 2000000000) (ha : ∀ j, j < n → w.cell? ⟨ga, j, none⟩ = some (.int .i64 (1 + (j : Int)))) :
    Calls Tryd.prog 35 #[.slice (some ⟨ga, 0, none⟩) n ca, .int .i64 1] w fun e w' => e = .returned (.int .i64 (1 + (n : Int))) ∧ Below w.heap.size w w' := by
  have HA := hid ha
  clear ha
  go_enter Tryd.func35, Tryd.ntmps35
  go_wp2_with (fail)
  go_loopw [1, 5] (fun q i wr => ∃ k : Nat, k ≤ n ∧ i = .int .i64 k ∧ q = .int .i64 (1 + (k : Int)) ∧ Below w.heap.size w wr) (fun _ i _ => n - (RowKit.intOf i).toNat)
  case atStart => exact ⟨0, by omega, rfl, rfl, Below.refl _ _⟩
  case round =>
    obtain ⟨k, hk, rfl, rfl, hbel⟩ := hrel
    have HBEL := hid hbel
    have hk0 : (0 : Int) ≤ (k : Int) := by omega
    by_cases hlt : k < n
    · have hlt' : (k : Int) < (n : Int) := by omega
      have ca1 := HA.out k hlt
      have ca0 := (hbel.cell (p := ⟨ga, k, none⟩) (World.block_lt_of_cell? _ _ ca1)).trans ca1
      have hxx : (1 + (k : Int) != 1 + (k : Int)) = false := by simp
      clear ca1 hbel
      go_wp2_with (fail)
      go_roundw
      case rel => exact ⟨k + 1, by omega, by go_num, by go_num, HBEL.out⟩
      case measure => simp [RowKit.intOf]; omega
    · have hlt' : ¬ (k : Int) < (n : Int) := by omega
      have hkn : k = n := by omega
      subst hkn
      clear hbel
      go_wp2_with (fail)
      go_ret
      exact ⟨rfl, HBEL.out⟩
theorem heldNil (w : World) :
    Calls Tryd.prog 35 #[.slice none 0 0, .int .i64 1] w fun e w' => e = .returned (.int .i64 1) ∧ Below w.heap.size w w' := by
  go_enter Tryd.func35, Tryd.ntmps35
  go_wp2_with (fail)
  go_loopw [1, 5] (fun q i wr => i = .int .i64 0 ∧ q = .int .i64 1 ∧ Below w.heap.size w wr) (fun _ _ _ => 0)
  case atStart => exact ⟨rfl, rfl, Below.refl _ _⟩
  case round =>
    obtain ⟨rfl, rfl, hbel⟩ := hrel
    have HBEL := hid hbel
    clear hbel
    go_wp2_with (fail)
    go_ret
    exact ⟨rfl, HBEL.out⟩
theorem markNil (w : World) :
    Calls Tryd.prog 34 #[.slice none 0 0, .int .i64 1] w fun e w' => e = .returned (.int .i64 1) ∧ Below w.heap.size w w' := by
  go_enter Tryd.func34, Tryd.ntmps34
  go_wp2_with (fail)
  go_loopw [1, 5] (fun q i wr => i = .int .i64 0 ∧ q = .int .i64 1 ∧ Below w.heap.size w wr) (fun _ _ _ => 0)
  case atStart => exact ⟨rfl, rfl, Below.refl _ _⟩
  case round =>
    obtain ⟨rfl, rfl, hbel⟩ := hrel
    have HBEL := hid hbel
    clear hbel
    go_wp2_with (fail)
    go_ret
    exact ⟨rfl, HBEL.out⟩

theorem grown_trans {a b c : World} {g : Nat} (h : a.grownBy b (some g)) (k : b.grownBy c (some g)) : a.grownBy c (some g) :=
  ⟨k.os.trans h.os, k.tape.trans h.tape, k.output.trans h.output, Nat.le_trans h.size k.size, fun i hi hn => (k.block i (Nat.lt_of_lt_of_le hi h.size) hn).trans (h.block i hi hn)⟩
theorem grown_below {B : Nat} {a b : World} {g : Nat} (h : a.grownBy b (some g)) (hB : B ≤ a.heap.size) (hg : B ≤ g) : Below B a b := (Below.refl B a).grown h hB (fun k hk => by have e : g = k := Option.some.inj hk; omega)
/-- Every place of a row of its own is marked. -/
theorem markRow (ga ca B : Nat) (xs : List Int) (w : World) (hn : xs.length ≤ 2000000000) (hown : Own B w ga ca xs) :
    Calls Tryd.prog 34 #[.slice (some ⟨ga, 0, none⟩) xs.length ca, .int .i64 1] w fun e w' => e = .returned (.int .i64 (1 + (xs.length : Int))) ∧ (∀ j, j < xs.length → w'.cell? ⟨ga, j, none⟩ = some (.int .i64 (1 + (j : Int)))) ∧ w.grownBy w' (some ga) := by
  have HO := hid hown.2
  clear hown
  go_enter Tryd.func34, Tryd.ntmps34
  go_wp2_with (fail)
  go_loopw [1, 5] (fun q i wr => ∃ (k : Nat) (ys : List Int), k ≤ xs.length ∧ i = .int .i64 k ∧ q = .int .i64 (1 + (k : Int)) ∧ Hid (ys.length = xs.length ∧ ∀ j, j < k → ys[j]? = some (1 + (j : Int))) ∧ wr.ownsRow B 2 1 (.slice (some ⟨ga, 0, none⟩) xs.length ca) xs.length (intCells ys) ∧ w.grownBy wr (some ga)) (fun _ i _ => xs.length - (RowKit.intOf i).toNat)
  case atStart => exact ⟨0, xs, by omega, rfl, rfl, hid ⟨rfl, fun j hj => by omega⟩, HO.out, World.grownBy.refl _ _⟩
  case round =>
    obtain ⟨k, ys, hk, rfl, rfl, hys, hown, hbel⟩ := hrel
    have HOWN := hid hown
    have HBEL := hid hbel
    have hk0 : (0 : Int) ≤ (k : Int) := by omega
    clear hown hbel
    by_cases hlt : k < xs.length
    · have hlt' : (k : Int) < (xs.length : Int) := by omega
      have hf0 : wr.frozen? ⟨ga, k, none⟩ = false := HOWN.out.frozenAt k
      obtain ⟨y, hc0⟩ : ∃ y, wr.cell? ⟨ga, k, none⟩ = some (.int .i64 y) := by
        have hk2 : k < ys.length := by rw [hys.out.1]; exact hlt
        exact ⟨ys[k]'hk2, by rw [HOWN.out.cellAt k (by omega)]; exact intCells_get (List.getElem?_eq_getElem hk2)⟩
      have HYS2 := hid (show (ys.set k (1 + (k : Int))).length = xs.length ∧ ∀ j, j < k + 1 → (ys.set k (1 + (k : Int)))[j]? = some (1 + (j : Int)) by
        refine ⟨by rw [List.length_set]; exact hys.out.1, fun j hj => ?_⟩
        by_cases hjk : j = k
        · subst hjk; rw [List.getElem?_set_self (by rw [hys.out.1]; exact hlt)]
        · rw [List.getElem?_set_ne (fun e => hjk e.symm)]; exact hys.out.2 j (by omega))
      have O2 := hid (HOWN.out.stored k (.int .i64 (1 + (k : Int)))).1
      have E2 := hid (grown_trans HBEL.out (HOWN.out.stored k (.int .i64 (1 + (k : Int)))).2)
      go_wp2_with (fail)
      go_roundw
      case rel => exact ⟨k + 1, ys.set k (1 + (k : Int)), by omega, by go_num, by go_num, HYS2, by rw [intCells_set]; exact O2.out, E2.out⟩
      case measure => simp [RowKit.intOf]; omega
    · have hlt' : ¬ (k : Int) < (xs.length : Int) := by omega
      have hkn : k = xs.length := by omega
      have HC := hid (show ∀ j, j < xs.length → wr.cell? ⟨ga, j, none⟩ = some (.int .i64 (1 + (j : Int))) from fun j hj => by
        have h1 := hys.out.2 j (by omega)
        rw [HOWN.out.cellAt j (by omega)]
        exact intCells_get h1)
      subst hkn
      go_wp2_with (fail)
      go_ret
      exact ⟨rfl, HC.out, HBEL.out⟩

/-- A row that is handed back: nil, or memory of its own. -/
def Back (B : Nat) (w : World) (v : Value) (xs : List Int) : Prop := (v = .slice none 0 0 ∧ xs = []) ∨ ∃ g c, v = .slice (some ⟨g, 0, none⟩) xs.length c ∧ Own B w g c xs
theorem back_arg {B : Nat} {w : World} {v : Value} {xs : List Int} (h : Back B w v xs) : Arg w v xs := by
  rcases h with ⟨h1, h2⟩ | ⟨g, c, rfl, h⟩
  · exact .inl ⟨none, 0, h1, h2⟩
  · exact own_arg h
theorem back_below {B : Nat} {w w' : World} {v : Value} {xs : List Int} (h : Back B w v xs) (hb : Below w.heap.size w w') : Back B w' v xs := by
  rcases h with h | ⟨g, c, rfl, h⟩
  · exact .inl h
  · exact .inr ⟨g, c, rfl, own_below h hb⟩
/-- A row lies on while another block is written. -/
theorem back_grown {B g : Nat} {w w' : World} {v : Value} {xs : List Int} (h : Back B w v xs) (hb : w.grownBy w' (some g)) (hg : g < B) : Back B w' v xs := by
  rcases h with h | ⟨g', c, rfl, h⟩
  · exact .inl h
  · exact .inr ⟨g', c, rfl, h.1, h.2.kept hb (.inr (by have := h.1; simp [Value.ownBlock]; omega))⟩
theorem back_lt {B : Nat} {w : World} {v : Value} {xs : List Int} (h : Back B w v xs) : ∀ g c n, v = .slice (some ⟨g, 0, none⟩) n c → g < w.heap.size := by
  rcases h with ⟨rfl, _⟩ | ⟨g', c', rfl, h⟩
  · intro g c n e; simp at e
  · intro g c n e
    have := own_lt h
    simp only [Value.slice.injEq, Option.some.injEq, Addr.mk.injEq] at e
    omega
theorem back_mono {A B : Nat} {w : World} {v : Value} {xs : List Int} (h : Back B w v xs) (hA : A ≤ B) : Back A w v xs := by
  rcases h with h | ⟨g', c, rfl, h⟩
  · exact .inl h
  · refine .inr ⟨g', c, rfl, Nat.le_trans hA h.1, h.2.1, ?_⟩
    rcases h.2.2 with h3 | ⟨a, b, d, h3, h4, h5⟩
    · exact .inl h3
    · exact .inr ⟨a, b, d, h3, Nat.le_trans hA h4, h5⟩
/-- The marks stand in the row. -/
def Marked (v : Value) (n : Nat) (w : World) : Prop := (v = .slice none 0 0 ∧ n = 0) ∨ ∃ ga ca, v = .slice (some ⟨ga, 0, none⟩) n ca ∧ ∀ j, j < n → w.cell? ⟨ga, j, none⟩ = some (.int .i64 (1 + (j : Int)))
theorem marked_below {v : Value} {n : Nat} {w w' : World} (h : Marked v n w) (hb : Below w.heap.size w w') : Marked v n w' := by
  rcases h with h | ⟨ga, ca, hv, h⟩
  · exact .inl h
  · exact .inr ⟨ga, ca, hv, fun j hj => (hb.cell (p := ⟨ga, j, none⟩) (World.block_lt_of_cell? _ _ (h j hj))).trans (h j hj)⟩
theorem markAny (v : Value) (B : Nat) (xs : List Int) (w : World) (hx : xs.length ≤ 2000000000) (hB : B ≤ w.heap.size) (ha : Back B w v xs) :
    Calls Tryd.prog 34 #[v, .int .i64 1] w fun e w' => e = .returned (.int .i64 (1 + (xs.length : Int))) ∧ Marked v xs.length w' ∧ Below B w w' := by
  rcases ha with ⟨rfl, rfl⟩ | ⟨g, c, rfl, h⟩
  · exact (markNil w).mono fun e w' ⟨he, hb⟩ => ⟨he, .inl ⟨rfl, rfl⟩, hb.mono hB⟩
  · exact (markRow g c B xs w hx h).mono fun e w' ⟨he, hm, hb⟩ => ⟨he, .inr ⟨g, c, rfl, hm⟩, grown_below hb hB h.1⟩
theorem heldAny (v : Value) (n : Nat) (w : World) (hx : n ≤ 2000000000) (h : Marked v n w) :
    Calls Tryd.prog 35 #[v, .int .i64 1] w fun e w' => e = .returned (.int .i64 (1 + (n : Int))) ∧ Below w.heap.size w w' := by
  rcases h with ⟨rfl, rfl⟩ | ⟨ga, ca, rfl, h⟩
  · exact heldNil w
  · exact heldRow ga n ca w hx h

end Go.Proofs.YtjijabfamjhdjaaDoor
