/- Lists of terms with signs: arguments, and copies of them. -/
import Derived.Test.YtipegemhcmfnmaaDoorSgl
import Derived.Deep.SlicePairs
namespace Go.Proofs.YtipegemhcmfnmaaDoor
open Go.RowKit

/-- The cells of a list of pairs. -/
def Sgs (w : World) (g o : Nat) (xs : List (Int × Int)) : Prop := ∀ j x, xs[j]? = some x → w.cell? ⟨g, o + j * 2, none⟩ = some (.int .i64 x.1) ∧ w.cell? ⟨g, o + j * 2 + 1, none⟩ = some (.int .i64 x.2)
theorem sgs_below {w w' : World} {g o : Nat} {xs : List (Int × Int)} (h : Sgs w g o xs) (hb : Below w.heap.size w w') : Sgs w' g o xs := fun j x hj => by
  obtain ⟨h1, h2⟩ := h j x hj
  exact ⟨(hb.cell (p := ⟨g, o + j * 2, none⟩) (World.block_lt_of_cell? _ _ h1)).trans h1, (hb.cell (p := ⟨g, o + j * 2 + 1, none⟩) (World.block_lt_of_cell? _ _ h2)).trans h2⟩
theorem sgs_kept {B : Nat} {w w' : World} {g o : Nat} {xs : List (Int × Int)} (h : Sgs w g o xs) (hg : g < B) (hb : Below B w w') : Sgs w' g o xs := fun j x hj => by
  obtain ⟨h1, h2⟩ := h j x hj
  exact ⟨(hb.cell (p := ⟨g, o + j * 2, none⟩) hg).trans h1, (hb.cell (p := ⟨g, o + j * 2 + 1, none⟩) hg).trans h2⟩
theorem sgs_at {w : World} {g : Nat} {xs : List (Int × Int)} (h : Sgs w g 0 xs) {j : Nat} {x : Int × Int} (hj : xs[j]? = some x) : w.cell? ⟨g, j * 2, none⟩ = some (.int .i64 x.1) ∧ w.cell? ⟨g, j * 2 + 1, none⟩ = some (.int .i64 x.2) := by
  have := h j x hj
  rwa [Nat.zero_add] at this
theorem sgs_drop {w : World} {g o : Nat} {xs : List (Int × Int)} (h : Sgs w g o xs) (k : Nat) : Sgs w g (o + k * 2) (xs.drop k) := fun j x hj => by
  rw [List.getElem?_drop] at hj
  have := h (k + j) x hj
  rwa [show o + (k + j) * 2 = o + k * 2 + j * 2 by omega] at this
theorem sown_sgs {B : Nat} {w : World} {g c : Nat} {xs : List (Int × Int)} (h : SOwn B w g c xs) : Sgs w g 0 xs := fun j x hj => by
  rw [Nat.zero_add]
  exact sown_cells h hj
theorem sown_cap {B : Nat} {w : World} {g c : Nat} {xs : List (Int × Int)} (h : SOwn B w g c xs) : xs.length ≤ c := by
  rcases h.2.2 with ⟨h', _⟩ | ⟨g', cap', cur, h', hb, hg, hnc, _⟩
  · simp at h'
  · simp only [Value.slice.injEq] at h'
    omega
theorem sown_lt {B : Nat} {w : World} {g c : Nat} {xs : List (Int × Int)} (h : SOwn B w g c xs) : g < w.heap.size := (h.2.lt _ rfl).2

/-- A list that comes in: empty, or the cells of a block. -/
def ArgS (w : World) (v : Value) (xs : List (Int × Int)) : Prop := (∃ a c, v = .slice a 0 c ∧ xs = []) ∨ ∃ g o c, v = .slice (some ⟨g, o, none⟩) xs.length c ∧ Sgs w g o xs
theorem args_below {w w' : World} {v : Value} {xs : List (Int × Int)} (h : ArgS w v xs) (hb : Below w.heap.size w w') : ArgS w' v xs := by
  rcases h with h | ⟨g, o, c, hv, h⟩
  · exact .inl h
  · exact .inr ⟨g, o, c, hv, sgs_below h hb⟩
theorem args_row {w : World} {x : Addr} {len cap : Nat} (h : ∀ i, i < len → ∃ q : Int × Int, w.cell? (x.add (i * 2)) = some (.int .i64 q.1) ∧ w.cell? (x.add (i * 2 + 1)) = some (.int .i64 q.2)) :
    ∃ xs : List (Int × Int), len = xs.length ∧ ArgS w (.slice (some x) len cap) xs := by
  by_cases h0 : len = 0
  · subst h0
    exact ⟨[], rfl, .inl ⟨_, _, rfl, rfl⟩⟩
  · obtain ⟨q, hq⟩ := Go.Deep.choose_lt h
    obtain ⟨b, off, spot⟩ := x
    have h1 := (hq 0 (by omega)).1
    have hspot : spot = none := by simpa [Addr.add] using World.cell?_spot h1
    subst hspot
    refine ⟨(List.range len).map q, by simp, .inr ⟨b, off, cap, by simp, fun j y hj => ?_⟩⟩
    rw [List.getElem?_map] at hj
    obtain ⟨k, hk, rfl⟩ := Option.map_eq_some_iff.1 hj
    have hlt := (List.getElem?_eq_some_iff.1 hk).1
    have hjk : k = j := by
      have := (List.getElem?_eq_some_iff.1 hk).2
      simpa using this.symm
    subst hjk
    have h2 := hq k (by simpa using hlt)
    rw [add_off, add_off, ← Nat.add_assoc] at h2
    exact h2

theorem toList_made2 (z : Value) (n : Nat) : (madeCells #[z, z] n).toList = List.replicate n z := by
  unfold madeCells
  rw [Array.toList_map, List.eq_replicate_iff]
  refine ⟨by simp, fun b hb => ?_⟩
  obtain ⟨i, _, rfl⟩ := List.mem_map.1 hb
  have : i % 2 = 0 ∨ i % 2 = 1 := by omega
  rcases this with h | h <;> simp [h]
theorem sgCells_zero (n : Nat) : sgCells (List.replicate n (0, 0)) = List.replicate (n * 2) (Value.int .i64 0) := by
  induction n with
  | zero => rfl
  | succ n ih =>
    rw [List.replicate_succ]
    show Value.int .i64 0 :: Value.int .i64 0 :: sgCells (List.replicate n (0, 0)) = _
    rw [ih, show (n + 1) * 2 = n * 2 + 1 + 1 by omega]
    rfl
theorem sgCells_set : ∀ (ys : List (Int × Int)) (k : Nat) (x : Int × Int), sgCells (ys.set k x) = ((sgCells ys).set (k * 2) (.int .i64 x.1)).set (k * 2 + 1) (.int .i64 x.2)
  | [], k, x => by simp [sgCells]
  | y :: ys, 0, x => rfl
  | y :: ys, k + 1, x => by
    have e : ∀ z zs, sgCells (z :: zs) = .int .i64 z.1 :: .int .i64 z.2 :: sgCells zs := fun _ _ => rfl
    rw [List.set_cons_succ, e, e, sgCells_set ys k x, show (k + 1) * 2 = k * 2 + 1 + 1 by omega]
    rfl
/-- 'make([]T, n)', T of two numbers. -/
theorem run_make_pairs (n : Nat) (hn : n ≤ 1048576) (w : World) :
    (Instr.makeSlice 24 (.int .i64 (n : Int)) (.int .i64 (n : Int))).run Tryd.prog w = .ok (.slice (some ⟨w.heap.size, 0, none⟩) n n) (w.alloc (.cells (madeCells #[.int .i64 0, .int .i64 0] (n * 2)) 94)) := by
  obtain ⟨i, hi, hzz⟩ := Option.map_eq_some_iff.1 infoG
  simp only [Prod.mk.injEq] at hzz
  obtain ⟨hz, hs, hb⟩ := hzz
  have hr := run_make (P := Tryd.prog) w 24 94 i _ Tryd.underlying24 hi hz .i64 .i64 n n (by omega) (Int.le_refl _) (by rw [hb]; omega) (by omega)
  simp only [Int.toNat_natCast, hs] at hr
  exact hr
theorem made_own (n : Nat) (hn : n ≤ 1048576) (w : World) : SOwn w.heap.size (w.alloc (.cells (madeCells #[.int .i64 0, .int .i64 0] (n * 2)) 94)) w.heap.size n (List.replicate n (0, 0)) := by
  have h1 := World.ownsRow_lit (base := w.heap.size) (e := 94) (size := 2) w (madeCells #[.int .i64 0, .int .i64 0] (n * 2)) n (Nat.le_refl _) (by unfold maxLen; omega) (by simp [madeCells])
  rw [toList_made2] at h1
  refine ⟨Nat.le_refl _, ?_⟩
  rw [List.length_replicate, sgCells_zero]
  exact h1

theorem copySgNil (a : Option Addr) (ca : Nat) (w : World) :
    Calls Tryd.prog 41 #[.slice a 0 ca] w fun e w' => ∃ g c, e = .returned (.slice (some ⟨g, 0, none⟩) 0 c) ∧ SOwn w.heap.size w' g c [] ∧ Below w.heap.size w w' := by
  have e0 : madeCells #[.int .i64 0, .int .i64 0] (0 * 2) = #[] := by simp [madeCells]
  have hmk : ∀ w : World, (Instr.makeSlice 24 (.int .i64 0) (.int .i64 0)).run Tryd.prog w = .ok (.slice (some ⟨w.heap.size, 0, none⟩) 0 0) (w.alloc (.cells #[] 94)) := fun w => by rw [← e0]; exact run_make_pairs 0 (by omega) w
  have HM := hid (made_own 0 (by omega) w)
  rw [e0] at HM
  clear e0
  go_enter Tryd.func41, Tryd.ntmps41
  go_wp2_with (fail)
  go_loopw [4] (fun i wr => i = .int .i64 0 ∧ SOwn w.heap.size wr w.heap.size 0 [] ∧ Below w.heap.size w wr) (fun _ _ => 0)
  case atStart => exact ⟨rfl, HM.out, (Below.refl _ _).alloc (Nat.le_refl _) _⟩
  case round =>
    obtain ⟨rfl, hown, hbel⟩ := hrel
    have HBEL := hid hbel
    have HOWN := hid hown
    clear hbel hown
    go_wp2_with (fail)
    go_ret
    exact ⟨_, _, rfl, HOWN.out, HBEL.out⟩

/-- The list lies in a block. -/
theorem copySgRow (ga oa ca : Nat) (xs : List (Int × Int)) (w : World) (hx : xs.length ≤ 1048576) (ha : Sgs w ga oa xs) :
    Calls Tryd.prog 41 #[.slice (some ⟨ga, oa, none⟩) xs.length ca] w fun e w' => ∃ g c, e = .returned (.slice (some ⟨g, 0, none⟩) xs.length c) ∧ SOwn w.heap.size w' g c xs ∧ Below w.heap.size w w' := by
  have hmk := run_make_pairs xs.length hx
  have HM := hid (made_own xs.length hx w)
  have HA := hid ha
  clear ha
  go_enter Tryd.func41, Tryd.ntmps41
  go_wp2_with (fail)
  go_loopw [4] (fun i wr => ∃ (k : Nat) (ys : List (Int × Int)), k ≤ xs.length ∧ i = .int .i64 k ∧ Hid (ys.length = xs.length ∧ ∀ j, j < k → ys[j]? = xs[j]?) ∧ wr.ownsRow w.heap.size 94 2 (.slice (some ⟨w.heap.size, 0, none⟩) xs.length xs.length) xs.length (sgCells ys) ∧ Below w.heap.size w wr) (fun i _ => xs.length - (RowKit.intOf i).toNat)
  case atStart => exact ⟨0, List.replicate xs.length (0, 0), by omega, rfl, hid ⟨by simp, fun j hj => by omega⟩, (by have := HM.out.2; rwa [List.length_replicate] at this), (Below.refl _ _).alloc (Nat.le_refl _) _⟩
  case round =>
    obtain ⟨k, ys, hk, rfl, hys, hown, hbel⟩ := hrel
    have HBEL := hid hbel
    have HOWN := hid hown
    have hk0 : (0 : Int) ≤ (k : Int) := by omega
    have hbs : w.heap.size ≤ wr.heap.size := hbel.size
    by_cases hlt : k < xs.length
    · have hlt' : (k : Int) < (xs.length : Int) := by omega
      obtain ⟨x, hxk⟩ : ∃ x, xs[k]? = some x := ⟨_, List.getElem?_eq_getElem hlt⟩
      obtain ⟨ca1, ca2⟩ := HA.out k x hxk
      have da1 := (hbel.cell (p := ⟨ga, oa + k * 2, none⟩) (World.block_lt_of_cell? _ _ ca1)).trans ca1
      have da2 := (hbel.cell (p := ⟨ga, oa + k * 2 + 1, none⟩) (World.block_lt_of_cell? _ _ ca2)).trans ca2
      have HYS2 := hid (show (ys.set k x).length = xs.length ∧ ∀ j, j < k + 1 → (ys.set k x)[j]? = xs[j]? by
        refine ⟨by rw [List.length_set]; exact hys.out.1, fun j hj => ?_⟩
        by_cases hjk : j = k
        · subst hjk; rw [List.getElem?_set_self (by rw [hys.out.1]; exact hlt), hxk]
        · rw [List.getElem?_set_ne (fun e => hjk e.symm)]; exact hys.out.2 j (by omega))
      have HYL := hid hys.out.1
      obtain ⟨p, q⟩ := x
      have HT := hid (toSg p q)
      clear ca1 ca2 hxk hbel hown hys
      go_wp2_with (fail)
      refine (HT.out _).mono ?_
      rintro e w2 ⟨rfl, b2⟩
      have O2 := hid (HOWN.out.kept (below_grows b2) (Classical.em _))
      have E2 := hid (HBEL.out.trans (b2.mono hbs))
      have hf0 : w2.frozen? ⟨w.heap.size, k * 2, none⟩ = false := O2.out.frozenAt (k * 2)
      have hf1 : w2.frozen? ⟨w.heap.size, k * 2 + 1, none⟩ = false := O2.out.frozenAt (k * 2 + 1)
      have hcl : (sgCells ys).length = xs.length * 2 := by rw [sgCells_length, HYL.out]
      obtain ⟨y0, hc0⟩ : ∃ y, w2.cell? ⟨w.heap.size, k * 2, none⟩ = some y := ⟨_, by rw [O2.out.cellAt (k * 2) (by omega)]; exact List.getElem?_eq_getElem (by omega)⟩
      obtain ⟨y1, hc1⟩ : ∃ y, w2.cell? ⟨w.heap.size, k * 2 + 1, none⟩ = some y := ⟨_, by rw [O2.out.cellAt (k * 2 + 1) (by omega)]; exact List.getElem?_eq_getElem (by omega)⟩
      have O3 := hid (show ((w2.setCell ⟨w.heap.size, k * 2, none⟩ (.int .i64 p)).setCell ⟨w.heap.size, k * 2 + 1, none⟩ (.int .i64 q)).ownsRow w.heap.size 94 2 (.slice (some ⟨w.heap.size, 0, none⟩) xs.length xs.length) xs.length (sgCells (ys.set k (p, q))) by
        rw [sgCells_set]
        exact ((O2.out.stored (k * 2) _).1.stored (k * 2 + 1) _).1)
      have E3 := hid ((E2.out.setCell (p := ⟨w.heap.size, k * 2, none⟩) (Nat.le_refl _) (.int .i64 p)).setCell (p := ⟨w.heap.size, k * 2 + 1, none⟩) (Nat.le_refl _) (.int .i64 q))
      clear b2 hcl da1 da2
      go_wp2_with (fail)
      go_roundw
      case rel => exact ⟨k + 1, ys.set k (p, q), by omega, by go_num, HYS2, O3.out, E3.out⟩
      case measure => simp [RowKit.intOf]; omega
    · have hlt' : ¬ (k : Int) < (xs.length : Int) := by omega
      have hkn : k = xs.length := by omega
      have HE := hid (show ys = xs from List.ext_getElem? fun j => by
        by_cases hj : j < k
        · exact hys.out.2 j hj
        · rw [List.getElem?_eq_none (by rw [hys.out.1]; omega), List.getElem?_eq_none (by omega)])
      clear hbel hown hys hkn
      go_wp2_with (fail)
      go_ret
      exact ⟨_, _, rfl, ⟨Nat.le_refl _, by have h := HOWN.out; rw [HE.out] at h; exact h⟩, HBEL.out⟩

theorem copySg (v : Value) (xs : List (Int × Int)) (w : World) (hx : xs.length ≤ 1048576) (ha : ArgS w v xs) :
    Calls Tryd.prog 41 #[v] w fun e w' => ∃ g c, e = .returned (.slice (some ⟨g, 0, none⟩) xs.length c) ∧ SOwn w.heap.size w' g c xs ∧ Below w.heap.size w w' := by
  rcases ha with ⟨a, c, rfl, rfl⟩ | ⟨g, o, c, rfl, ha⟩
  · exact copySgNil a c w
  · exact copySgRow g o c xs w hx ha
/-- How much is left behind a list. -/
theorem szSg (a : Option Addr) (n c : Nat) (l : Int) (w : World) (hn : (n : Int) ≤ l) (hl : l ≤ 1048576) :
    Calls Tryd.prog 39 #[.slice a n c, .int .i64 l] w fun e w' => e = .returned (.int .i64 (l - (n : Int))) ∧ w' = w := by
  have h0 : ¬ l - (n : Int) < 0 := by omega
  go_enter Tryd.func39, Tryd.ntmps39
  go_wp2_with (fail)
  go_ret
  exact ⟨rfl, rfl⟩
theorem szSgNo (a : Option Addr) (n c : Nat) (l : Int) (w : World) (hn : ¬ (n : Int) ≤ l) (hl0 : 0 ≤ l) (hl : l ≤ 1048576) (hb : n ≤ 9223372036854775807) :
    Calls Tryd.prog 39 #[.slice a n c, .int .i64 l] w fun e w' => e = .returned (.int .i64 (-1)) ∧ w' = w := by
  have h0 : l - (n : Int) < 0 := by omega
  go_enter Tryd.func39, Tryd.ntmps39
  go_wp2_with (fail)
  go_ret
  exact ⟨rfl, rfl⟩
theorem sown_args {B : Nat} {w : World} {g c : Nat} {xs : List (Int × Int)} (h : SOwn B w g c xs) : ArgS w (.slice (some ⟨g, 0, none⟩) xs.length c) xs := .inr ⟨g, 0, c, rfl, sown_sgs h⟩

end Go.Proofs.YtipegemhcmfnmaaDoor
