/- Merged: Mt, Mtx, Mks. -/
import Derived.Test.YtjijabfamjhdjaaDoorSw
import Derived.Deep.RegionHeld3
import Derived.Test.YtjijabfamjhdjaaDoorDec
/-! Contracts: the law's own mark of a place, and two rows of texts that are alike. -/
namespace Go.Proofs.YtjijabfamjhdjaaDoor
open Go.RowKit Go.Lib

/-- Two rows that hold the same texts are alike. -/
theorem eqRowsQ (ga gb ca cb : Nat) (xs : List ByteArray) (w : World) (hx : xs.length ≤ 2000000) (ha : ∀ j x, xs[j]? = some x → w.cell? ⟨ga, j, none⟩ = some (.string x)) (hb : ∀ j x, xs[j]? = some x → w.cell? ⟨gb, j, none⟩ = some (.string x)) :
    Calls Tryd.prog 36 #[.slice (some ⟨ga, 0, none⟩) xs.length ca, .slice (some ⟨gb, 0, none⟩) xs.length cb] w fun e w' => e = .returned (.bool true) ∧ Below w.heap.size w w' := by
  have HA := hid ha
  have HB := hid hb
  clear ha hb
  go_enter Tryd.func36, Tryd.ntmps36
  go_wp2_with (fail)
  go_loopw [5] (fun i wr => ∃ k : Nat, k ≤ xs.length ∧ i = .int .i64 k ∧ Below w.heap.size w wr) (fun i _ => xs.length - (RowKit.intOf i).toNat)
  case atStart => exact ⟨0, by omega, rfl, Below.refl _ _⟩
  case round =>
    obtain ⟨k, hk, rfl, hbel⟩ := hrel
    have HBEL := hid hbel
    have hk0 : (0 : Int) ≤ (k : Int) := by omega
    by_cases hlt : k < xs.length
    · have hlt' : (k : Int) < (xs.length : Int) := by omega
      have ca1 := HA.out k _ (List.getElem?_eq_getElem hlt)
      have cb1 := HB.out k _ (List.getElem?_eq_getElem hlt)
      have ca0 := (hbel.cell (p := ⟨ga, k, none⟩) (World.block_lt_of_cell? _ _ ca1)).trans ca1
      have cb0 := (hbel.cell (p := ⟨gb, k, none⟩) (World.block_lt_of_cell? _ _ cb1)).trans cb1
      clear ca1 cb1 hbel
      generalize xs[k]'hlt = x at ca0 cb0
      go_wp2_with (fail)
      go_region_held3 (fun w' => w'.cell? ⟨ga, k, none⟩ = some (.string x) ∧ w'.cell? ⟨gb, k, none⟩ = some (.string x)) (first | (exact ⟨ca0, cb0⟩) | go_keep) (fail)
      go_wp2_with (fail)
      go_roundw
      case rel => exact ⟨k + 1, by omega, by go_num, HBEL.out.trans (Below.drew (Below.refl _ _))⟩
      case measure => simp [RowKit.intOf]; omega
    · have hlt' : ¬ (k : Int) < (xs.length : Int) := by omega
      clear hbel
      go_wp2_with (fail)
      go_ret
      exact ⟨rfl, HBEL.out⟩

end Go.Proofs.YtjijabfamjhdjaaDoor

/-! Contract: the law's own mark of a place. -/
namespace Go.Proofs.YtjijabfamjhdjaaDoor
open Go.RowKit Go.Lib

def mkTextQ (k : Int) : List UInt8 := 109 :: digs k.natAbs

theorem two_joinQ (a : UInt8) (l : List UInt8) : (⟨#[a]⟩ ++ ⟨l.toArray⟩ : ByteArray) = ⟨(a :: l).toArray⟩ := by
  apply ByteArray.ext
  simp [ByteArray.data_append]
theorem one_joinQ (x : Nat) (l : List UInt8) : Value.string (⟨#[48 + UInt8.ofNat x]⟩ ++ ⟨l.toArray⟩) = .string ⟨(UInt8.ofNat (48 + x) :: l).toArray⟩ := by
  rw [two_joinQ, UInt8.ofNat_add]; rfl
theorem two_oneQ (w : World) (x : Value) (t : TypeId) : (w.alloc (.cells #[x] t)).cell? ((⟨w.heap.size, 0, none⟩ : Addr).add 0) = some x := by
  rw [add_zero_off]
  go_simp

set_option maxRecDepth 100000 in
set_option maxHeartbeats 1600000 in
theorem markTextQ (n : Int) (w : World) (h1 : 1 ≤ n) (h2 : n ≤ 1000000000) :
    Calls Tryd.prog 68 #[.int .i64 n] w fun e w' => e = .returned (.string ⟨(mkTextQ n).toArray⟩) ∧ Below w.heap.size w w' := by
  have hn : ¬ n ≤ 0 := by omega
  go_enter Tryd.func68, Tryd.ntmps68
  go_wp2_with (fail)
  go_loopw [0, 3] (fun k out wr => ∃ (m : Int) (l : List UInt8), k = .int .i64 m ∧ out = .string ⟨l.toArray⟩ ∧ 0 ≤ m ∧ m ≤ 1000000000 ∧ Hid (digs n.natAbs = digs m.natAbs ++ l) ∧ Below w.heap.size w wr) (fun k _ _ => (RowKit.intOf k).natAbs)
  case atStart => exact ⟨n, [], rfl, rfl, by omega, h2, hid (by simp), Below.refl _ _⟩
  case round =>
    obtain ⟨m, l, rfl, rfl, hm0, hm1, hd, hbel⟩ := hrel
    have HBEL := hid hbel
    have hb : w.heap.size ≤ wr.heap.size := hbel.size
    have hlen : l.length ≤ 20 := by
      have := digs_length 20 n.natAbs (by omega)
      rw [hd.out, List.length_append] at this
      omega
    clear hbel
    by_cases h0 : 0 < m
    · have hq1 : 0 ≤ m % 10 := by omega
      have hq2 : m % 10 ≤ 9 := by omega
      have hst := step_pos h0
      have HD2 := hid (show digs n.natAbs = digs (m / 10).natAbs ++ (UInt8.ofNat (48 + (m % 10).toNat) :: l) by rw [hd.out, hst, List.append_assoc]; rfl)
      have hw8 : 48 + m % 10 < 256 := by omega
      have hq3 : ¬ 9223372036854775807 < 1 + l.length := by omega
      have hdig := ofNat_digit (d := (m % 10).toNat) (by omega)
      have hval : Value.int .u8 (48 + m % 10) = .int .u8 ((UInt8.ofNat (48 + (m % 10).toNat)).toNat : Int) := by rw [hdig]; congr 1; omega
      have hconv : (convert 22 9 (.slice (some ⟨wr.heap.size, 0, none⟩) 1 1)).run Tryd.prog (wr.alloc (.cells #[.int .u8 (48 + m % 10)] 5)) = .ok (.string ⟨[UInt8.ofNat (48 + (m % 10).toNat)].toArray⟩) (wr.alloc (.cells #[.int .u8 (48 + m % 10)] 5)) := by
        refine run_convert_bytes_back _ 22 9 5 ⟨wr.heap.size, 0, none⟩ 1 [UInt8.ofNat (48 + (m % 10).toNat)] Tryd.underlying22 Tryd.underlying5 Tryd.underlying9 (fun j hj => ?_)
        have hj0 : j = 0 := by simp at hj; omega
        subst hj0
        rw [hval]
        exact (two_oneQ wr _ _)
      clear hst hdig hval
      go_wp2_with (fail)
      go_roundw
      case rel => exact ⟨m / 10, UInt8.ofNat (48 + (m % 10).toNat) :: l, rfl, one_joinQ _ l, by omega, by omega, HD2, HBEL.out.alloc hb _⟩
      case measure => simp only [RowKit.intOf]; omega
    · have hm : m = 0 := by omega
      subst hm
      have hl : digs n.natAbs = l := by rw [hd.out]; rfl
      have E := hid (show mkTextQ n = 109 :: l by unfold mkTextQ; rw [hl])
      have hq3 : ¬ 9223372036854775807 < 1 + l.length := by omega
      clear hl
      go_wp2_with (fail)
      go_ret
      exact ⟨by rw [E.out]; exact congrArg (Ending.returned ∘ Value.string) (two_joinQ 109 l), HBEL.out⟩

end Go.Proofs.YtjijabfamjhdjaaDoor

/-! Contracts: a row of texts is marked, and the marks are looked for. -/
namespace Go.Proofs.YtjijabfamjhdjaaDoor
open Go.RowKit Go.Lib

def mkBQ (j : Nat) : ByteArray := ⟨(mkTextQ (1 + (j : Int))).toArray⟩

/-- The marks are held: nothing is changed. -/
theorem heldRowQ (ga ca n : Nat) (w : World) (hn : n ≤ 2000000) (ha : ∀ j, j < n → w.cell? ⟨ga, j, none⟩ = some (.string (mkBQ j))) :
    Calls Tryd.prog 38 #[.slice (some ⟨ga, 0, none⟩) n ca, .int .i64 1] w fun e w' => e = .returned (.int .i64 (1 + (n : Int))) ∧ Below w.heap.size w w' := by
  have HA := hid ha
  clear ha
  go_enter Tryd.func38, Tryd.ntmps38
  go_wp2_with (fail)
  go_loopw [1, 5] (fun q i wr => ∃ k : Nat, k ≤ n ∧ i = .int .i64 k ∧ q = .int .i64 (1 + (k : Int)) ∧ Below w.heap.size w wr) (fun _ i _ => n - (RowKit.intOf i).toNat)
  case atStart => exact ⟨0, by omega, rfl, rfl, Below.refl _ _⟩
  case round =>
    obtain ⟨k, hk, rfl, rfl, hbel⟩ := hrel
    have HBEL := hid hbel
    have hk0 : (0 : Int) ≤ (k : Int) := by omega
    by_cases hlt : k < n
    · have hlt' : (k : Int) < (n : Int) := by omega
      have ca1 := HA.out k hlt
      have hgl := World.block_lt_of_cell? _ _ ca1
      have ca0 := (hbel.cell (p := ⟨ga, k, none⟩) hgl).trans ca1
      clear ca1 hbel
      have HM := hid (fun w => markTextQ (1 + (k : Int)) w (by omega) (by omega))
      have hmk : (⟨(mkTextQ (1 + (k : Int))).toArray⟩ : ByteArray) = mkBQ k := rfl
      rw [hmk] at HM
      generalize mkBQ k = x at ca0 HM
      have hgr : ga < wr.heap.size := Nat.lt_of_lt_of_le hgl HBEL.out.size
      have hwr : w.heap.size ≤ wr.heap.size := HBEL.out.size
      have hxx : (x.toList == x.toList) = true := by simp
      go_wp2_with (fail)
      go_region_held3 (fun w' => w'.cell? ⟨ga, k, none⟩ = some (.string x))
        (first | (with_reducible exact c1) | (with_reducible exact ca0) | go_keep)
        ((go_at_call 68; refine (HM.out _).mono ?_; rintro e w1 ⟨rfl, hb1⟩; have c1 : w1.cell? ⟨ga, k, none⟩ = some (.string x) := (hb1.cell (p := ⟨ga, k, none⟩) (by first | omega | (simp <;> omega))).trans (by go_simp); have e1 : Below w.heap.size w w1 := by { refine Below.trans ?_ (hb1.mono (by first | omega | (simp <;> omega))); first | exact HBEL.out | exact HBEL.out.drew | exact below_drewN HBEL.out _ }))
      go_wp2_with (fail)
      go_roundw
      case rel => first | exact ⟨k + 1, by omega, by go_num, by go_num, e1⟩ | exact ⟨k + 1, by omega, by go_num, by go_num, e1.drew⟩
      case measure => simp [RowKit.intOf]; omega
    · have hlt' : ¬ (k : Int) < (n : Int) := by omega
      have hkn : k = n := by omega
      subst hkn
      clear hbel
      go_wp2_with (fail)
      go_ret
      exact ⟨rfl, HBEL.out⟩

theorem strCells_setQ (ys : List ByteArray) (k : Nat) (x : ByteArray) : strCells (ys.set k x) = (strCells ys).set k (.string x) := by unfold strCells; rw [List.map_set]
theorem below_growsQ {w w' : World} (h : Below w.heap.size w w') : w.grownBy w' none := ⟨h.os, h.tape, h.output, h.size, fun i hi _ => h.block i hi⟩

/-- Every place of a row of its own is marked. -/
theorem markRowQ (ga ca B : Nat) (xs : List ByteArray) (w : World) (hn : xs.length ≤ 2000000) (hB : B ≤ ga) (hown : w.ownsRow B 9 1 (.slice (some ⟨ga, 0, none⟩) xs.length ca) xs.length (strCells xs)) :
    Calls Tryd.prog 37 #[.slice (some ⟨ga, 0, none⟩) xs.length ca, .int .i64 1] w fun e w' => e = .returned (.int .i64 (1 + (xs.length : Int))) ∧ (∀ j, j < xs.length → w'.cell? ⟨ga, j, none⟩ = some (.string (mkBQ j))) ∧ Below B w w' := by
  have hga : ga < w.heap.size := (hown.lt _ rfl).2
  have HO := hid hown
  clear hown
  go_enter Tryd.func37, Tryd.ntmps37
  go_wp2_with (fail)
  go_loopw [1, 5] (fun q i wr => ∃ (k : Nat) (ys : List ByteArray), k ≤ xs.length ∧ i = .int .i64 k ∧ q = .int .i64 (1 + (k : Int)) ∧ Hid (ys.length = xs.length ∧ ∀ j, j < k → ys[j]? = some (mkBQ j)) ∧ wr.ownsRow B 9 1 (.slice (some ⟨ga, 0, none⟩) xs.length ca) xs.length (strCells ys) ∧ Below B w wr) (fun _ i _ => xs.length - (RowKit.intOf i).toNat)
  case atStart => exact ⟨0, xs, by omega, rfl, rfl, hid ⟨rfl, fun j hj => by omega⟩, HO.out, Below.refl _ _⟩
  case round =>
    obtain ⟨k, ys, hk, rfl, rfl, hys, hown, hbel⟩ := hrel
    have HOWN := hid hown
    have HBEL := hid hbel
    have hk0 : (0 : Int) ≤ (k : Int) := by omega
    have hgr : ga < wr.heap.size := (hown.lt _ rfl).2
    clear hown hbel
    by_cases hlt : k < xs.length
    · have hlt' : (k : Int) < (xs.length : Int) := by omega
      have HM := hid (fun w => markTextQ (1 + (k : Int)) w (by omega) (by omega))
      have hmk : (⟨(mkTextQ (1 + (k : Int))).toArray⟩ : ByteArray) = mkBQ k := rfl
      rw [hmk] at HM
      have hf0 : wr.frozen? ⟨ga, k, none⟩ = false := HOWN.out.frozenAt k
      have hc0 : (wr.cell? ⟨ga, k, none⟩).isSome = true := by rw [HOWN.out.cellAt k (by omega)]; simp [strCells, hys.out.1, hlt]
      clear hmk
      go_wp2_with (fail)
      refine (HM.out _).mono ?_
      rintro e w1 ⟨rfl, hb1⟩
      have O1 := HOWN.out.kept (below_growsQ hb1) (.inr (by simp [Value.ownBlock]))
      have f1 : w1.frozen? ⟨ga, k, none⟩ = false := O1.frozenAt k
      obtain ⟨y, c1⟩ : ∃ y, w1.cell? ⟨ga, k, none⟩ = some (.string y) := by
        have hk2 : k < ys.length := by rw [hys.out.1]; exact hlt
        exact ⟨ys[k]'hk2, by rw [O1.cellAt k (by omega)]; simp [strCells, List.getElem?_eq_getElem hk2]⟩
      have e1 : Below B w w1 := HBEL.out.trans (hb1.mono (by omega))
      have HYS2 := hid (show (ys.set k (mkBQ k)).length = xs.length ∧ ∀ j, j < k + 1 → (ys.set k (mkBQ k))[j]? = some (mkBQ j) by
        refine ⟨by rw [List.length_set]; exact hys.out.1, fun j hj => ?_⟩
        by_cases hjk : j = k
        · subst hjk; rw [List.getElem?_set_self (by rw [hys.out.1]; exact hlt)]
        · rw [List.getElem?_set_ne (fun e => hjk e.symm)]; exact hys.out.2 j (by omega))
      have O2 := hid (O1.stored k (.string (mkBQ k))).1
      have E2 := hid (e1.setCell (p := ⟨ga, k, none⟩) hB (.string (mkBQ k)))
      clear O1 e1 hb1 hf0 hc0
      generalize mkBQ k = x at O2 E2 HYS2 ⊢
      go_wp2_with (fail)
      go_roundw
      case rel => exact ⟨k + 1, ys.set k x, by omega, by go_num, by go_num, HYS2, by rw [strCells_setQ]; exact O2.out, E2.out⟩
      case measure => simp [RowKit.intOf]; omega
    · have hlt' : ¬ (k : Int) < (xs.length : Int) := by omega
      have hkn : k = xs.length := by omega
      have HC := hid (show ∀ j, j < xs.length → wr.cell? ⟨ga, j, none⟩ = some (.string (mkBQ j)) from fun j hj => by
        have h1 := hys.out.2 j (by omega)
        have hown := HOWN.out
        rw [← hys.out.1] at hown
        exact row_cell hown j h1)
      subst hkn
      go_wp2_with (fail)
      go_ret
      exact ⟨rfl, HC.out, HBEL.out⟩

end Go.Proofs.YtjijabfamjhdjaaDoor
