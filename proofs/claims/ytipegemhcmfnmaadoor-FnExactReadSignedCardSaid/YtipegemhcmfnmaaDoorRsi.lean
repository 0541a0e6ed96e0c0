/- Contract: one term with a sign is read by the program. -/
import Derived.Test.YtipegemhcmfnmaaDoorRsg
import Derived.Test.YtipegemhcmfnmaaDoorVs
import Derived.Test.YtipegemhcmfnmaaDoorRd2
import Derived.Test.YtipegemhcmfnmaaDoorLv
import Derived.RangeFuncRecord
namespace Go.Proofs.YtipegemhcmfnmaaDoor
open Go.RowKit Go.Lib

def stS (l : List UInt8) : Int × Int × Bool := if hasPrefix l [43] = true then (1, numS (trimPrefix l [43])) else if hasPrefix l [45] = true then (-1, numS (trimPrefix l [45])) else (-1, (numS l).1, false)
theorem stS_plus {l : List UInt8} (h : hasPrefix l [43] = true) : stS l = (1, numS (trimPrefix l [43])) := if_pos h
theorem stS_minus {l : List UInt8} (h : hasPrefix l [43] = false) (h2 : hasPrefix l [45] = true) : stS l = (-1, numS (trimPrefix l [45])) := by unfold stS; rw [if_neg (by rw [h]; decide), if_pos h2]
theorem stS_other {l : List UInt8} (h : hasPrefix l [43] = false) (h2 : hasPrefix l [45] = false) : stS l = (-1, (numS l).1, false) := by unfold stS; rw [if_neg (by rw [h]; decide), if_neg (by rw [h2]; decide)]
theorem rdE_st (l : List UInt8) : rdE l = if (stS l).2.2 = true then some ((stS l).1, (stS l).2.1) else none := by
  cases h1 : hasPrefix l [43]
  · cases h2 : hasPrefix l [45]
    · rw [stS_other h1 h2]
      cases l with
      | nil => rfl
      | cons x m => rw [rdE_other ((pfx_not h1).2 x m rfl) ((pfx_not h2).2 x m rfl)]; rfl
    · obtain ⟨m, rfl, hm⟩ := pfx_form h2
      rw [stS_minus h1 h2, hm]; exact rdE_minus m
  · obtain ⟨m, rfl, hm⟩ := pfx_form h1
    rw [stS_plus h1, hm]; exact rdE_plus m
def stV (l : List UInt8) : Value := .tuple #[.agg #[.int .i64 (stS l).1, .int .i64 (stS l).2.1], .bool (stS l).2.2]

/-- A block of a term with a sign. -/
def GB (w : World) (b : Nat) (p q : Int) : Prop := w.heap[b]? = some (.cells #[.int .i64 p, .int .i64 q] 94 (0, 0))
theorem gb_cells {w : World} {b : Nat} {p q : Int} (h : GB w b p q) : w.cell? ⟨b, 0, none⟩ = some (.int .i64 p) ∧ w.cell? ⟨b, 1, none⟩ = some (.int .i64 q) ∧ w.frozen? ⟨b, 0, none⟩ = false ∧ w.frozen? ⟨b, 1, none⟩ = false ∧ b < w.heap.size := by
  unfold GB at h
  refine ⟨?_, ?_, ?_, ?_, (Array.getElem?_eq_some_iff.1 h).1⟩
  · simp [World.cell?, h]
  · simp [World.cell?, h]
  · simp [World.frozen?, h]
  · simp [World.frozen?, h]
theorem gb_lt {w : World} {b : Nat} {p q : Int} (h : GB w b p q) : b < w.heap.size := (gb_cells h).2.2.2.2
theorem gb_below {w w' : World} {b : Nat} {p q : Int} (h : GB w b p q) (hb : Below w.heap.size w w') : GB w' b p q := (hb.block b (gb_lt h)).trans h
theorem gb_new (w : World) (p q : Int) : GB (w.alloc (.cells #[.int .i64 p, .int .i64 q] 94)) w.heap.size p q := World.alloc_heap_new w _
theorem wg_read {l : List UInt8} (hl : l.length ≤ 1048576) (w : World) (h : Wg w) : Calls Tryd.prog 123 #[.string ⟨l.toArray⟩] w fun e w' => e = .returned (numV l) ∧ Below w.heap.size w w' :=
  implRead ⟨l.toArray⟩ w (by rw [show (⟨l.toArray⟩ : ByteArray).size = l.length from by simp [ByteArray.size]]; exact hl) h.1 h.2.1 h.2.2.1

theorem st_facts {w w1 : World} (b1 : Below (w.alloc (.cells #[.int .i64 0, .int .i64 0] 94)).heap.size (w.alloc (.cells #[.int .i64 0, .int .i64 0] 94)) w1) :
    w1.cell? ⟨w.heap.size, 0, none⟩ = some (.int .i64 0) ∧ w1.cell? ⟨w.heap.size, 1, none⟩ = some (.int .i64 0) ∧ w1.frozen? ⟨w.heap.size, 0, none⟩ = false ∧ w1.frozen? ⟨w.heap.size, 1, none⟩ = false ∧ w.heap.size < w1.heap.size := gb_cells (gb_below (gb_new w 0 0) b1)
theorem st_read {w : World} {b : Nat} {x y a d : Value} (h0 : w.cell? ⟨b, 0, none⟩ = some a) (h1 : w.cell? ⟨b, 1, none⟩ = some d) : ((w.setCell ⟨b, 0, none⟩ x).setCell ⟨b, 1, none⟩ y).cell? ⟨b, 0, none⟩ = some x ∧ ((w.setCell ⟨b, 0, none⟩ x).setCell ⟨b, 1, none⟩ y).cell? ⟨b, 1, none⟩ = some y := two_set h0 h1

set_option maxRecDepth 100000 in
set_option maxHeartbeats 1600000 in
theorem implST (p : ByteArray) (w : World) (hp : (trimPrefix p.data.toList [43]).length ≤ 1048576) (hw : Wg w) :
    Calls Tryd.prog 90 #[.string p] w fun e w' => e = .returned (stV p.data.toList) ∧ Below w.heap.size w w' := by
  have C1 := hid (Tryd.strings_CutPrefix p ⟨#[43]⟩)
  have C2 := hid (Tryd.strings_CutPrefix p ⟨#[45]⟩)
  have e1 : (⟨#[43]⟩ : ByteArray).data.toList = [43] := rfl
  have e2 : (⟨#[45]⟩ : ByteArray).data.toList = [45] := rfl
  rw [e1] at C1
  rw [e2] at C2
  have A0 : Below w.heap.size w (w.alloc (.cells #[.int .i64 0, .int .i64 0] 94)) := (Below.refl _ _).alloc (Nat.le_refl _) _
  have EA := hid A0
  have HW := hid (wg_below hw A0)
  have HV := hid (show stV p.data.toList = .tuple #[.agg #[.int .i64 (stS p.data.toList).1, .int .i64 (stS p.data.toList).2.1], .bool (stS p.data.toList).2.2] from rfl)
  clear e1 e2 A0 hw
  cases h1 : hasPrefix p.data.toList [43]
  · have HT := (pfx_not h1).1
    rw [h1] at C1
    rw [HT] at C1 hp
    have ep : (⟨p.data.toList.toArray⟩ : ByteArray) = p := rfl
    cases h2 : hasPrefix p.data.toList [45]
    · have HT2 := (pfx_not h2).1
      rw [h2] at C2
      rw [HT2] at C2
      rw [stS_other h1 h2] at HV
      have R := hid (fun w (h : Wg w) => wg_read hp w h)
      rw [ep] at C1 C2 R
      clear h1 h2 HT HT2 hp ep
      rw [HV.out]
      have HN := hid (show numV p.data.toList = .tuple #[.int .i64 (numS p.data.toList).1, .bool (numS p.data.toList).2] from rfl)
      generalize numV p.data.toList = nv at *
      generalize numS p.data.toList = r at *
      obtain ⟨n, b⟩ := r
      have hnv := HN.out
      dsimp only at hnv
      subst hnv
      clear HN HV
      dsimp only
      cases b <;>
      · skip
        go_enter Tryd.func90, Tryd.ntmps90
        go_wp2_with (fail)
        refine (C1.out _).mono ?_
        rintro e u ⟨rfl, hu⟩
        rw [hu]
        clear hu
        go_wp2_with (fail)
        refine (C2.out _).mono ?_
        rintro e u ⟨rfl, hu⟩
        rw [hu]
        clear hu
        go_wp2_with (fail)
        refine (R.out _ HW.out).mono ?_
        rintro e w2 ⟨rfl, b2⟩
        have E2 := hid (EA.out.trans (b2.mono EA.out.size))
        obtain ⟨q0, q1, q2, q3, q4⟩ := st_facts b2
        clear b2
        go_wp2_with (fail)
        obtain ⟨r0, r1⟩ := st_read (x := .int .i64 (-1)) (y := .int .i64 n) q0 q1
        refine bodyPost_ret (v := .tuple #[.agg #[.int .i64 (-1), .int .i64 n], .bool false]) (by simp [results, Tryd.results90, go_sem, r0, r1]) rfl ⟨rfl, ?_⟩
        exact (E2.out.setCell (p := ⟨w.heap.size, 0, none⟩) (Nat.le_refl _) _).setCell (p := ⟨w.heap.size, 1, none⟩) (Nat.le_refl _) _
    · rw [h2] at C2
      rw [stS_minus h1 h2] at HV
      have hp2 : (trimPrefix p.data.toList [45]).length ≤ 1048576 := by
        obtain ⟨m, e, hm⟩ := pfx_form h2
        rw [hm]
        rw [e] at hp
        simp at hp
        omega
      have R := hid (fun w (h : Wg w) => wg_read hp2 w h)
      rw [ep] at C1
      clear h1 h2 HT hp hp2 ep
      rw [HV.out]
      have HN := hid (show numV (trimPrefix p.data.toList [45]) = .tuple #[.int .i64 (numS (trimPrefix p.data.toList [45])).1, .bool (numS (trimPrefix p.data.toList [45])).2] from rfl)
      generalize numV (trimPrefix p.data.toList [45]) = nv at *
      generalize numS (trimPrefix p.data.toList [45]) = r at *
      obtain ⟨n, b⟩ := r
      have hnv := HN.out
      dsimp only at hnv
      subst hnv
      clear HN HV
      dsimp only
      generalize trimPrefix p.data.toList [45] = T at *
      cases b
      · skip
        go_enter Tryd.func90, Tryd.ntmps90
        go_wp2_with (fail)
        refine (C1.out _).mono ?_
        rintro e u ⟨rfl, hu⟩
        rw [hu]
        clear hu
        go_wp2_with (fail)
        refine (C2.out _).mono ?_
        rintro e u ⟨rfl, hu⟩
        rw [hu]
        clear hu
        go_wp2_with (fail)
        refine (R.out _ HW.out).mono ?_
        rintro e w2 ⟨rfl, b2⟩
        have E2 := hid (EA.out.trans (b2.mono EA.out.size))
        obtain ⟨q0, q1, q2, q3, q4⟩ := st_facts b2
        clear b2
        go_wp2_with (fail)
        obtain ⟨r0, r1⟩ := st_read (x := .int .i64 (-1)) (y := .int .i64 n) q0 q1
        refine bodyPost_ret (v := .tuple #[.agg #[.int .i64 (-1), .int .i64 n], .bool false]) (by simp [results, Tryd.results90, go_sem, r0, r1]) rfl ⟨rfl, ?_⟩
        exact (E2.out.setCell (p := ⟨w.heap.size, 0, none⟩) (Nat.le_refl _) _).setCell (p := ⟨w.heap.size, 1, none⟩) (Nat.le_refl _) _
      · skip
        go_enter Tryd.func90, Tryd.ntmps90
        go_wp2_with (fail)
        refine (C1.out _).mono ?_
        rintro e u ⟨rfl, hu⟩
        rw [hu]
        clear hu
        go_wp2_with (fail)
        refine (C2.out _).mono ?_
        rintro e u ⟨rfl, hu⟩
        rw [hu]
        clear hu
        go_wp2_with (fail)
        refine (R.out _ HW.out).mono ?_
        rintro e w2 ⟨rfl, b2⟩
        have E2 := hid (EA.out.trans (b2.mono EA.out.size))
        obtain ⟨q0, q1, q2, q3, q4⟩ := st_facts b2
        clear b2
        go_wp2_with (fail)
        obtain ⟨r0, r1⟩ := st_read (x := .int .i64 (-1)) (y := .int .i64 n) q0 q1
        refine bodyPost_ret (v := .tuple #[.agg #[.int .i64 (-1), .int .i64 n], .bool true]) (by simp [results, Tryd.results90, go_sem, r0, r1]) rfl ⟨rfl, ?_⟩
        exact (E2.out.setCell (p := ⟨w.heap.size, 0, none⟩) (Nat.le_refl _) _).setCell (p := ⟨w.heap.size, 1, none⟩) (Nat.le_refl _) _
  · rw [h1] at C1
    rw [stS_plus h1] at HV
    have R := hid (fun w (h : Wg w) => wg_read hp w h)
    clear h1 hp C2
    rw [HV.out]
    have HN := hid (show numV (trimPrefix p.data.toList [43]) = .tuple #[.int .i64 (numS (trimPrefix p.data.toList [43])).1, .bool (numS (trimPrefix p.data.toList [43])).2] from rfl)
    generalize numV (trimPrefix p.data.toList [43]) = nv at *
    generalize numS (trimPrefix p.data.toList [43]) = r at *
    obtain ⟨n, b⟩ := r
    have hnv := HN.out
    dsimp only at hnv
    subst hnv
    clear HN HV
    dsimp only
    generalize trimPrefix p.data.toList [43] = T at *
    cases b
    · skip
      go_enter Tryd.func90, Tryd.ntmps90
      go_wp2_with (fail)
      refine (C1.out _).mono ?_
      rintro e u ⟨rfl, hu⟩
      rw [hu]
      clear hu
      go_wp2_with (fail)
      refine (R.out _ HW.out).mono ?_
      rintro e w2 ⟨rfl, b2⟩
      have E2 := hid (EA.out.trans (b2.mono EA.out.size))
      obtain ⟨q0, q1, q2, q3, q4⟩ := st_facts b2
      clear b2
      go_wp2_with (fail)
      obtain ⟨r0, r1⟩ := st_read (x := .int .i64 1) (y := .int .i64 n) q0 q1
      refine bodyPost_ret (v := .tuple #[.agg #[.int .i64 1, .int .i64 n], .bool false]) (by simp [results, Tryd.results90, go_sem, r0, r1]) rfl ⟨rfl, ?_⟩
      exact (E2.out.setCell (p := ⟨w.heap.size, 0, none⟩) (Nat.le_refl _) _).setCell (p := ⟨w.heap.size, 1, none⟩) (Nat.le_refl _) _
    · skip
      go_enter Tryd.func90, Tryd.ntmps90
      go_wp2_with (fail)
      refine (C1.out _).mono ?_
      rintro e u ⟨rfl, hu⟩
      rw [hu]
      clear hu
      go_wp2_with (fail)
      refine (R.out _ HW.out).mono ?_
      rintro e w2 ⟨rfl, b2⟩
      have E2 := hid (EA.out.trans (b2.mono EA.out.size))
      obtain ⟨q0, q1, q2, q3, q4⟩ := st_facts b2
      clear b2
      go_wp2_with (fail)
      obtain ⟨r0, r1⟩ := st_read (x := .int .i64 1) (y := .int .i64 n) q0 q1
      refine bodyPost_ret (v := .tuple #[.agg #[.int .i64 1, .int .i64 n], .bool true]) (by simp [results, Tryd.results90, go_sem, r0, r1]) rfl ⟨rfl, ?_⟩
      exact (E2.out.setCell (p := ⟨w.heap.size, 0, none⟩) (Nat.le_refl _) _).setCell (p := ⟨w.heap.size, 1, none⟩) (Nat.le_refl _) _

end Go.Proofs.YtipegemhcmfnmaaDoor
