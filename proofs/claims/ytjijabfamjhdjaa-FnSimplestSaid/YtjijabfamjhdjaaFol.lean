/- Contract: the program's walker goes along a path. -/
import Derived.Test.YtjijabfamjhdjaaBnd
namespace Go.Proofs.Ytjijabfamjhdjaa
open Go.RowKit

/-- The walker's value. -/
def wal (l : Bool) (P Q PP QQ : Int) : Array Value := if l then #[.int .i64 P, .int .i64 Q, .int .i64 PP, .int .i64 QQ, .bool true] else #[.int .i64 PP, .int .i64 QQ, .int .i64 P, .int .i64 Q, .bool false]
/-- What is returned at the end of a path. -/
def folV (l : Bool) : List Int → Option (Int × Int × Int × Int) → Value
  | _, none => .tuple #[.agg #[.int .i64 0, .int .i64 0, .int .i64 0, .int .i64 0, .bool false], .int .i64 5]
  | [], some m => .tuple #[.agg (wal l m.1 m.2.1 m.2.2.1 m.2.2.2), .int .i64 0]
  | _ :: r, some m => folV (!l) r (some m)
theorem folV_next (l : Bool) (x : Int) (r : List Int) (o : Option (Int × Int × Int × Int)) : folV l (x :: r) o = folV (!l) r o := by
  cases o with
  | none => cases r <;> rfl
  | some m => rfl
def folA (l : Bool) : List Int → Option (Int × Int × Int × Int) → Array Value
  | _, none => #[.int .i64 0, .int .i64 0, .int .i64 0, .int .i64 0, .bool false]
  | [], some m => wal l m.1 m.2.1 m.2.2.1 m.2.2.2
  | _ :: r, some m => folA (!l) r (some m)
def folC : Option (Int × Int × Int × Int) → Int
  | none => 5
  | some _ => 0
theorem folV_eq (l : Bool) (r : List Int) (o : Option (Int × Int × Int × Int)) : folV l r o = .tuple #[.agg (folA l r o), .int .i64 (folC o)] := by
  cases o with
  | none => cases r <;> rfl
  | some m =>
    induction r generalizing l with
    | nil => rfl
    | cons x r ih => exact ih (!l)
/-- A walker has four numbers and a side. -/
theorem folA_five (l : Bool) (r : List Int) (o : Option (Int × Int × Int × Int)) : ∃ a b c d e, folA l r o = #[.int .i64 a, .int .i64 b, .int .i64 c, .int .i64 d, .bool e] := by
  cases o with
  | none => cases r <;> exact ⟨_, _, _, _, _, rfl⟩
  | some m =>
    induction r generalizing l with
    | nil => cases l <;> exact ⟨_, _, _, _, _, rfl⟩
    | cons x r ih => exact ih (!l)
theorem keep_two {w1 w2 : World} {n b b2 : Nat} {A B : Obj} (h1 : w1.heap[b]? = some A) (h2 : w1.heap[b2]? = some B) (hb : Below (w1.drewN n).heap.size (w1.drewN n) w2) :
    w2.heap[b]? = some A ∧ w2.heap[b2]? = some B ∧ Below w1.heap.size w1 w2 := by
  have l1 := (Array.getElem?_eq_some_iff.1 h1).1
  have l2 := (Array.getElem?_eq_some_iff.1 h2).1
  exact ⟨(hb.block b (by simpa using l1)).trans h1, (hb.block b2 (by simpa using l2)).trans h2, (below_drewN (Below.refl _ _) n).trans (hb.mono (by simp))⟩
theorem new_two (w : World) (A B : Obj) : ((w.alloc A).alloc B).heap[w.heap.size]? = some A ∧ ((w.alloc A).alloc B).heap[w.heap.size + 1]? = some B ∧ Below w.heap.size w ((w.alloc A).alloc B) := by
  refine ⟨?_, ?_, (((Below.refl w.heap.size w).alloc (Nat.le_refl _) _).alloc (by simp) _)⟩
  · show ((w.heap.push _).push _)[w.heap.size]? = _
    rw [Array.getElem?_push_lt (by simp), Array.getElem_push_eq]
  · show ((w.heap.push _).push _)[w.heap.size + 1]? = _
    have : w.heap.size + 1 = (w.heap.push A).size := by simp
    rw [this, Array.getElem?_push_size]
theorem keep_blk {w1 w2 : World} {b b2 : Nat} {A B : Obj} (h1 : w1.heap[b]? = some A) (h2 : w1.heap[b2]? = some B) (hb : Below w1.heap.size w1 w2) :
    w2.heap[b]? = some A ∧ w2.heap[b2]? = some B := by
  have l1 := (Array.getElem?_eq_some_iff.1 h1).1
  have l2 := (Array.getElem?_eq_some_iff.1 h2).1
  exact ⟨(hb.block b l1).trans h1, (hb.block b2 l2).trans h2⟩

def Sm (x : Int) : Prop := x ≤ 2000000000000000000

set_option maxRecDepth 100000 in
set_option maxHeartbeats 6400000 in
theorem implFollow (xs : List Int) : ∀ (l : Bool) (P Q PP QQ : Int) (g o n c : Nat) (w : World), InvT P Q PP QQ → P ≤ 2000000000000000000 → Q ≤ 2000000000000000000 → PP ≤ 2000000000000000000 → QQ ≤ 2000000000000000000 → xs.length = n → n ≤ 1000 → n ≤ c → (∀ z ∈ xs, 0 ≤ z ∧ z ≤ 1000000000) → Ints w g o xs →
    Calls Try.prog 65 #[.agg (wal l P Q PP QQ), .slice (some ⟨g, o, none⟩) n c] w fun e w' => e = .returned (folV l xs (fo P Q PP QQ xs)) ∧ Below w.heap.size w w' := by
  induction xs with
  | nil =>
    intro l P Q PP QQ g o n c w hi p1 p2 p3 p4 hn hn1 hc hb ha
    have i1 := hi.1
    have i2 := hi.2.1
    have i3 := hi.2.2.1
    have i4 := hi.2.2.2.1
    have hn0 : n = 0 := by simpa using hn.symm
    subst hn0
    clear hn hn1 hc
    cases ho : okF (P + PP) (Q + QQ)
    · cases l
      · rw [show wal false P Q PP QQ = #[.int .i64 PP, .int .i64 QQ, .int .i64 P, .int .i64 Q, .bool false] from rfl]
        have HBT := hid (fun w => implBetween PP QQ P Q w (by omega) (by omega) (by omega) (by omega) (by omega) (by omega) (by omega) (by omega))
        have HVF := hid (fun w => implValid (PP + P) (QQ + Q) w)
        rw [show okF (PP + P) (QQ + Q) = false by rw [Int.add_comm PP P, Int.add_comm QQ Q]; exact ho] at HVF
        obtain ⟨e1, e2, EV⟩ := new_two w (.cells #[.int .i64 PP, .int .i64 QQ, .int .i64 P, .int .i64 Q, .bool false] 79) (.cells #[.int .i64 0, .int .i64 0, .int .i64 0, .int .i64 0, .bool false] 79)
        obtain ⟨V, hV⟩ : ∃ V : World, V = (w.alloc (.cells #[.int .i64 PP, .int .i64 QQ, .int .i64 P, .int .i64 Q, .bool false] 79)).alloc (.cells #[.int .i64 0, .int .i64 0, .int .i64 0, .int .i64 0, .bool false] 79) := ⟨_, rfl⟩
        rw [← hV] at e1 e2 EV
        have e1 : V.heap[w.heap.size]? = some (.cells #[.int .i64 PP, .int .i64 QQ, .int .i64 P, .int .i64 Q, .bool false] 79 (0, 0)) := e1
        have e2 : V.heap[w.heap.size + 1]? = some (.cells #[.int .i64 0, .int .i64 0, .int .i64 0, .int .i64 0, .bool false] 79 (0, 0)) := e2
        obtain ⟨y0, _⟩ := cell_at (j := 0) (v := .int .i64 PP) e1 rfl
        obtain ⟨y1, _⟩ := cell_at (j := 1) (v := .int .i64 QQ) e1 rfl
        obtain ⟨y2, _⟩ := cell_at (j := 2) (v := .int .i64 P) e1 rfl
        obtain ⟨y3, _⟩ := cell_at (j := 3) (v := .int .i64 Q) e1 rfl
        obtain ⟨y4, _⟩ := cell_at (j := 4) (v := .bool false) e1 rfl
        have HE1 := hid e1
        have HE2 := hid e2
        have HEV := hid EV
        have HV := hid hV
        clear hV
        have HR := hid (show folV false ([]) (fo P Q PP QQ ([])) = folV false [] none from (congrArg _ (fo_no ho)).trans (by rfl))
        clear e1 e2 EV y0 y1 y2 y3 y4
        clear hi hb p1 p2 p3 p4 i1 i2 i3 i4  ha
        go_enter Try.func65, Try.ntmps65
        go_wp2_with (fail)
        rw [← HV.out]
        clear HV
        refine (HBT.out _).mono ?_
        rintro e w1 ⟨rfl, b1⟩
        obtain ⟨e1, e2⟩ := keep_blk HE1.out HE2.out b1
        have E1 := hid (HEV.out.trans (b1.mono HEV.out.size))
        clear b1
        have HE1 := hid e1
        have HE2 := hid e2
        clear e1 e2
        go_wp2_with (fail)
        refine (HVF.out _).mono ?_
        rintro e w2 ⟨rfl, b2⟩
        obtain ⟨e1, e2⟩ := keep_blk HE1.out HE2.out b2
        have E2 := hid (E1.out.trans (b2.mono E1.out.size))
        clear b2
        have HE1 := hid e1
        have HE2 := hid e2
        obtain ⟨y0, _⟩ := cell_at (j := 0) (v := .int .i64 PP) e1 rfl
        obtain ⟨y1, _⟩ := cell_at (j := 1) (v := .int .i64 QQ) e1 rfl
        obtain ⟨y2, _⟩ := cell_at (j := 2) (v := .int .i64 P) e1 rfl
        obtain ⟨y3, _⟩ := cell_at (j := 3) (v := .int .i64 Q) e1 rfl
        obtain ⟨y4, _⟩ := cell_at (j := 4) (v := .bool false) e1 rfl
        obtain ⟨z0, f0⟩ := cell_at (j := 0) (v := .int .i64 0) e2 rfl
        obtain ⟨z1, f1⟩ := cell_at (j := 1) (v := .int .i64 0) e2 rfl
        obtain ⟨z2, f2⟩ := cell_at (j := 2) (v := .int .i64 0) e2 rfl
        obtain ⟨z3, f3⟩ := cell_at (j := 3) (v := .int .i64 0) e2 rfl
        obtain ⟨z4, f4⟩ := cell_at (j := 4) (v := .bool false) e2 rfl
        clear e1 e2
        go_wp2_with (fail)
        rw [HR.out]
        have s5 := set5 HE2.out (.int .i64 0) (.int .i64 0) (.int .i64 0) (.int .i64 0) (.bool false)
        obtain ⟨r0, _⟩ := cell_at (j := 0) (v := .int .i64 0) s5 rfl
        obtain ⟨r1, _⟩ := cell_at (j := 1) (v := .int .i64 0) s5 rfl
        obtain ⟨r2, _⟩ := cell_at (j := 2) (v := .int .i64 0) s5 rfl
        obtain ⟨r3, _⟩ := cell_at (j := 3) (v := .int .i64 0) s5 rfl
        obtain ⟨r4, _⟩ := cell_at (j := 4) (v := .bool false) s5 rfl
        refine bodyPost_ret (v := .tuple #[.agg #[.int .i64 0, .int .i64 0, .int .i64 0, .int .i64 0, .bool false], .int .i64 5]) (by simp [results, Try.results65, go_sem, r0, r1, r2, r3, r4]) rfl ⟨rfl, ?_⟩
        exact below5 E2.out (by omega) _ _ _ _ _
      · rw [show wal true P Q PP QQ = #[.int .i64 P, .int .i64 Q, .int .i64 PP, .int .i64 QQ, .bool true] from rfl]
        have HBT := hid (fun w => implBetween P Q PP QQ w (by omega) (by omega) (by omega) (by omega) (by omega) (by omega) (by omega) (by omega))
        have HVF := hid (fun w => implValid (P + PP) (Q + QQ) w)
        rw [ho] at HVF
        obtain ⟨e1, e2, EV⟩ := new_two w (.cells #[.int .i64 P, .int .i64 Q, .int .i64 PP, .int .i64 QQ, .bool true] 79) (.cells #[.int .i64 0, .int .i64 0, .int .i64 0, .int .i64 0, .bool false] 79)
        obtain ⟨V, hV⟩ : ∃ V : World, V = (w.alloc (.cells #[.int .i64 P, .int .i64 Q, .int .i64 PP, .int .i64 QQ, .bool true] 79)).alloc (.cells #[.int .i64 0, .int .i64 0, .int .i64 0, .int .i64 0, .bool false] 79) := ⟨_, rfl⟩
        rw [← hV] at e1 e2 EV
        have e1 : V.heap[w.heap.size]? = some (.cells #[.int .i64 P, .int .i64 Q, .int .i64 PP, .int .i64 QQ, .bool true] 79 (0, 0)) := e1
        have e2 : V.heap[w.heap.size + 1]? = some (.cells #[.int .i64 0, .int .i64 0, .int .i64 0, .int .i64 0, .bool false] 79 (0, 0)) := e2
        obtain ⟨y0, _⟩ := cell_at (j := 0) (v := .int .i64 P) e1 rfl
        obtain ⟨y1, _⟩ := cell_at (j := 1) (v := .int .i64 Q) e1 rfl
        obtain ⟨y2, _⟩ := cell_at (j := 2) (v := .int .i64 PP) e1 rfl
        obtain ⟨y3, _⟩ := cell_at (j := 3) (v := .int .i64 QQ) e1 rfl
        obtain ⟨y4, _⟩ := cell_at (j := 4) (v := .bool true) e1 rfl
        have HE1 := hid e1
        have HE2 := hid e2
        have HEV := hid EV
        have HV := hid hV
        clear hV
        have HR := hid (show folV true ([]) (fo P Q PP QQ ([])) = folV true [] none from (congrArg _ (fo_no ho)).trans (by rfl))
        clear e1 e2 EV y0 y1 y2 y3 y4
        clear hi hb p1 p2 p3 p4 i1 i2 i3 i4  ha
        go_enter Try.func65, Try.ntmps65
        go_wp2_with (fail)
        rw [← HV.out]
        clear HV
        refine (HBT.out _).mono ?_
        rintro e w1 ⟨rfl, b1⟩
        obtain ⟨e1, e2⟩ := keep_blk HE1.out HE2.out b1
        have E1 := hid (HEV.out.trans (b1.mono HEV.out.size))
        clear b1
        have HE1 := hid e1
        have HE2 := hid e2
        clear e1 e2
        go_wp2_with (fail)
        refine (HVF.out _).mono ?_
        rintro e w2 ⟨rfl, b2⟩
        obtain ⟨e1, e2⟩ := keep_blk HE1.out HE2.out b2
        have E2 := hid (E1.out.trans (b2.mono E1.out.size))
        clear b2
        have HE1 := hid e1
        have HE2 := hid e2
        obtain ⟨y0, _⟩ := cell_at (j := 0) (v := .int .i64 P) e1 rfl
        obtain ⟨y1, _⟩ := cell_at (j := 1) (v := .int .i64 Q) e1 rfl
        obtain ⟨y2, _⟩ := cell_at (j := 2) (v := .int .i64 PP) e1 rfl
        obtain ⟨y3, _⟩ := cell_at (j := 3) (v := .int .i64 QQ) e1 rfl
        obtain ⟨y4, _⟩ := cell_at (j := 4) (v := .bool true) e1 rfl
        obtain ⟨z0, f0⟩ := cell_at (j := 0) (v := .int .i64 0) e2 rfl
        obtain ⟨z1, f1⟩ := cell_at (j := 1) (v := .int .i64 0) e2 rfl
        obtain ⟨z2, f2⟩ := cell_at (j := 2) (v := .int .i64 0) e2 rfl
        obtain ⟨z3, f3⟩ := cell_at (j := 3) (v := .int .i64 0) e2 rfl
        obtain ⟨z4, f4⟩ := cell_at (j := 4) (v := .bool false) e2 rfl
        clear e1 e2
        go_wp2_with (fail)
        rw [HR.out]
        have s5 := set5 HE2.out (.int .i64 0) (.int .i64 0) (.int .i64 0) (.int .i64 0) (.bool false)
        obtain ⟨r0, _⟩ := cell_at (j := 0) (v := .int .i64 0) s5 rfl
        obtain ⟨r1, _⟩ := cell_at (j := 1) (v := .int .i64 0) s5 rfl
        obtain ⟨r2, _⟩ := cell_at (j := 2) (v := .int .i64 0) s5 rfl
        obtain ⟨r3, _⟩ := cell_at (j := 3) (v := .int .i64 0) s5 rfl
        obtain ⟨r4, _⟩ := cell_at (j := 4) (v := .bool false) s5 rfl
        refine bodyPost_ret (v := .tuple #[.agg #[.int .i64 0, .int .i64 0, .int .i64 0, .int .i64 0, .bool false], .int .i64 5]) (by simp [results, Try.results65, go_sem, r0, r1, r2, r3, r4]) rfl ⟨rfl, ?_⟩
        exact below5 E2.out (by omega) _ _ _ _ _
    · cases l
      · rw [show wal false P Q PP QQ = #[.int .i64 PP, .int .i64 QQ, .int .i64 P, .int .i64 Q, .bool false] from rfl]
        have HBT := hid (fun w => implBetween PP QQ P Q w (by omega) (by omega) (by omega) (by omega) (by omega) (by omega) (by omega) (by omega))
        have HVF := hid (fun w => implValid (PP + P) (QQ + Q) w)
        rw [show okF (PP + P) (QQ + Q) = true by rw [Int.add_comm PP P, Int.add_comm QQ Q]; exact ho] at HVF
        obtain ⟨e1, e2, EV⟩ := new_two w (.cells #[.int .i64 PP, .int .i64 QQ, .int .i64 P, .int .i64 Q, .bool false] 79) (.cells #[.int .i64 0, .int .i64 0, .int .i64 0, .int .i64 0, .bool false] 79)
        obtain ⟨V, hV⟩ : ∃ V : World, V = (w.alloc (.cells #[.int .i64 PP, .int .i64 QQ, .int .i64 P, .int .i64 Q, .bool false] 79)).alloc (.cells #[.int .i64 0, .int .i64 0, .int .i64 0, .int .i64 0, .bool false] 79) := ⟨_, rfl⟩
        rw [← hV] at e1 e2 EV
        have e1 : V.heap[w.heap.size]? = some (.cells #[.int .i64 PP, .int .i64 QQ, .int .i64 P, .int .i64 Q, .bool false] 79 (0, 0)) := e1
        have e2 : V.heap[w.heap.size + 1]? = some (.cells #[.int .i64 0, .int .i64 0, .int .i64 0, .int .i64 0, .bool false] 79 (0, 0)) := e2
        obtain ⟨y0, _⟩ := cell_at (j := 0) (v := .int .i64 PP) e1 rfl
        obtain ⟨y1, _⟩ := cell_at (j := 1) (v := .int .i64 QQ) e1 rfl
        obtain ⟨y2, _⟩ := cell_at (j := 2) (v := .int .i64 P) e1 rfl
        obtain ⟨y3, _⟩ := cell_at (j := 3) (v := .int .i64 Q) e1 rfl
        obtain ⟨y4, _⟩ := cell_at (j := 4) (v := .bool false) e1 rfl
        have HE1 := hid e1
        have HE2 := hid e2
        have HEV := hid EV
        have HV := hid hV
        clear hV
        have HR := hid (show folV false [] (fo P Q PP QQ []) = .tuple #[.agg #[.int .i64 PP, .int .i64 QQ, .int .i64 P, .int .i64 Q, .bool false], .int .i64 0] from (congrArg _ (fo_nil ho)).trans (by rfl))
        clear e1 e2 EV y0 y1 y2 y3 y4
        clear hi hb p1 p2 p3 p4 i1 i2 i3 i4  ha
        go_enter Try.func65, Try.ntmps65
        go_wp2_with (fail)
        rw [← HV.out]
        clear HV
        refine (HBT.out _).mono ?_
        rintro e w1 ⟨rfl, b1⟩
        obtain ⟨e1, e2⟩ := keep_blk HE1.out HE2.out b1
        have E1 := hid (HEV.out.trans (b1.mono HEV.out.size))
        clear b1
        have HE1 := hid e1
        have HE2 := hid e2
        clear e1 e2
        go_wp2_with (fail)
        refine (HVF.out _).mono ?_
        rintro e w2 ⟨rfl, b2⟩
        obtain ⟨e1, e2⟩ := keep_blk HE1.out HE2.out b2
        have E2 := hid (E1.out.trans (b2.mono E1.out.size))
        clear b2
        have HE1 := hid e1
        have HE2 := hid e2
        obtain ⟨y0, _⟩ := cell_at (j := 0) (v := .int .i64 PP) e1 rfl
        obtain ⟨y1, _⟩ := cell_at (j := 1) (v := .int .i64 QQ) e1 rfl
        obtain ⟨y2, _⟩ := cell_at (j := 2) (v := .int .i64 P) e1 rfl
        obtain ⟨y3, _⟩ := cell_at (j := 3) (v := .int .i64 Q) e1 rfl
        obtain ⟨y4, _⟩ := cell_at (j := 4) (v := .bool false) e1 rfl
        obtain ⟨z0, f0⟩ := cell_at (j := 0) (v := .int .i64 0) e2 rfl
        obtain ⟨z1, f1⟩ := cell_at (j := 1) (v := .int .i64 0) e2 rfl
        obtain ⟨z2, f2⟩ := cell_at (j := 2) (v := .int .i64 0) e2 rfl
        obtain ⟨z3, f3⟩ := cell_at (j := 3) (v := .int .i64 0) e2 rfl
        obtain ⟨z4, f4⟩ := cell_at (j := 4) (v := .bool false) e2 rfl
        clear e1 e2
        go_wp2_with (fail)
        rw [HR.out]
        have s5 := set5 HE2.out (.int .i64 PP) (.int .i64 QQ) (.int .i64 P) (.int .i64 Q) (.bool false)
        obtain ⟨r0, _⟩ := cell_at (j := 0) (v := .int .i64 PP) s5 rfl
        obtain ⟨r1, _⟩ := cell_at (j := 1) (v := .int .i64 QQ) s5 rfl
        obtain ⟨r2, _⟩ := cell_at (j := 2) (v := .int .i64 P) s5 rfl
        obtain ⟨r3, _⟩ := cell_at (j := 3) (v := .int .i64 Q) s5 rfl
        obtain ⟨r4, _⟩ := cell_at (j := 4) (v := .bool false) s5 rfl
        refine bodyPost_ret (v := .tuple #[.agg #[.int .i64 PP, .int .i64 QQ, .int .i64 P, .int .i64 Q, .bool false], .int .i64 0]) (by simp [results, Try.results65, go_sem, r0, r1, r2, r3, r4]) rfl ⟨rfl, ?_⟩
        exact below5 E2.out (by omega) _ _ _ _ _
      · rw [show wal true P Q PP QQ = #[.int .i64 P, .int .i64 Q, .int .i64 PP, .int .i64 QQ, .bool true] from rfl]
        have HBT := hid (fun w => implBetween P Q PP QQ w (by omega) (by omega) (by omega) (by omega) (by omega) (by omega) (by omega) (by omega))
        have HVF := hid (fun w => implValid (P + PP) (Q + QQ) w)
        rw [ho] at HVF
        obtain ⟨e1, e2, EV⟩ := new_two w (.cells #[.int .i64 P, .int .i64 Q, .int .i64 PP, .int .i64 QQ, .bool true] 79) (.cells #[.int .i64 0, .int .i64 0, .int .i64 0, .int .i64 0, .bool false] 79)
        obtain ⟨V, hV⟩ : ∃ V : World, V = (w.alloc (.cells #[.int .i64 P, .int .i64 Q, .int .i64 PP, .int .i64 QQ, .bool true] 79)).alloc (.cells #[.int .i64 0, .int .i64 0, .int .i64 0, .int .i64 0, .bool false] 79) := ⟨_, rfl⟩
        rw [← hV] at e1 e2 EV
        have e1 : V.heap[w.heap.size]? = some (.cells #[.int .i64 P, .int .i64 Q, .int .i64 PP, .int .i64 QQ, .bool true] 79 (0, 0)) := e1
        have e2 : V.heap[w.heap.size + 1]? = some (.cells #[.int .i64 0, .int .i64 0, .int .i64 0, .int .i64 0, .bool false] 79 (0, 0)) := e2
        obtain ⟨y0, _⟩ := cell_at (j := 0) (v := .int .i64 P) e1 rfl
        obtain ⟨y1, _⟩ := cell_at (j := 1) (v := .int .i64 Q) e1 rfl
        obtain ⟨y2, _⟩ := cell_at (j := 2) (v := .int .i64 PP) e1 rfl
        obtain ⟨y3, _⟩ := cell_at (j := 3) (v := .int .i64 QQ) e1 rfl
        obtain ⟨y4, _⟩ := cell_at (j := 4) (v := .bool true) e1 rfl
        have HE1 := hid e1
        have HE2 := hid e2
        have HEV := hid EV
        have HV := hid hV
        clear hV
        have HR := hid (show folV true [] (fo P Q PP QQ []) = .tuple #[.agg #[.int .i64 P, .int .i64 Q, .int .i64 PP, .int .i64 QQ, .bool true], .int .i64 0] from (congrArg _ (fo_nil ho)).trans (by rfl))
        clear e1 e2 EV y0 y1 y2 y3 y4
        clear hi hb p1 p2 p3 p4 i1 i2 i3 i4  ha
        go_enter Try.func65, Try.ntmps65
        go_wp2_with (fail)
        rw [← HV.out]
        clear HV
        refine (HBT.out _).mono ?_
        rintro e w1 ⟨rfl, b1⟩
        obtain ⟨e1, e2⟩ := keep_blk HE1.out HE2.out b1
        have E1 := hid (HEV.out.trans (b1.mono HEV.out.size))
        clear b1
        have HE1 := hid e1
        have HE2 := hid e2
        clear e1 e2
        go_wp2_with (fail)
        refine (HVF.out _).mono ?_
        rintro e w2 ⟨rfl, b2⟩
        obtain ⟨e1, e2⟩ := keep_blk HE1.out HE2.out b2
        have E2 := hid (E1.out.trans (b2.mono E1.out.size))
        clear b2
        have HE1 := hid e1
        have HE2 := hid e2
        obtain ⟨y0, _⟩ := cell_at (j := 0) (v := .int .i64 P) e1 rfl
        obtain ⟨y1, _⟩ := cell_at (j := 1) (v := .int .i64 Q) e1 rfl
        obtain ⟨y2, _⟩ := cell_at (j := 2) (v := .int .i64 PP) e1 rfl
        obtain ⟨y3, _⟩ := cell_at (j := 3) (v := .int .i64 QQ) e1 rfl
        obtain ⟨y4, _⟩ := cell_at (j := 4) (v := .bool true) e1 rfl
        obtain ⟨z0, f0⟩ := cell_at (j := 0) (v := .int .i64 0) e2 rfl
        obtain ⟨z1, f1⟩ := cell_at (j := 1) (v := .int .i64 0) e2 rfl
        obtain ⟨z2, f2⟩ := cell_at (j := 2) (v := .int .i64 0) e2 rfl
        obtain ⟨z3, f3⟩ := cell_at (j := 3) (v := .int .i64 0) e2 rfl
        obtain ⟨z4, f4⟩ := cell_at (j := 4) (v := .bool false) e2 rfl
        clear e1 e2
        go_wp2_with (fail)
        rw [HR.out]
        have s5 := set5 HE2.out (.int .i64 P) (.int .i64 Q) (.int .i64 PP) (.int .i64 QQ) (.bool true)
        obtain ⟨r0, _⟩ := cell_at (j := 0) (v := .int .i64 P) s5 rfl
        obtain ⟨r1, _⟩ := cell_at (j := 1) (v := .int .i64 Q) s5 rfl
        obtain ⟨r2, _⟩ := cell_at (j := 2) (v := .int .i64 PP) s5 rfl
        obtain ⟨r3, _⟩ := cell_at (j := 3) (v := .int .i64 QQ) s5 rfl
        obtain ⟨r4, _⟩ := cell_at (j := 4) (v := .bool true) s5 rfl
        refine bodyPost_ret (v := .tuple #[.agg #[.int .i64 P, .int .i64 Q, .int .i64 PP, .int .i64 QQ, .bool true], .int .i64 0]) (by simp [results, Try.results65, go_sem, r0, r1, r2, r3, r4]) rfl ⟨rfl, ?_⟩
        exact below5 E2.out (by omega) _ _ _ _ _
  | cons x r ih =>
    intro l P Q PP QQ g o n c w hi p1 p2 p3 p4 hn hn1 hc hb ha
    have i1 := hi.1
    have i2 := hi.2.1
    have i3 := hi.2.2.1
    have i4 := hi.2.2.2.1
    have hx := hb x (by simp)
    have hx0 := hx.1
    have hx1 := hx.2
    have cx : w.cell? ⟨g, o, none⟩ = some (.int .i64 x) := by have := ha 0 x rfl; rwa [Nat.add_zero] at this
    have hl1 : 1 ≤ n := by simp at hn; omega
    have hrl : r.length = n - 1 := by simp at hn; omega
    have hne : ¬ (n : Int) = 0 := by omega
    clear hn hx
    cases ho : okF (P + PP) (Q + QQ)
    · clear cx hrl
      cases l
      · rw [show wal false P Q PP QQ = #[.int .i64 PP, .int .i64 QQ, .int .i64 P, .int .i64 Q, .bool false] from rfl]
        have HBT := hid (fun w => implBetween PP QQ P Q w (by omega) (by omega) (by omega) (by omega) (by omega) (by omega) (by omega) (by omega))
        have HVF := hid (fun w => implValid (PP + P) (QQ + Q) w)
        rw [show okF (PP + P) (QQ + Q) = false by rw [Int.add_comm PP P, Int.add_comm QQ Q]; exact ho] at HVF
        obtain ⟨e1, e2, EV⟩ := new_two w (.cells #[.int .i64 PP, .int .i64 QQ, .int .i64 P, .int .i64 Q, .bool false] 79) (.cells #[.int .i64 0, .int .i64 0, .int .i64 0, .int .i64 0, .bool false] 79)
        obtain ⟨V, hV⟩ : ∃ V : World, V = (w.alloc (.cells #[.int .i64 PP, .int .i64 QQ, .int .i64 P, .int .i64 Q, .bool false] 79)).alloc (.cells #[.int .i64 0, .int .i64 0, .int .i64 0, .int .i64 0, .bool false] 79) := ⟨_, rfl⟩
        rw [← hV] at e1 e2 EV
        have e1 : V.heap[w.heap.size]? = some (.cells #[.int .i64 PP, .int .i64 QQ, .int .i64 P, .int .i64 Q, .bool false] 79 (0, 0)) := e1
        have e2 : V.heap[w.heap.size + 1]? = some (.cells #[.int .i64 0, .int .i64 0, .int .i64 0, .int .i64 0, .bool false] 79 (0, 0)) := e2
        obtain ⟨y0, _⟩ := cell_at (j := 0) (v := .int .i64 PP) e1 rfl
        obtain ⟨y1, _⟩ := cell_at (j := 1) (v := .int .i64 QQ) e1 rfl
        obtain ⟨y2, _⟩ := cell_at (j := 2) (v := .int .i64 P) e1 rfl
        obtain ⟨y3, _⟩ := cell_at (j := 3) (v := .int .i64 Q) e1 rfl
        obtain ⟨y4, _⟩ := cell_at (j := 4) (v := .bool false) e1 rfl
        have HE1 := hid e1
        have HE2 := hid e2
        have HEV := hid EV
        have HV := hid hV
        clear hV
        have HR := hid (show folV false (x :: r) (fo P Q PP QQ (x :: r)) = folV false [] none from (congrArg _ (fo_no ho)).trans (by rfl))
        clear e1 e2 EV y0 y1 y2 y3 y4
        clear hi hb p1 p2 p3 p4 i1 i2 i3 i4 ih ha
        go_enter Try.func65, Try.ntmps65
        go_wp2_with (fail)
        rw [← HV.out]
        clear HV
        refine (HBT.out _).mono ?_
        rintro e w1 ⟨rfl, b1⟩
        obtain ⟨e1, e2⟩ := keep_blk HE1.out HE2.out b1
        have E1 := hid (HEV.out.trans (b1.mono HEV.out.size))
        clear b1
        have HE1 := hid e1
        have HE2 := hid e2
        clear e1 e2
        go_wp2_with (fail)
        refine (HVF.out _).mono ?_
        rintro e w2 ⟨rfl, b2⟩
        obtain ⟨e1, e2⟩ := keep_blk HE1.out HE2.out b2
        have E2 := hid (E1.out.trans (b2.mono E1.out.size))
        clear b2
        have HE1 := hid e1
        have HE2 := hid e2
        obtain ⟨y0, _⟩ := cell_at (j := 0) (v := .int .i64 PP) e1 rfl
        obtain ⟨y1, _⟩ := cell_at (j := 1) (v := .int .i64 QQ) e1 rfl
        obtain ⟨y2, _⟩ := cell_at (j := 2) (v := .int .i64 P) e1 rfl
        obtain ⟨y3, _⟩ := cell_at (j := 3) (v := .int .i64 Q) e1 rfl
        obtain ⟨y4, _⟩ := cell_at (j := 4) (v := .bool false) e1 rfl
        obtain ⟨z0, f0⟩ := cell_at (j := 0) (v := .int .i64 0) e2 rfl
        obtain ⟨z1, f1⟩ := cell_at (j := 1) (v := .int .i64 0) e2 rfl
        obtain ⟨z2, f2⟩ := cell_at (j := 2) (v := .int .i64 0) e2 rfl
        obtain ⟨z3, f3⟩ := cell_at (j := 3) (v := .int .i64 0) e2 rfl
        obtain ⟨z4, f4⟩ := cell_at (j := 4) (v := .bool false) e2 rfl
        clear e1 e2
        go_wp2_with (fail)
        rw [HR.out]
        have s5 := set5 HE2.out (.int .i64 0) (.int .i64 0) (.int .i64 0) (.int .i64 0) (.bool false)
        obtain ⟨r0, _⟩ := cell_at (j := 0) (v := .int .i64 0) s5 rfl
        obtain ⟨r1, _⟩ := cell_at (j := 1) (v := .int .i64 0) s5 rfl
        obtain ⟨r2, _⟩ := cell_at (j := 2) (v := .int .i64 0) s5 rfl
        obtain ⟨r3, _⟩ := cell_at (j := 3) (v := .int .i64 0) s5 rfl
        obtain ⟨r4, _⟩ := cell_at (j := 4) (v := .bool false) s5 rfl
        refine bodyPost_ret (v := .tuple #[.agg #[.int .i64 0, .int .i64 0, .int .i64 0, .int .i64 0, .bool false], .int .i64 5]) (by simp [results, Try.results65, go_sem, r0, r1, r2, r3, r4]) rfl ⟨rfl, ?_⟩
        exact below5 E2.out (by omega) _ _ _ _ _
      · rw [show wal true P Q PP QQ = #[.int .i64 P, .int .i64 Q, .int .i64 PP, .int .i64 QQ, .bool true] from rfl]
        have HBT := hid (fun w => implBetween P Q PP QQ w (by omega) (by omega) (by omega) (by omega) (by omega) (by omega) (by omega) (by omega))
        have HVF := hid (fun w => implValid (P + PP) (Q + QQ) w)
        rw [ho] at HVF
        obtain ⟨e1, e2, EV⟩ := new_two w (.cells #[.int .i64 P, .int .i64 Q, .int .i64 PP, .int .i64 QQ, .bool true] 79) (.cells #[.int .i64 0, .int .i64 0, .int .i64 0, .int .i64 0, .bool false] 79)
        obtain ⟨V, hV⟩ : ∃ V : World, V = (w.alloc (.cells #[.int .i64 P, .int .i64 Q, .int .i64 PP, .int .i64 QQ, .bool true] 79)).alloc (.cells #[.int .i64 0, .int .i64 0, .int .i64 0, .int .i64 0, .bool false] 79) := ⟨_, rfl⟩
        rw [← hV] at e1 e2 EV
        have e1 : V.heap[w.heap.size]? = some (.cells #[.int .i64 P, .int .i64 Q, .int .i64 PP, .int .i64 QQ, .bool true] 79 (0, 0)) := e1
        have e2 : V.heap[w.heap.size + 1]? = some (.cells #[.int .i64 0, .int .i64 0, .int .i64 0, .int .i64 0, .bool false] 79 (0, 0)) := e2
        obtain ⟨y0, _⟩ := cell_at (j := 0) (v := .int .i64 P) e1 rfl
        obtain ⟨y1, _⟩ := cell_at (j := 1) (v := .int .i64 Q) e1 rfl
        obtain ⟨y2, _⟩ := cell_at (j := 2) (v := .int .i64 PP) e1 rfl
        obtain ⟨y3, _⟩ := cell_at (j := 3) (v := .int .i64 QQ) e1 rfl
        obtain ⟨y4, _⟩ := cell_at (j := 4) (v := .bool true) e1 rfl
        have HE1 := hid e1
        have HE2 := hid e2
        have HEV := hid EV
        have HV := hid hV
        clear hV
        have HR := hid (show folV true (x :: r) (fo P Q PP QQ (x :: r)) = folV true [] none from (congrArg _ (fo_no ho)).trans (by rfl))
        clear e1 e2 EV y0 y1 y2 y3 y4
        clear hi hb p1 p2 p3 p4 i1 i2 i3 i4 ih ha
        go_enter Try.func65, Try.ntmps65
        go_wp2_with (fail)
        rw [← HV.out]
        clear HV
        refine (HBT.out _).mono ?_
        rintro e w1 ⟨rfl, b1⟩
        obtain ⟨e1, e2⟩ := keep_blk HE1.out HE2.out b1
        have E1 := hid (HEV.out.trans (b1.mono HEV.out.size))
        clear b1
        have HE1 := hid e1
        have HE2 := hid e2
        clear e1 e2
        go_wp2_with (fail)
        refine (HVF.out _).mono ?_
        rintro e w2 ⟨rfl, b2⟩
        obtain ⟨e1, e2⟩ := keep_blk HE1.out HE2.out b2
        have E2 := hid (E1.out.trans (b2.mono E1.out.size))
        clear b2
        have HE1 := hid e1
        have HE2 := hid e2
        obtain ⟨y0, _⟩ := cell_at (j := 0) (v := .int .i64 P) e1 rfl
        obtain ⟨y1, _⟩ := cell_at (j := 1) (v := .int .i64 Q) e1 rfl
        obtain ⟨y2, _⟩ := cell_at (j := 2) (v := .int .i64 PP) e1 rfl
        obtain ⟨y3, _⟩ := cell_at (j := 3) (v := .int .i64 QQ) e1 rfl
        obtain ⟨y4, _⟩ := cell_at (j := 4) (v := .bool true) e1 rfl
        obtain ⟨z0, f0⟩ := cell_at (j := 0) (v := .int .i64 0) e2 rfl
        obtain ⟨z1, f1⟩ := cell_at (j := 1) (v := .int .i64 0) e2 rfl
        obtain ⟨z2, f2⟩ := cell_at (j := 2) (v := .int .i64 0) e2 rfl
        obtain ⟨z3, f3⟩ := cell_at (j := 3) (v := .int .i64 0) e2 rfl
        obtain ⟨z4, f4⟩ := cell_at (j := 4) (v := .bool false) e2 rfl
        clear e1 e2
        go_wp2_with (fail)
        rw [HR.out]
        have s5 := set5 HE2.out (.int .i64 0) (.int .i64 0) (.int .i64 0) (.int .i64 0) (.bool false)
        obtain ⟨r0, _⟩ := cell_at (j := 0) (v := .int .i64 0) s5 rfl
        obtain ⟨r1, _⟩ := cell_at (j := 1) (v := .int .i64 0) s5 rfl
        obtain ⟨r2, _⟩ := cell_at (j := 2) (v := .int .i64 0) s5 rfl
        obtain ⟨r3, _⟩ := cell_at (j := 3) (v := .int .i64 0) s5 rfl
        obtain ⟨r4, _⟩ := cell_at (j := 4) (v := .bool false) s5 rfl
        refine bodyPost_ret (v := .tuple #[.agg #[.int .i64 0, .int .i64 0, .int .i64 0, .int .i64 0, .bool false], .int .i64 5]) (by simp [results, Try.results65, go_sem, r0, r1, r2, r3, r4]) rfl ⟨rfl, ?_⟩
        exact below5 E2.out (by omega) _ _ _ _ _
    · have hsum := (inv_ok hi).1 ho
      have s1 := hsum.1
      have s2 := hsum.2
      clear hsum
      obtain ⟨m1, m2⟩ := mul_bd (a := x) (b := P) (by omega) hx1 (by omega) (by omega)
      obtain ⟨m3, m4⟩ := mul_bd (a := x) (b := Q) (by omega) hx1 (by omega) (by omega)
      by_cases hc1 : c = 1
      · have hn1e : n = 1 := by omega
        subst hc1 hn1e
        clear hne
        cases l
        · rw [show wal false P Q PP QQ = #[.int .i64 PP, .int .i64 QQ, .int .i64 P, .int .i64 Q, .bool false] from rfl]
          have HBT := hid (fun w => implBetween PP QQ P Q w (by omega) (by omega) (by omega) (by omega) (by omega) (by omega) (by omega) (by omega))
          have HVF := hid (fun w => implValid (PP + P) (QQ + Q) w)
          rw [show okF (PP + P) (QQ + Q) = true by rw [Int.add_comm PP P, Int.add_comm QQ Q]; exact ho] at HVF
          obtain ⟨e1, e2, EV⟩ := new_two w (.cells #[.int .i64 PP, .int .i64 QQ, .int .i64 P, .int .i64 Q, .bool false] 79) (.cells #[.int .i64 0, .int .i64 0, .int .i64 0, .int .i64 0, .bool false] 79)
          obtain ⟨V, hV⟩ : ∃ V : World, V = (w.alloc (.cells #[.int .i64 PP, .int .i64 QQ, .int .i64 P, .int .i64 Q, .bool false] 79)).alloc (.cells #[.int .i64 0, .int .i64 0, .int .i64 0, .int .i64 0, .bool false] 79) := ⟨_, rfl⟩
          rw [← hV] at e1 e2 EV
          have e1 : V.heap[w.heap.size]? = some (.cells #[.int .i64 PP, .int .i64 QQ, .int .i64 P, .int .i64 Q, .bool false] 79 (0, 0)) := e1
          have e2 : V.heap[w.heap.size + 1]? = some (.cells #[.int .i64 0, .int .i64 0, .int .i64 0, .int .i64 0, .bool false] 79 (0, 0)) := e2
          obtain ⟨y0, _⟩ := cell_at (j := 0) (v := .int .i64 PP) e1 rfl
          obtain ⟨y1, _⟩ := cell_at (j := 1) (v := .int .i64 QQ) e1 rfl
          obtain ⟨y2, _⟩ := cell_at (j := 2) (v := .int .i64 P) e1 rfl
          obtain ⟨y3, _⟩ := cell_at (j := 3) (v := .int .i64 Q) e1 rfl
          obtain ⟨y4, _⟩ := cell_at (j := 4) (v := .bool false) e1 rfl
          have HE1 := hid e1
          have HE2 := hid e2
          have HEV := hid EV
          have HV := hid hV
          clear hV
          obtain ⟨v0, v1, v2, v3, v4, h5⟩ := folA_five true r (fo (PP + x * P) (QQ + x * Q) P Q r)
          obtain ⟨k5, hk5⟩ : ∃ k5, k5 = folC (fo (PP + x * P) (QQ + x * Q) P Q r) := ⟨_, rfl⟩
          have HV5 := hid (show folV true r (fo (PP + x * P) (QQ + x * Q) P Q r) = .tuple #[.agg #[.int .i64 v0, .int .i64 v1, .int .i64 v2, .int .i64 v3, .bool v4], .int .i64 k5] by rw [folV_eq, h5, hk5])
          have HR := hid (show folV false (x :: r) (fo P Q PP QQ (x :: r)) = .tuple #[.agg #[.int .i64 v0, .int .i64 v1, .int .i64 v2, .int .i64 v3, .bool v4], .int .i64 k5] by rw [folV_next, fo_cons ho]; exact HV5.out)
          have IH := hid (fun (w' : World) (h : Below w.heap.size w w') => ih true (PP + x * P) (QQ + x * Q) P Q g o 0 0 w' (inv_step hi hx0) (by omega) (by omega) (by omega) (by omega) (by omega) (by omega) (by omega) (fun z hz => hb z (by simp [hz])) (fun j y hj => by have : r = [] := List.length_eq_zero_iff.1 (by omega); subst this; simp at hj))
          rw [HV5.out] at IH
          rw [show wal true (PP + x * P) (QQ + x * Q) P Q = #[.int .i64 (PP + x * P), .int .i64 (QQ + x * Q), .int .i64 (P), .int .i64 (Q), .bool true] from rfl] at IH
          have HBH := hid (fun w => implBehindR PP QQ P Q x w (by omega) (by omega) (by omega) (by omega) (by omega) (by omega) (by omega) (by omega) hx0 hx1)
          have hgw : g < w.heap.size := World.block_lt_of_cell? _ _ cx
          have HCX := hid cx
          clear h5 hk5 HV5 cx
          clear ih
          clear e1 e2 EV y0 y1 y2 y3 y4
          clear hi hb p1 p2 p3 p4 i1 i2 i3 i4  ha
          clear s1 s2 m1 m2
          go_enter Try.func65, Try.ntmps65
          go_wp2_with (fail)
          rw [← HV.out]
          clear HV
          refine (HBT.out _).mono ?_
          rintro e w1 ⟨rfl, b1⟩
          obtain ⟨e1, e2⟩ := keep_blk HE1.out HE2.out b1
          have E1 := hid (HEV.out.trans (b1.mono HEV.out.size))
          clear b1
          have HE1 := hid e1
          have HE2 := hid e2
          clear e1 e2
          go_wp2_with (fail)
          refine (HVF.out _).mono ?_
          rintro e w2 ⟨rfl, b2⟩
          obtain ⟨e1, e2⟩ := keep_blk HE1.out HE2.out b2
          have E2 := hid (E1.out.trans (b2.mono E1.out.size))
          clear b2
          have HE1 := hid e1
          have HE2 := hid e2
          obtain ⟨y0, _⟩ := cell_at (j := 0) (v := .int .i64 PP) e1 rfl
          obtain ⟨y1, _⟩ := cell_at (j := 1) (v := .int .i64 QQ) e1 rfl
          obtain ⟨y2, _⟩ := cell_at (j := 2) (v := .int .i64 P) e1 rfl
          obtain ⟨y3, _⟩ := cell_at (j := 3) (v := .int .i64 Q) e1 rfl
          obtain ⟨y4, _⟩ := cell_at (j := 4) (v := .bool false) e1 rfl
          have cx2 := (E2.out.cell (p := ⟨g, o, none⟩) hgw).trans HCX.out
          clear e1 e2
          go_wp2_with (fail)
          go_region_with (first | (go_at_call 91; refine (HBH.out _).mono ?_; rintro e w3 ⟨rfl, b3⟩; obtain ⟨g1, g2, B3⟩ := keep_two HE1.out HE2.out b3; have cx3 := (B3.cell (p := ⟨g, o, none⟩) (Nat.lt_of_lt_of_le hgw E2.out.size)).trans cx2; have E3 := hid (E2.out.trans (B3.mono E2.out.size)); have G1 := hid g1; have G2 := hid g2; clear g1 g2 b3 B3) | (go_at_call 65; refine (IH.out _ E3.out).mono ?_; rintro e w4 ⟨rfl, b4⟩; obtain ⟨g1, g2⟩ := keep_blk G1.out G2.out b4; obtain ⟨z0, f0⟩ := cell_at (j := 0) (v := .int .i64 0) g2 rfl; obtain ⟨z1, f1⟩ := cell_at (j := 1) (v := .int .i64 0) g2 rfl; obtain ⟨z2, f2⟩ := cell_at (j := 2) (v := .int .i64 0) g2 rfl; obtain ⟨z3, f3⟩ := cell_at (j := 3) (v := .int .i64 0) g2 rfl; obtain ⟨z4, f4⟩ := cell_at (j := 4) (v := .bool false) g2 rfl; have E4 := hid (E3.out.trans (b4.mono E3.out.size)); have K2 := hid g2; clear g1 g2 b4))
          all_goals
            go_wp2_with (fail)
            rw [HR.out]
            have s5 := set5 K2.out (.int .i64 v0) (.int .i64 v1) (.int .i64 v2) (.int .i64 v3) (.bool v4)
            obtain ⟨r0, _⟩ := cell_at (j := 0) (v := .int .i64 v0) s5 rfl
            obtain ⟨r1, _⟩ := cell_at (j := 1) (v := .int .i64 v1) s5 rfl
            obtain ⟨r2, _⟩ := cell_at (j := 2) (v := .int .i64 v2) s5 rfl
            obtain ⟨r3, _⟩ := cell_at (j := 3) (v := .int .i64 v3) s5 rfl
            obtain ⟨r4, _⟩ := cell_at (j := 4) (v := .bool v4) s5 rfl
            refine bodyPost_ret (v := .tuple #[.agg #[.int .i64 v0, .int .i64 v1, .int .i64 v2, .int .i64 v3, .bool v4], .int .i64 k5]) (by simp [results, Try.results65, go_sem, r0, r1, r2, r3, r4]) rfl ⟨rfl, ?_⟩
            exact below5 E4.out (by omega) _ _ _ _ _
        · rw [show wal true P Q PP QQ = #[.int .i64 P, .int .i64 Q, .int .i64 PP, .int .i64 QQ, .bool true] from rfl]
          have HBT := hid (fun w => implBetween P Q PP QQ w (by omega) (by omega) (by omega) (by omega) (by omega) (by omega) (by omega) (by omega))
          have HVF := hid (fun w => implValid (P + PP) (Q + QQ) w)
          rw [ho] at HVF
          obtain ⟨e1, e2, EV⟩ := new_two w (.cells #[.int .i64 P, .int .i64 Q, .int .i64 PP, .int .i64 QQ, .bool true] 79) (.cells #[.int .i64 0, .int .i64 0, .int .i64 0, .int .i64 0, .bool false] 79)
          obtain ⟨V, hV⟩ : ∃ V : World, V = (w.alloc (.cells #[.int .i64 P, .int .i64 Q, .int .i64 PP, .int .i64 QQ, .bool true] 79)).alloc (.cells #[.int .i64 0, .int .i64 0, .int .i64 0, .int .i64 0, .bool false] 79) := ⟨_, rfl⟩
          rw [← hV] at e1 e2 EV
          have e1 : V.heap[w.heap.size]? = some (.cells #[.int .i64 P, .int .i64 Q, .int .i64 PP, .int .i64 QQ, .bool true] 79 (0, 0)) := e1
          have e2 : V.heap[w.heap.size + 1]? = some (.cells #[.int .i64 0, .int .i64 0, .int .i64 0, .int .i64 0, .bool false] 79 (0, 0)) := e2
          obtain ⟨y0, _⟩ := cell_at (j := 0) (v := .int .i64 P) e1 rfl
          obtain ⟨y1, _⟩ := cell_at (j := 1) (v := .int .i64 Q) e1 rfl
          obtain ⟨y2, _⟩ := cell_at (j := 2) (v := .int .i64 PP) e1 rfl
          obtain ⟨y3, _⟩ := cell_at (j := 3) (v := .int .i64 QQ) e1 rfl
          obtain ⟨y4, _⟩ := cell_at (j := 4) (v := .bool true) e1 rfl
          have HE1 := hid e1
          have HE2 := hid e2
          have HEV := hid EV
          have HV := hid hV
          clear hV
          obtain ⟨v0, v1, v2, v3, v4, h5⟩ := folA_five false r (fo (PP + x * P) (QQ + x * Q) P Q r)
          obtain ⟨k5, hk5⟩ : ∃ k5, k5 = folC (fo (PP + x * P) (QQ + x * Q) P Q r) := ⟨_, rfl⟩
          have HV5 := hid (show folV false r (fo (PP + x * P) (QQ + x * Q) P Q r) = .tuple #[.agg #[.int .i64 v0, .int .i64 v1, .int .i64 v2, .int .i64 v3, .bool v4], .int .i64 k5] by rw [folV_eq, h5, hk5])
          have HR := hid (show folV true (x :: r) (fo P Q PP QQ (x :: r)) = .tuple #[.agg #[.int .i64 v0, .int .i64 v1, .int .i64 v2, .int .i64 v3, .bool v4], .int .i64 k5] by rw [folV_next, fo_cons ho]; exact HV5.out)
          have IH := hid (fun (w' : World) (h : Below w.heap.size w w') => ih false (PP + x * P) (QQ + x * Q) P Q g o 0 0 w' (inv_step hi hx0) (by omega) (by omega) (by omega) (by omega) (by omega) (by omega) (by omega) (fun z hz => hb z (by simp [hz])) (fun j y hj => by have : r = [] := List.length_eq_zero_iff.1 (by omega); subst this; simp at hj))
          rw [HV5.out] at IH
          rw [show wal false (PP + x * P) (QQ + x * Q) P Q = #[.int .i64 (P), .int .i64 (Q), .int .i64 (PP + x * P), .int .i64 (QQ + x * Q), .bool false] from rfl] at IH
          have HBH := hid (fun w => implBehindL P Q PP QQ x w (by omega) (by omega) (by omega) (by omega) (by omega) (by omega) (by omega) (by omega) hx0 hx1)
          have hgw : g < w.heap.size := World.block_lt_of_cell? _ _ cx
          have HCX := hid cx
          clear h5 hk5 HV5 cx
          clear ih
          clear e1 e2 EV y0 y1 y2 y3 y4
          clear hi hb p1 p2 p3 p4 i1 i2 i3 i4  ha
          clear s1 s2 m1 m2
          go_enter Try.func65, Try.ntmps65
          go_wp2_with (fail)
          rw [← HV.out]
          clear HV
          refine (HBT.out _).mono ?_
          rintro e w1 ⟨rfl, b1⟩
          obtain ⟨e1, e2⟩ := keep_blk HE1.out HE2.out b1
          have E1 := hid (HEV.out.trans (b1.mono HEV.out.size))
          clear b1
          have HE1 := hid e1
          have HE2 := hid e2
          clear e1 e2
          go_wp2_with (fail)
          refine (HVF.out _).mono ?_
          rintro e w2 ⟨rfl, b2⟩
          obtain ⟨e1, e2⟩ := keep_blk HE1.out HE2.out b2
          have E2 := hid (E1.out.trans (b2.mono E1.out.size))
          clear b2
          have HE1 := hid e1
          have HE2 := hid e2
          obtain ⟨y0, _⟩ := cell_at (j := 0) (v := .int .i64 P) e1 rfl
          obtain ⟨y1, _⟩ := cell_at (j := 1) (v := .int .i64 Q) e1 rfl
          obtain ⟨y2, _⟩ := cell_at (j := 2) (v := .int .i64 PP) e1 rfl
          obtain ⟨y3, _⟩ := cell_at (j := 3) (v := .int .i64 QQ) e1 rfl
          obtain ⟨y4, _⟩ := cell_at (j := 4) (v := .bool true) e1 rfl
          have cx2 := (E2.out.cell (p := ⟨g, o, none⟩) hgw).trans HCX.out
          clear e1 e2
          go_wp2_with (fail)
          go_region_with (first | (go_at_call 91; refine (HBH.out _).mono ?_; rintro e w3 ⟨rfl, b3⟩; obtain ⟨g1, g2, B3⟩ := keep_two HE1.out HE2.out b3; have cx3 := (B3.cell (p := ⟨g, o, none⟩) (Nat.lt_of_lt_of_le hgw E2.out.size)).trans cx2; have E3 := hid (E2.out.trans (B3.mono E2.out.size)); have G1 := hid g1; have G2 := hid g2; clear g1 g2 b3 B3) | (go_at_call 65; refine (IH.out _ E3.out).mono ?_; rintro e w4 ⟨rfl, b4⟩; obtain ⟨g1, g2⟩ := keep_blk G1.out G2.out b4; obtain ⟨z0, f0⟩ := cell_at (j := 0) (v := .int .i64 0) g2 rfl; obtain ⟨z1, f1⟩ := cell_at (j := 1) (v := .int .i64 0) g2 rfl; obtain ⟨z2, f2⟩ := cell_at (j := 2) (v := .int .i64 0) g2 rfl; obtain ⟨z3, f3⟩ := cell_at (j := 3) (v := .int .i64 0) g2 rfl; obtain ⟨z4, f4⟩ := cell_at (j := 4) (v := .bool false) g2 rfl; have E4 := hid (E3.out.trans (b4.mono E3.out.size)); have K2 := hid g2; clear g1 g2 b4))
          all_goals
            go_wp2_with (fail)
            rw [HR.out]
            have s5 := set5 K2.out (.int .i64 v0) (.int .i64 v1) (.int .i64 v2) (.int .i64 v3) (.bool v4)
            obtain ⟨r0, _⟩ := cell_at (j := 0) (v := .int .i64 v0) s5 rfl
            obtain ⟨r1, _⟩ := cell_at (j := 1) (v := .int .i64 v1) s5 rfl
            obtain ⟨r2, _⟩ := cell_at (j := 2) (v := .int .i64 v2) s5 rfl
            obtain ⟨r3, _⟩ := cell_at (j := 3) (v := .int .i64 v3) s5 rfl
            obtain ⟨r4, _⟩ := cell_at (j := 4) (v := .bool v4) s5 rfl
            refine bodyPost_ret (v := .tuple #[.agg #[.int .i64 v0, .int .i64 v1, .int .i64 v2, .int .i64 v3, .bool v4], .int .i64 k5]) (by simp [results, Try.results65, go_sem, r0, r1, r2, r3, r4]) rfl ⟨rfl, ?_⟩
            exact below5 E4.out (by omega) _ _ _ _ _
      · cases l
        · rw [show wal false P Q PP QQ = #[.int .i64 PP, .int .i64 QQ, .int .i64 P, .int .i64 Q, .bool false] from rfl]
          have HBT := hid (fun w => implBetween PP QQ P Q w (by omega) (by omega) (by omega) (by omega) (by omega) (by omega) (by omega) (by omega))
          have HVF := hid (fun w => implValid (PP + P) (QQ + Q) w)
          rw [show okF (PP + P) (QQ + Q) = true by rw [Int.add_comm PP P, Int.add_comm QQ Q]; exact ho] at HVF
          obtain ⟨e1, e2, EV⟩ := new_two w (.cells #[.int .i64 PP, .int .i64 QQ, .int .i64 P, .int .i64 Q, .bool false] 79) (.cells #[.int .i64 0, .int .i64 0, .int .i64 0, .int .i64 0, .bool false] 79)
          obtain ⟨V, hV⟩ : ∃ V : World, V = (w.alloc (.cells #[.int .i64 PP, .int .i64 QQ, .int .i64 P, .int .i64 Q, .bool false] 79)).alloc (.cells #[.int .i64 0, .int .i64 0, .int .i64 0, .int .i64 0, .bool false] 79) := ⟨_, rfl⟩
          rw [← hV] at e1 e2 EV
          have e1 : V.heap[w.heap.size]? = some (.cells #[.int .i64 PP, .int .i64 QQ, .int .i64 P, .int .i64 Q, .bool false] 79 (0, 0)) := e1
          have e2 : V.heap[w.heap.size + 1]? = some (.cells #[.int .i64 0, .int .i64 0, .int .i64 0, .int .i64 0, .bool false] 79 (0, 0)) := e2
          obtain ⟨y0, _⟩ := cell_at (j := 0) (v := .int .i64 PP) e1 rfl
          obtain ⟨y1, _⟩ := cell_at (j := 1) (v := .int .i64 QQ) e1 rfl
          obtain ⟨y2, _⟩ := cell_at (j := 2) (v := .int .i64 P) e1 rfl
          obtain ⟨y3, _⟩ := cell_at (j := 3) (v := .int .i64 Q) e1 rfl
          obtain ⟨y4, _⟩ := cell_at (j := 4) (v := .bool false) e1 rfl
          have HE1 := hid e1
          have HE2 := hid e2
          have HEV := hid EV
          have HV := hid hV
          clear hV
          obtain ⟨v0, v1, v2, v3, v4, h5⟩ := folA_five true r (fo (PP + x * P) (QQ + x * Q) P Q r)
          obtain ⟨k5, hk5⟩ : ∃ k5, k5 = folC (fo (PP + x * P) (QQ + x * Q) P Q r) := ⟨_, rfl⟩
          have HV5 := hid (show folV true r (fo (PP + x * P) (QQ + x * Q) P Q r) = .tuple #[.agg #[.int .i64 v0, .int .i64 v1, .int .i64 v2, .int .i64 v3, .bool v4], .int .i64 k5] by rw [folV_eq, h5, hk5])
          have HR := hid (show folV false (x :: r) (fo P Q PP QQ (x :: r)) = .tuple #[.agg #[.int .i64 v0, .int .i64 v1, .int .i64 v2, .int .i64 v3, .bool v4], .int .i64 k5] by rw [folV_next, fo_cons ho]; exact HV5.out)
          have IH := hid (fun (w' : World) (h : Below w.heap.size w w') => ih true (PP + x * P) (QQ + x * Q) P Q g (o + 1) (n - 1) (c - 1) w' (inv_step hi hx0) (by omega) (by omega) (by omega) (by omega) (by omega) (by omega) (by omega) (fun z hz => hb z (by simp [hz])) (fun j y hj => by have := ints_below ha h (j + 1) y (by simpa using hj); rwa [← Nat.add_assoc, Nat.add_right_comm] at this))
          rw [HV5.out] at IH
          rw [show wal true (PP + x * P) (QQ + x * Q) P Q = #[.int .i64 (PP + x * P), .int .i64 (QQ + x * Q), .int .i64 (P), .int .i64 (Q), .bool true] from rfl] at IH
          have HBH := hid (fun w => implBehindR PP QQ P Q x w (by omega) (by omega) (by omega) (by omega) (by omega) (by omega) (by omega) (by omega) hx0 hx1)
          have hgw : g < w.heap.size := World.block_lt_of_cell? _ _ cx
          have HCX := hid cx
          clear h5 hk5 HV5 cx
          clear ih
          clear e1 e2 EV y0 y1 y2 y3 y4
          have hn1 : (0 : Int) < (n : Int) := by omega
          clear hi hb p1 p2 p3 p4 i1 i2 i3 i4  ha
          clear s1 s2 m1 m2
          go_enter Try.func65, Try.ntmps65
          go_wp2_with (fail)
          rw [← HV.out]
          clear HV
          refine (HBT.out _).mono ?_
          rintro e w1 ⟨rfl, b1⟩
          obtain ⟨e1, e2⟩ := keep_blk HE1.out HE2.out b1
          have E1 := hid (HEV.out.trans (b1.mono HEV.out.size))
          clear b1
          have HE1 := hid e1
          have HE2 := hid e2
          clear e1 e2
          go_wp2_with (fail)
          refine (HVF.out _).mono ?_
          rintro e w2 ⟨rfl, b2⟩
          obtain ⟨e1, e2⟩ := keep_blk HE1.out HE2.out b2
          have E2 := hid (E1.out.trans (b2.mono E1.out.size))
          clear b2
          have HE1 := hid e1
          have HE2 := hid e2
          obtain ⟨y0, _⟩ := cell_at (j := 0) (v := .int .i64 PP) e1 rfl
          obtain ⟨y1, _⟩ := cell_at (j := 1) (v := .int .i64 QQ) e1 rfl
          obtain ⟨y2, _⟩ := cell_at (j := 2) (v := .int .i64 P) e1 rfl
          obtain ⟨y3, _⟩ := cell_at (j := 3) (v := .int .i64 Q) e1 rfl
          obtain ⟨y4, _⟩ := cell_at (j := 4) (v := .bool false) e1 rfl
          have cx2 := (E2.out.cell (p := ⟨g, o, none⟩) hgw).trans HCX.out
          clear e1 e2
          go_wp2_with (fail)
          go_region_with (first | (go_at_call 91; refine (HBH.out _).mono ?_; rintro e w3 ⟨rfl, b3⟩; obtain ⟨g1, g2, B3⟩ := keep_two HE1.out HE2.out b3; have cx3 := (B3.cell (p := ⟨g, o, none⟩) (Nat.lt_of_lt_of_le hgw E2.out.size)).trans cx2; have E3 := hid (E2.out.trans (B3.mono E2.out.size)); have G1 := hid g1; have G2 := hid g2; clear g1 g2 b3 B3) | (go_at_call 65; refine (IH.out _ E3.out).mono ?_; rintro e w4 ⟨rfl, b4⟩; obtain ⟨g1, g2⟩ := keep_blk G1.out G2.out b4; obtain ⟨z0, f0⟩ := cell_at (j := 0) (v := .int .i64 0) g2 rfl; obtain ⟨z1, f1⟩ := cell_at (j := 1) (v := .int .i64 0) g2 rfl; obtain ⟨z2, f2⟩ := cell_at (j := 2) (v := .int .i64 0) g2 rfl; obtain ⟨z3, f3⟩ := cell_at (j := 3) (v := .int .i64 0) g2 rfl; obtain ⟨z4, f4⟩ := cell_at (j := 4) (v := .bool false) g2 rfl; have E4 := hid (E3.out.trans (b4.mono E3.out.size)); have K2 := hid g2; clear g1 g2 b4))
          all_goals
            go_wp2_with (fail)
            rw [HR.out]
            have s5 := set5 K2.out (.int .i64 v0) (.int .i64 v1) (.int .i64 v2) (.int .i64 v3) (.bool v4)
            obtain ⟨r0, _⟩ := cell_at (j := 0) (v := .int .i64 v0) s5 rfl
            obtain ⟨r1, _⟩ := cell_at (j := 1) (v := .int .i64 v1) s5 rfl
            obtain ⟨r2, _⟩ := cell_at (j := 2) (v := .int .i64 v2) s5 rfl
            obtain ⟨r3, _⟩ := cell_at (j := 3) (v := .int .i64 v3) s5 rfl
            obtain ⟨r4, _⟩ := cell_at (j := 4) (v := .bool v4) s5 rfl
            refine bodyPost_ret (v := .tuple #[.agg #[.int .i64 v0, .int .i64 v1, .int .i64 v2, .int .i64 v3, .bool v4], .int .i64 k5]) (by simp [results, Try.results65, go_sem, r0, r1, r2, r3, r4]) rfl ⟨rfl, ?_⟩
            exact below5 E4.out (by omega) _ _ _ _ _
        · rw [show wal true P Q PP QQ = #[.int .i64 P, .int .i64 Q, .int .i64 PP, .int .i64 QQ, .bool true] from rfl]
          have HBT := hid (fun w => implBetween P Q PP QQ w (by omega) (by omega) (by omega) (by omega) (by omega) (by omega) (by omega) (by omega))
          have HVF := hid (fun w => implValid (P + PP) (Q + QQ) w)
          rw [ho] at HVF
          obtain ⟨e1, e2, EV⟩ := new_two w (.cells #[.int .i64 P, .int .i64 Q, .int .i64 PP, .int .i64 QQ, .bool true] 79) (.cells #[.int .i64 0, .int .i64 0, .int .i64 0, .int .i64 0, .bool false] 79)
          obtain ⟨V, hV⟩ : ∃ V : World, V = (w.alloc (.cells #[.int .i64 P, .int .i64 Q, .int .i64 PP, .int .i64 QQ, .bool true] 79)).alloc (.cells #[.int .i64 0, .int .i64 0, .int .i64 0, .int .i64 0, .bool false] 79) := ⟨_, rfl⟩
          rw [← hV] at e1 e2 EV
          have e1 : V.heap[w.heap.size]? = some (.cells #[.int .i64 P, .int .i64 Q, .int .i64 PP, .int .i64 QQ, .bool true] 79 (0, 0)) := e1
          have e2 : V.heap[w.heap.size + 1]? = some (.cells #[.int .i64 0, .int .i64 0, .int .i64 0, .int .i64 0, .bool false] 79 (0, 0)) := e2
          obtain ⟨y0, _⟩ := cell_at (j := 0) (v := .int .i64 P) e1 rfl
          obtain ⟨y1, _⟩ := cell_at (j := 1) (v := .int .i64 Q) e1 rfl
          obtain ⟨y2, _⟩ := cell_at (j := 2) (v := .int .i64 PP) e1 rfl
          obtain ⟨y3, _⟩ := cell_at (j := 3) (v := .int .i64 QQ) e1 rfl
          obtain ⟨y4, _⟩ := cell_at (j := 4) (v := .bool true) e1 rfl
          have HE1 := hid e1
          have HE2 := hid e2
          have HEV := hid EV
          have HV := hid hV
          clear hV
          obtain ⟨v0, v1, v2, v3, v4, h5⟩ := folA_five false r (fo (PP + x * P) (QQ + x * Q) P Q r)
          obtain ⟨k5, hk5⟩ : ∃ k5, k5 = folC (fo (PP + x * P) (QQ + x * Q) P Q r) := ⟨_, rfl⟩
          have HV5 := hid (show folV false r (fo (PP + x * P) (QQ + x * Q) P Q r) = .tuple #[.agg #[.int .i64 v0, .int .i64 v1, .int .i64 v2, .int .i64 v3, .bool v4], .int .i64 k5] by rw [folV_eq, h5, hk5])
          have HR := hid (show folV true (x :: r) (fo P Q PP QQ (x :: r)) = .tuple #[.agg #[.int .i64 v0, .int .i64 v1, .int .i64 v2, .int .i64 v3, .bool v4], .int .i64 k5] by rw [folV_next, fo_cons ho]; exact HV5.out)
          have IH := hid (fun (w' : World) (h : Below w.heap.size w w') => ih false (PP + x * P) (QQ + x * Q) P Q g (o + 1) (n - 1) (c - 1) w' (inv_step hi hx0) (by omega) (by omega) (by omega) (by omega) (by omega) (by omega) (by omega) (fun z hz => hb z (by simp [hz])) (fun j y hj => by have := ints_below ha h (j + 1) y (by simpa using hj); rwa [← Nat.add_assoc, Nat.add_right_comm] at this))
          rw [HV5.out] at IH
          rw [show wal false (PP + x * P) (QQ + x * Q) P Q = #[.int .i64 (P), .int .i64 (Q), .int .i64 (PP + x * P), .int .i64 (QQ + x * Q), .bool false] from rfl] at IH
          have HBH := hid (fun w => implBehindL P Q PP QQ x w (by omega) (by omega) (by omega) (by omega) (by omega) (by omega) (by omega) (by omega) hx0 hx1)
          have hgw : g < w.heap.size := World.block_lt_of_cell? _ _ cx
          have HCX := hid cx
          clear h5 hk5 HV5 cx
          clear ih
          clear e1 e2 EV y0 y1 y2 y3 y4
          have hn1 : (0 : Int) < (n : Int) := by omega
          clear hi hb p1 p2 p3 p4 i1 i2 i3 i4  ha
          clear s1 s2 m1 m2
          go_enter Try.func65, Try.ntmps65
          go_wp2_with (fail)
          rw [← HV.out]
          clear HV
          refine (HBT.out _).mono ?_
          rintro e w1 ⟨rfl, b1⟩
          obtain ⟨e1, e2⟩ := keep_blk HE1.out HE2.out b1
          have E1 := hid (HEV.out.trans (b1.mono HEV.out.size))
          clear b1
          have HE1 := hid e1
          have HE2 := hid e2
          clear e1 e2
          go_wp2_with (fail)
          refine (HVF.out _).mono ?_
          rintro e w2 ⟨rfl, b2⟩
          obtain ⟨e1, e2⟩ := keep_blk HE1.out HE2.out b2
          have E2 := hid (E1.out.trans (b2.mono E1.out.size))
          clear b2
          have HE1 := hid e1
          have HE2 := hid e2
          obtain ⟨y0, _⟩ := cell_at (j := 0) (v := .int .i64 P) e1 rfl
          obtain ⟨y1, _⟩ := cell_at (j := 1) (v := .int .i64 Q) e1 rfl
          obtain ⟨y2, _⟩ := cell_at (j := 2) (v := .int .i64 PP) e1 rfl
          obtain ⟨y3, _⟩ := cell_at (j := 3) (v := .int .i64 QQ) e1 rfl
          obtain ⟨y4, _⟩ := cell_at (j := 4) (v := .bool true) e1 rfl
          have cx2 := (E2.out.cell (p := ⟨g, o, none⟩) hgw).trans HCX.out
          clear e1 e2
          go_wp2_with (fail)
          go_region_with (first | (go_at_call 91; refine (HBH.out _).mono ?_; rintro e w3 ⟨rfl, b3⟩; obtain ⟨g1, g2, B3⟩ := keep_two HE1.out HE2.out b3; have cx3 := (B3.cell (p := ⟨g, o, none⟩) (Nat.lt_of_lt_of_le hgw E2.out.size)).trans cx2; have E3 := hid (E2.out.trans (B3.mono E2.out.size)); have G1 := hid g1; have G2 := hid g2; clear g1 g2 b3 B3) | (go_at_call 65; refine (IH.out _ E3.out).mono ?_; rintro e w4 ⟨rfl, b4⟩; obtain ⟨g1, g2⟩ := keep_blk G1.out G2.out b4; obtain ⟨z0, f0⟩ := cell_at (j := 0) (v := .int .i64 0) g2 rfl; obtain ⟨z1, f1⟩ := cell_at (j := 1) (v := .int .i64 0) g2 rfl; obtain ⟨z2, f2⟩ := cell_at (j := 2) (v := .int .i64 0) g2 rfl; obtain ⟨z3, f3⟩ := cell_at (j := 3) (v := .int .i64 0) g2 rfl; obtain ⟨z4, f4⟩ := cell_at (j := 4) (v := .bool false) g2 rfl; have E4 := hid (E3.out.trans (b4.mono E3.out.size)); have K2 := hid g2; clear g1 g2 b4))
          all_goals
            go_wp2_with (fail)
            rw [HR.out]
            have s5 := set5 K2.out (.int .i64 v0) (.int .i64 v1) (.int .i64 v2) (.int .i64 v3) (.bool v4)
            obtain ⟨r0, _⟩ := cell_at (j := 0) (v := .int .i64 v0) s5 rfl
            obtain ⟨r1, _⟩ := cell_at (j := 1) (v := .int .i64 v1) s5 rfl
            obtain ⟨r2, _⟩ := cell_at (j := 2) (v := .int .i64 v2) s5 rfl
            obtain ⟨r3, _⟩ := cell_at (j := 3) (v := .int .i64 v3) s5 rfl
            obtain ⟨r4, _⟩ := cell_at (j := 4) (v := .bool v4) s5 rfl
            refine bodyPost_ret (v := .tuple #[.agg #[.int .i64 v0, .int .i64 v1, .int .i64 v2, .int .i64 v3, .bool v4], .int .i64 k5]) (by simp [results, Try.results65, go_sem, r0, r1, r2, r3, r4]) rfl ⟨rfl, ?_⟩
            exact below5 E4.out (by omega) _ _ _ _ _

end Go.Proofs.Ytjijabfamjhdjaa
