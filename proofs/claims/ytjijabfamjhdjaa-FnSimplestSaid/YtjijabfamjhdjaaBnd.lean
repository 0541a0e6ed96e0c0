/- Contracts: bounds in the tree, and going along a path, by the program. -/
import Derived.Test.YtjijabfamjhdjaaVp
import Derived.Test.YtjijabfamjhdjaaTrf
import Derived.Test.YtjijabfamjhdjaaLv
import Derived.Test.YtjijabfamjhdjaaAri
namespace Go.Proofs.Ytjijabfamjhdjaa
open Go.RowKit

theorem implBetween (a b c d : Int) (w : World) (h0 : 0 ≤ a) (h1 : a ≤ 2000000000000000000) (h2 : 0 ≤ b) (h3 : b ≤ 2000000000000000000) (h4 : 0 ≤ c) (h5 : c ≤ 2000000000000000000) (h6 : 0 ≤ d) (h7 : d ≤ 2000000000000000000) :
    Calls Try.prog 54 #[.agg #[.int .i64 a, .int .i64 b, .int .i64 c, .int .i64 d]] w fun e w' => e = .returned (.agg #[.int .i64 (a + c), .int .i64 (b + d)]) ∧ Below w.heap.size w w' := by
  go_enter Try.func54, Try.ntmps54
  go_wp2_with (fail)
  refine bodyPost_ret (v := .agg #[.int .i64 (a + c), .int .i64 (b + d)]) (by simp [results, Try.results54, go_sem]) rfl ⟨rfl, ?_⟩
  exact ((Below.refl _ _).alloc (Nat.le_refl _) _).alloc (by simp) _

theorem implLeft (a b c d x : Int) (w : World) (h0 : 0 ≤ a) (h1 : a ≤ 1000000000) (h2 : 0 ≤ b) (h3 : b ≤ 1000000000) (h4 : 0 ≤ c) (h5 : c ≤ 1000000000) (h6 : 0 ≤ d) (h7 : d ≤ 1000000000) (h8 : 0 ≤ x) (h9 : x ≤ 1000000000) :
    Calls Try.prog 53 #[.agg #[.int .i64 a, .int .i64 b, .int .i64 c, .int .i64 d], .int .i64 x] w fun e w' => e = .returned (.agg #[.int .i64 a, .int .i64 b, .int .i64 (c + x * a), .int .i64 (d + x * b)]) ∧ Below w.heap.size w w' := by
  obtain ⟨p1, p2⟩ := mul_bd (a := x) (b := a) (by omega) h9 (by omega) h1
  obtain ⟨p3, p4⟩ := mul_bd (a := x) (b := b) (by omega) h9 (by omega) h3
  go_enter Try.func53, Try.ntmps53
  go_wp2_with (fail)
  refine bodyPost_ret (v := .agg #[.int .i64 a, .int .i64 b, .int .i64 (c + x * a), .int .i64 (d + x * b)]) (by simp [results, Try.results53, go_sem]) rfl ⟨rfl, ?_⟩
  exact ((Below.refl _ _).alloc (Nat.le_refl _) _).alloc (by simp) _

theorem implRight (a b c d x : Int) (w : World) (h0 : 0 ≤ a) (h1 : a ≤ 1000000000) (h2 : 0 ≤ b) (h3 : b ≤ 1000000000) (h4 : 0 ≤ c) (h5 : c ≤ 1000000000) (h6 : 0 ≤ d) (h7 : d ≤ 1000000000) (h8 : 0 ≤ x) (h9 : x ≤ 1000000000) :
    Calls Try.prog 55 #[.agg #[.int .i64 a, .int .i64 b, .int .i64 c, .int .i64 d], .int .i64 x] w fun e w' => e = .returned (.agg #[.int .i64 (a + x * c), .int .i64 (b + x * d), .int .i64 c, .int .i64 d]) ∧ Below w.heap.size w w' := by
  obtain ⟨p1, p2⟩ := mul_bd (a := x) (b := c) (by omega) h9 (by omega) h5
  obtain ⟨p3, p4⟩ := mul_bd (a := x) (b := d) (by omega) h9 (by omega) h7
  go_enter Try.func55, Try.ntmps55
  go_wp2_with (fail)
  refine bodyPost_ret (v := .agg #[.int .i64 (a + x * c), .int .i64 (b + x * d), .int .i64 c, .int .i64 d]) (by simp [results, Try.results55, go_sem]) rfl ⟨rfl, ?_⟩
  exact ((Below.refl _ _).alloc (Nat.le_refl _) _).alloc (by simp) _

theorem implTop (w : World) :
    Calls Try.prog 64 #[] w fun e w' => e = .returned (.agg #[.int .i64 0, .int .i64 1, .int .i64 1, .int .i64 0, .bool false]) ∧ Below w.heap.size w w' := by
  go_enter Try.func64, Try.ntmps64
  go_wp2_with (fail)
  refine bodyPost_ret (v := .agg #[.int .i64 0, .int .i64 1, .int .i64 1, .int .i64 0, .bool false]) (by simp [results, Try.results64, go_sem]) rfl ⟨rfl, ?_⟩
  exact ((Below.refl _ _).alloc (Nat.le_refl _) _)

/-- What the callee leaves of the walker's own blocks. -/
theorem own_two {w w1 : World} {n : Nat} (os os2 : Array Value) (t : TypeId) (b1 : Below (((w.alloc (.cells os t)).alloc (.cells os2 t)).drewN n).heap.size (((w.alloc (.cells os t)).alloc (.cells os2 t)).drewN n) w1) :
    w1.heap[w.heap.size]? = some (.cells os t (0, 0)) ∧ w1.heap[w.heap.size + 1]? = some (.cells os2 t (0, 0)) ∧ Below w.heap.size w w1 := by
  have e1 := b1.block w.heap.size (by simp; omega)
  have e2 := b1.block (w.heap.size + 1) (by simp)
  refine ⟨e1.trans ?_, e2.trans ?_, ?_⟩
  · show ((w.heap.push _).push _)[w.heap.size]? = _
    rw [Array.getElem?_push_lt (by simp), Array.getElem_push_eq]
  · show ((w.heap.push _).push _)[w.heap.size + 1]? = _
    have : w.heap.size + 1 = (w.heap.push (Obj.cells os t)).size := by simp
    rw [this, Array.getElem?_push_size]
  · exact (below_drewN (((Below.refl w.heap.size w).alloc (Nat.le_refl _) _).alloc (by simp) _) n).trans (b1.mono (by simp; omega))
theorem cell_at {w : World} {b : Nat} {os : Array Value} {t : TypeId} {v : Value} {j : Nat} (h : w.heap[b]? = some (.cells os t (0, 0))) (hv : os[j]? = some v) : w.cell? ⟨b, j, none⟩ = some v ∧ w.frozen? ⟨b, j, none⟩ = false := by
  constructor
  · simp [World.cell?, h, hv]
  · simp [World.frozen?, h]
theorem set5 {w : World} {b : Nat} {t : TypeId} {o0 o1 o2 o3 o4 : Value} (h : w.heap[b]? = some (.cells #[o0, o1, o2, o3, o4] t (0, 0))) (v0 v1 v2 v3 v4 : Value) :
    (((((w.setCell ⟨b, 0, none⟩ v0).setCell ⟨b, 1, none⟩ v1).setCell ⟨b, 2, none⟩ v2).setCell ⟨b, 3, none⟩ v3).setCell ⟨b, 4, none⟩ v4).heap[b]? = some (.cells #[v0, v1, v2, v3, v4] t (0, 0)) := by
  have h1 := heap_setCell_same w b 0 _ _ v0 h
  have h2 := heap_setCell_same _ b 1 _ _ v1 h1
  have h3 := heap_setCell_same _ b 2 _ _ v2 h2
  have h4 := heap_setCell_same _ b 3 _ _ v3 h3
  exact heap_setCell_same _ b 4 _ _ v4 h4
theorem below5 {W w : World} {B b : Nat} (h : Below B W w) (hb : B ≤ b) (v0 v1 v2 v3 v4 : Value) :
    Below B W (((((w.setCell ⟨b, 0, none⟩ v0).setCell ⟨b, 1, none⟩ v1).setCell ⟨b, 2, none⟩ v2).setCell ⟨b, 3, none⟩ v3).setCell ⟨b, 4, none⟩ v4) :=
  ((((h.setCell (p := ⟨b, 0, none⟩) hb v0).setCell (p := ⟨b, 1, none⟩) hb v1).setCell (p := ⟨b, 2, none⟩) hb v2).setCell (p := ⟨b, 3, none⟩) hb v3).setCell (p := ⟨b, 4, none⟩) hb v4

set_option maxHeartbeats 800000 in
theorem implBehindR (a b c d x : Int) (w : World) (h0 : 0 ≤ a) (h1 : a ≤ 1000000000) (h2 : 0 ≤ b) (h3 : b ≤ 1000000000) (h4 : 0 ≤ c) (h5 : c ≤ 1000000000) (h6 : 0 ≤ d) (h7 : d ≤ 1000000000) (h8 : 0 ≤ x) (h9 : x ≤ 1000000000) :
    Calls Try.prog 91 #[.agg #[.int .i64 a, .int .i64 b, .int .i64 c, .int .i64 d, .bool false], .int .i64 x] w fun e w' => e = .returned (.agg #[.int .i64 (a + x * c), .int .i64 (b + x * d), .int .i64 (c), .int .i64 (d), .bool true]) ∧ Below w.heap.size w w' := by
  have hmf : ∀ (fn : Fn) (first cap : Array Value) (w : World), (Instr.makeFunc fn first cap).run Try.prog w = .ok (.func fn first cap) w := fun _ _ _ _ => rfl
  have HR := hid (fun w => implRight a b c d x w h0 h1 h2 h3 h4 h5 h6 h7 h8 h9)
  clear h0 h1 h2 h3 h4 h5 h6 h7 h8 h9
  go_enter Try.func91, Try.ntmps91
  go_wp2_with (fail)
  go_region_with (go_at_call 55; refine (HR.out _).mono ?_; rintro e w1 ⟨rfl, b1⟩; obtain ⟨e1, e2, E⟩ := own_two _ _ _ b1; have k4 := (cell_at (j := 4) (v := .bool false) e1 rfl).1; obtain ⟨z0, f0⟩ := cell_at (j := 0) (v := .int .i64 0) e2 rfl; obtain ⟨z1, f1⟩ := cell_at (j := 1) (v := .int .i64 0) e2 rfl; obtain ⟨z2, f2⟩ := cell_at (j := 2) (v := .int .i64 0) e2 rfl; obtain ⟨z3, f3⟩ := cell_at (j := 3) (v := .int .i64 0) e2 rfl; obtain ⟨z4, f4⟩ := cell_at (j := 4) (v := .bool false) e2 rfl; have E1 := hid E; have E2 := hid e2; clear b1 e1 e2 E)
  all_goals
    go_wp2_with (fail)
    have s5 := set5 E2.out (.int .i64 (a + x * c)) (.int .i64 (b + x * d)) (.int .i64 (c)) (.int .i64 (d)) (.bool true)
    obtain ⟨r0, _⟩ := cell_at (j := 0) (v := .int .i64 (a + x * c)) s5 rfl
    obtain ⟨r1, _⟩ := cell_at (j := 1) (v := .int .i64 (b + x * d)) s5 rfl
    obtain ⟨r2, _⟩ := cell_at (j := 2) (v := .int .i64 (c)) s5 rfl
    obtain ⟨r3, _⟩ := cell_at (j := 3) (v := .int .i64 (d)) s5 rfl
    obtain ⟨r4, _⟩ := cell_at (j := 4) (v := .bool true) s5 rfl
    refine bodyPost_ret (v := .agg #[.int .i64 (a + x * c), .int .i64 (b + x * d), .int .i64 (c), .int .i64 (d), .bool true]) (by simp [results, Try.results91, go_sem, r0, r1, r2, r3, r4]) rfl ⟨rfl, ?_⟩
    exact below5 E1.out (by omega) _ _ _ _ _

set_option maxHeartbeats 800000 in
theorem implBehindL (a b c d x : Int) (w : World) (h0 : 0 ≤ a) (h1 : a ≤ 1000000000) (h2 : 0 ≤ b) (h3 : b ≤ 1000000000) (h4 : 0 ≤ c) (h5 : c ≤ 1000000000) (h6 : 0 ≤ d) (h7 : d ≤ 1000000000) (h8 : 0 ≤ x) (h9 : x ≤ 1000000000) :
    Calls Try.prog 91 #[.agg #[.int .i64 a, .int .i64 b, .int .i64 c, .int .i64 d, .bool true], .int .i64 x] w fun e w' => e = .returned (.agg #[.int .i64 (a), .int .i64 (b), .int .i64 (c + x * a), .int .i64 (d + x * b), .bool false]) ∧ Below w.heap.size w w' := by
  have hmf : ∀ (fn : Fn) (first cap : Array Value) (w : World), (Instr.makeFunc fn first cap).run Try.prog w = .ok (.func fn first cap) w := fun _ _ _ _ => rfl
  have HR := hid (fun w => implLeft a b c d x w h0 h1 h2 h3 h4 h5 h6 h7 h8 h9)
  clear h0 h1 h2 h3 h4 h5 h6 h7 h8 h9
  go_enter Try.func91, Try.ntmps91
  go_wp2_with (fail)
  go_region_with (go_at_call 53; refine (HR.out _).mono ?_; rintro e w1 ⟨rfl, b1⟩; obtain ⟨e1, e2, E⟩ := own_two _ _ _ b1; have k4 := (cell_at (j := 4) (v := .bool true) e1 rfl).1; obtain ⟨z0, f0⟩ := cell_at (j := 0) (v := .int .i64 0) e2 rfl; obtain ⟨z1, f1⟩ := cell_at (j := 1) (v := .int .i64 0) e2 rfl; obtain ⟨z2, f2⟩ := cell_at (j := 2) (v := .int .i64 0) e2 rfl; obtain ⟨z3, f3⟩ := cell_at (j := 3) (v := .int .i64 0) e2 rfl; obtain ⟨z4, f4⟩ := cell_at (j := 4) (v := .bool false) e2 rfl; have E1 := hid E; have E2 := hid e2; clear b1 e1 e2 E)
  all_goals
    go_wp2_with (fail)
    have s5 := set5 E2.out (.int .i64 (a)) (.int .i64 (b)) (.int .i64 (c + x * a)) (.int .i64 (d + x * b)) (.bool false)
    obtain ⟨r0, _⟩ := cell_at (j := 0) (v := .int .i64 (a)) s5 rfl
    obtain ⟨r1, _⟩ := cell_at (j := 1) (v := .int .i64 (b)) s5 rfl
    obtain ⟨r2, _⟩ := cell_at (j := 2) (v := .int .i64 (c + x * a)) s5 rfl
    obtain ⟨r3, _⟩ := cell_at (j := 3) (v := .int .i64 (d + x * b)) s5 rfl
    obtain ⟨r4, _⟩ := cell_at (j := 4) (v := .bool false) s5 rfl
    refine bodyPost_ret (v := .agg #[.int .i64 (a), .int .i64 (b), .int .i64 (c + x * a), .int .i64 (d + x * b), .bool false]) (by simp [results, Try.results91, go_sem, r0, r1, r2, r3, r4]) rfl ⟨rfl, ?_⟩
    exact below5 E1.out (by omega) _ _ _ _ _

end Go.Proofs.Ytjijabfamjhdjaa
