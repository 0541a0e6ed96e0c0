/- Contracts: the bounds around a fraction, by the program and by the model. -/
import Derived.Test.YtjijabfamjhdjaaPar
namespace Go.Proofs.Ytjijabfamjhdjaa
open Go.RowKit

/-- Both convergents, as bounds on the left and on the right. -/
def bQ (k : Nat) (m : Int × Int × Int × Int) : Int × Int × Int × Int := if k % 2 = 0 then (m.2.2.1, m.2.2.2, m.1, m.2.1) else m
theorem bQ_even {k : Nat} (h : k % 2 = 0) (m : Int × Int × Int × Int) : bQ k m = (m.2.2.1, m.2.2.2, m.1, m.2.1) := if_pos h
theorem bQ_odd {k : Nat} (h : ¬ k % 2 = 0) (m : Int × Int × Int × Int) : bQ k m = m := if_neg h
theorem folA_bQ : ∀ (xs : List Int) (l : Bool) (m : Int × Int × Int × Int), ∃ e, folA l xs (some m) = #[.int .i64 (bQ (xs.length + (if l then 1 else 0)) m).1, .int .i64 (bQ (xs.length + (if l then 1 else 0)) m).2.1, .int .i64 (bQ (xs.length + (if l then 1 else 0)) m).2.2.1, .int .i64 (bQ (xs.length + (if l then 1 else 0)) m).2.2.2, .bool e]
  | [], l, m => by
    cases l
    · exact ⟨false, rfl⟩
    · exact ⟨true, rfl⟩
  | x :: xs, l, m => by
    obtain ⟨e, h⟩ := folA_bQ xs (!l) m
    refine ⟨e, ?_⟩
    show folA (!l) xs (some m) = _
    rw [h]
    have e1 : bQ (xs.length + (if (!l) = true then 1 else 0)) m = bQ ((x :: xs).length + (if l = true then 1 else 0)) m := by
      cases l
      · rfl
      · show bQ (xs.length + 0) m = bQ (xs.length + 1 + 1) m
        unfold bQ
        have : (xs.length + 0) % 2 = (xs.length + 1 + 1) % 2 := by omega
        rw [this]
    rw [e1]
/-- The bounds around a positive fraction. -/
def bnd (n d : Int) : Int × Int × Int × Int := match fo 1 0 0 1 (pathF n d) with | some m => bQ (pathF n d).length m | none => (0, 0, 0, 0)
theorem bnd_some {n d : Int} {m : Int × Int × Int × Int} (h : fo 1 0 0 1 (pathF n d) = some m) : bnd n d = bQ (pathF n d).length m := by unfold bnd; rw [h]
theorem bnd_nums {n d : Int} (h : okF n d = true) (hn : 1 ≤ n) : 0 ≤ (bnd n d).1 ∧ 0 ≤ (bnd n d).2.1 ∧ 0 ≤ (bnd n d).2.2.1 ∧ 0 ≤ (bnd n d).2.2.2 ∧ (bnd n d).1 + (bnd n d).2.2.1 = n ∧ (bnd n d).2.1 + (bnd n d).2.2.2 = d := by
  obtain ⟨m, hm, hmid⟩ := path_fo h hn
  obtain ⟨⟨i1, i2, i3, i4, _⟩, _⟩ := fo_inv _ _ _ _ _ m inv_top (okP_nonneg (path_ok h hn)) hm
  rw [bnd_some hm]
  have e1 : m.1 + m.2.2.1 = n := congrArg Prod.fst hmid
  have e2 : m.2.1 + m.2.2.2 = d := congrArg Prod.snd hmid
  by_cases hk : (pathF n d).length % 2 = 0
  · rw [bQ_even hk]
    exact ⟨i3, i4, i1, i2, by dsimp only; omega, by dsimp only; omega⟩
  · rw [bQ_odd hk]
    exact ⟨i1, i2, i3, i4, e1, e2⟩

theorem set4 {w : World} {b : Nat} {t : TypeId} {o0 o1 o2 o3 : Value} (h : w.heap[b]? = some (.cells #[o0, o1, o2, o3] t (0, 0))) (v0 v1 v2 v3 : Value) :
    ((((w.setCell ⟨b, 0, none⟩ v0).setCell ⟨b, 1, none⟩ v1).setCell ⟨b, 2, none⟩ v2).setCell ⟨b, 3, none⟩ v3).heap[b]? = some (.cells #[v0, v1, v2, v3] t (0, 0)) := by
  have h1 := heap_setCell_same w b 0 _ _ v0 h
  have h2 := heap_setCell_same _ b 1 _ _ v1 h1
  have h3 := heap_setCell_same _ b 2 _ _ v2 h2
  exact heap_setCell_same _ b 3 _ _ v3 h3
theorem below4 {W w : World} {B b : Nat} (h : Below B W w) (hb : B ≤ b) (v0 v1 v2 v3 : Value) :
    Below B W ((((w.setCell ⟨b, 0, none⟩ v0).setCell ⟨b, 1, none⟩ v1).setCell ⟨b, 2, none⟩ v2).setCell ⟨b, 3, none⟩ v3) :=
  (((h.setCell (p := ⟨b, 0, none⟩) hb v0).setCell (p := ⟨b, 1, none⟩) hb v1).setCell (p := ⟨b, 2, none⟩) hb v2).setCell (p := ⟨b, 3, none⟩) hb v3
theorem set5_other {w : World} {b z : Nat} {O : Obj} (h : w.heap[b]? = some O) (hz : b ≠ z) (v0 v1 v2 v3 v4 : Value) :
    (((((w.setCell ⟨z, 0, none⟩ v0).setCell ⟨z, 1, none⟩ v1).setCell ⟨z, 2, none⟩ v2).setCell ⟨z, 3, none⟩ v3).setCell ⟨z, 4, none⟩ v4).heap[b]? = some O := by
  rw [heap_setCell_other _ ⟨z, 4, none⟩ b _ hz, heap_setCell_other _ ⟨z, 3, none⟩ b _ hz, heap_setCell_other _ ⟨z, 2, none⟩ b _ hz, heap_setCell_other _ ⟨z, 1, none⟩ b _ hz, heap_setCell_other _ ⟨z, 0, none⟩ b _ hz]
  exact h
theorem blk4 {w : World} {b : Nat} {x y z u : Value} {t : TypeId} (h : w.heap[b]? = some (.cells #[x, y, z, u] t (0, 0))) : w.cell? ⟨b, 0, none⟩ = some x ∧ w.cell? ⟨b, 1, none⟩ = some y ∧ w.cell? ⟨b, 2, none⟩ = some z ∧ w.cell? ⟨b, 3, none⟩ = some u ∧ w.frozen? ⟨b, 0, none⟩ = false ∧ w.frozen? ⟨b, 1, none⟩ = false ∧ w.frozen? ⟨b, 2, none⟩ = false ∧ w.frozen? ⟨b, 3, none⟩ = false ∧ b < w.heap.size := by
  refine ⟨?_, ?_, ?_, ?_, ?_, ?_, ?_, ?_, (Array.getElem?_eq_some_iff.1 h).1⟩
  all_goals simp [World.cell?, World.frozen?, h]

theorem new_drew {X : World} {n : Nat} {O : Obj} : ((X.drewN n).alloc O).heap[X.heap.size]? = some O := by
  have h := new_at (X.drewN n) O
  simpa using h
theorem new_dr {X : World} {O : Obj} : ((X.drew).alloc O).heap[X.heap.size]? = some O := by
  have h := new_at X.drew O
  simpa using h
theorem step_below {w X W w' : World} (h0 : Below w.heap.size w X) (h1 : Below X.heap.size X W) (h2 : Below W.heap.size W w') : Below X.heap.size X w' ∧ Below w.heap.size w w' := by
  have h3 := h1.trans (h2.mono h1.size)
  exact ⟨h3, h0.trans (h3.mono h0.size)⟩
theorem zcont {P : Prop} {W w' : World} {z : Nat} {O : Obj} (hb : Below W.heap.size W w') (hlt : z < W.heap.size) (h : W.heap[z]? = some O) (k : Hid (w'.heap[z]? = some O) → P) : P := k (hid ((hb.block z hlt).trans h))
theorem blk5 {w : World} {b : Nat} {x y z u v : Value} {t : TypeId} (h : w.heap[b]? = some (.cells #[x, y, z, u, v] t (0, 0))) : (w.cell? ⟨b, 0, none⟩ = some x ∧ w.cell? ⟨b, 1, none⟩ = some y ∧ w.cell? ⟨b, 2, none⟩ = some z ∧ w.cell? ⟨b, 3, none⟩ = some u ∧ w.cell? ⟨b, 4, none⟩ = some v) ∧ w.frozen? ⟨b, 0, none⟩ = false ∧ w.frozen? ⟨b, 1, none⟩ = false ∧ w.frozen? ⟨b, 2, none⟩ = false ∧ w.frozen? ⟨b, 3, none⟩ = false ∧ w.frozen? ⟨b, 4, none⟩ = false ∧ b < w.heap.size := by
  refine ⟨⟨?_, ?_, ?_, ?_, ?_⟩, ?_, ?_, ?_, ?_, ?_, (Array.getElem?_eq_some_iff.1 h).1⟩
  all_goals simp [World.cell?, World.frozen?, h]

def bV (b : Int × Int × Int × Int) : Value := .agg #[.int .i64 b.1, .int .i64 b.2.1, .int .i64 b.2.2.1, .int .i64 b.2.2.2]

set_option maxRecDepth 100000 in
set_option maxHeartbeats 40000000 in
theorem implAround (n d : Int) (w : World) (ho : okF n d = true) (hn : 1 ≤ n) :
    Calls Try.prog 52 #[.agg #[.int .i64 n, .int .i64 d]] w fun e w' => e = .returned (bV (bnd n d)) ∧ Below w.heap.size w w' := by
  obtain ⟨m, hm, _⟩ := path_fo ho hn
  have hok := path_ok ho hn
  have hl60 := okP_len hok
  have HR := hid (fun w => implRunsTo n d w ho)
  have HT := hid (fun (w : World) => implTop w)
  have HF := hid (fun (g c : Nat) (w' : World) (hc : (pathF n d).length ≤ c) (h : Ints w' g 0 (pathF n d)) => implFollow (pathF n d) false 1 0 0 1 g 0 (pathF n d).length c w' inv_top (by decide) (by decide) (by decide) (by decide) rfl (by omega) hc (fun z hz => by
    obtain ⟨j, hj⟩ := List.mem_iff_getElem?.1 hz
    exact okP_bd hok hj) h)
  obtain ⟨e5, h5⟩ := folA_bQ (pathF n d) false m
  rw [hm, folV_eq, h5] at HF
  rw [show folC (some m) = 0 from rfl, show wal false 1 0 0 1 = #[.int .i64 0, .int .i64 1, .int .i64 1, .int .i64 0, .bool false] from rfl] at HF
  rw [bnd_some hm]
  unfold bV
  rw [show (pathF n d).length + (if false = true then 1 else 0) = (pathF n d).length from rfl] at HF
  generalize bQ (pathF n d).length m = q at *
  obtain ⟨p, q, r, t⟩ := q
  dsimp only at HF ⊢
  clear ho hn hm h5 hok
  generalize pathF n d = xs at *
  obtain ⟨e1, e2, EV⟩ := new_two w (.cells #[.int .i64 n, .int .i64 d] 25) (.cells #[.int .i64 0, .int .i64 0, .int .i64 0, .int .i64 0] 66)
  obtain ⟨V, hV⟩ : ∃ V : World, V = (w.alloc (.cells #[.int .i64 n, .int .i64 d] 25)).alloc (.cells #[.int .i64 0, .int .i64 0, .int .i64 0, .int .i64 0] 66) := ⟨_, rfl⟩
  rw [← hV] at e1 e2 EV
  have HE1 := hid (show V.heap[w.heap.size]? = some (.cells #[.int .i64 n, .int .i64 d] 25 (0, 0)) from e1)
  have HE2 := hid (show V.heap[w.heap.size + 1]? = some (.cells #[.int .i64 0, .int .i64 0, .int .i64 0, .int .i64 0] 66 (0, 0)) from e2)
  have HEV := hid EV
  have HV := hid hV
  have hVs : w.heap.size + 1 < V.heap.size := (Array.getElem?_eq_some_iff.1 e2).1
  clear hV e1 e2 EV
  go_enter Try.func52, Try.ntmps52
  go_wp2_with (fail)
  rw [← HV.out]
  clear HV
  obtain ⟨a0, a1, _, _, _⟩ := blk2 HE1.out
  go_region_with (first | (go_at_call 64; refine (HT.out _).mono ?_; rintro e w1 ⟨rfl, b1⟩; obtain ⟨B1, E⟩ := step_below HEV.out (by repeat (first | exact Below.refl _ _ | refine below_drewN ?_ _ | refine Below.drew ?_ | refine Below.alloc ?_ (by first | omega | (simp <;> omega)) _)) b1; obtain ⟨g1, g2⟩ := keep_blk HE1.out HE2.out B1; obtain ⟨c0, c1, _, _, l1⟩ := blk2 g1; have hl1 := B1.size; have G1 := hid g1; have G2 := hid g2; have E1 := hid E; (first | (refine zcont b1 (z := V.heap.size) (O := .cells #[.int .i64 0, .int .i64 0, .int .i64 0, .int .i64 0, .bool false] 79 (0, 0)) ?_ ?_ ?_; simp; (first | exact new_dr | exact new_drew | exact new_at _ _); intro Z1) | skip); clear g1 g2 b1 B1 E) | (go_at_call 48; refine (HR.out _).mono ?_; rintro e w2 ⟨g, c, rfl, o, b2⟩; obtain ⟨B2, E⟩ := step_below E1.out (by repeat (first | exact Below.refl _ _ | refine below_drewN ?_ _ | refine Below.drew ?_ | refine Below.alloc ?_ (by first | omega | (simp <;> omega)) _)) b2; obtain ⟨g1, g2⟩ := keep_blk G1.out G2.out B2; have hl2 := B2.size; have J1 := hid g1; have J2 := hid g2; have O := hid (own_ints o); have OC := hid (own_cap o); have E2 := hid E; (first | (refine zcont b2 ?_ Z1.out ?_; exact (Array.getElem?_eq_some_iff.1 Z1.out).1; intro Z2) | (refine zcont b2 (z := w1.heap.size) (O := .cells #[.int .i64 0, .int .i64 0, .int .i64 0, .int .i64 0, .bool false] 79 (0, 0)) ?_ ?_ ?_; simp; (first | exact new_dr | exact new_drew | exact new_at _ _); intro Z2) | skip); clear g1 g2 b2 o B2 E) | (go_at_call 65; refine (HF.out g c _ OC.out (ints_below O.out (by repeat (first | exact Below.refl _ _ | refine below_drewN ?_ _ | refine Below.drew ?_ | refine Below.alloc ?_ (by first | omega | (simp <;> omega)) _)))).mono ?_; rintro e w3 ⟨rfl, b3⟩; obtain ⟨B3, E⟩ := step_below E2.out (by repeat (first | exact Below.refl _ _ | refine below_drewN ?_ _ | refine Below.drew ?_ | refine Below.alloc ?_ (by first | omega | (simp <;> omega)) _)) b3; obtain ⟨g1, g2⟩ := keep_blk J1.out J2.out B3; have hl3 := B3.size; have L2 := hid g2; obtain ⟨z0, z1, z2, z3, f0, f1, f2, f3, zl⟩ := blk4 L2.out; have E3 := hid E; (first | (refine zcont b3 ?_ Z2.out ?_; exact (Array.getElem?_eq_some_iff.1 Z2.out).1; intro Z3) | (refine zcont b3 (z := w2.heap.size) (O := .cells #[.int .i64 0, .int .i64 0, .int .i64 0, .int .i64 0, .bool false] 79 (0, 0)) ?_ ?_ ?_; simp; (first | exact new_dr | exact new_drew | exact new_at _ _); intro Z3) | skip); (first | (revert Z3; intro Z3; obtain ⟨⟨v0, v1, v2, v3, v4⟩, k0, k1, k2, k3, k4, kl⟩ := blk5 Z3.out) | skip); clear g1 g2 b3 B3 E))
  all_goals
    go_wp2_with (fail)
    first
      | (have s4 := set4 L2.out (.int .i64 p) (.int .i64 q) (.int .i64 r) (.int .i64 t)
         have b4 := below4 E3.out (show w.heap.size ≤ w.heap.size + 1 by omega) (.int .i64 p) (.int .i64 q) (.int .i64 r) (.int .i64 t)
         have s4' := old_at s4 (.cells #[.int .i64 p, .int .i64 q, .int .i64 r, .int .i64 t, .bool e5] 79)
         obtain ⟨r0, r1, r2, r3, _⟩ := blk4 s4'
         refine bodyPost_ret (v := .agg #[.int .i64 p, .int .i64 q, .int .i64 r, .int .i64 t]) ?_ rfl ⟨rfl, ?_⟩
         · simp [results, Try.results52, go_sem, r0, r1, r2, r3]
         · exact b4.alloc b4.size _)
      | (have s4 := set4 (set5_other L2.out (show w.heap.size + 1 ≠ w2.heap.size by omega) (.int .i64 p) (.int .i64 q) (.int .i64 r) (.int .i64 t) (.bool e5)) (.int .i64 p) (.int .i64 q) (.int .i64 r) (.int .i64 t)
         obtain ⟨r0, r1, r2, r3, _⟩ := blk4 s4
         refine bodyPost_ret (v := .agg #[.int .i64 p, .int .i64 q, .int .i64 r, .int .i64 t]) ?_ rfl ⟨rfl, ?_⟩
         · simp [results, Try.results52, go_sem, r0, r1, r2, r3]
         · exact below4 (below5 E3.out (show w.heap.size ≤ w2.heap.size by omega) _ _ _ _ _) (by omega) _ _ _ _)
      | (have s4 := set4 (set5_other L2.out (show w.heap.size + 1 ≠ w1.heap.size by omega) (.int .i64 p) (.int .i64 q) (.int .i64 r) (.int .i64 t) (.bool e5)) (.int .i64 p) (.int .i64 q) (.int .i64 r) (.int .i64 t)
         obtain ⟨r0, r1, r2, r3, _⟩ := blk4 s4
         refine bodyPost_ret (v := .agg #[.int .i64 p, .int .i64 q, .int .i64 r, .int .i64 t]) ?_ rfl ⟨rfl, ?_⟩
         · simp [results, Try.results52, go_sem, r0, r1, r2, r3]
         · exact below4 (below5 E3.out (show w.heap.size ≤ w1.heap.size by omega) _ _ _ _ _) (by omega) _ _ _ _)
      | (have s4 := set4 (set5_other L2.out (show w.heap.size + 1 ≠ V.heap.size by omega) (.int .i64 p) (.int .i64 q) (.int .i64 r) (.int .i64 t) (.bool e5)) (.int .i64 p) (.int .i64 q) (.int .i64 r) (.int .i64 t)
         obtain ⟨r0, r1, r2, r3, _⟩ := blk4 s4
         refine bodyPost_ret (v := .agg #[.int .i64 p, .int .i64 q, .int .i64 r, .int .i64 t]) ?_ rfl ⟨rfl, ?_⟩
         · simp [results, Try.results52, go_sem, r0, r1, r2, r3]
         · exact below4 (below5 E3.out (show w.heap.size ≤ V.heap.size by omega) _ _ _ _ _) (by omega) _ _ _ _)
      | (trace_state; sorry)

end Go.Proofs.Ytjijabfamjhdjaa
