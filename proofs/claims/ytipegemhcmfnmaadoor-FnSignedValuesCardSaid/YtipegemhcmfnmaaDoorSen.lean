/- The program's own error variables, out of the row's condition. -/
import Derived.Test.YtipegemhcmfnmaaDoorLaid
import Derived.Stop.LaidErr
import Derived.Lib.SmallJoins
namespace Go.Proofs.YtipegemhcmfnmaaDoor
open Go.RowKit Go.Lib Go.Joins

theorem laidSuffix {P : Program} {W : World} : ∀ (a : List (String × DataW Unit)) {b : List (String × DataW Unit)}, laidMet P (a ++ b) W → laidMet P b W
  | [], _, h => h
  | _ :: a, _, h => laidSuffix a (laidMet.tail h)
theorem starE' : "*" ++ "errors.errorString" = "*errors.errorString" := by decide
theorem rowE' (u : TypeId) (h : Tryd.prog.typeName? 3 u = some "*errors.errorString") : u = 216 :=
  typeName_ptr_named (nm := "errors.errorString") (by rw [starE']; kernel_rfl) (by kernel_rfl) (by decide) u (by rw [starE']; exact h)

/-- The first of the list, a sentinel: the variable, the text behind it, and that its block may be written. -/
theorem laid_sentinel_row {P : Program} {n nm : String} {text : List UInt8} {r : List (String × DataW Unit)} {W : World} {g : Nat} {ti tp te ts : TypeId} {ms : Array (String × TypeId)} {f : Field}
    (h : laidMet P ((n, .iface nm (.ptr (.agg [.lit (.string text)]))) :: r) W)
    (hg : P.globalNamed n = some g) (ht : (P.globals[g]?).map (·.type) = some ti) (hi : P.underlying ti = some (.interface ms)) (hrow : ∀ u, P.typeName? 3 u = some nm → u = tp)
    (hp : P.underlying tp = some (.pointer te)) (he : P.underlying te = some (.struct #[f])) (hft : f.type = ts) (hfo : f.offset = 0) (hs : P.underlying ts = some .string) (hc : P.cellsOf te = 1) (hcs : P.cellsOf ts = 1) :
    ∃ (a : Addr) (s : ByteArray) (c : Array Value) (t : TypeId), W.var? P n = some #[.iface tp (.pointer (some a))] ∧ W.cell? a = some (.string s) ∧ s.data.toList = text ∧ W.heap[a.block]? = some (.cells c t (0, 0)) := by
  obtain ⟨ps, ⟨g0, t0, cs0, f0, p0, q0, hg0, ht0, hv0, hd0, _, e0⟩, _, hrows⟩ := h
  obtain rfl := Option.some.inj (hg.symm.trans hg0)
  obtain rfl := Option.some.inj (ht.symm.trans ht0)
  subst e0
  obtain ⟨l0⟩ := cs0
  have ok0 : ∀ u v, l0 = [.iface u v] → Value.okWide P W .any 0 u v := fun u v e => by
    subst e
    exact (hrows g 0 (by simp [MemPlace.row])).2 u v (by simpa using World.var?_cell hg0 hv0 0)
  obtain ⟨a0, s0, rfl, hc0, hs0, hz0, rfl⟩ := errorString_of_trod hi hrow hp he hft hfo hs hc hcs hd0 ok0
  obtain ⟨c, t, hb⟩ := (hrows a0.block a0.off (by simp [MemPlace.row])).1
  exact ⟨a0, s0, c, t, hv0, hc0, hs0, hb⟩

/-- An error of errors.New's make lies at an address. -/
def ErrAt (g : Nat) (a : Addr) (text : List UInt8) (w : World) : Prop := w.cell? ⟨g, 0, none⟩ = some (.iface 216 (.pointer (some a))) ∧ (∃ s, w.cell? a = some (.string s) ∧ s.data.toList = text) ∧ ∃ c t, w.heap[a.block]? = some (.cells c t (0, 0))
theorem err_lt {g : Nat} {a : Addr} {text : List UInt8} {w : World} (h : ErrAt g a text w) : a.block < w.heap.size := by
  obtain ⟨_, _, c, t, h⟩ := h
  exact (Array.getElem?_eq_some_iff.1 h).1
theorem err_below {g : Nat} {a : Addr} {text : List UInt8} {w w' : World} (h : ErrAt g a text w) (hb : Below w.heap.size w w') : ErrAt g a text w' := by
  have hl := err_lt h
  obtain ⟨h1, ⟨s, h2, h3⟩, c, t, h4⟩ := h
  exact ⟨(hb.cell (p := ⟨g, 0, none⟩) (World.block_lt_of_cell? _ _ h1)).trans h1, ⟨s, (hb.cell hl).trans h2, h3⟩, c, t, (hb.block _ hl).trans h4⟩
theorem err_ne {g g' : Nat} {a a' : Addr} {x y : List UInt8} {w : World} (h : ErrAt g a x w) (h' : ErrAt g' a' y w) (hne : x ≠ y) : a ≠ a' := by
  rintro rfl
  obtain ⟨_, ⟨s, h2, h3⟩, _⟩ := h
  obtain ⟨_, ⟨s', h2', h3'⟩, _⟩ := h'
  rw [h2] at h2'
  simp only [Option.some.injEq, Value.string.injEq] at h2'
  subst h2'
  exact hne (h3.symm.trans h3')
def tx0 : List UInt8 := [116, 104, 101, 32, 110, 117, 109, 98, 101, 114, 32, 105, 115, 32, 110, 111, 110, 101, 32, 111, 102, 32, 97, 32, 107, 105, 110, 100]
theorem sen0_of {W : World} {l : List (String × DataW Unit)} (h : laidMet Tryd.prog l W) (hm : ("loop.example/g01007/impl.errNoKind", Rows.laid_loop_example_g01007_impl_errNoKind) ∈ l) : ∃ a, ErrAt 1 a tx0 W := by
  obtain ⟨l0, l1, e⟩ := List.append_of_mem hm
  rw [e] at h
  obtain ⟨a, s, c, t, hv, hc, hs, hb⟩ := laid_sentinel_row (laidSuffix l0 h) (g := 1) (by kernel_rfl) (by kernel_rfl) Tryd.underlying74 rowE' Tryd.underlying216 Tryd.underlying218 rfl rfl Tryd.underlying9 (by kernel_rfl) (by kernel_rfl)
  refine ⟨a, ?_, ⟨s, hc, hs⟩, c, t, hb⟩
  have := World.var?_cell (show Tryd.prog.globalNamed "loop.example/g01007/impl.errNoKind" = some 1 by kernel_rfl) hv 0
  simpa using this
def tx1 : List UInt8 := [116, 104, 101, 32, 101, 120, 112, 97, 110, 115, 105, 111, 110, 32, 104, 97, 115, 32, 110, 111, 32, 101, 110, 100]
theorem sen1_of {W : World} {l : List (String × DataW Unit)} (h : laidMet Tryd.prog l W) (hm : ("loop.example/g01007/impl.errEndless", Rows.laid_loop_example_g01007_impl_errEndless) ∈ l) : ∃ a, ErrAt 2 a tx1 W := by
  obtain ⟨l0, l1, e⟩ := List.append_of_mem hm
  rw [e] at h
  obtain ⟨a, s, c, t, hv, hc, hs, hb⟩ := laid_sentinel_row (laidSuffix l0 h) (g := 2) (by kernel_rfl) (by kernel_rfl) Tryd.underlying74 rowE' Tryd.underlying216 Tryd.underlying218 rfl rfl Tryd.underlying9 (by kernel_rfl) (by kernel_rfl)
  refine ⟨a, ?_, ⟨s, hc, hs⟩, c, t, hb⟩
  have := World.var?_cell (show Tryd.prog.globalNamed "loop.example/g01007/impl.errEndless" = some 2 by kernel_rfl) hv 0
  simpa using this
def tx2 : List UInt8 := [116, 104, 101, 32, 100, 101, 110, 111, 109, 105, 110, 97, 116, 111, 114, 32, 105, 115, 32, 48]
theorem sen2_of {W : World} {l : List (String × DataW Unit)} (h : laidMet Tryd.prog l W) (hm : ("loop.example/g01007/impl.errNoNumber", Rows.laid_loop_example_g01007_impl_errNoNumber) ∈ l) : ∃ a, ErrAt 3 a tx2 W := by
  obtain ⟨l0, l1, e⟩ := List.append_of_mem hm
  rw [e] at h
  obtain ⟨a, s, c, t, hv, hc, hs, hb⟩ := laid_sentinel_row (laidSuffix l0 h) (g := 3) (by kernel_rfl) (by kernel_rfl) Tryd.underlying74 rowE' Tryd.underlying216 Tryd.underlying218 rfl rfl Tryd.underlying9 (by kernel_rfl) (by kernel_rfl)
  refine ⟨a, ?_, ⟨s, hc, hs⟩, c, t, hb⟩
  have := World.var?_cell (show Tryd.prog.globalNamed "loop.example/g01007/impl.errNoNumber" = some 3 by kernel_rfl) hv 0
  simpa using this
def tx3 : List UInt8 := [116, 104, 101, 32, 114, 101, 115, 117, 108, 116, 32, 105, 115, 32, 111, 117, 116, 32, 111, 102, 32, 116, 104, 101, 32, 108, 105, 109, 105, 116, 115]
theorem sen3_of {W : World} {l : List (String × DataW Unit)} (h : laidMet Tryd.prog l W) (hm : ("loop.example/g01007/impl.errTooGreat", Rows.laid_loop_example_g01007_impl_errTooGreat) ∈ l) : ∃ a, ErrAt 4 a tx3 W := by
  obtain ⟨l0, l1, e⟩ := List.append_of_mem hm
  rw [e] at h
  obtain ⟨a, s, c, t, hv, hc, hs, hb⟩ := laid_sentinel_row (laidSuffix l0 h) (g := 4) (by kernel_rfl) (by kernel_rfl) Tryd.underlying74 rowE' Tryd.underlying216 Tryd.underlying218 rfl rfl Tryd.underlying9 (by kernel_rfl) (by kernel_rfl)
  refine ⟨a, ?_, ⟨s, hc, hs⟩, c, t, hb⟩
  have := World.var?_cell (show Tryd.prog.globalNamed "loop.example/g01007/impl.errTooGreat" = some 4 by kernel_rfl) hv 0
  simpa using this

/-- The four errors of the program. -/
def Errs (a0 a1 a2 a3 : Addr) (w : World) : Prop := ErrAt 1 a0 tx0 w ∧ ErrAt 2 a1 tx1 w ∧ ErrAt 3 a2 tx2 w ∧ ErrAt 4 a3 tx3 w
theorem errs_below {a0 a1 a2 a3 : Addr} {w w' : World} (h : Errs a0 a1 a2 a3 w) (hb : Below w.heap.size w w') : Errs a0 a1 a2 a3 w' := ⟨err_below h.1 hb, err_below h.2.1 hb, err_below h.2.2.1 hb, err_below h.2.2.2 hb⟩
theorem errs_ne {a0 a1 a2 a3 : Addr} {w : World} (h : Errs a0 a1 a2 a3 w) : a0 ≠ a1 ∧ a0 ≠ a2 ∧ a0 ≠ a3 ∧ a1 ≠ a2 ∧ a1 ≠ a3 ∧ a2 ≠ a3 :=
  ⟨err_ne h.1 h.2.1 (by decide), err_ne h.1 h.2.2.1 (by decide), err_ne h.1 h.2.2.2 (by decide), err_ne h.2.1 h.2.2.1 (by decide), err_ne h.2.1 h.2.2.2 (by decide), err_ne h.2.2.1 h.2.2.2 (by decide)⟩
/-- .. as what the walk asks of them. -/
def ErrV (a : Addr) : Value := .iface 216 (.pointer (some a))

end Go.Proofs.YtipegemhcmfnmaaDoor
