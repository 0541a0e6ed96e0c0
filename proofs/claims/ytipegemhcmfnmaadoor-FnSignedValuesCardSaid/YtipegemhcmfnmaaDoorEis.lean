/- errors.Is at errors of errors.New's make, and the code of an error. -/
import Derived.Test.YtipegemhcmfnmaaDoorSen
import Derived.WalkKit
import Derived.LaidEql
import Derived.Stop.Asserts
import Derived.RowKitTokens
namespace Go.Proofs.YtipegemhcmfnmaaDoor
open Go.RowKit Go.Extern.Stop Go.Stop Go.Extern

theorem isTypeOf (v : Value) (w : World) : (Extern.ReflectliteType.typeOf #[.iface 216 v]).run Tryd.prog w = .ok (.iface 167 (.agg #[.pointer (some ⟨13, 216, none⟩)])) w := by kernel_rfl
/-- What the method Comparable of a type runs. -/
def cmpX : Array Value → Sem Value := Extern.ReflectliteType.method fun t => do Extern.Rtype.noPackHeld "Comparable" t; pure (.bool (← typeInfo t).comparable)
theorem isComparable (w : World) : (cmpX #[.agg #[.pointer (some ⟨13, 216, none⟩)]]).run Tryd.prog w = .ok (.bool true) w := by kernel_rfl
theorem isMethodComparable (v : Value) (w : World) : (Go.method 351 167 v "Comparable").run Tryd.prog w = .ok (202, v) w := by kernel_rfl
theorem isComp : (Tryd.prog.info? 216).map (·.comparable) = some true := by kernel_rfl
theorem isSize : (Tryd.prog.info? 218).map (·.size) = some 1 := by kernel_rfl
theorem noIsE (v : Value) (xT : TypeId) (w : World) : (Instr.typeAssert (.iface 216 v) xT 169 true).run Tryd.prog w = .ok (.tuple #[.nilIface, .bool false]) w := run_typeAssert_lacksB Tryd.underlying169 (by kernel_rfl) (by kernel_rfl) v xT w
theorem noUnwrapE (v : Value) (xT : TypeId) (w : World) : (Instr.typeAssert (.iface 216 v) xT 172 true).run Tryd.prog w = .ok (.tuple #[.nilIface, .bool false]) w := run_typeAssert_lacksB Tryd.underlying172 (by kernel_rfl) (by kernel_rfl) v xT w
theorem noUnwrapsE (v : Value) (xT : TypeId) (w : World) : (Instr.typeAssert (.iface 216 v) xT 174 true).run Tryd.prog w = .ok (.tuple #[.nilIface, .bool false]) w := run_typeAssert_lacksB Tryd.underlying174 (by kernel_rfl) (by kernel_rfl) v xT w

set_option maxRecDepth 100000 in
/-- errors.Is(x, x). -/
theorem is_same (a : Addr) (w : World) :
    Calls Tryd.prog 95 #[.iface 216 (.pointer (some a)), .iface 216 (.pointer (some a))] w fun e w' => e = .returned (.bool true) ∧ w' = w := by
  obtain ⟨i, hi, hcmp⟩ := Option.map_eq_some_iff.1 isComp
  obtain ⟨j, hj, hjs⟩ := Option.map_eq_some_iff.1 isSize
  have h8 := @run_callFunc_extern Tryd.prog 125 _ Extern.ReflectliteType.typeOf Tryd.func125 (by kernel_rfl) (by kernel_rfl) (by kernel_rfl) (by kernel_rfl)
  have h32 := @run_callFunc_extern Tryd.prog 202 _ cmpX Tryd.func202 (by kernel_rfl) (by kernel_rfl) (by kernel_rfl) (by kernel_rfl)
  have tT := isTypeOf
  have cT := isComparable
  have mR := isMethodComparable
  have heq := run_eql_iface_ptr_same (P := Tryd.prog) w a Tryd.underlying74 Tryd.underlying216 hi hcmp hj
  go_enter Tryd.func95, Tryd.ntmps95
  go_wp2
  refine wp_loop_rounds 1 ?_
  rw [rounds_succ]
  go_wp2
  go_ret
  exact ⟨rfl, rfl⟩

set_option maxRecDepth 100000 in
/-- errors.Is(x, y), two different pointers to errors.errorString. -/
theorem is_other (a b : Addr) (ca cb : Array Value) (ta tb : TypeId) (w : World) (hne : a ≠ b) (ha : w.heap[a.block]? = some (.cells ca ta (0, 0))) (hb : w.heap[b.block]? = some (.cells cb tb (0, 0))) :
    Calls Tryd.prog 95 #[.iface 216 (.pointer (some a)), .iface 216 (.pointer (some b))] w fun e w' => e = .returned (.bool false) ∧ w' = w := by
  obtain ⟨i, hi, hcmp⟩ := Option.map_eq_some_iff.1 isComp
  obtain ⟨j, hj, hjs⟩ := Option.map_eq_some_iff.1 isSize
  have h8 := @run_callFunc_extern Tryd.prog 125 _ Extern.ReflectliteType.typeOf Tryd.func125 (by kernel_rfl) (by kernel_rfl) (by kernel_rfl) (by kernel_rfl)
  have h32 := @run_callFunc_extern Tryd.prog 202 _ cmpX Tryd.func202 (by kernel_rfl) (by kernel_rfl) (by kernel_rfl) (by kernel_rfl)
  have tT := isTypeOf
  have cT := isComparable
  have mR := isMethodComparable
  have nE := noIsE
  have uE := noUnwrapE
  have vE := noUnwrapsE
  have heq := run_eql_iface_ptr_other (P := Tryd.prog) w Tryd.underlying74 Tryd.underlying216 hi hcmp hj (by rw [hjs]; decide) hne ha hb
  go_enter Tryd.func95, Tryd.ntmps95
  go_wp2
  refine wp_loop_rounds 1 ?_
  rw [rounds_succ]
  go_wp2
  go_ret
  exact ⟨rfl, rfl⟩

/-- Of two of the program's errors. -/
theorem is_err {g g' : Nat} {a b : Addr} {x y : List UInt8} (w : World) (ha : ErrAt g a x w) (hb : ErrAt g' b y w) (hne : a ≠ b) :
    Calls Tryd.prog 95 #[ErrV a, ErrV b] w fun e w' => e = .returned (.bool false) ∧ w' = w := by
  obtain ⟨_, _, ca, ta, h1⟩ := ha
  obtain ⟨_, _, cb, tb, h2⟩ := hb
  exact is_other a b ca cb ta tb w hne h1 h2

theorem codeNone (w : World) : Calls Tryd.prog 60 #[.nilIface] w fun e w' => e = .returned (.int .i64 0) ∧ w' = w := by
  go_enter Tryd.func60, Tryd.ntmps60
  go_wp2_with (fail)
  go_ret
  exact ⟨rfl, rfl⟩
theorem code0 {a0 a1 a2 a3 : Addr} (w : World) (h : Errs a0 a1 a2 a3 w) : Calls Tryd.prog 60 #[ErrV a0] w fun e w' => e = .returned (.int .i64 2) ∧ w' = w := by
  have c0 := h.1.1
  have I0 := hid (is_same a0 w)
  unfold ErrV
  clear h
  go_enter Tryd.func60, Tryd.ntmps60
  go_wp2_with (fail)
  refine I0.out.mono ?_
  rintro e w1 ⟨rfl, rfl⟩
  go_wp2_with (fail)
  go_ret
  exact ⟨rfl, rfl⟩
theorem code1 {a0 a1 a2 a3 : Addr} (w : World) (h : Errs a0 a1 a2 a3 w) : Calls Tryd.prog 60 #[ErrV a1] w fun e w' => e = .returned (.int .i64 6) ∧ w' = w := by
  have c0 := h.1.1
  have c1 := h.2.1.1
  have hn := errs_ne h
  have I0 := hid (is_err w h.2.1 h.1 (Ne.symm hn.1))
  have I1 := hid (is_same a1 w)
  unfold ErrV at I0 ⊢
  clear h hn
  go_enter Tryd.func60, Tryd.ntmps60
  go_wp2_with (fail)
  refine I0.out.mono ?_
  rintro e w1 ⟨rfl, rfl⟩
  go_wp2_with (fail)
  refine I1.out.mono ?_
  rintro e w1 ⟨rfl, rfl⟩
  go_wp2_with (fail)
  go_ret
  exact ⟨rfl, rfl⟩
theorem code2 {a0 a1 a2 a3 : Addr} (w : World) (h : Errs a0 a1 a2 a3 w) : Calls Tryd.prog 60 #[ErrV a2] w fun e w' => e = .returned (.int .i64 6) ∧ w' = w := by
  have c0 := h.1.1
  have c1 := h.2.1.1
  have c2 := h.2.2.1.1
  have hn := errs_ne h
  have I0 := hid (is_err w h.2.2.1 h.1 (Ne.symm hn.2.1))
  have I1 := hid (is_err w h.2.2.1 h.2.1 (Ne.symm hn.2.2.2.1))
  have I2 := hid (is_same a2 w)
  unfold ErrV at I0 I1 ⊢
  clear h hn
  go_enter Tryd.func60, Tryd.ntmps60
  go_wp2_with (fail)
  refine I0.out.mono ?_
  rintro e w1 ⟨rfl, rfl⟩
  go_wp2_with (fail)
  refine I1.out.mono ?_
  rintro e w1 ⟨rfl, rfl⟩
  go_wp2_with (fail)
  refine I2.out.mono ?_
  rintro e w1 ⟨rfl, rfl⟩
  go_wp2_with (fail)
  go_ret
  exact ⟨rfl, rfl⟩
theorem code3 {a0 a1 a2 a3 : Addr} (w : World) (h : Errs a0 a1 a2 a3 w) : Calls Tryd.prog 60 #[ErrV a3] w fun e w' => e = .returned (.int .i64 5) ∧ w' = w := by
  have c0 := h.1.1
  have c1 := h.2.1.1
  have c2 := h.2.2.1.1
  have c3 := h.2.2.2.1
  have hn := errs_ne h
  have I0 := hid (is_err w h.2.2.2 h.1 (Ne.symm hn.2.2.1))
  have I1 := hid (is_err w h.2.2.2 h.2.1 (Ne.symm hn.2.2.2.2.1))
  have I2 := hid (is_err w h.2.2.2 h.2.2.1 (Ne.symm hn.2.2.2.2.2))
  have I3 := hid (is_same a3 w)
  unfold ErrV at I0 I1 I2 ⊢
  clear h hn
  go_enter Tryd.func60, Tryd.ntmps60
  go_wp2_with (fail)
  refine I0.out.mono ?_
  rintro e w1 ⟨rfl, rfl⟩
  go_wp2_with (fail)
  refine I1.out.mono ?_
  rintro e w1 ⟨rfl, rfl⟩
  go_wp2_with (fail)
  refine I2.out.mono ?_
  rintro e w1 ⟨rfl, rfl⟩
  go_wp2_with (fail)
  refine I3.out.mono ?_
  rintro e w1 ⟨rfl, rfl⟩
  go_wp2_with (fail)
  go_ret
  exact ⟨rfl, rfl⟩

end Go.Proofs.YtipegemhcmfnmaaDoor
