/- Contracts: the name of a kind, as the program and the model tell it. -/
import Derived.Test.YtipegemhcmfnmaaDoorCd
import Derived.Test.YtipegemhcmfnmaaDoorLaid
import Derived.Test.YtipegemhcmfnmaaDoorSgm
namespace Go.Proofs.YtipegemhcmfnmaaDoor
open Go.RowKit Go.Lib

/-- The names, as bytes. -/
def kdTab : List (List UInt8) := [[], [110, 101, 97, 114, 101, 115, 116], [101, 118, 101, 110], [111, 100, 100], [110, 101, 103, 97, 116, 105, 118, 101]]
def nmK (x : Int) : List UInt8 := if okK x = true then kdTab.getD x.toNat [] else []
theorem nmK_no {x : Int} (h : okK x = false) : nmK x = [] := by unfold nmK; rw [h]; rfl

/-- An array of texts that reads as a table of texts holds that table's texts, cell for cell. -/
theorem cells_of_kinds {H : Type} {enc : TypeId × Value → H} {P : Program} {w : World} {base : Nat} {sp : Nat → Bool} {held : Bool} {fuel : Nat} {t e : TypeId} {n : Nat} {cs : List Value} {ss : List (List UInt8)} {p : List MemPlace}
    (ht : P.underlying t = some (.array n e)) (he : P.underlying e = some .string) (hce : P.cellsOf e = 1) (hct : P.cellsOf t = n)
    (h : DataW.trod enc P w base sp held fuel t cs = some (.agg (ss.map fun s => .lit (.string s)), p)) : cs = ss.map fun s => Value.string ⟨s.toArray⟩ := by
  cases fuel with
  | zero => simp [DataW.trod] at h
  | succ fuel =>
    simp only [DataW.trod, ht, hce, hct, Nat.mul_one] at h
    split at h
    · rename_i hl
      obtain ⟨xs, hm, hx⟩ := Option.map_eq_some_iff.1 h
      have hxs : xs.map (·.1) = ss.map fun s => (DataW.lit (.string s) : DataW H) := by
        have := congrArg Prod.fst hx
        simpa using this
      have hxl : xs.length = n := by simpa using mapM_length hm
      have hzl : ss.length = n := by
        have := congrArg List.length hxs
        simp at this
        omega
      apply List.ext_getElem?
      intro i
      by_cases hi : i < n
      · obtain ⟨b, hb, hf⟩ := mapM_at hm i i (by simp [hi])
        obtain ⟨s, hc, rfl, _⟩ := DataW.trod_string he hf
        have h1 : cs[i]? = some (.string s) := by
          have := congrArg (·[0]?) hc
          simpa [List.getElem?_take, List.getElem?_drop] using this
        have h2 : (xs.map (·.1))[i]? = some (DataW.lit (.string s.data.toList) : DataW H) := by simp [hb]
        rw [hxs] at h2
        simp only [List.getElem?_map, Option.map_eq_some_iff, DataW.lit.injEq, Lit.string.injEq] at h2
        obtain ⟨s', hs', e'⟩ := h2
        simp only [h1, List.getElem?_map, hs', Option.map_some, Option.some.injEq, Value.string.injEq]
        rw [e']
      · rw [List.getElem?_eq_none (by omega), List.getElem?_eq_none (by simp; omega)]
    · cases h

/-- The program's table lies as it was laid. -/
def KindsAre (w : World) : Prop := w.var? Tryd.prog "loop.example/g01007/impl.kindNames" = some (kdTab.map fun s => Value.string ⟨s.toArray⟩).toArray

theorem kinds_of {W : World} {l : List (String × DataW Unit)} (h : laidMet Tryd.prog l W) (hm : ("loop.example/g01007/impl.kindNames", Rows.laid_loop_example_g01007_impl_kindNames) ∈ l) : KindsAre W := by
  obtain ⟨ps, hv, _⟩ := h
  obtain ⟨g, t, cs, fuel, p, hg, ht, hvar, hd⟩ := laid_mem hv _ hm
  have hg' : Tryd.prog.globalNamed "loop.example/g01007/impl.kindNames" = some 0 := by kernel_rfl
  have ht' : (Tryd.prog.globals[0]?).map (·.type) = some 89 := by kernel_rfl
  obtain rfl := Option.some.inj (hg'.symm.trans hg)
  obtain rfl := Option.some.inj (ht'.symm.trans ht)
  unfold KindsAre
  have hd2 : DataW.trod (fun _ => ()) Tryd.prog W 0 (fun _ => true) false fuel 89 cs.toList = some (.agg (kdTab.map fun s => .lit (.string s)), p) := hd
  have := cells_of_kinds Tryd.underlying89 Tryd.underlying9 (by kernel_rfl) (by kernel_rfl) hd2
  rw [hvar, ← this]

theorem kinds_below {w w' : World} (h : KindsAre w) (hb : Below w.heap.size w w') : KindsAre w' :=
  Joins.var_stays (g := 0) (by kernel_rfl) h hb (Nat.le_refl _)

theorem kinds_cell {w : World} (h : KindsAre w) (i : Nat) : w.cell? ⟨0, i, none⟩ = (kdTab[i]?).map fun s => Value.string ⟨s.toArray⟩ := by
  have h0 := World.var?_cell (show Tryd.prog.globalNamed "loop.example/g01007/impl.kindNames" = some 0 by kernel_rfl) h i
  rw [h0]
  simp

theorem implKind (x : Int) (w : World) (h : KindsAre w) :
    Calls Tryd.prog 33 #[.int .i64 x] w fun e w' => e = .returned (.string ⟨(nmK x).toArray⟩) ∧ w' = w := by
  have hc := kinds_cell h
  by_cases h1 : x < 1
  · have E := hid (show nmK x = [] from nmK_no (inB_no (by omega)))
    clear h hc
    go_enter Tryd.func33, Tryd.ntmps33
    go_wp2_with (fail)
    go_ret
    exact ⟨by rw [E.out]; rfl, rfl⟩
  · by_cases h2 : 4 < x
    · have E := hid (show nmK x = [] from nmK_no (inB_no (by omega)))
      clear h hc
      go_enter Tryd.func33, Tryd.ntmps33
      go_wp2_with (fail)
      go_ret
      exact ⟨by rw [E.out]; rfl, rfl⟩
    · have h3 : x = 1 ∨ x = 2 ∨ x = 3 ∨ x = 4 := by omega
      clear h
      rcases h3 with rfl | rfl | rfl | rfl
      all_goals
        have c1 := hc 1; have c2 := hc 2; have c3 := hc 3; have c4 := hc 4
        simp only [kdTab, List.getElem?_cons_zero, List.getElem?_cons_succ, Option.map_some] at c1 c2 c3 c4
        clear hc h1 h2
        go_enter Tryd.func33, Tryd.ntmps33
        go_wp2_with (fail)
        go_ret
        exact ⟨rfl, rfl⟩

theorem specKindB (x : Int) (w : World) :
    Calls Tryd.prog 76 #[.int .i64 x] w fun e w' => e = .returned (.bool (okK x)) ∧ w' = w := by
  have S := hid (fun w => specIn x 1 4 w)
  have hb : inB 1 4 x = okK x := rfl
  rw [hb] at S
  clear hb
  go_enter Tryd.func76, Tryd.ntmps76
  go_wp2_with (fail)
  refine (S.out _).mono ?_
  rintro e w1 ⟨rfl, rfl⟩
  go_wp2_with (fail)
  go_ret
  exact ⟨rfl, rfl⟩

set_option maxHeartbeats 4000000 in
theorem specKind (x : Int) (w : World) :
    Calls Tryd.prog 32 #[.int .i64 x] w fun e w' => e = .returned (.string ⟨(nmK x).toArray⟩) ∧ Below w.heap.size w w' := by
  have S := hid (fun w => specKindB x w)
  cases hk : okK x
  · have E := hid (nmK_no hk)
    rw [hk] at S
    clear hk
    go_enter Tryd.func32, Tryd.ntmps32
    go_wp2_with (fail)
    refine (S.out _).mono ?_
    rintro e w1 ⟨rfl, rfl⟩
    go_wp2_with (fail)
    go_ret
    exact ⟨by rw [E.out]; rfl, (Below.refl _ _).alloc (Nat.le_refl _) _⟩
  · rw [hk] at S
    have h4 := inB_iff.1 hk
    have h3 : x = 1 ∨ x = 2 ∨ x = 3 ∨ x = 4 := by omega
    clear hk h4
    rcases h3 with rfl | rfl | rfl | rfl
    all_goals
      go_enter Tryd.func32, Tryd.ntmps32
      go_wp2_with (fail)
      refine (S.out _).mono ?_
      rintro e w1 ⟨rfl, rfl⟩
      go_wp2_with (fail)
      go_ret
      exact ⟨rfl, (Below.refl _ _).alloc (Nat.le_refl _) _⟩

end Go.Proofs.YtipegemhcmfnmaaDoor
