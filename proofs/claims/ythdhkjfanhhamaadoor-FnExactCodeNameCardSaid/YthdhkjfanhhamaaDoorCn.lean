/- Contracts: the name of a code, as the program and the model tell it. -/
import Derived.Test.YthdhkjfanhhamaaDoorCd
import Derived.Test.YthdhkjfanhhamaaDoorLaid
namespace Go.Proofs.YthdhkjfanhhamaaDoor
open Go.RowKit Go.Lib

/-- The names, as bytes. -/
def nmTab : List (List UInt8) := [[111, 107], [105, 110, 118, 97, 108, 105, 100], [114, 97, 110, 103, 101], [110, 111, 116, 45, 102, 111, 117, 110, 100], [101, 120, 105, 115, 116, 115], [102, 117, 108, 108], [115, 116, 97, 116, 101], [115, 121, 110, 116, 97, 120], [102, 111, 114, 109, 97, 116], [99, 108, 97, 115, 104], [117, 110, 100, 101, 99, 105, 100, 101, 100]]
def nmC (x : Int) : List UInt8 := if 0 ≤ x ∧ x ≤ 10 then nmTab.getD x.toNat [] else []

/-- An array of texts that reads as a table of texts holds that table's texts, cell for cell. -/
theorem cells_of_strs {H : Type} {enc : TypeId × Value → H} {P : Program} {w : World} {base : Nat} {sp : Nat → Bool} {held : Bool} {fuel : Nat} {t e : TypeId} {n : Nat} {cs : List Value} {ss : List (List UInt8)} {p : List MemPlace}
    (ht : P.underlying t = some (.array n e)) (he : P.underlying e = some .string) (hce : P.cellsOf e = 1) (hct : P.cellsOf t = n)
    (h : DataW.trod enc P w base sp held fuel t cs = some (.agg (ss.map fun s => .lit (.string s)), p)) : cs = ss.map fun s => Value.string ⟨s.toArray⟩ := by
  cases fuel with
  | zero => simp [DataW.trod] at h
  | succ fuel =>
    simp only [DataW.trod, ht, hce, hct, Nat.mul_one] at h
    split at h
    · rename_i hl
      obtain ⟨xs, hm, hx⟩ := Option.map_eq_some_iff.1 h
      have hxs : xs.map (·.1) = ss.map fun s => (DataW.lit (.string s) : DataW H) := by
        have := congrArg Prod.fst hx
        simpa using this
      have hxl : xs.length = n := by simpa using mapM_length hm
      have hzl : ss.length = n := by
        have := congrArg List.length hxs
        simp at this
        omega
      apply List.ext_getElem?
      intro i
      by_cases hi : i < n
      · obtain ⟨b, hb, hf⟩ := mapM_at hm i i (by simp [hi])
        obtain ⟨s, hc, rfl, _⟩ := DataW.trod_string he hf
        have h1 : cs[i]? = some (.string s) := by
          have := congrArg (·[0]?) hc
          simpa [List.getElem?_take, List.getElem?_drop] using this
        have h2 : (xs.map (·.1))[i]? = some (DataW.lit (.string s.data.toList) : DataW H) := by simp [hb]
        rw [hxs] at h2
        simp only [List.getElem?_map, Option.map_eq_some_iff, DataW.lit.injEq, Lit.string.injEq] at h2
        obtain ⟨s', hs', e'⟩ := h2
        simp only [h1, List.getElem?_map, hs', Option.map_some, Option.some.injEq, Value.string.injEq]
        rw [e']
      · rw [List.getElem?_eq_none (by omega), List.getElem?_eq_none (by simp; omega)]
    · cases h

/-- The program's table lies as it was laid. -/
def NamesAre (w : World) : Prop := w.var? Tryd.prog "loop.example/g01007/impl.codeNames" = some (nmTab.map fun s => Value.string ⟨s.toArray⟩).toArray

theorem names_of {W : World} {l : List (String × DataW Unit)} (h : laidMet Tryd.prog l W) (hm : ("loop.example/g01007/impl.codeNames", Rows.laid_loop_example_g01007_impl_codeNames) ∈ l) : NamesAre W := by
  obtain ⟨ps, hv, _⟩ := h
  obtain ⟨g, t, cs, fuel, p, hg, ht, hvar, hd⟩ := laid_mem hv _ hm
  have hg' : Tryd.prog.globalNamed "loop.example/g01007/impl.codeNames" = some 0 := by kernel_rfl
  have ht' : (Tryd.prog.globals[0]?).map (·.type) = some 56 := by kernel_rfl
  obtain rfl := Option.some.inj (hg'.symm.trans hg)
  obtain rfl := Option.some.inj (ht'.symm.trans ht)
  unfold NamesAre
  have hd2 : DataW.trod (fun _ => ()) Tryd.prog W 0 (fun _ => true) false fuel 56 cs.toList = some (.agg (nmTab.map fun s => .lit (.string s)), p) := hd
  have := cells_of_strs Tryd.underlying56 Tryd.underlying9 (by kernel_rfl) (by kernel_rfl) hd2
  rw [hvar, ← this]

theorem names_below {w w' : World} (h : NamesAre w) (hb : Below w.heap.size w w') : NamesAre w' :=
  Joins.var_stays (g := 0) (by kernel_rfl) h hb (Nat.le_refl _)

theorem names_cell {w : World} (h : NamesAre w) (i : Nat) : w.cell? ⟨0, i, none⟩ = (nmTab[i]?).map fun s => Value.string ⟨s.toArray⟩ := by
  have h0 := World.var?_cell (show Tryd.prog.globalNamed "loop.example/g01007/impl.codeNames" = some 0 by kernel_rfl) h i
  rw [h0]
  simp

theorem implCode (x : Int) (w : World) (h : NamesAre w) :
    Calls Tryd.prog 22 #[.int .i64 x] w fun e w' => e = .returned (.string ⟨(nmC x).toArray⟩) ∧ w' = w := by
  have hc := names_cell h
  by_cases h1 : x < 0
  · have E := hid (show nmC x = [] by unfold nmC; rw [if_neg (by omega)])
    clear h hc
    go_enter Tryd.func22, Tryd.ntmps22
    go_wp2_with (fail)
    go_ret
    exact ⟨by rw [E.out]; rfl, rfl⟩
  · by_cases h2 : 10 < x
    · have E := hid (show nmC x = [] by unfold nmC; rw [if_neg (by omega)])
      clear h hc
      go_enter Tryd.func22, Tryd.ntmps22
      go_wp2_with (fail)
      go_ret
      exact ⟨by rw [E.out]; rfl, rfl⟩
    · have h3 : x = 0 ∨ x = 1 ∨ x = 2 ∨ x = 3 ∨ x = 4 ∨ x = 5 ∨ x = 6 ∨ x = 7 ∨ x = 8 ∨ x = 9 ∨ x = 10 := by omega
      clear h
      rcases h3 with rfl | rfl | rfl | rfl | rfl | rfl | rfl | rfl | rfl | rfl | rfl
      all_goals
        have c0 := hc 0; have c1 := hc 1; have c2 := hc 2; have c3 := hc 3; have c4 := hc 4; have c5 := hc 5; have c6 := hc 6; have c7 := hc 7; have c8 := hc 8; have c9 := hc 9; have c10 := hc 10
        simp only [nmTab, List.getElem?_cons_zero, List.getElem?_cons_succ, Option.map_some] at c0 c1 c2 c3 c4 c5 c6 c7 c8 c9 c10
        clear hc h1 h2
        go_enter Tryd.func22, Tryd.ntmps22
        go_wp2_with (fail)
        go_ret
        exact ⟨rfl, rfl⟩

set_option maxHeartbeats 4000000 in
theorem specCode (x : Int) (w : World) :
    Calls Tryd.prog 21 #[.int .i64 x] w fun e w' => e = .returned (.string ⟨(nmC x).toArray⟩) ∧ Below w.heap.size w w' := by
  by_cases h1 : 0 ≤ x ∧ x ≤ 10
  · have h3 : x = 0 ∨ x = 1 ∨ x = 2 ∨ x = 3 ∨ x = 4 ∨ x = 5 ∨ x = 6 ∨ x = 7 ∨ x = 8 ∨ x = 9 ∨ x = 10 := by omega
    have I := hid (inB_iff.2 h1)
    clear h1
    rcases h3 with rfl | rfl | rfl | rfl | rfl | rfl | rfl | rfl | rfl | rfl | rfl
    all_goals
      go_enter Tryd.func21, Tryd.ntmps21
      go_wp2_with (fail)
      refine (specIn _ _ _ _).mono ?_
      rintro e w1 ⟨rfl, rfl⟩
      rw [I.out]
      go_wp2_with (fail)
      go_ret
      exact ⟨rfl, (Below.refl _ _).alloc (Nat.le_refl _) _⟩
  · have E := hid (show nmC x = [] by unfold nmC; rw [if_neg h1])
    have I := hid (show inB 0 10 x = false by rw [Bool.eq_false_iff]; intro e; exact h1 (inB_iff.1 e))
    clear h1
    go_enter Tryd.func21, Tryd.ntmps21
    go_wp2_with (fail)
    refine (specIn _ _ _ _).mono ?_
    rintro e w1 ⟨rfl, rfl⟩
    rw [I.out]
    go_wp2_with (fail)
    go_ret
    exact ⟨by rw [E.out]; rfl, (Below.refl _ _).alloc (Nat.le_refl _) _⟩

end Go.Proofs.YthdhkjfanhhamaaDoor
