/- Contracts: the codes of one or two fractions, by the program and by the model; bounds of the tree. -/
import Derived.Test.YtjijabfamjhdjaaLi
import Derived.Test.YtjijabfamjhdjaaLv
import Derived.Test.YtjijabfamjhdjaaAri
namespace Go.Proofs.Ytjijabfamjhdjaa
open Go.RowKit

/-- The code of a list of fractions whose numerators are at least lo. -/
def chkC (lo : Int) (xs : List (Int × Int)) : Int := if xs.all (fun x => okF x.1 x.2) then (if xs.all (fun x => decide (lo ≤ x.1)) then 0 else 2) else 1
def Frs (w : World) (g : Nat) (xs : List (Int × Int)) : Prop := ∀ (j : Nat) (x : Int × Int), xs[j]? = some x → w.cell? ⟨g, j * 2, none⟩ = some (.int .i64 x.1) ∧ w.cell? ⟨g, j * 2 + 1, none⟩ = some (.int .i64 x.2)

theorem chk_bad {lo : Int} {xs : List (Int × Int)} {j : Nat} {x : Int × Int} (h : xs[j]? = some x) (h1 : okF x.1 x.2 = false) : chkC lo xs = 1 := by
  have : xs.all (fun x => okF x.1 x.2) = false := by
    rw [Bool.eq_false_iff]
    intro e
    have h2 : okF x.1 x.2 = true := List.all_eq_true.1 e x (List.mem_of_getElem? h)
    rw [h1] at h2
    simp at h2
  unfold chkC
  rw [this]; rfl
theorem chk_low {lo : Int} {xs : List (Int × Int)} {j : Nat} {x : Int × Int} (h0 : ∀ (j : Nat) (x : Int × Int), xs[j]? = some x → okF x.1 x.2 = true) (h : xs[j]? = some x) (h1 : x.1 < lo) : chkC lo xs = 2 := by
  have e1 : xs.all (fun x => okF x.1 x.2) = true := List.all_eq_true.2 fun x hx => by
    obtain ⟨j, hj⟩ := List.mem_iff_getElem?.1 hx
    exact h0 j x hj
  have e2 : xs.all (fun x => decide (lo ≤ x.1)) = false := by
    rw [Bool.eq_false_iff]
    intro e
    have := of_decide_eq_true (List.all_eq_true.1 e x (List.mem_of_getElem? h))
    omega
  unfold chkC
  rw [e1, e2]; rfl
theorem chk_good {lo : Int} {xs : List (Int × Int)} (h0 : ∀ (j : Nat) (x : Int × Int), xs[j]? = some x → okF x.1 x.2 = true) (h1 : ∀ (j : Nat) (x : Int × Int), xs[j]? = some x → lo ≤ x.1) : chkC lo xs = 0 := by
  have e1 : xs.all (fun x => okF x.1 x.2) = true := List.all_eq_true.2 fun x hx => by
    obtain ⟨j, hj⟩ := List.mem_iff_getElem?.1 hx
    exact h0 j x hj
  have e2 : xs.all (fun x => decide (lo ≤ x.1)) = true := List.all_eq_true.2 fun x hx => by
    obtain ⟨j, hj⟩ := List.mem_iff_getElem?.1 hx
    exact decide_eq_true (h1 j x hj)
  unfold chkC
  rw [e1, e2]; rfl

theorem implChk (lo : Int) (g n c : Nat) (xs : List (Int × Int)) (w : World) (hn : n = xs.length) (hx : xs.length ≤ 1000) (ha : Frs w g xs) :
    Calls Try.prog 47 #[.int .i64 lo, .slice (some ⟨g, 0, none⟩) n c] w fun e w' => e = .returned (.int .i64 (chkC lo xs)) ∧ Below w.heap.size w w' := by
  subst hn
  have HA := hid ha
  have HVv := hid (fun n d w => implValid n d w)
  clear ha
  go_enter Try.func47, Try.ntmps47
  go_wp2_with (fail)
  go_loopw [6, 11] (fun u i wr => ∃ k : Nat, k ≤ xs.length ∧ i = .int .i64 k ∧ Hid (∀ j x, j < k → xs[j]? = some x → okF x.1 x.2 = true) ∧ Below w.heap.size w wr) (fun _ i _ => xs.length - (RowKit.intOf i).toNat)
  case atStart => exact ⟨0, by omega, rfl, hid fun j x hj => by omega, Below.refl _ _⟩
  case round =>
    obtain ⟨k, hk, rfl, hall, hbel⟩ := hrel
    have HBEL := hid hbel
    have hk0 : (0 : Int) ≤ (k : Int) := by omega
    by_cases hlt : k < xs.length
    · have hlt' : (k : Int) < (xs.length : Int) := by omega
      obtain ⟨⟨n, d⟩, hxk⟩ : ∃ x, xs[k]? = some x := ⟨_, List.getElem?_eq_getElem hlt⟩
      obtain ⟨ca1, cb1⟩ := HA.out k _ hxk
      dsimp only at ca1 cb1
      have ca0 := (hbel.cell (p := ⟨g, k * 2, none⟩) (World.block_lt_of_cell? _ _ ca1)).trans ca1
      have cb0 := (hbel.cell (p := ⟨g, k * 2 + 1, none⟩) (World.block_lt_of_cell? _ _ cb1)).trans cb1
      have HXK := hid hxk
      have hb : w.heap.size ≤ wr.heap.size := hbel.size
      clear ca1 cb1 hbel hxk
      cases ho : okF n d
      · have HR := hid (show chkC lo xs = 1 from chk_bad HXK.out ho)
        clear hall
        go_wp2_with (fail)
        refine (HVv.out _ _ _).mono ?_
        rintro e w1 ⟨rfl, b1⟩
        have E1 := hid ((HBEL.out.alloc hb (.cells #[.int .i64 n, .int .i64 d] 25)).trans (b1.mono (by simp; omega)))
        clear b1
        rw [ho]
        go_wp2_with (fail)
        go_ret
        exact ⟨by rw [HR.out]; rfl, E1.out⟩
      · have HALL := hid (show ∀ j x, j < k + 1 → xs[j]? = some x → okF x.1 x.2 = true by
          intro j y hj hy
          by_cases hjk : j = k
          · subst hjk
            have : (n, d) = y := by have := HXK.out.symm.trans hy; simpa using this
            subst this
            exact ho
          · exact hall.out j y (by omega) hy)
        clear hall
        go_wp2_with (fail)
        refine (HVv.out _ _ _).mono ?_
        rintro e w1 ⟨rfl, b1⟩
        have E1 := hid ((HBEL.out.alloc hb (.cells #[.int .i64 n, .int .i64 d] 25)).trans (b1.mono (by simp; omega)))
        clear b1
        rw [ho]
        go_wp2_with (fail)
        go_roundw
        case rel => exact ⟨k + 1, by omega, by go_num, HALL, E1.out⟩
        case measure => simp [RowKit.intOf]; omega
    · have hlt' : ¬ (k : Int) < (xs.length : Int) := by omega
      have HOK := hid (show ∀ (j : Nat) (x : Int × Int), xs[j]? = some x → okF x.1 x.2 = true from fun j x hj => hall.out j x (by
        have := (List.getElem?_eq_some_iff.1 hj).1
        omega) hj)
      clear hbel hall
      go_wp2_with (fail)
      go_loopw [8, 21] (fun u i wr => ∃ k : Nat, k ≤ xs.length ∧ i = .int .i64 k ∧ Hid (∀ (j : Nat) (x : Int × Int), j < k → xs[j]? = some x → lo ≤ x.1) ∧ Below w.heap.size w wr) (fun _ i _ => xs.length - (RowKit.intOf i).toNat)
      case atStart => exact ⟨0, by omega, rfl, hid fun j x hj => by omega, HBEL.out⟩
      case round =>
        rename_i wr0
        obtain ⟨k, hk, rfl, hall, hbel⟩ := hrel
        have HBEL2 := hid hbel
        have hk0 : (0 : Int) ≤ (k : Int) := by omega
        by_cases hlt : k < xs.length
        · have hlt' : (k : Int) < (xs.length : Int) := by omega
          obtain ⟨⟨n, d⟩, hxk⟩ : ∃ x, xs[k]? = some x := ⟨_, List.getElem?_eq_getElem hlt⟩
          obtain ⟨ca1, cb1⟩ := HA.out k _ hxk
          dsimp only at ca1 cb1
          have ca0 := (hbel.cell (p := ⟨g, k * 2, none⟩) (World.block_lt_of_cell? _ _ ca1)).trans ca1
          have cb0 := (hbel.cell (p := ⟨g, k * 2 + 1, none⟩) (World.block_lt_of_cell? _ _ cb1)).trans cb1
          have HXK := hid hxk
          have hb := hbel.size
          clear ca1 cb1 hbel hxk
          by_cases hlo : n < lo
          · have HR := hid (show chkC lo xs = 2 from chk_low HOK.out HXK.out hlo)
            clear hall
            go_wp2_with (fail)
            go_ret
            exact ⟨by rw [HR.out]; rfl, HBEL2.out.alloc hb _⟩
          · have HALL := hid (show ∀ (j : Nat) (x : Int × Int), j < k + 1 → xs[j]? = some x → lo ≤ x.1 by
              intro j y hj hy
              by_cases hjk : j = k
              · subst hjk
                have : (n, d) = y := by have := HXK.out.symm.trans hy; simpa using this
                subst this
                show lo ≤ n
                omega
              · exact hall.out j y (by omega) hy)
            clear hall
            go_wp2_with (fail)
            go_roundw
            case rel => exact ⟨k + 1, by omega, by go_num, HALL, HBEL2.out.alloc hb _⟩
            case measure => simp [RowKit.intOf]; omega
        · have hlt' : ¬ (k : Int) < (xs.length : Int) := by omega
          have HR := hid (show chkC lo xs = 0 from chk_good HOK.out fun j x hj => hall.out j x (by
            have := (List.getElem?_eq_some_iff.1 hj).1
            omega) hj)
          clear hbel hall
          go_wp2_with (fail)
          go_ret
          exact ⟨by rw [HR.out]; rfl, HBEL2.out⟩

theorem frs_one (w : World) (n d : Int) (t : TypeId) : Frs (w.alloc (.cells #[.int .i64 n, .int .i64 d] t)) w.heap.size [(n, d)] := by
  obtain ⟨h1, h2⟩ := two_new w t (.int .i64 n) (.int .i64 d)
  intro j x hj
  cases j with
  | zero =>
    have : (n, d) = x := by simpa using hj
    subst this
    exact ⟨h1, h2⟩
  | succ j => simp at hj
theorem frs_two (w : World) (n d m f : Int) (t : TypeId) : Frs (w.alloc (.cells #[.int .i64 n, .int .i64 d, .int .i64 m, .int .i64 f] t)) w.heap.size [(n, d), (m, f)] := by
  intro j x hj
  cases j with
  | zero =>
    have : (n, d) = x := by simpa using hj
    subst this
    constructor <;> go_simp
  | succ j =>
    cases j with
    | zero =>
      have : (m, f) = x := by simpa using hj
      subst this
      constructor <;> go_simp
    | succ j => simp at hj

/-- The code of one fraction that must be positive. -/
def code1 (n d : Int) : Int := if okF n d then (if n ≤ 0 then 2 else 0) else 1
theorem chk_one (n d : Int) : chkC 1 [(n, d)] = code1 n d := by
  unfold chkC code1
  cases ho : okF n d
  · simp [ho]
  · by_cases h : n ≤ 0
    · have h2 : ¬ (1 : Int) ≤ n := by omega
      simp [h, h2, ho]
    · have h2 : (1 : Int) ≤ n := by omega
      simp [h, h2, ho]
theorem code1_no {n d : Int} (h : okF n d = false) : code1 n d = 1 := by unfold code1; rw [h]; rfl
theorem code1_low {n d : Int} (h : okF n d = true) (h1 : n ≤ 0) : code1 n d = 2 := by unfold code1; rw [h, if_pos rfl, if_pos h1]
theorem code1_ok {n d : Int} (h : okF n d = true) (h1 : 1 ≤ n) : code1 n d = 0 := by unfold code1; rw [h, if_pos rfl, if_neg (by omega)]

theorem specCode (n d : Int) (w : World) :
    Calls Try.prog 49 #[.agg #[.int .i64 n, .int .i64 d]] w fun e w' => e = .returned (.int .i64 (code1 n d)) ∧ Below w.heap.size w w' := by
  have HV := hid (specOk n d (w.alloc (.cells #[.int .i64 n, .int .i64 d] 25)))
  have CV := hid (two_new w 25 (.int .i64 n) (.int .i64 d))
  cases ho : okF n d
  · rw [ho] at HV
    rw [code1_no ho]
    go_enter Try.func49, Try.ntmps49
    go_wp2_with (fail)
    refine HV.out.mono ?_
    rintro e w1 ⟨rfl, b1⟩
    have E1 := hid (((Below.refl w.heap.size w).alloc (Nat.le_refl _) (.cells #[.int .i64 n, .int .i64 d] 25)).trans (b1.mono (by simp)))
    clear b1
    go_wp2_with (fail)
    go_ret
    exact ⟨rfl, E1.out⟩
  · have HO := hid ho
    rw [ho] at HV
    by_cases h1 : n ≤ 0
    · rw [code1_low ho h1]
      clear ho
      go_enter Try.func49, Try.ntmps49
      go_wp2_with (fail)
      refine HV.out.mono ?_
      rintro e w1 ⟨rfl, b1⟩
      have qa := (b1.cell (p := ⟨w.heap.size, 0, none⟩) (by simp)).trans CV.out.1
      have E1 := hid (((Below.refl w.heap.size w).alloc (Nat.le_refl _) (.cells #[.int .i64 n, .int .i64 d] 25)).trans (b1.mono (by simp)))
      clear b1
      go_wp2_with (fail)
      go_ret
      exact ⟨rfl, E1.out⟩
    · rw [code1_ok ho (by omega)]
      clear ho
      go_enter Try.func49, Try.ntmps49
      go_wp2_with (fail)
      refine HV.out.mono ?_
      rintro e w1 ⟨rfl, b1⟩
      have qa := (b1.cell (p := ⟨w.heap.size, 0, none⟩) (by simp)).trans CV.out.1
      have E1 := hid (((Below.refl w.heap.size w).alloc (Nat.le_refl _) (.cells #[.int .i64 n, .int .i64 d] 25)).trans (b1.mono (by simp)))
      clear b1
      go_wp2_with (fail)
      go_ret
      exact ⟨rfl, E1.out⟩

end Go.Proofs.Ytjijabfamjhdjaa
