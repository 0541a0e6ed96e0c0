/- Contracts: which lists are terms with signs, by the program and by the model. -/
import Derived.Test.YtipegemhcmfnmaaDoorSgc
import Derived.Test.YtipegemhcmfnmaaDoorVt
import Derived.BigQuiet
namespace Go.Proofs.YtipegemhcmfnmaaDoor
open Go.RowKit

theorem retBs {a b : Bool} (h : a = b) : Ending.returned (.bool a) = .returned (.bool b) := by rw [h]
/-- Whether a number lies within bounds, by the program. -/
theorem within1 (lo hi x : Int) (w : World) :
    Calls Tryd.prog 92 #[.int .i64 lo, .int .i64 hi, .slice (some ⟨w.heap.size, 0, none⟩) 1 1] (w.alloc (.cells #[.int .i64 x] 2)) fun e w' => e = .returned (.bool (inB lo hi x)) ∧ Below w.heap.size w w' :=
  (allWithin lo hi w.heap.size 0 1 1 [x] (w.alloc (.cells #[.int .i64 x] 2)) rfl (by simp) (lit_one w x)).mono fun e w' ⟨he, hb⟩ =>
    ⟨by rw [he]; simp, ((Below.refl _ _).alloc (Nat.le_refl _) _).trans (hb.mono (by simp))⟩
/-- .. behind a new block. -/
theorem within2 (lo hi x : Int) (w : World) (o : Obj) :
    Calls Tryd.prog 92 #[.int .i64 lo, .int .i64 hi, .slice (some ⟨w.heap.size + 1, 0, none⟩) 1 1] ((w.alloc o).alloc (.cells #[.int .i64 x] 2)) fun e w' => e = .returned (.bool (inB lo hi x)) ∧ Below w.heap.size w w' := by
  have h := within1 lo hi x (w.alloc o)
  rw [World.size_alloc] at h
  exact h.mono fun e w' ⟨he, hb⟩ => ⟨he, ((Below.refl _ _).alloc (Nat.le_refl _) _).trans (hb.mono (by omega))⟩
theorem two_newS (w : World) (x y : Value) (t : TypeId) : (w.alloc (.cells #[x, y] t)).cell? ⟨w.heap.size, 0, none⟩ = some x ∧ (w.alloc (.cells #[x, y] t)).cell? ⟨w.heap.size, 1, none⟩ = some y := by
  constructor <;> go_simp

theorem okS_all {xs : List (Int × Int)} (hl : 1 ≤ xs.length ∧ xs.length ≤ 60) (h : ∀ i x, i < xs.length → xs[i]? = some x → okAt i x = true) : okS xs = true :=
  okS_iff.2 ⟨hl, fun i x hx => h i x (List.getElem?_eq_some_iff.1 hx).1 hx⟩

theorem implValidS (g c : Nat) (xs : List (Int × Int)) (w : World) (hx : xs.length ≤ 2000000000) (hc : xs.length ≤ c) (ha : Sgs w g 0 xs) :
    Calls Tryd.prog 58 #[.slice (some ⟨g, 0, none⟩) xs.length c] w fun e w' => e = .returned (.bool (okS xs)) ∧ Below w.heap.size w w' := by
  by_cases h1 : xs.length < 1
  · have h1' : (xs.length : Int) < 1 := by omega
    go_enter Tryd.func58, Tryd.ntmps58
    go_wp2_with (fail)
    go_ret
    exact ⟨retBs (okS_short (by omega)).symm, Below.refl _ _⟩
  by_cases h2 : 60 < xs.length
  · have h1' : ¬ (xs.length : Int) < 1 := by omega
    have h2' : (60 : Int) < (xs.length : Int) := by omega
    go_enter Tryd.func58, Tryd.ntmps58
    go_wp2_with (fail)
    go_ret
    exact ⟨retBs (okS_short (by omega)).symm, Below.refl _ _⟩
  have h1' : ¬ (xs.length : Int) < 1 := by omega
  have h2' : ¬ (60 : Int) < (xs.length : Int) := by omega
  have h3' : (1 : Int) ≤ (xs.length : Int) := by omega
  have h3 : (0 : Int) < (xs.length : Int) := by omega
  have h4 : (xs.length : Int) ≤ (c : Int) := by omega
  have HL := hid (show 1 ≤ xs.length ∧ xs.length ≤ 60 by omega)
  obtain ⟨⟨s0, t0⟩, hx0⟩ : ∃ x, xs[0]? = some x := ⟨_, List.getElem?_eq_getElem (by omega)⟩
  obtain ⟨c0, c1⟩ := sgs_at ha hx0
  have hg : g < w.heap.size := World.block_lt_of_cell? _ _ c0
  have HA := hid ha
  have HX0 := hid hx0
  simp only [Nat.zero_mul, Nat.zero_add] at c0 c1
  clear ha hx0
  have BAD := hid (show okAt 0 (s0, t0) = false → okS xs = false from fun h => okS_bad HX0.out h)
  by_cases hs : s0 = 1
  · subst hs
    have hs1 : ((1 : Int) != 1) = false := by decide
    have E0 := hid ((Below.refl w.heap.size w).alloc (Nat.le_refl _) (.cells #[.int .i64 1, .int .i64 t0] 94))
    have W1 := hid (within2 (-1000000000) 1000000000 t0 w (.cells #[.int .i64 1, .int .i64 t0] 94))
    go_enter Tryd.func58, Tryd.ntmps58
    go_wp2_with (fail)
    refine W1.out.mono ?_
    rintro e w1 ⟨rfl, hb1⟩
    have E1 := hid hb1
    clear hb1 W1 c0 c1
    cases hb : inB (-1000000000) 1000000000 t0
    · have HR := hid (BAD.out (by rw [okAt_zero, hb]; rfl))
      go_wp2_with (fail)
      go_ret
      exact ⟨retBs HR.out.symm, E1.out⟩
    have G0 := hid (show okAt 0 (1, t0) = true by rw [okAt_zero, hb]; rfl)
    clear BAD
    by_cases hc1 : c = 1
    · have HR := hid (show okS xs = true from okS_all HL.out fun i x hi hx => by
        have : i = 0 := by omega
        subst this
        have := HX0.out.symm.trans hx
        simp only [Option.some.injEq] at this
        rw [← this]; exact G0.out)
      have hz : ¬ (0 : Int) < (xs.length : Int) - 1 := by omega
      have hl1 : xs.length = 1 := by omega
      have hz2 : ((xs.length : Int) - 1).toNat = 0 := by omega
      go_wp2_with (fail)
      refine wp_loop_rounds 1 ?_
      rw [rounds_succ]
      go_wp2_with (fail)
      go_ret
      exact ⟨retBs HR.out.symm, E1.out⟩
    · have HA2 := hid (sgs_drop (sgs_kept HA.out hg E1.out) 1)
      go_wp2_with (fail)
      go_loopw [5, 30] (fun u i wr => ∃ k : Nat, k + 1 ≤ xs.length ∧ i = .int .i64 k ∧ Hid (∀ j x, j < k + 1 → xs[j]? = some x → okAt j x = true) ∧ Below w.heap.size w wr) (fun _ i _ => xs.length - (RowKit.intOf i).toNat)
      case atStart => exact ⟨0, by omega, rfl, hid fun j x hj hx => by
        have : j = 0 := by omega
        subst this
        have := HX0.out.symm.trans hx
        simp only [Option.some.injEq] at this
        rw [← this]; exact G0.out, E1.out⟩
      case round =>
        obtain ⟨k, hk, rfl, hall, hbel⟩ := hrel
        have hk0 : (0 : Int) ≤ (k : Int) := by omega
        have HBEL := hid hbel
        by_cases hlt : k + 1 < xs.length
        · have hlt' : (k : Int) < (xs.length : Int) - 1 := by omega
          obtain ⟨⟨s, t⟩, hxk⟩ : ∃ x, xs[k + 1]? = some x := ⟨_, List.getElem?_eq_getElem hlt⟩
          obtain ⟨ca1, ca2⟩ := sgs_at (sgs_kept HA.out hg hbel) hxk
          rw [show (k + 1) * 2 = 2 + k * 2 by omega] at ca1 ca2
          have HK := hid (okAt_more (j := k + 1) (by omega) (x := (s, t)))
          have BAD := hid (show okAt (k + 1) (s, t) = false → okS xs = false from fun h => okS_bad hxk h)
          have GOOD := hid (show okAt (k + 1) (s, t) = true → ∀ j x, j < k + 1 + 1 → xs[j]? = some x → okAt j x = true from fun h j y hj hy => by
            by_cases hjk : j = k + 1
            · subst hjk
              have := hxk.symm.trans hy
              simp only [Option.some.injEq] at this
              rw [← this]; exact h
            · exact hall.out j y (by omega) hy)
          have EV := hid (HBEL.out.alloc HBEL.out.size (.cells #[.int .i64 s, .int .i64 t] 94))
          have W2 := hid (within2 1 1000000000 t wr (.cells #[.int .i64 s, .int .i64 t] 94))
          have hbw : w.heap.size ≤ wr.heap.size := hbel.size
          clear hbel hall hxk
          by_cases hs : s = 1
          · subst hs
            have hs2 : ((1 : Int) != 1) = false := by decide
            cases hbt : inB 1 1000000000 t
            · have HR := hid (BAD.out (by rw [HK.out, hbt]; rfl))
              rw [hbt] at W2
              clear BAD GOOD hbt
              go_wp2_with (fail)
              refine W2.out.mono ?_
              rintro e w3 ⟨rfl, hb3⟩
              have E3 := hid (HBEL.out.trans (hb3.mono hbw))
              clear hb3 W2
              go_wp2_with (fail)
              go_ret
              exact ⟨retBs HR.out.symm, E3.out⟩
            · have HR := hid (GOOD.out (by rw [HK.out, hbt]; rfl))
              rw [hbt] at W2
              clear BAD GOOD hbt
              go_wp2_with (fail)
              refine W2.out.mono ?_
              rintro e w3 ⟨rfl, hb3⟩
              have E3 := hid (HBEL.out.trans (hb3.mono hbw))
              clear hb3 W2
              go_wp2_with (fail)
              go_roundw
              case rel => exact ⟨k + 1, by omega, by go_num, HR, E3.out⟩
              case measure => simp [RowKit.intOf]; omega
          · have hs2 : (s != 1) = true := by simpa using hs
            by_cases hm : s = -1
            · subst hm
              have hs3 : ((-1 : Int) != -1) = false := by decide
              cases hbt : inB 1 1000000000 t
              · have HR := hid (BAD.out (by rw [HK.out, hbt]; rfl))
                rw [hbt] at W2
                clear BAD GOOD hbt
                go_wp2_with (fail)
                refine W2.out.mono ?_
                rintro e w3 ⟨rfl, hb3⟩
                have E3 := hid (HBEL.out.trans (hb3.mono hbw))
                clear hb3 W2
                go_wp2_with (fail)
                go_ret
                exact ⟨retBs HR.out.symm, E3.out⟩
              · have HR := hid (GOOD.out (by rw [HK.out, hbt]; rfl))
                rw [hbt] at W2
                clear BAD GOOD hbt
                go_wp2_with (fail)
                refine W2.out.mono ?_
                rintro e w3 ⟨rfl, hb3⟩
                have E3 := hid (HBEL.out.trans (hb3.mono hbw))
                clear hb3 W2
                go_wp2_with (fail)
                go_roundw
                case rel => exact ⟨k + 1, by omega, by go_num, HR, E3.out⟩
                case measure => simp [RowKit.intOf]; omega
            · have hs3 : (s != -1) = true := by simpa using hm
              have HR := hid (BAD.out (by rw [HK.out]; simp [hs, hm]))
              clear W2 BAD GOOD
              go_wp2_with (fail)
              go_ret
              exact ⟨retBs HR.out.symm, EV.out⟩
        · have hlt' : ¬ (k : Int) < (xs.length : Int) - 1 := by omega
          have HR := hid (okS_all HL.out fun i x hi hx => hall.out i x (by omega) hx)
          clear hbel hall
          go_wp2_with (fail)
          go_ret
          exact ⟨retBs HR.out.symm, HBEL.out⟩
  · have hs1 : (s0 != 1) = true := by simpa using hs
    have HR := hid (BAD.out (by rw [okAt_zero]; simp [hs]))
    have E0 := hid ((Below.refl w.heap.size w).alloc (Nat.le_refl _) (.cells #[.int .i64 s0, .int .i64 t0] 94))
    go_enter Tryd.func58, Tryd.ntmps58
    go_wp2_with (fail)
    go_ret
    exact ⟨retBs HR.out.symm, E0.out⟩

/-- The model's test: each element by its bounds. -/
theorem specOkS (g c : Nat) (xs : List (Int × Int)) (w : World) (hx : xs.length ≤ 2000000000) (ha : Sgs w g 0 xs) :
    Calls Tryd.prog 61 #[.slice (some ⟨g, 0, none⟩) xs.length c] w fun e w' => e = .returned (.bool (okS xs)) ∧ Below w.heap.size w w' := by
  have HA := hid ha
  clear ha
  go_enter Tryd.func61, Tryd.ntmps61
  go_wp2_with (fail)
  go_loopw [3, 4] (fun i u wr => ∃ k : Nat, k ≤ xs.length ∧ i = .int .i64 k ∧ Hid (∀ j x, j < k → xs[j]? = some x → okAt j x = true) ∧ Below w.heap.size w wr) (fun i _ _ => xs.length - (RowKit.intOf i).toNat)
  case atStart => exact ⟨0, by omega, rfl, hid fun j x hj => by omega, Below.refl _ _⟩
  case round =>
    obtain ⟨k, hk, rfl, hall, hbel⟩ := hrel
    have HBEL := hid hbel
    have hk0 : (0 : Int) ≤ (k : Int) := by omega
    by_cases hlt : k < xs.length
    · have hlt' : (k : Int) < (xs.length : Int) := by omega
      obtain ⟨⟨s, t⟩, hxk⟩ : ∃ x, xs[k]? = some x := ⟨_, List.getElem?_eq_getElem hlt⟩
      obtain ⟨ca1, ca2⟩ := sgs_at (sgs_below HA.out hbel) hxk
      dsimp only at ca1 ca2
      have BAD := hid (show okAt k (s, t) = false → okS xs = false from fun h => okS_bad hxk h)
      have GOOD := hid (show okAt k (s, t) = true → ∀ j x, j < k + 1 → xs[j]? = some x → okAt j x = true from fun h j y hj hy => by
        by_cases hjk : j = k
        · subst hjk
          have := hxk.symm.trans hy
          simp only [Option.some.injEq] at this
          rw [← this]; exact h
        · exact hall.out j y (by omega) hy)
      have SI := hid (fun lo w => specIn t lo 1000000000 w)
      clear hbel hall hxk
      by_cases hz : k = 0
      · subst hz
        rw [okAt_zero] at BAD GOOD
        simp only [Nat.zero_mul, Nat.zero_add] at ca1 ca2
        go_wp2_with (fail)
        refine (SI.out _ _).mono ?_
        rintro e w1 ⟨rfl, rfl⟩
        cases hb : inB (-1000000000) 1000000000 t
        · have HR := hid (BAD.out (by rw [hb]; simp))
          go_wp2_with (fail)
          go_ret
          exact ⟨retBs HR.out.symm, HBEL.out⟩
        · by_cases hs : s = 1
          · subst hs
            have hs2 : ((1 : Int) != 1) = false := by decide
            have HR := hid (GOOD.out (by rw [hb]; rfl))
            go_wp2_with (fail)
            go_roundw
            case rel => exact ⟨1, by omega, by go_num, HR, HBEL.out⟩
            case measure => simp [RowKit.intOf]; omega
          · have hs2 : (s != 1) = true := by simpa using hs
            have HR := hid (BAD.out (by simp [hs]))
            go_wp2_with (fail)
            go_ret
            exact ⟨retBs HR.out.symm, HBEL.out⟩
      · have hz' : ¬ (k : Int) = 0 := by omega
        rw [okAt_more hz] at BAD GOOD
        go_wp2_with (fail)
        refine (SI.out _ _).mono ?_
        rintro e w1 ⟨rfl, rfl⟩
        cases hb : inB 1 1000000000 t
        · have HR := hid (BAD.out (by rw [hb]; simp))
          go_wp2_with (fail)
          go_ret
          exact ⟨retBs HR.out.symm, HBEL.out⟩
        · by_cases hs : s = 1
          · subst hs
            have hs2 : ((1 : Int) != 1) = false := by decide
            have HR := hid (GOOD.out (by rw [hb]; rfl))
            go_wp2_with (fail)
            go_roundw
            case rel => exact ⟨k + 1, by omega, by go_num, HR, HBEL.out⟩
            case measure => simp [RowKit.intOf]; omega
          · have hs2 : (s != 1) = true := by simpa using hs
            by_cases hm : s = -1
            · subst hm
              have hs3 : ((-1 : Int) != -1) = false := by decide
              have HR := hid (GOOD.out (by rw [hb]; rfl))
              go_wp2_with (fail)
              go_roundw
              case rel => exact ⟨k + 1, by omega, by go_num, HR, HBEL.out⟩
              case measure => simp [RowKit.intOf]; omega
            · have hs3 : (s != -1) = true := by simpa using hm
              have HR := hid (BAD.out (by simp [hs, hm]))
              go_wp2_with (fail)
              go_ret
              exact ⟨retBs HR.out.symm, HBEL.out⟩
    · have hlt' : ¬ (k : Int) < (xs.length : Int) := by omega
      have SI := hid (fun w => specIn (xs.length : Int) 1 60 w)
      have HR := hid (show inB 1 60 (xs.length : Int) = okS xs by
        by_cases h1 : 1 ≤ xs.length ∧ xs.length ≤ 60
        · rw [inB_yes ⟨by omega, by omega⟩]
          exact (okS_all h1 fun i x hi hx => hall.out i x (by omega) hx).symm
        · rw [okS_short h1, inB_no (by omega)])
      clear hbel hall
      go_wp2_with (fail)
      refine (SI.out _).mono ?_
      rintro e w1 ⟨rfl, rfl⟩
      rw [HR.out]
      go_wp2_with (fail)
      go_ret
      exact ⟨rfl, HBEL.out⟩

end Go.Proofs.YtipegemhcmfnmaaDoor
