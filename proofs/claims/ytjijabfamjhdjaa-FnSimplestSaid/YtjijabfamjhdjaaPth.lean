/- Contracts: the path to a fraction, by the program and by the model. -/
import Derived.Test.YtjijabfamjhdjaaChk
import Derived.Test.YtjijabfamjhdjaaTrf
import Derived.Test.YtjijabfamjhdjaaExp
namespace Go.Proofs.Ytjijabfamjhdjaa
open Go.RowKit

/-- Zeros at the end are cut off, of a row of the caller's own. -/
theorem implTrim (g c : Nat) (xs : List Int) (w : World) (hx : xs.length ≤ 1000) (hc : xs.length ≤ c) (ha : Ints w g 0 xs) :
    Calls Try.prog 60 #[.slice (some ⟨g, 0, none⟩) xs.length c] w fun e w' => e = .returned (.slice (some ⟨g, 0, none⟩) (trimN xs xs.length) c) ∧ w' = w := by
  have HA := hid ha
  clear ha
  go_enter Try.func60, Try.ntmps60
  go_wp2_with (fail)
  go_loop [0] (fun v => ∃ k : Nat, k ≤ xs.length ∧ v = .slice (some ⟨g, 0, none⟩) k c ∧ Hid (trimN xs k = trimN xs xs.length)) (fun v => match v with | .slice _ n _ => n | _ => 0)
  case atStart => exact ⟨xs.length, by omega, rfl, hid rfl⟩
  case round =>
    obtain ⟨k, hk, rfl, hst⟩ := hrel
    cases k with
    | zero =>
      have HR := hid (show (0 : Nat) = trimN xs xs.length from hst.out)
      clear hst
      go_wp2_with (fail)
      go_ret
      exact ⟨by rw [← HR.out]; rfl, rfl⟩
    | succ m =>
      obtain ⟨x, hx0⟩ : ∃ x, xs[m]? = some x := ⟨_, List.getElem?_eq_getElem (by omega)⟩
      have c0 := ints_at HA.out hx0
      have p1 : (0 : Int) < ((m + 1 : Nat) : Int) := by omega
      have p2 : (((m + 1 : Nat) : Int) - 1).toNat = m := by omega
      have HX := hid hx0
      clear hx0
      by_cases hz : x = 0
      · subst hz
        have HS := hid (show trimN xs m = trimN xs xs.length by rw [← hst.out, trimN_zero HX.out])
        clear hst
        go_wp2_with (fail)
        go_round
        case rel => exact ⟨m, by omega, by simp, HS⟩
        case measure => simp
      · have hz' : (x == 0) = false := by simpa using hz
        have HR := hid (show m + 1 = trimN xs xs.length by rw [← hst.out, trimN_stop (by rw [HX.out]; intro e; injection e with e; exact hz e)])
        clear hst
        go_wp2_with (fail)
        go_ret
        exact ⟨by rw [← HR.out]; rfl, rfl⟩

theorem own_list {B : Nat} {w : World} {v : Value} {xs : List Int} (h : Back B w v xs) (h0 : 0 < xs.length) : ∃ g c, v = .slice (some ⟨g, 0, none⟩) xs.length c ∧ Own B w g c xs := by
  rcases h with ⟨_, h1⟩ | ⟨g, c, rfl, h⟩
  · rw [h1] at h0; simp at h0
  · exact ⟨g, c, rfl, h⟩
theorem own_trim {B : Nat} {w : World} {g c : Nat} {xs : List Int} (h : Own B w g c xs) : Own B w g c (trimL xs) ∧ (trimL xs).length = trimN xs xs.length := by
  have hl : (trimL xs).length = trimN xs xs.length := by
    have := trimN_le xs xs.length
    unfold trimL
    rw [List.length_take]; omega
  refine ⟨?_, hl⟩
  have h1 := own_take h (trimN xs xs.length) (trimN_le _ _)
  unfold Own
  rw [hl]
  exact h1
theorem own_set {B : Nat} {w : World} {g c : Nat} {xs : List Int} (h : Own B w g c xs) (k : Nat) (x : Int) : Own B (w.setCell ⟨g, k, none⟩ (.int .i64 x)) g c (xs.set k x) := by
  refine ⟨h.1, ?_⟩
  have h2 := (h.2.stored k (.int .i64 x)).1
  rw [← intCells_set] at h2
  rw [List.length_set]
  exact h2
theorem eu_facts {n d : Int} (ho : okF n d = true) : 0 < (eu n d).length ∧ (eu n d).length ≤ 60 ∧ ∀ (j : Nat) (x : Int), (eu n d)[j]? = some x → -1000000000 ≤ x ∧ x ≤ 1000000000 := by
  obtain ⟨b1, b2, b3, b4, b5⟩ := okF_iff.1 ho
  have ht := eu_ok (k := 30) (n := n) (d := d) (by omega) (two30 b2) (Nat.le_refl _) b3 b4 b2
  have := okT_len ht
  exact ⟨by omega, this.2, okT_bd ht⟩
theorem decL_eq {xs : List Int} {y : Int} (h : xs[xs.length - 1]? = some y) : decL xs = xs.set (xs.length - 1) (y - 1) := by
  unfold decL
  rw [List.getD_eq_getElem?_getD, h]; rfl

/-- The path to a positive fraction, by the program. -/
theorem implRunsTo (n d : Int) (w : World) (ho : okF n d = true) :
    Calls Try.prog 48 #[.agg #[.int .i64 n, .int .i64 d]] w fun e w' => ∃ g c, e = .returned (.slice (some ⟨g, 0, none⟩) (pathF n d).length c) ∧ Own w.heap.size w' g c (pathF n d) ∧ Below w.heap.size w w' := by
  have HX := hid (fun w => implExpand n d w)
  rw [expT_ok ho] at HX
  obtain ⟨hl, hl60, hbd⟩ := eu_facts ho
  unfold pathF
  obtain ⟨xs, hxs⟩ : ∃ xs, xs = eu n d := ⟨_, rfl⟩
  rw [← hxs] at HX hl hl60 hbd ⊢
  obtain ⟨y, hy⟩ : ∃ y, xs[xs.length - 1]? = some y := ⟨_, List.getElem?_eq_getElem (by omega)⟩
  obtain ⟨hy1, hy2⟩ := hbd _ _ hy
  have HY := hid hy
  have t1 : ((xs.length : Int) - 1).toNat = xs.length - 1 := by omega
  have p2 : (0 : Int) ≤ (xs.length : Int) - 1 := by omega
  clear hy hbd hxs ho
  go_enter Try.func48, Try.ntmps48
  go_wp2_with (fail)
  refine (HX.out _).mono ?_
  rintro e w1 ⟨⟨v, rfl, r⟩, b1⟩
  obtain ⟨g1, c1, rfl, o1⟩ := own_list r hl
  have E1 := hid (((Below.refl w.heap.size w).alloc (Nat.le_refl _) (.cells #[.int .i64 n, .int .i64 d] 25)).trans (b1.mono (by simp)))
  have o2 : Own w.heap.size w1 g1 c1 xs := own_mono o1 (by simp)
  have cy := ints_at (own_ints o2) HY.out
  have f1 := own_frozen o2 (xs.length - 1)
  have hg1 := o2.1
  have hlt1 := own_lt o2
  have hcap := own_cap o2
  have OS := hid (own_set o2 (xs.length - 1) (y - 1))
  rw [← decL_eq HY.out] at OS
  have E2 := hid (E1.out.setCell (p := ⟨g1, xs.length - 1, none⟩) hg1 (.int .i64 (y - 1)))
  have HT := hid (implTrim g1 c1 (decL xs) (w1.setCell ⟨g1, xs.length - 1, none⟩ (.int .i64 (y - 1))) (by rw [decL_length]; omega) (by rw [decL_length]; omega) (own_ints OS.out))
  rw [decL_length] at HT
  clear o1 o2 b1 r
  go_wp2_with (fail)
  refine HT.out.mono ?_
  rintro e w2 ⟨rfl, rfl⟩
  obtain ⟨O1, O2⟩ := own_trim OS.out
  rw [decL_length] at O2
  have HO := hid O1
  have HO2 := hid O2
  clear O1 O2
  go_wp2_with (fail)
  go_ret
  exact ⟨g1, c1, by rw [HO2.out]; rfl, HO.out, E2.out⟩

/-- .. by the model. -/
theorem specPathL (n d : Int) (w : World) (ho : okF n d = true) (hn : 1 ≤ n) :
    Calls Try.prog 50 #[.agg #[.int .i64 n, .int .i64 d]] w fun e w' => ∃ g c, e = .returned (.slice (some ⟨g, 0, none⟩) (pathF n d).length c) ∧ Own w.heap.size w' g c (pathF n d) ∧ Below w.heap.size w w' := by
  obtain ⟨b1, b2, b3, b4, _⟩ := okF_iff.1 ho
  have HX := hid (fun w => specTerms n d w b1 b2 b3 b4)
  obtain ⟨hl, hl60, hbd⟩ := eu_facts ho
  have HS := hid (path_shape ho hn)
  obtain ⟨xs, hxs⟩ : ∃ xs, xs = eu n d := ⟨_, rfl⟩
  rw [← hxs] at HX hl hl60 hbd HS
  obtain ⟨y, hy⟩ : ∃ y, xs[xs.length - 1]? = some y := ⟨_, List.getElem?_eq_getElem (by omega)⟩
  obtain ⟨hy1, hy2⟩ := hbd _ _ hy
  have HY := hid hy
  have t1 : ((xs.length : Int) - 1).toNat = xs.length - 1 := by omega
  have p2 : (0 : Int) ≤ (xs.length : Int) - 1 := by omega
  have HP := hid (show (y - 1 = 0 ∧ pathF n d = []) ∨ (y - 1 ≠ 0 ∧ pathF n d = decL xs) by
    rcases HS.out with ⟨e1, e2, _⟩ | ⟨e1, e2⟩
    · left
      have h := HY.out
      rw [e2] at h
      have h : 1 = y := by simpa using h
      exact ⟨by omega, e1⟩
    · right
      rw [List.getD_eq_getElem?_getD, decL_last hl, List.getD_eq_getElem?_getD, HY.out] at e2
      have e2 : 1 ≤ y - 1 := e2
      exact ⟨by omega, e1⟩)
  clear hy hbd hxs ho b1 b2 b3 b4 HS hn
  go_enter Try.func50, Try.ntmps50
  go_wp2_with (fail)
  refine (HX.out _).mono ?_
  rintro e w1 ⟨v, rfl, r, b1⟩
  obtain ⟨g1, c1, rfl, o1⟩ := own_list r hl
  have E1 := hid (((Below.refl w.heap.size w).alloc (Nat.le_refl _) (.cells #[.int .i64 n, .int .i64 d] 25)).trans (b1.mono (by simp)))
  have o2 : Own w.heap.size w1 g1 c1 xs := own_mono o1 (by simp)
  have cy := ints_at (own_ints o2) HY.out
  have f1 := own_frozen o2 (xs.length - 1)
  have hg1 := o2.1
  have hlt1 := own_lt o2
  have hcap := own_cap o2
  have OS := hid (own_set o2 (xs.length - 1) (y - 1))
  rw [← decL_eq HY.out] at OS
  have E2 := hid (E1.out.setCell (p := ⟨g1, xs.length - 1, none⟩) hg1 (.int .i64 (y - 1)))
  clear o1 o2 b1 r
  by_cases hz : y - 1 = 0
  · have HE := hid (show pathF n d = [] by
      rcases HP.out with ⟨_, e⟩ | ⟨e, _⟩
      · exact e
      · exact absurd hz e)
    have ON := hid (lit_none (w1.setCell ⟨g1, xs.length - 1, none⟩ (.int .i64 (y - 1))) w.heap.size (by simpa using E1.out.size))
    have E3 := hid (E2.out.alloc E2.out.size (.cells #[] 2))
    rw [hz] at ON E3
    clear HP
    go_wp2_with (fail)
    go_ret
    rw [HE.out]
    exact ⟨_, 0, rfl, ⟨by simpa using E1.out.size, by simpa using ON.out⟩, E3.out⟩
  · have HE := hid (show pathF n d = decL xs by
      rcases HP.out with ⟨e, _⟩ | ⟨_, e⟩
      · exact absurd e hz
      · exact e)
    clear HP
    go_wp2_with (fail)
    go_ret
    rw [HE.out]
    exact ⟨g1, c1, by rw [decL_length]; rfl, OS.out, E2.out⟩

/-- The path, and a code. -/
def pthT (n d : Int) : List Int × Int := if code1 n d = 0 then (pathF n d, 0) else ([], code1 n d)
theorem pthT_no {n d : Int} (h : code1 n d ≠ 0) : pthT n d = ([], code1 n d) := if_neg h
theorem pthT_ok {n d : Int} (h : code1 n d = 0) : pthT n d = (pathF n d, 0) := if_pos h
theorem code1_zero {n d : Int} (h : code1 n d = 0) : okF n d = true ∧ 1 ≤ n := by
  cases ho : okF n d
  · rw [code1_no ho] at h; simp at h
  · by_cases h1 : n ≤ 0
    · rw [code1_low ho h1] at h; simp at h
    · exact ⟨rfl, by omega⟩
theorem pthT_len {n d : Int} : (pthT n d).1.length ≤ 60 := by
  by_cases h : code1 n d = 0
  · obtain ⟨h1, h2⟩ := code1_zero h
    rw [pthT_ok h]
    exact okP_len (path_ok h1 h2)
  · rw [pthT_no h]; exact Nat.zero_le _

/-- The code of one fraction, in a list of its own behind the boxed argument. -/
theorem chkAt (n d : Int) (w : World) :
    Calls Try.prog 47 #[.int .i64 1, .slice (some ⟨w.heap.size + 1, 0, none⟩) 1 1] ((w.alloc (.cells #[.int .i64 n, .int .i64 d] 25)).alloc (.cells #[.int .i64 n, .int .i64 d] 25)) fun e w' => e = .returned (.int .i64 (code1 n d)) ∧ (w'.cell? ⟨w.heap.size, 0, none⟩ = some (.int .i64 n) ∧ w'.cell? ⟨w.heap.size, 1, none⟩ = some (.int .i64 d)) ∧ Below w.heap.size w w' := by
  have hf := frs_one (w.alloc (.cells #[.int .i64 n, .int .i64 d] 25)) n d 25
  rw [World.size_alloc] at hf
  have h := implChk 1 (w.heap.size + 1) 1 1 [(n, d)] ((w.alloc (.cells #[.int .i64 n, .int .i64 d] 25)).alloc (.cells #[.int .i64 n, .int .i64 d] 25)) rfl (by simp) hf
  rw [chk_one] at h
  refine h.mono ?_
  rintro e w1 ⟨rfl, b1⟩
  refine ⟨rfl, ⟨(b1.cell (p := ⟨w.heap.size, 0, none⟩) (by simp; omega)).trans (by go_simp), (b1.cell (p := ⟨w.heap.size, 1, none⟩) (by simp; omega)).trans (by go_simp)⟩, ?_⟩
  exact (((Below.refl w.heap.size w).alloc (Nat.le_refl _) _).alloc (by simp) _).trans (b1.mono (by simp; omega))

theorem implPathTo (n d : Int) (w : World) :
    Calls Try.prog 9 #[.agg #[.int .i64 n, .int .i64 d]] w fun e w' => ListR w.heap.size (pthT n d) e w' ∧ Below w.heap.size w w' := by
  have HC := hid (chkAt n d w)
  by_cases hc : code1 n d = 0
  · obtain ⟨ho, _⟩ := code1_zero hc
    rw [pthT_ok hc]
    rw [hc] at HC
    have HR := hid (fun w => implRunsTo n d w ho)
    clear hc ho
    go_enter Try.func9, Try.ntmps9
    go_wp2_with (fail)
    refine HC.out.mono ?_
    rintro e w1 ⟨rfl, ⟨m1, m2⟩, b1⟩
    have E1 := hid b1
    clear b1
    go_wp2_with (fail)
    refine (HR.out _).mono ?_
    rintro e w2 ⟨g, c, rfl, o, b2⟩
    have O := hid (own_mono o E1.out.size)
    have E2 := hid (E1.out.trans (b2.mono E1.out.size))
    clear o b2
    go_wp2_with (fail)
    go_ret2
    exact ⟨⟨_, rfl, .inr ⟨g, c, rfl, O.out⟩⟩, E2.out⟩
  · rw [pthT_no hc]
    generalize code1 n d = k at *
    have hk : (k != 0) = true := by simpa using hc
    go_enter Try.func9, Try.ntmps9
    go_wp2_with (fail)
    refine HC.out.mono ?_
    rintro e w1 ⟨rfl, ⟨m1, m2⟩, b1⟩
    have E1 := hid b1
    clear b1
    go_wp2_with (fail)
    go_ret2
    exact ⟨⟨_, rfl, backNil⟩, E1.out⟩

theorem specPathTo (n d : Int) (w : World) :
    Calls Try.prog 10 #[.agg #[.int .i64 n, .int .i64 d]] w fun e w' => ListR w.heap.size (pthT n d) e w' ∧ Below w.heap.size w w' := by
  have CV := hid (two_new w 25 (.int .i64 n) (.int .i64 d))
  have HC := hid (specCode n d (w.alloc (.cells #[.int .i64 n, .int .i64 d] 25)))
  by_cases hc : code1 n d = 0
  · obtain ⟨ho, hn⟩ := code1_zero hc
    rw [pthT_ok hc]
    rw [hc] at HC
    have HR := hid (fun w => specPathL n d w ho hn)
    clear hc ho hn
    go_enter Try.func10, Try.ntmps10
    go_wp2_with (fail)
    refine HC.out.mono ?_
    rintro e w1 ⟨rfl, b1⟩
    have qa := (b1.cell (p := ⟨w.heap.size, 0, none⟩) (by simp)).trans CV.out.1
    have qb := (b1.cell (p := ⟨w.heap.size, 1, none⟩) (by simp)).trans CV.out.2
    have E1 := hid (((Below.refl w.heap.size w).alloc (Nat.le_refl _) (.cells #[.int .i64 n, .int .i64 d] 25)).trans (b1.mono (by simp)))
    clear b1
    go_wp2_with (fail)
    refine (HR.out _).mono ?_
    rintro e w2 ⟨g, c, rfl, o, b2⟩
    have O := hid (own_mono o E1.out.size)
    have E2 := hid (E1.out.trans (b2.mono E1.out.size))
    clear o b2
    go_wp2_with (fail)
    go_ret2
    exact ⟨⟨_, rfl, .inr ⟨g, c, rfl, O.out⟩⟩, E2.out⟩
  · rw [pthT_no hc]
    generalize code1 n d = k at *
    have hk : (k != 0) = true := by simpa using hc
    go_enter Try.func10, Try.ntmps10
    go_wp2_with (fail)
    refine HC.out.mono ?_
    rintro e w1 ⟨rfl, b1⟩
    have E1 := hid (((Below.refl w.heap.size w).alloc (Nat.le_refl _) (.cells #[.int .i64 n, .int .i64 d] 25)).trans (b1.mono (by simp)))
    clear b1
    go_wp2_with (fail)
    go_ret2
    exact ⟨⟨_, rfl, backNil⟩, E1.out⟩

end Go.Proofs.Ytjijabfamjhdjaa
