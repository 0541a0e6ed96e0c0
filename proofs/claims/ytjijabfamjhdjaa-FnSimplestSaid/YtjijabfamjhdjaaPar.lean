/- Contracts: the fraction one step before, by the program and by the model. -/
import Derived.Test.YtjijabfamjhdjaaAtp
namespace Go.Proofs.Ytjijabfamjhdjaa
open Go.RowKit

/-- An argument and a result in their blocks. -/
def Box2 (w0 w : World) (n d : Int) : Prop := w.heap[w0.heap.size]? = some (.cells #[.int .i64 n, .int .i64 d] 25 (0, 0)) ∧ w.heap[w0.heap.size + 1]? = some (.cells #[.int .i64 0, .int .i64 0] 25 (0, 0)) ∧ Below w0.heap.size w0 w
theorem box2_below {w0 w w' : World} {n d : Int} (h : Box2 w0 w n d) (hb : Below w.heap.size w w') : Box2 w0 w' n d :=
  ⟨(hb.block _ (Array.getElem?_eq_some_iff.1 h.1).1).trans h.1, (hb.block _ (Array.getElem?_eq_some_iff.1 h.2.1).1).trans h.2.1, h.2.2.trans (hb.mono h.2.2.size)⟩
theorem box2_new (w : World) (n d : Int) : Box2 w ((w.alloc (.cells #[.int .i64 n, .int .i64 d] 25)).alloc (.cells #[.int .i64 0, .int .i64 0] 25)) n d := by
  refine ⟨old_at (new_at _ _) _, ?_, ((Below.refl w.heap.size w).alloc (Nat.le_refl _) _).alloc (by simp) _⟩
  have := new_at (w.alloc (.cells #[.int .i64 n, .int .i64 d] 25)) (.cells #[.int .i64 0, .int .i64 0] 25)
  rwa [World.size_alloc] at this
theorem box2_set {w0 w : World} {n d : Int} (h : Box2 w0 w n d) {b k : Nat} (hb : w0.heap.size + 1 < b) (v : Value) : Box2 w0 (w.setCell ⟨b, k, none⟩ v) n d :=
  ⟨by rw [heap_setCell_other _ ⟨b, k, none⟩ _ _ (by simp; omega)]; exact h.1, by rw [heap_setCell_other _ ⟨b, k, none⟩ _ _ (by simp; omega)]; exact h.2.1, h.2.2.setCell (p := ⟨b, k, none⟩) (by simp; omega) _⟩
theorem box2_ret {w0 w : World} {n d : Int} (h : Box2 w0 w n d) (x y : Int) : ((w.setCell ⟨w0.heap.size + 1, 0, none⟩ (.int .i64 x)).setCell ⟨w0.heap.size + 1, 1, none⟩ (.int .i64 y)).cell? ⟨w0.heap.size + 1, 0, none⟩ = some (.int .i64 x) ∧ ((w.setCell ⟨w0.heap.size + 1, 0, none⟩ (.int .i64 x)).setCell ⟨w0.heap.size + 1, 1, none⟩ (.int .i64 y)).cell? ⟨w0.heap.size + 1, 1, none⟩ = some (.int .i64 y) ∧ Below w0.heap.size w0 ((w.setCell ⟨w0.heap.size + 1, 0, none⟩ (.int .i64 x)).setCell ⟨w0.heap.size + 1, 1, none⟩ (.int .i64 y)) := by
  obtain ⟨k0, k1, _⟩ := blk2 h.2.1
  obtain ⟨a, b⟩ := two_set (u := .int .i64 x) (v := .int .i64 y) k0 k1
  exact ⟨a, b, below_set (below_set h.2.2 (by omega) _) (by omega) _⟩

/-- The fraction one step before, and a code. -/
def parT (n d : Int) : Int × Int × Int := if code1 n d = 0 then (if pathF n d = [] then (0, 0, 3) else atP (parL (pathF n d))) else (0, 0, code1 n d)
theorem parT_no {n d : Int} (h : code1 n d ≠ 0) : parT n d = (0, 0, code1 n d) := if_neg h
theorem parT_top {n d : Int} (h : code1 n d = 0) (h2 : pathF n d = []) : parT n d = (0, 0, 3) := by unfold parT; rw [if_pos h, if_pos h2]
theorem parT_ok {n d : Int} (h : code1 n d = 0) (h2 : pathF n d ≠ []) : parT n d = atP (parL (pathF n d)) := by unfold parT; rw [if_pos h, if_neg h2]
theorem back_any {B : Nat} {w : World} {v : Value} {xs : List Int} (h : Back B w v xs) : ∃ a c, v = .slice a xs.length c := by
  rcases h with ⟨h1, h2⟩ | ⟨g, c, h1, _⟩
  · exact ⟨none, 0, by rw [h1, h2]; rfl⟩
  · exact ⟨_, _, h1⟩

set_option maxHeartbeats 1600000 in
theorem implPar (n d : Int) (w : World) :
    Calls Try.prog 16 #[.agg #[.int .i64 n, .int .i64 d]] w fun e w' => e = .returned (tv (parT n d)) ∧ Below w.heap.size w w' := by
  have HB := hid (box2_new w n d)
  have HP := hid (fun w => implPathTo n d w)
  unfold tv
  by_cases hc : code1 n d = 0
  · obtain ⟨ho, hn⟩ := code1_zero hc
    rw [pthT_ok hc] at HP
    by_cases h0 : pathF n d = []
    · rw [parT_top hc h0]
      rw [h0] at HP
      clear hc ho hn h0
      go_enter Try.func16, Try.ntmps16
      go_wp2_with (fail)
      refine (HP.out _).mono ?_
      rintro e w1 ⟨⟨v, rfl, r⟩, b1⟩
      have BX := hid (box2_below HB.out b1)
      obtain ⟨z0, z1, f0, f1, zl⟩ := blk2 BX.out.2.1
      obtain ⟨a, c, rfl⟩ := back_any r
      clear b1 r
      go_wp2_with (fail)
      obtain ⟨r0, r1, E⟩ := box2_ret BX.out 0 0
      refine bodyPost_ret (v := .tuple #[.agg #[.int .i64 0, .int .i64 0], .int .i64 3]) (by simp [results, Try.results16, go_sem, r0, r1]) rfl ⟨rfl, E⟩
    · rw [parT_ok hc h0]
      have hok := path_ok ho hn
      have hl60 := okP_len hok
      clear hc ho hn
      obtain ⟨xs, hxs⟩ : ∃ xs, xs = pathF n d := ⟨_, rfl⟩
      rw [← hxs] at HP h0 hok hl60 ⊢
      have hl : 0 < xs.length := List.length_pos_iff.2 h0
      obtain ⟨y, hy, hy1, hy2⟩ := okP_last hok hl
      have HY := hid hy
      have HAT := hid (fun (g c : Nat) (w : World) (hl : (parL xs).length ≤ 60) (hc : (parL xs).length ≤ c) (h : Ints w g 0 (parL xs)) => implAt g c (parL xs) w (by omega) hc h)
      have t1 : ((xs.length : Int) - 1).toNat = xs.length - 1 := by omega
      have p2 : (0 : Int) ≤ (xs.length : Int) - 1 := by omega
      have p3 : ¬ (xs.length : Int) = 0 := by omega
      clear hxs h0 hok hy
      generalize atP (parL xs) = R at *
      obtain ⟨q0, q1, q2⟩ := R
      go_enter Try.func16, Try.ntmps16
      go_wp2_with (fail)
      refine (HP.out _).mono ?_
      rintro e w1 ⟨⟨v, rfl, r⟩, b1⟩
      have BX := hid (box2_below HB.out b1)
      obtain ⟨g1, c1, rfl, o1⟩ := own_list r hl
      dsimp only at o1
      have cy := ints_at (own_ints o1) HY.out
      have fr := own_frozen o1 (xs.length - 1)
      have hcap := own_cap o1
      have hg : w.heap.size + 1 < g1 := by have := o1.1; simp at this; omega
      have OS := hid (own_set o1 (xs.length - 1) (y - 1))
      rw [← decL_eq HY.out] at OS
      have BX2 := hid (box2_set BX.out (k := xs.length - 1) hg (.int .i64 (y - 1)))
      have HT := hid (implTrim g1 c1 (decL xs) (w1.setCell ⟨g1, xs.length - 1, none⟩ (.int .i64 (y - 1))) (by rw [decL_length]; omega) (by rw [decL_length]; omega) (own_ints OS.out))
      rw [decL_length] at HT
      clear o1 b1 r
      go_wp2_with (fail)
      refine HT.out.mono ?_
      rintro e w2 ⟨rfl, rfl⟩
      obtain ⟨O1, O2⟩ := own_trim OS.out
      rw [decL_length] at O2
      have HO := hid (show Ints _ g1 0 (parL xs) from own_ints O1)
      have hle : (parL xs).length ≤ xs.length := by
        have := trimN_le (decL xs) xs.length
        show (trimL (decL xs)).length ≤ _
        omega
      have HAT2 := hid (HAT.out g1 c1 _ (by omega) (by omega) HO.out)
      rw [show (parL xs).length = trimN (decL xs) xs.length from O2] at HAT2
      clear O1 O2 HO hle
      go_wp2_with (fail)
      refine HAT2.out.mono ?_
      rintro e w3 ⟨rfl, b3⟩
      have BX3 := hid (box2_below BX2.out b3)
      obtain ⟨z0, z1, f0, f1, zl⟩ := blk2 BX3.out.2.1
      clear b3
      dsimp only [tv]
      go_wp2_with (fail)
      obtain ⟨r0, r1, E⟩ := box2_ret BX3.out q0 q1
      refine bodyPost_ret (v := .tuple #[.agg #[.int .i64 q0, .int .i64 q1], .int .i64 q2]) (by simp [results, Try.results16, go_sem, r0, r1]) rfl ⟨rfl, E⟩
  · rw [parT_no hc]
    rw [pthT_no hc] at HP
    generalize code1 n d = k at *
    have hk : (k != 0) = true := by simpa using hc
    go_enter Try.func16, Try.ntmps16
    go_wp2_with (fail)
    refine (HP.out _).mono ?_
    rintro e w1 ⟨⟨v, rfl, r⟩, b1⟩
    have BX := hid (box2_below HB.out b1)
    obtain ⟨z0, z1, f0, f1, zl⟩ := blk2 BX.out.2.1
    clear b1 r
    go_wp2_with (fail)
    obtain ⟨r0, r1, E⟩ := box2_ret BX.out 0 0
    refine bodyPost_ret (v := .tuple #[.agg #[.int .i64 0, .int .i64 0], .int .i64 k]) (by simp [results, Try.results16, go_sem, r0, r1]) rfl ⟨rfl, E⟩

theorem own_cut {B : Nat} {w : World} {g c : Nat} {xs ys : List Int} (h : Own B w g c xs) (m : Nat) (hm : m ≤ xs.length) (hy : ys = xs.take m) : Own B w g c ys ∧ ys.length = m := by
  subst hy
  have hl : (xs.take m).length = m := by rw [List.length_take]; omega
  refine ⟨?_, hl⟩
  unfold Own
  rw [hl]
  exact own_take h m hm

set_option maxHeartbeats 1600000 in
theorem specShortP (g c : Nat) (xs : List Int) (w : World) (hp : okP xs = true) (h0 : 0 < xs.length) (ha : Ints w g 0 xs) :
    Calls Try.prog 62 #[.slice (some ⟨g, 0, none⟩) xs.length c] w fun e w' => ∃ g' c', e = .returned (.slice (some ⟨g', 0, none⟩) (parL xs).length c') ∧ Own w.heap.size w' g' c' (parL xs) ∧ Below w.heap.size w w' := by
  have hl := okP_len hp
  have HO := hid (specOwnL g 0 c xs w h0 (by omega) ha)
  obtain ⟨y, hy, hy1, hy2⟩ := okP_last hp h0
  have HY := hid hy
  have HPM := hid (fun h2 : 2 ≤ y => parL_more hy h2)
  have HPC := hid (fun (h1 : y = 1) (h2 : ¬ (xs.length = 2 ∧ xs[0]? = some 0)) => parL_cut hp (by rw [hy, h1]) h2)
  have HPN := hid (fun (h1 : y = 1) (h2 : xs.length = 2) (h3 : xs[0]? = some 0) => parL_nil (by rw [hy, h1]) h2 h3)
  have t1 : ((xs.length : Int) - 1).toNat = xs.length - 1 := by omega
  have p2 : (0 : Int) ≤ (xs.length : Int) - 1 := by omega
  obtain ⟨x, hx⟩ : ∃ x, xs[0]? = some x := ⟨_, List.getElem?_eq_getElem h0⟩
  have HX := hid hx
  have hDT := hid (show xs.take (xs.length - 1) = (decL xs).take (xs.length - 1) by
    apply List.ext_getElem?
    intro j
    by_cases hj : j < xs.length - 1
    · rw [List.getElem?_take_of_lt hj, List.getElem?_take_of_lt hj, decL_at (by omega)]
    · rw [List.getElem?_eq_none (by rw [List.length_take]; omega), List.getElem?_eq_none (by rw [List.length_take]; omega)])
  clear hy hx hp ha
  by_cases h2 : 2 ≤ y
  · have q1 : (0 : Int) < y - 1 := by omega
    rw [HPM.out h2]
    clear HPM HPC HPN
    go_enter Try.func62, Try.ntmps62
    go_wp2_with (fail)
    refine HO.out.mono ?_
    rintro e w1 ⟨g1, c1, rfl, o1, b1⟩
    have E1 := hid b1
    have cy := ints_at (own_ints o1) HY.out
    have fr := own_frozen o1 (xs.length - 1)
    have hcap := own_cap o1
    have hg : w.heap.size ≤ g1 := o1.1
    have OS := hid (own_set o1 (xs.length - 1) (y - 1))
    rw [← decL_eq HY.out] at OS
    have E2 := hid (E1.out.setCell (p := ⟨g1, xs.length - 1, none⟩) hg (.int .i64 (y - 1)))
    clear o1 b1
    go_wp2_with (fail)
    go_ret
    exact ⟨g1, c1, by rw [decL_length]; rfl, OS.out, E2.out⟩
  · have hy3 : y = 1 := by omega
    subst hy3
    have q1 : ¬ (0 : Int) < 1 - 1 := by omega
    by_cases h3 : xs.length = 2
    · by_cases h4 : x = 0
      · subst h4
        rw [HPN.out rfl h3 HX.out]
        clear HPM HPC HPN
        have HO2 := hid (show _ from (show xs.length = 2 → Calls _ _ #[.slice (some ⟨g, 0, none⟩) 2 c] w fun e w' => ∃ g' c', e = .returned (.slice (some ⟨g', 0, none⟩) 2 c') ∧ Own w.heap.size w' g' c' xs ∧ Below w.heap.size w w' from fun h => by have h5 := HO.out; rw [h] at h5; exact h5) h3)
        clear HO t1 p2
        have H3 := hid h3
        rw [h3]
        clear h3
        go_enter Try.func62, Try.ntmps62
        go_wp2_with (fail)
        refine HO2.out.mono ?_
        rintro e w1 ⟨g1, c1, rfl, o1, b1⟩
        have E1 := hid b1
        have cy := ints_at (own_ints o1) HY.out
        have fr := own_frozen o1 (xs.length - 1)
        have hcap := own_cap o1
        have hg : w.heap.size ≤ g1 := o1.1
        have OS := hid (own_set o1 (xs.length - 1) (1 - 1))
        rw [← decL_eq HY.out] at OS
        have E2 := hid (E1.out.setCell (p := ⟨g1, xs.length - 1, none⟩) hg (.int .i64 (1 - 1)))
        clear o1 b1
        simp only [H3.out, Nat.reduceSub] at cy fr OS E2
        have cx : (w1.setCell ⟨g1, 1, none⟩ (.int .i64 0)).cell? ⟨g1, 0, none⟩ = some (.int .i64 0) := by
          refine ints_at (own_ints OS.out) ?_
          rw [decL_at (by have := H3.out; omega)]
          exact HX.out
        have ON := hid (lit_none (w1.setCell ⟨g1, 1, none⟩ (.int .i64 0)) w.heap.size (by simpa using E1.out.size))
        have E3 := hid (E2.out.alloc E2.out.size (.cells #[] 2))
        go_wp2_with (fail)
        go_ret
        exact ⟨_, 0, rfl, ⟨by simpa using E1.out.size, by simpa using ON.out⟩, by simpa using E3.out⟩
      · rw [HPC.out rfl (fun h => h4 (by have := h.2; rw [HX.out] at this; simpa using this))]
        clear HPM HPC HPN
        have HO2 := hid (show _ from (show xs.length = 2 → Calls _ _ #[.slice (some ⟨g, 0, none⟩) 2 c] w fun e w' => ∃ g' c', e = .returned (.slice (some ⟨g', 0, none⟩) 2 c') ∧ Own w.heap.size w' g' c' xs ∧ Below w.heap.size w w' from fun h => by have h5 := HO.out; rw [h] at h5; exact h5) h3)
        clear HO t1 p2
        have H3 := hid h3
        rw [h3]
        have h4' : (x == 0) = false := by simpa using h4
        clear h3
        go_enter Try.func62, Try.ntmps62
        go_wp2_with (fail)
        refine HO2.out.mono ?_
        rintro e w1 ⟨g1, c1, rfl, o1, b1⟩
        have E1 := hid b1
        have cy := ints_at (own_ints o1) HY.out
        have fr := own_frozen o1 (xs.length - 1)
        have hcap := own_cap o1
        have hg : w.heap.size ≤ g1 := o1.1
        have OS := hid (own_set o1 (xs.length - 1) (1 - 1))
        rw [← decL_eq HY.out] at OS
        have E2 := hid (E1.out.setCell (p := ⟨g1, xs.length - 1, none⟩) hg (.int .i64 (1 - 1)))
        clear o1 b1
        simp only [H3.out, Nat.reduceSub] at cy fr OS E2
        have cx : (w1.setCell ⟨g1, 1, none⟩ (.int .i64 0)).cell? ⟨g1, 0, none⟩ = some (.int .i64 x) := by
          refine ints_at (own_ints OS.out) ?_
          rw [decL_at (by have := H3.out; omega)]
          exact HX.out
        obtain ⟨OC, OL⟩ := own_cut OS.out (xs.length - 1) (by rw [decL_length]; omega) hDT.out
        rw [H3.out] at OC OL
        have HOC := hid (show Own w.heap.size (w1.setCell ⟨g1, 1, none⟩ (.int .i64 0)) g1 c1 (List.take 1 xs) from OC)
        have HOL := hid (show (List.take 1 xs).length = 1 from OL)
        clear OC OL
        go_wp2_with (fail)
        go_ret
        exact ⟨g1, c1, by show _ = Ending.returned (.slice _ (List.take 1 xs).length _); rw [HOL.out]; rfl, HOC.out, E2.out⟩
    · rw [HPC.out rfl (fun h => h3 h.1)]
      clear HPM HPC HPN
      have h3' : ¬ (xs.length : Int) = 2 := by omega
      go_enter Try.func62, Try.ntmps62
      go_wp2_with (fail)
      refine HO.out.mono ?_
      rintro e w1 ⟨g1, c1, rfl, o1, b1⟩
      have E1 := hid b1
      have cy := ints_at (own_ints o1) HY.out
      have fr := own_frozen o1 (xs.length - 1)
      have hcap := own_cap o1
      have hg : w.heap.size ≤ g1 := o1.1
      have OS := hid (own_set o1 (xs.length - 1) (1 - 1))
      rw [← decL_eq HY.out] at OS
      have E2 := hid (E1.out.setCell (p := ⟨g1, xs.length - 1, none⟩) hg (.int .i64 (1 - 1)))
      clear o1 b1
      obtain ⟨OC, OL⟩ := own_cut OS.out (xs.length - 1) (by rw [decL_length]; omega) hDT.out
      have HOC := hid OC
      have HOL := hid OL
      clear OC OL
      go_wp2_with (fail)
      go_ret
      exact ⟨g1, c1, by rw [HOL.out]; rfl, HOC.out, E2.out⟩

set_option maxHeartbeats 1600000 in
theorem specPar (n d : Int) (w : World) :
    Calls Try.prog 17 #[.agg #[.int .i64 n, .int .i64 d]] w fun e w' => e = .returned (tv (parT n d)) ∧ Below w.heap.size w w' := by
  have HB := hid (box2_new w n d)
  have HC := hid (fun w => specCode n d w)
  unfold tv
  by_cases hc : code1 n d = 0
  · obtain ⟨ho, hn⟩ := code1_zero hc
    rw [hc] at HC
    have HP := hid (fun w => specPathL n d w ho hn)
    by_cases h0 : pathF n d = []
    · rw [parT_top hc h0]
      rw [h0] at HP
      clear hc ho hn h0
      go_enter Try.func17, Try.ntmps17
      go_wp2_with (fail)
      refine (HC.out _).mono ?_
      rintro e w1 ⟨rfl, b1⟩
      have BX := hid (box2_below HB.out b1)
      obtain ⟨a0, a1, _, _, _⟩ := blk2 BX.out.1
      clear b1
      go_wp2_with (fail)
      refine (HP.out _).mono ?_
      rintro e w2 ⟨g, c, rfl, o, b2⟩
      have BX2 := hid (box2_below BX.out b2)
      obtain ⟨z0, z1, f0, f1, zl⟩ := blk2 BX2.out.2.1
      clear b2 o
      go_wp2_with (fail)
      obtain ⟨r0, r1, E⟩ := box2_ret BX2.out 0 0
      refine bodyPost_ret (v := .tuple #[.agg #[.int .i64 0, .int .i64 0], .int .i64 3]) (by simp [results, Try.results17, go_sem, r0, r1]) rfl ⟨rfl, E⟩
    · have hok := path_ok ho hn
      obtain ⟨m0, hm0, _⟩ := path_fo ho hn
      have hl : 0 < (pathF n d).length := List.length_pos_iff.2 h0
      obtain ⟨hpk, m, hm⟩ := par_fo hok hl hm0
      rw [parT_ok hc h0, atP_ok hpk hm]
      have HS := hid (fun (g c : Nat) (w : World) (h : Ints w g 0 (pathF n d)) => specShortP g c (pathF n d) w hok hl h)
      have HAT := hid (fun (g c : Nat) (w : World) (h : Ints w g 0 (parL (pathF n d))) => specAt g c (parL (pathF n d)) w hpk h)
      rw [hm] at HAT
      obtain ⟨⟨y0, y1⟩, hmm⟩ : ∃ y, y = mid m := ⟨_, rfl⟩
      rw [← hmm]
      dsimp only [atB] at HAT
      rw [← hmm] at HAT
      dsimp only at HAT ⊢
      have hl1 : ¬ ((pathF n d).length : Int) = 0 := by omega
      clear hc ho hn h0 hok hm0 hpk hm hmm hl
      generalize parL (pathF n d) = ps at *
      generalize pathF n d = xs at *
      go_enter Try.func17, Try.ntmps17
      go_wp2_with (fail)
      refine (HC.out _).mono ?_
      rintro e w1 ⟨rfl, b1⟩
      have BX := hid (box2_below HB.out b1)
      obtain ⟨a0, a1, _, _, _⟩ := blk2 BX.out.1
      clear b1
      go_wp2_with (fail)
      refine (HP.out _).mono ?_
      rintro e w2 ⟨g, c, rfl, o, b2⟩
      have BX2 := hid (box2_below BX.out b2)
      have O := hid (own_ints o)
      clear b2 o
      go_wp2_with (fail)
      refine (HS.out _ _ _ O.out).mono ?_
      rintro e w3 ⟨g3, c3, rfl, o3, b3⟩
      have BX3 := hid (box2_below BX2.out b3)
      have O3 := hid (own_ints o3)
      clear b3 o3
      go_wp2_with (fail)
      refine (HAT.out _ _ _ O3.out).mono ?_
      rintro e w4 ⟨rfl, b4⟩
      have BX4 := hid (box2_below BX3.out b4)
      obtain ⟨z0, z1, f0, f1, zl⟩ := blk2 BX4.out.2.1
      clear b4
      go_wp2_with (fail)
      obtain ⟨k0, k1, E⟩ := box2_ret BX4.out y0 y1
      obtain ⟨r0, r1⟩ := ret_alloc k0 k1 (.cells #[.int .i64 y0, .int .i64 y1] 25)
      refine bodyPost_ret (v := .tuple #[.agg #[.int .i64 y0, .int .i64 y1], .int .i64 0]) (by simp [results, Try.results17, go_sem, r0, r1]) rfl ⟨rfl, E.alloc E.size _⟩
  · rw [parT_no hc]
    generalize code1 n d = k at *
    have hk : (k != 0) = true := by simpa using hc
    go_enter Try.func17, Try.ntmps17
    go_wp2_with (fail)
    refine (HC.out _).mono ?_
    rintro e w1 ⟨rfl, b1⟩
    have BX := hid (box2_below HB.out b1)
    obtain ⟨z0, z1, f0, f1, zl⟩ := blk2 BX.out.2.1
    clear b1
    go_wp2_with (fail)
    obtain ⟨r0, r1, E⟩ := box2_ret BX.out 0 0
    refine bodyPost_ret (v := .tuple #[.agg #[.int .i64 0, .int .i64 0], .int .i64 k]) (by simp [results, Try.results17, go_sem, r0, r1]) rfl ⟨rfl, E⟩

end Go.Proofs.Ytjijabfamjhdjaa
