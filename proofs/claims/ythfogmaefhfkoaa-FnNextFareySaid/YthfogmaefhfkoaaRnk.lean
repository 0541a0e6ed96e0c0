/- Contracts: the place of a fraction, by the program (sort.Search) and by the model. -/
import Derived.Test.YthfogmaefhfkoaaFrk
import Derived.Deep.QuietTactic
import Derived.BigQuiet
namespace Go.Proofs.Ythfogmaefhfkoaa
open Go.RowKit

/-- What the search's own function says at an index. -/
theorem implRk1 (cb s g c : Nat) (n d : Int) (xs : List (Int × Int)) (B : Nat) (j : Nat) (W : World) (hj : j < xs.length) (hl : xs.length ≤ 600)
    (hcb : W.cell? ⟨cb, 0, none⟩ = some (.slice (some ⟨g, 0, none⟩) xs.length c)) (hs : W.heap[s]? = some (.cells #[.int .i64 n, .int .i64 d] 25 (0, 0))) (hr : FOwn B W g c xs)
    (hb : ∀ x ∈ xs, 0 ≤ x.1 ∧ x.1 ≤ 1000000000 ∧ 0 ≤ x.2 ∧ x.2 ≤ 1000000000) (n1 : 0 ≤ n) (n2 : n ≤ 1000000000) (d1 : 0 ≤ d) (d2 : d ≤ 1000000000) :
    Calls Try.prog 123 #[.int .i64 j, .pointer (some ⟨cb, 0, none⟩), .pointer (some ⟨s, 0, none⟩)] W fun e w' => e = .returned (.bool (geAt xs n d j)) ∧ Below W.heap.size W w' := by
  obtain ⟨x, hx⟩ : ∃ x, xs[j]? = some x := ⟨_, List.getElem?_eq_getElem hj⟩
  rw [geAt_of hx]
  obtain ⟨b1, b2, b3, b4⟩ := hb x (List.mem_of_getElem? hx)
  obtain ⟨x0, x1⟩ := x
  obtain ⟨c0, c1⟩ := fown_cells hr hx
  obtain ⟨s0, s1, _, _, _⟩ := bk2 hs
  have hj0 : (0 : Int) ≤ (j : Int) := by omega
  have hj1 : (j : Int) < (xs.length : Int) := by omega
  have HC := hid (fun w => crossB x0 x1 n d w b1 (by dsimp only at b2; omega) b3 b4 n1 (by omega) d1 d2)
  have HG := hid (show geB n d (x0, x1) = decide (0 ≤ x0 * d - n * x1) from rfl)
  clear hx hr hs hb hj
  generalize x0 * d - n * x1 = X at *
  go_enter Try.func123, Try.ntmps123
  go_wp2_with (fail)
  go_region_with (go_at_call 106; refine (HC.out _).mono ?_; rintro e w3 ⟨rfl, b3⟩)
  all_goals
    have b3' : Below W.heap.size W w3 := (Below.drew (Below.refl _ _)).trans b3
    have E3 := hid b3'
    clear b3 b3'
    go_wp2_with (fail)
    go_ret
    exact ⟨by rw [HG.out]; rfl, E3.out⟩

set_option maxHeartbeats 4000000 in
/-- A binary search: how many places are still false. -/
theorem implSearch (f : Nat) (cb : Array Value) (n : Nat) (p : Nat → Bool) (w : World) (eg : ∀ args w, (callFunc f args).run Try.prog w = .ok (.enter f args) w) (hn : n ≤ 600)
    (hf : ∀ (W : World) (i : Nat), i < n → Below w.heap.size w W → Calls Try.prog f (#[.int .i64 i] ++ cb) W fun e w' => e = .returned (.bool (p i)) ∧ Below W.heap.size W w')
    (hmono : ∀ b a, a ≤ b → b < n → p a = true → p b = true) :
    Calls Try.prog 122 #[.int .i64 n, .func (.func f) #[] cb] w fun e w' => (∃ r : Nat, e = .returned (.int .i64 r) ∧ r ≤ n ∧ (∀ t, t < r → p t = false) ∧ (∀ t, r ≤ t → t < n → p t = true)) ∧ Below w.heap.size w w' := by
  have HF := hid hf
  have HM := hid hmono
  clear hf hmono
  go_enter Try.func122, Try.ntmps122
  go_wp2_with (fail)
  go_loopw [5, 6, 7] (fun i j _ wr => ∃ (lo hi : Nat), i = .int .i64 lo ∧ j = .int .i64 hi ∧ lo ≤ hi ∧ hi ≤ n ∧ Hid (∀ t, t < lo → p t = false) ∧ Hid (∀ t, hi ≤ t → t < n → p t = true) ∧ Below w.heap.size w wr) (fun i j _ _ => (RowKit.intOf j - RowKit.intOf i).toNat)
  case atStart => exact ⟨0, n, rfl, rfl, by omega, Nat.le_refl _, hid (fun t h => by omega), hid (fun t h1 h2 => by omega), Below.refl _ _⟩
  case round =>
    obtain ⟨lo, hi, rfl, rfl, hlh, hin, h1, h2, hbel⟩ := hrel
    have HB := hid hbel
    clear hbel
    by_cases hlt : lo < hi
    · have hlt' : (lo : Int) < (hi : Int) := by omega
      have hc := HF.out wr ((lo + hi) / 2) (by omega) HB.out
      rw [show (((lo + hi) / 2 : Nat) : Int) = ((lo : Int) + (hi : Int)) / 2 by omega] at hc
      cases hp : p ((lo + hi) / 2) <;> rw [hp] at hc
      · have HC := hid hc
        have H3 := hid (show ∀ t, t < (lo + hi) / 2 + 1 → p t = false from fun t ht => by
          cases h : p t with
          | false => rfl
          | true => have := HM.out ((lo + hi) / 2) t (by omega) (by omega) h; rw [hp] at this; cases this)
        clear hp hc h1
        go_wp2_with (go_at_fn f; refine HC.out.mono ?_; rintro e w' ⟨rfl, b'⟩; have HB2 := hid (HB.out.trans (b'.mono HB.out.size)); clear b')
        go_roundw
        case rel => exact ⟨(lo + hi) / 2 + 1, hi, by rw [show ((lo : Int) + (hi : Int)) / 2 + 1 = (((lo + hi) / 2 + 1 : Nat) : Int) by omega], rfl, by omega, hin, H3, h2, HB2.out⟩
        case measure => simp only [RowKit.intOf]; omega
      · have HC := hid hc
        have H3 := hid (show ∀ t, (lo + hi) / 2 ≤ t → t < n → p t = true from fun t ht htn => HM.out t ((lo + hi) / 2) ht htn hp)
        clear hp hc h2
        go_wp2_with (go_at_fn f; refine HC.out.mono ?_; rintro e w' ⟨rfl, b'⟩; have HB2 := hid (HB.out.trans (b'.mono HB.out.size)); clear b')
        go_roundw
        case rel => exact ⟨lo, (lo + hi) / 2, rfl, by rw [show ((lo : Int) + (hi : Int)) / 2 = (((lo + hi) / 2 : Nat) : Int) by omega], by omega, by omega, h1, H3, HB2.out⟩
        case measure => simp only [RowKit.intOf]; omega
    · obtain rfl : hi = lo := by omega
      go_wp2_with (fail)
      go_ret
      exact ⟨⟨hi, rfl, hin, h1.out, h2.out⟩, HB.out⟩

set_option maxHeartbeats 1600000 in
theorem implRnk (o n d : Int) (w : World) :
    Calls Try.prog 55 #[.int .i64 o, .agg #[.int .i64 n, .int .i64 d]] w fun e w' => e = .returned (.tuple #[.int .i64 (rnkT o n d).1, .int .i64 (rnkT o n d).2]) ∧ Below w.heap.size w w' := by
  have HC := hid (fun w => implChF 40 o n d w)
  have E0 := hid ((Below.refl w.heap.size w).alloc (Nat.le_refl _) (.cells #[.int .i64 n, .int .i64 d] 25))
  have HN := hid (nw_at w (.cells #[.int .i64 n, .int .i64 d] 25))
  by_cases hc : code6 40 o n d = 0
  case neg =>
    rw [rnkT_no hc]
    generalize code6 40 o n d = k at *
    have hk : (k != 0) = true := by simpa using hc
    go_enter Try.func55, Try.ntmps55
    go_wp2_with (fail)
    refine (HC.out _).mono ?_
    rintro e w1 ⟨rfl, b1⟩
    have E1 := hid (E0.out.trans (b1.mono E0.out.size))
    clear b1
    go_wp2_with (fail)
    go_ret2
    exact ⟨rfl, E1.out⟩
  obtain ⟨hok, ⟨ho, ho1⟩, hn, hnd⟩ := code6_zero hc
  obtain ⟨d1, d2, n1, n2⟩ := ok_bounds hok
  rw [hc] at HC
  by_cases hdo : o < d
  · rw [rnkT_out hc (far_far ho ho1 hdo)]
    clear hc hok
    go_enter Try.func55, Try.ntmps55
    go_wp2_with (fail)
    refine (HC.out _).mono ?_
    rintro e w1 ⟨rfl, b1⟩
    have E1 := hid (E0.out.trans (b1.mono E0.out.size))
    obtain ⟨k0, k1, _, _, _⟩ := bk2 (bk_kept HN.out b1 (Nat.le_refl _))
    clear b1
    go_wp2_with (fail)
    go_ret2
    exact ⟨rfl, E1.out⟩
  have HE := hid (fun w => implElems o w)
  have HCO := hid (fun w => implColl (World.heap w).size o (w.alloc (.cells #[.int .i64 o] 2)) ho ho1 (cell1 (nw_at w _)).1)
  have hlen : 1 ≤ (far o).length := by obtain ⟨r, e⟩ := far_first ho ho1; rw [e]; simp
  have hlen2 := far_len o
  have HFORM := hid (fun (B : Nat) (W : World) (v : Value) (r : FBack B W v (far o)) => show ∃ g c, v = .slice (some ⟨g, 0, none⟩) (far o).length c ∧ FOwn B W g c (far o) from by
    rcases r with ⟨_, h0⟩ | ⟨g, c, e, h⟩
    · rw [h0] at hlen; simp at hlen
    · exact ⟨g, c, e, h⟩)
  have HBD := hid (show ∀ x ∈ far o, 0 ≤ x.1 ∧ x.1 ≤ 1000000000 ∧ 0 ≤ x.2 ∧ x.2 ≤ 1000000000 from fun x hx => by
    have mx := far_mem ho ho1 hx
    obtain ⟨a1, a2, a3, a4⟩ := ok_bounds mx.1
    exact ⟨mx.2.1, a4, by omega, a2⟩)
  have HMO := hid (far_mono (o := o) (n := n) (d := d) ho ho1 d1)
  have HFD := hid (fun (r : Nat) (h1 : r ≤ (far o).length) h2 h3 => rnkT_ok hc (far_found ho ho1 hok hn hnd (by omega) (r := r) h1 h2 h3).1 (far_found ho ho1 hok hn hnd (by omega) h1 h2 h3).2)
  obtain ⟨T, hT⟩ : ∃ T, T = rnkT o n d := ⟨_, rfl⟩
  rw [← hT] at HFD ⊢
  clear hc hok hT
  generalize far o = xs at *
  have hmf : ∀ (fn : Fn) (first cap : Array Value) (w : World), (Instr.makeFunc fn first cap).run Try.prog w = .ok (.func fn first cap) w := fun _ _ _ _ => rfl
  go_enter Try.func55, Try.ntmps55
  go_wp2_with (fail)
  refine (HC.out _).mono ?_
  rintro e w1 ⟨rfl, b1⟩
  have E1 := hid (E0.out.trans (b1.mono E0.out.size))
  have F1 := hid (bk_kept HN.out b1 (Nat.le_refl _))
  obtain ⟨k0, k1, _, _, _⟩ := bk2 F1.out
  clear b1
  go_wp2_with (fail)
  refine (HE.out _).mono ?_
  rintro e w2 ⟨rfl, rfl⟩
  clear k0 k1
  go_wp2_with (fail)
  refine (HCO.out _).mono ?_
  rintro e w3 ⟨⟨v, rfl, r⟩, b3⟩
  obtain ⟨g, c, rfl, hr⟩ := HFORM.out _ _ _ r
  have E3 := hid ((E1.out.alloc E1.out.size (.cells #[.int .i64 o] 2)).trans (b3.mono (by have := E1.out.size; simp; omega)))
  have F3 := hid (bk_kept (od_at F1.out (.cells #[.int .i64 o] 2)) b3 (Nat.le_refl _))
  have R3 := hid hr
  clear r b3 hr
  have HSE := hid (implSearch 123 #[.pointer (some ⟨w3.heap.size, 0, none⟩), .pointer (some ⟨w.heap.size, 0, none⟩)] xs.length (geAt xs n d) (w3.alloc (.cells #[.slice (some ⟨g, 0, none⟩) xs.length c] 52)) (enters_of Try.func123 (by kernel_rfl) rfl) hlen2
    (fun W i hi hb => implRk1 w3.heap.size w.heap.size g c n d xs _ i W hi hlen2 ((hb.cell (p := ⟨w3.heap.size, 0, none⟩) (by simp)).trans (cell1 (nw_at w3 _)).1) (bk_kept (od_at F3.out _) hb (Nat.le_refl _)) (fown_below (fown_below R3.out ((Below.refl _ _).alloc (Nat.le_refl _) _)) hb) HBD.out hn n2 (by omega) d2) HMO.out)
  have HT0 : ∀ r : Nat, T = ((r : Int), 0) → T.1 = (r : Int) ∧ T.2 = 0 := fun r h => by rw [h]; exact ⟨rfl, rfl⟩
  have HT := hid HT0
  clear HT0
  go_wp2_with (fail)
  refine HSE.out.mono ?_
  rintro e w5 ⟨⟨r, rfl, h1, h2, h3⟩, b5⟩
  obtain ⟨t1, t2⟩ := HT.out r (HFD.out r h1 h2 h3)
  have HT1 := hid (And.intro t1 t2)
  have E5 := hid ((E3.out.alloc E3.out.size (.cells #[.slice (some ⟨g, 0, none⟩) xs.length c] 52)).trans (b5.mono (by have := E3.out.size; simp; omega)))
  clear h2 h3 b5 HSE HMO HFD HT t1 t2
  go_wp2_with (fail)
  go_ret2
  exact ⟨by rw [HT1.out.1, HT1.out.2]; rfl, E5.out⟩

set_option maxHeartbeats 3200000 in
theorem specRnk (o n d : Int) (w : World) :
    Calls Try.prog 56 #[.int .i64 o, .agg #[.int .i64 n, .int .i64 d]] w fun e w' => e = .returned (.tuple #[.int .i64 (rnkT o n d).1, .int .i64 (rnkT o n d).2]) ∧ Below w.heap.size w w' := by
  have HC := hid (fun w => specSm6 o n d w)
  have E0 := hid ((Below.refl w.heap.size w).alloc (Nat.le_refl _) (.cells #[.int .i64 n, .int .i64 d] 25))
  have HN := hid (nw_at w (.cells #[.int .i64 n, .int .i64 d] 25))
  by_cases hc : code6 40 o n d = 0
  case neg =>
    rw [rnkT_no hc]
    generalize code6 40 o n d = k at *
    have hk : (k != 0) = true := by simpa using hc
    go_enter Try.func56, Try.ntmps56
    go_wp2_with (fail)
    refine (HC.out _).mono ?_
    rintro e w1 ⟨rfl, b1⟩
    have E1 := hid (E0.out.trans (b1.mono E0.out.size))
    clear b1
    go_wp2_with (fail)
    go_ret2
    exact ⟨rfl, E1.out⟩
  obtain ⟨hok, ⟨ho, ho1⟩, hn, hnd⟩ := code6_zero hc
  rw [hc] at HC
  have HS := hid (fun w => specAll o w ho ho1)
  have hlen : 1 ≤ (far o).length := by obtain ⟨r, e⟩ := far_first ho ho1; rw [e]; simp
  have hlen2 := far_len o
  have HFORM := hid (fun (B : Nat) (W : World) (v : Value) (r : FBack B W v (far o)) => show ∃ g c, v = .slice (some ⟨g, 0, none⟩) (far o).length c ∧ FOwn B W g c (far o) from by
    rcases r with ⟨_, h0⟩ | ⟨g, c, e, h⟩
    · rw [h0] at hlen; simp at hlen
    · exact ⟨g, c, e, h⟩)
  have HOUT := hid (fun h => rnkT_out hc (n := n) (d := d) h)
  have HOK := hid (fun (k : Nat) h2 h3 => rnkT_ok hc (k := k) h2 h3)
  obtain ⟨T, hT⟩ : ∃ T, T = rnkT o n d := ⟨_, rfl⟩
  rw [← hT] at HOUT HOK ⊢
  clear hc hok hT
  generalize far o = xs at *
  go_enter Try.func56, Try.ntmps56
  go_wp2_with (fail)
  refine (HC.out _).mono ?_
  rintro e w1 ⟨rfl, b1⟩
  have E1 := hid (E0.out.trans (b1.mono E0.out.size))
  have F1 := hid (bk_kept HN.out b1 (Nat.le_refl _))
  clear b1
  go_wp2_with (fail)
  refine (HS.out _).mono ?_
  rintro e w2 ⟨v, rfl, r, b2⟩
  have E2 := hid (E1.out.trans (b2.mono E1.out.size))
  obtain ⟨k0, k1, _, _, _⟩ := bk2 (bk_kept F1.out b2 (Nat.le_refl _))
  obtain ⟨g, c, rfl, hr⟩ := HFORM.out _ _ _ r
  have HR := hid hr
  clear r b2 hr
  go_wp2_with (fail)
  go_loopw [8] (fun i wr => ∃ (k m : Nat), i = .int .i64 k ∧ k ≤ xs.length ∧ wr = w2.drewN m ∧ Hid (∀ j, j < k → xs[j]? ≠ some (n, d))) (fun i _ => xs.length - (RowKit.intOf i).toNat)
  case atStart => exact ⟨0, 0, rfl, by omega, rfl, hid (fun j h => by omega)⟩
  case round =>
    obtain ⟨k, m, rfl, hk, rfl, hno⟩ := hrel
    have hk0 : (0 : Int) ≤ (k : Int) := by omega
    by_cases hlt : k < xs.length
    · have hlt' : (k : Int) < (xs.length : Int) := by omega
      obtain ⟨x, hx⟩ : ∃ x, xs[k]? = some x := ⟨_, List.getElem?_eq_getElem hlt⟩
      obtain ⟨x0, x1⟩ := x
      obtain ⟨c0, c1⟩ := fown_cells HR.out hx
      have HX := hid hx
      clear hx
      by_cases he : x0 = n ∧ x1 = d
      · obtain ⟨rfl, rfl⟩ := he
        have HT := hid (HOK.out k HX.out hno.out)
        clear HOK HOUT hno HX
        go_wp2_with (fail)
        go_quiet (fail)
        go_wp2_with (fail)
        go_ret2
        exact ⟨by rw [HT.out]; rfl, E2.out.trans (below_drewN (below_drewN (Below.refl _ _) _) _)⟩
      · have HNO := hid (show ∀ j, j < k + 1 → xs[j]? ≠ some (n, d) from fun j hj => by
          by_cases hjk : j = k
          · subst hjk
            rw [HX.out]
            intro e
            injection e with e
            injection e with e1 e2
            exact he ⟨e1, e2⟩
          · exact hno.out j (by omega))
        clear HOK HOUT hno HX
        by_cases h0 : x0 = n
        · subst h0
          have h1 : ¬ x1 = d := fun e => he ⟨rfl, e⟩
          have hq : (x1 == d) = false := by simpa using h1
          clear he
          go_wp2_with (fail)
          go_quiet (fail)
          go_wp2_with (fail)
          go_roundw
          case rel => exact ⟨k + 1, _, by go_num, by omega, rfl, HNO⟩
          case measure => simp only [RowKit.intOf]; omega
        · have hq : (x0 == n) = false := by simpa using h0
          clear he
          go_wp2_with (fail)
          go_quiet (fail)
          go_wp2_with (fail)
          go_roundw
          case rel => exact ⟨k + 1, _, by go_num, by omega, rfl, HNO⟩
          case measure => simp only [RowKit.intOf]; omega
    · have HT := hid (HOUT.out (fun hm => by
        obtain ⟨j, hj⟩ := List.mem_iff_getElem?.1 hm
        exact hno.out j (by have := (List.getElem?_eq_some_iff.1 hj).1; omega) hj))
      have hlt' : ¬ (k : Int) < (xs.length : Int) := by omega
      clear HOK HOUT hno
      go_wp2_with (fail)
      go_ret2
      exact ⟨by rw [HT.out]; rfl, E2.out.trans (below_drewN (Below.refl _ _) _)⟩

end Go.Proofs.Ythfogmaefhfkoaa
