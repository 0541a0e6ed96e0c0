/- Contracts: the fraction at the end of a path, by the program and by the model. -/
import Derived.Test.YtjijabfamjhdjaaFol
import Derived.Test.YtjijabfamjhdjaaCvl
import Derived.Test.YtjijabfamjhdjaaSmp
import Derived.Test.YtjijabfamjhdjaaPth
namespace Go.Proofs.Ytjijabfamjhdjaa
open Go.RowKit

/-- One result block that is left alone. -/
def Box1 (w0 w : World) : Prop := w.heap[w0.heap.size]? = some (.cells #[.int .i64 0, .int .i64 0] 25 (0, 0)) ∧ Below w0.heap.size w0 w
theorem box1_below {w0 w w' : World} (h : Box1 w0 w) (hb : Below w.heap.size w w') : Box1 w0 w' :=
  ⟨(hb.block _ (Array.getElem?_eq_some_iff.1 h.1).1).trans h.1, h.2.trans (hb.mono h.2.size)⟩
theorem box1_new (w : World) : Box1 w (w.alloc (.cells #[.int .i64 0, .int .i64 0] 25)) := ⟨new_at _ _, (Below.refl _ _).alloc (Nat.le_refl _) _⟩
theorem box1_ret {w0 w : World} (h : Box1 w0 w) (x y : Int) : ((w.setCell ⟨w0.heap.size, 0, none⟩ (.int .i64 x)).setCell ⟨w0.heap.size, 1, none⟩ (.int .i64 y)).cell? ⟨w0.heap.size, 0, none⟩ = some (.int .i64 x) ∧ ((w.setCell ⟨w0.heap.size, 0, none⟩ (.int .i64 x)).setCell ⟨w0.heap.size, 1, none⟩ (.int .i64 y)).cell? ⟨w0.heap.size, 1, none⟩ = some (.int .i64 y) ∧ Below w0.heap.size w0 ((w.setCell ⟨w0.heap.size, 0, none⟩ (.int .i64 x)).setCell ⟨w0.heap.size, 1, none⟩ (.int .i64 y)) := by
  obtain ⟨k0, k1, _⟩ := blk2 h.1
  obtain ⟨a, b⟩ := two_set (u := .int .i64 x) (v := .int .i64 y) k0 k1
  exact ⟨a, b, below_set (below_set h.2 (by omega) _) (by omega) _⟩

theorem ret_alloc {X : World} {b : Nat} {x y : Value} (h0 : X.cell? ⟨b, 0, none⟩ = some x) (h1 : X.cell? ⟨b, 1, none⟩ = some y) (O : Obj) : (X.alloc O).cell? ⟨b, 0, none⟩ = some x ∧ (X.alloc O).cell? ⟨b, 1, none⟩ = some y := by
  have hA := (Below.refl X.heap.size X).alloc (Nat.le_refl _) O
  have hlt : b < X.heap.size := World.block_lt_of_cell? _ _ h0
  exact ⟨(hA.cell (p := ⟨b, 0, none⟩) hlt).trans h0, (hA.cell (p := ⟨b, 1, none⟩) hlt).trans h1⟩
/-- The walker at the end has numbers whose sums are those of the fraction. -/
theorem folA_some : ∀ (xs : List Int) (l : Bool) (P Q PP QQ : Int) (m : Int × Int × Int × Int), InvT P Q PP QQ → (∀ z ∈ xs, 0 ≤ z) → fo P Q PP QQ xs = some m →
    ∃ a b c d e, folA l xs (some m) = #[.int .i64 a, .int .i64 b, .int .i64 c, .int .i64 d, .bool e] ∧ a + c = (mid m).1 ∧ b + d = (mid m).2 ∧ 0 ≤ a ∧ 0 ≤ b ∧ 0 ≤ c ∧ 0 ≤ d ∧ a + c ≤ 1000000000 ∧ b + d ≤ 1000000000
  | [], l, P, Q, PP, QQ, m, hi, _, h => by
    have ho := fo_ok h
    rw [fo_nil ho] at h
    injection h with h
    subst h
    have hs := (inv_ok hi).1 ho
    obtain ⟨i1, i2, i3, i4, _⟩ := hi
    cases l
    · exact ⟨PP, QQ, P, Q, false, rfl, Int.add_comm .., Int.add_comm .., i3, i4, i1, i2, by omega, by omega⟩
    · exact ⟨P, Q, PP, QQ, true, rfl, rfl, rfl, i1, i2, i3, i4, by omega, by omega⟩
  | x :: xs, l, P, Q, PP, QQ, m, hi, hz, h => by
    have ho := fo_ok h
    rw [fo_cons ho] at h
    exact folA_some xs (!l) _ _ _ _ m (inv_step hi (hz x (by simp))) (fun u hu => hz u (by simp [hu])) h

set_option maxHeartbeats 1600000 in
theorem implAt (g c : Nat) (xs : List Int) (w : World) (hx : xs.length ≤ 2000000000) (hc : xs.length ≤ c) (ha : Ints w g 0 xs) :
    Calls Try.prog 19 #[.slice (some ⟨g, 0, none⟩) xs.length c] w fun e w' => e = .returned (tv (atP xs)) ∧ Below w.heap.size w w' := by
  have HB := hid (box1_new w)
  have HV := hid (implValidPath g c xs _ hx hc (ints_below ha HB.out.2))
  have HA := hid ha
  unfold tv
  clear ha
  cases hp : okP xs
  · rw [atP_bad hp]
    rw [hp] at HV
    go_enter Try.func19, Try.ntmps19
    go_wp2_with (fail)
    refine HV.out.mono ?_
    rintro e w1 ⟨rfl, b1⟩
    have BX := hid (box1_below HB.out b1)
    obtain ⟨z0, z1, f0, f1, zl⟩ := blk2 BX.out.1
    clear b1
    go_wp2_with (fail)
    obtain ⟨r0, r1, E⟩ := box1_ret BX.out 0 0
    refine bodyPost_ret (v := .tuple #[.agg #[.int .i64 0, .int .i64 0], .int .i64 1]) (by simp [results, Try.results19, go_sem, r0, r1]) rfl ⟨rfl, E⟩
  rw [hp] at HV
  have hl := okP_len hp
  have HT := hid (fun (w : World) => implTop w)
  have HF := hid (fun (w' : World) (hb : Below w.heap.size w w') => implFollow xs false 1 0 0 1 g 0 xs.length c w' inv_top (by decide) (by decide) (by decide) (by decide) rfl (by omega) hc (okP_mem2 hp) (ints_below HA.out hb))
  cases hf : fo 1 0 0 1 xs with
  | none =>
    rw [atP_full hp hf]
    rw [hf, folV_eq] at HF
    have h5 : folA false xs none = #[.int .i64 0, .int .i64 0, .int .i64 0, .int .i64 0, .bool false] := by cases xs <;> rfl
    rw [h5] at HF
    rw [show folC none = 5 from rfl, show wal false 1 0 0 1 = #[.int .i64 0, .int .i64 1, .int .i64 1, .int .i64 0, .bool false] from rfl] at HF
    clear hp hf h5 hl
    go_enter Try.func19, Try.ntmps19
    go_wp2_with (fail)
    refine HV.out.mono ?_
    rintro e w1 ⟨rfl, b1⟩
    have BX := hid (box1_below HB.out b1)
    clear b1
    go_wp2_with (fail)
    refine (HT.out _).mono ?_
    rintro e w2 ⟨rfl, b2⟩
    have BX2 := hid (box1_below BX.out b2)
    clear b2
    go_wp2_with (fail)
    refine (HF.out _ BX2.out.2).mono ?_
    rintro e w3 ⟨rfl, b3⟩
    have BX3 := hid (box1_below BX2.out b3)
    obtain ⟨z0, z1, f0, f1, zl⟩ := blk2 BX3.out.1
    clear b3
    go_wp2_with (fail)
    obtain ⟨k0, k1, E⟩ := box1_ret BX3.out 0 0
    obtain ⟨r0, r1⟩ := ret_alloc k0 k1 (.cells #[.int .i64 0, .int .i64 0, .int .i64 0, .int .i64 0, .bool false] 79)
    refine bodyPost_ret (v := .tuple #[.agg #[.int .i64 0, .int .i64 0], .int .i64 5]) (by simp [results, Try.results19, go_sem, r0, r1]) rfl ⟨rfl, E.alloc E.size _⟩
  | some m =>
    rw [atP_ok hp hf]
    rw [hf, folV_eq] at HF
    obtain ⟨a, b, c', d, e, h5, s1, s2, a1, a2, a3, a4, a5, a6⟩ := folA_some xs false 1 0 0 1 m inv_top (okP_nonneg hp) hf
    rw [h5] at HF
    rw [show folC (some m) = 0 from rfl, show wal false 1 0 0 1 = #[.int .i64 0, .int .i64 1, .int .i64 1, .int .i64 0, .bool false] from rfl] at HF
    have HBT := hid (fun w => implBetween a b c' d w a1 (by omega) a2 (by omega) a3 (by omega) a4 (by omega))
    rw [← s1, ← s2]
    clear hp hf h5 hl s1 s2
    go_enter Try.func19, Try.ntmps19
    go_wp2_with (fail)
    refine HV.out.mono ?_
    rintro e w1 ⟨rfl, b1⟩
    have BX := hid (box1_below HB.out b1)
    clear b1
    go_wp2_with (fail)
    refine (HT.out _).mono ?_
    rintro e w2 ⟨rfl, b2⟩
    have BX2 := hid (box1_below BX.out b2)
    clear b2
    go_wp2_with (fail)
    refine (HF.out _ BX2.out.2).mono ?_
    rintro e w3 ⟨rfl, b3⟩
    have BX3 := hid (box1_below BX2.out b3)
    clear b3
    go_wp2_with (fail)
    refine (HBT.out _).mono ?_
    rintro e w4 ⟨rfl, b4⟩
    have BX4 := hid (box1_below (box1_below BX3.out ((Below.refl _ _).alloc (Nat.le_refl _) _)) b4)
    obtain ⟨z0, z1, f0, f1, zl⟩ := blk2 BX4.out.1
    clear b4
    go_wp2_with (fail)
    obtain ⟨r0, r1, E⟩ := box1_ret BX4.out (a + c') (b + d)
    refine bodyPost_ret (v := .tuple #[.agg #[.int .i64 (a + c'), .int .i64 (b + d)], .int .i64 0]) (by simp [results, Try.results19, go_sem, r0, r1]) rfl ⟨rfl, E⟩
where
  okP_mem2 {xs : List Int} (h : okP xs = true) : ∀ x ∈ xs, 0 ≤ x ∧ x ≤ 1000000000 := by
    intro x hx
    obtain ⟨j, hj⟩ := List.mem_iff_getElem?.1 hx
    exact okP_bd h hj

/-- The model's fraction at the end of a path that is one. -/
def atB (o : Option (Int × Int × Int × Int)) : Value := match o with | some m => .tuple #[.agg #[.int .i64 (mid m).1, .int .i64 (mid m).2], .bool true] | none => .tuple #[.agg #[.int .i64 0, .int .i64 0], .bool false]

set_option maxHeartbeats 1600000 in
theorem specAt (g c : Nat) (xs : List Int) (w : World) (hp : okP xs = true) (ha : Ints w g 0 xs) :
    Calls Try.prog 61 #[.slice (some ⟨g, 0, none⟩) xs.length c] w fun e w' => e = .returned (atB (fo 1 0 0 1 xs)) ∧ Below w.heap.size w w' := by
  have HB := hid (box1_new w)
  have HA := hid ha
  clear ha
  by_cases h0 : xs.length = 0
  · have : xs = [] := List.length_eq_zero_iff.1 h0
    subst this
    have hf : fo 1 0 0 1 [] = some (1, 0, 0, 1) := fo_nil (okF_iff.2 ⟨by decide, by decide, by decide, by decide, by unfold gc; simp⟩)
    rw [hf]
    clear hf hp h0
    go_enter Try.func61, Try.ntmps61
    go_wp2_with (fail)
    refine bodyPost_ret (v := .tuple #[.agg #[.int .i64 1, .int .i64 1], .bool true]) (by simp [results, Try.results61, go_sem]) rfl ⟨rfl, ?_⟩
    exact (Below.refl _ _).alloc (Nat.le_refl _) _
  · have h1 : ¬ (xs.length : Int) = 0 := by omega
    have hl : xs.length ≤ 60 := okP_len hp
    have HO := hid (fun w' (hb : Below w.heap.size w w') => specOwnL g 0 c xs w' (by omega) (by omega) (ints_below HA.out hb))
    obtain ⟨x, hx, hx1, hx2⟩ := okP_last hp (by omega)
    have HX := hid hx
    have HCV := hid (at_cv hp (fun e => h0 (by rw [e]; rfl)))
    have HIE := hid (show incL xs = xs.set (xs.length - 1) (x + 1) by unfold incL; rw [List.getD_eq_getElem?_getD, HX.out]; rfl)
    have HBD := hid (show ∀ (j : Nat) (y : Int), (incL xs)[j]? = some y → -2000000000 ≤ y ∧ y ≤ 2000000000 by
      intro j y hy
      rw [HIE.out] at hy
      by_cases hj : j = xs.length - 1
      · subst hj
        rw [List.getElem?_set_self (by omega)] at hy
        have hy : x + 1 = y := by simpa using hy
        omega
      · rw [List.getElem?_set_ne (by omega)] at hy
        have := okP_bd hp hy
        omega)
    have HC := hid (fun g c w' (h : Ints w' g 0 (incL xs)) => specConvL2 g c (incL xs) w' (by rw [incL_length]; exact hl) HBD.out h)
    rw [incL_length] at HC
    have t1 : ((xs.length : Int) - 1).toNat = xs.length - 1 := by omega
    have p2 : (0 : Int) ≤ (xs.length : Int) - 1 := by omega
    have hpos : 1 ≤ xs.length := by omega
    clear hx hp h0
    obtain ⟨o, ho⟩ : ∃ o, o = cv 1 0 0 1 (incL xs) := ⟨_, rfl⟩
    have HCL := hid (fun l (h : cv 1 0 0 1 (incL xs) = some l) => cv_length h)
    rw [← ho] at HC HCV HCL
    rw [incL_length] at HCL
    clear ho
    cases o with
    | none =>
      have HR := hid (show fo 1 0 0 1 xs = none by
        have h := HCV.out
        cases hf : fo 1 0 0 1 xs with
        | none => rfl
        | some m => rw [hf] at h; simp at h)
      rw [HR.out]
      clear HCV HR HCL
      go_enter Try.func61, Try.ntmps61
      go_wp2_with (fail)
      refine (HO.out _ HB.out.2).mono ?_
      rintro e w1 ⟨g1, c1, rfl, o1, b1⟩
      have BX := hid (box1_below HB.out b1)
      have cy := ints_at (own_ints o1) HX.out
      have fr := own_frozen o1 (xs.length - 1)
      have hcap := own_cap o1
      have hg : w.heap.size < g1 := by have := o1.1; simp at this; omega
      have OS := hid (own_set o1 (xs.length - 1) (x + 1))
      rw [← HIE.out] at OS
      have BX2 := hid (show Box1 w (w1.setCell ⟨g1, xs.length - 1, none⟩ (.int .i64 (x + 1))) from ⟨by rw [heap_setCell_other _ ⟨g1, xs.length - 1, none⟩ _ _ (by simp; omega)]; exact BX.out.1, BX.out.2.setCell (p := ⟨g1, xs.length - 1, none⟩) (by simp; omega) _⟩)
      clear o1 b1
      go_wp2_with (fail)
      refine (HC.out _ _ _ (own_ints OS.out)).mono ?_
      rintro e w2 ⟨v, rfl, r, b2⟩
      have BX3 := hid (box1_below BX2.out b2)
      obtain ⟨z0, z1, f0, f1, zl⟩ := blk2 BX3.out.1
      clear b2 r
      dsimp only [convV]
      go_wp2_with (fail)
      obtain ⟨r0, r1, E⟩ := box1_ret BX3.out 0 0
      refine bodyPost_ret (v := .tuple #[.agg #[.int .i64 0, .int .i64 0], .bool false]) (by simp [results, Try.results61, go_sem, r0, r1]) rfl ⟨rfl, E⟩
    | some l =>
      have hll := HCL.out l rfl
      obtain ⟨⟨y0, y1⟩, hy⟩ : ∃ y, l[l.length - 1]? = some y := ⟨_, List.getElem?_eq_getElem (by omega)⟩
      have HY := hid hy
      obtain ⟨m, hm, hmid⟩ : ∃ m, fo 1 0 0 1 xs = some m ∧ mid m = (y0, y1) := by
        have h : Option.map mid (fo 1 0 0 1 xs) = some (y0, y1) := by
          rw [HCV.out]
          show l.getLast? = _
          rw [List.getLast?_eq_getElem?, HY.out]
        obtain ⟨m, h5, h6⟩ := Option.map_eq_some_iff.1 h
        exact ⟨m, h5, h6⟩
      have HR := hid (show atB (fo 1 0 0 1 xs) = .tuple #[.agg #[.int .i64 y0, .int .i64 y1], .bool true] by rw [hm]; show Value.tuple #[.agg #[.int .i64 (mid m).1, .int .i64 (mid m).2], .bool true] = _; rw [hmid])
      rw [HR.out]
      have u1 : ((l.length : Int) - 1).toNat = l.length - 1 := by omega
      have u2 : (0 : Int) ≤ (l.length : Int) - 1 := by omega
      have u3 : 1 ≤ l.length := by omega
      have u4 : l.length ≤ 60 := by omega
      clear HCV HR HCL hy hm hmid hll
      go_enter Try.func61, Try.ntmps61
      go_wp2_with (fail)
      refine (HO.out _ HB.out.2).mono ?_
      rintro e w1 ⟨g1, c1, rfl, o1, b1⟩
      have BX := hid (box1_below HB.out b1)
      have cy := ints_at (own_ints o1) HX.out
      have fr := own_frozen o1 (xs.length - 1)
      have hcap := own_cap o1
      have hg : w.heap.size < g1 := by have := o1.1; simp at this; omega
      have OS := hid (own_set o1 (xs.length - 1) (x + 1))
      rw [← HIE.out] at OS
      have BX2 := hid (show Box1 w (w1.setCell ⟨g1, xs.length - 1, none⟩ (.int .i64 (x + 1))) from ⟨by rw [heap_setCell_other _ ⟨g1, xs.length - 1, none⟩ _ _ (by simp; omega)]; exact BX.out.1, BX.out.2.setCell (p := ⟨g1, xs.length - 1, none⟩) (by simp; omega) _⟩)
      clear o1 b1
      go_wp2_with (fail)
      refine (HC.out _ _ _ (own_ints OS.out)).mono ?_
      rintro e w2 ⟨v, rfl, r, b2⟩
      have BX3 := hid (box1_below BX2.out b2)
      obtain ⟨z0, z1, f0, f1, zl⟩ := blk2 BX3.out.1
      obtain ⟨g2, c2, rfl, o2⟩ : ∃ g2 c2, v = .slice (some ⟨g2, 0, none⟩) l.length c2 ∧ FOwn (w1.setCell ⟨g1, xs.length - 1, none⟩ (.int .i64 (x + 1))).heap.size w2 g2 c2 l := by
        rcases r with ⟨_, h0⟩ | h
        · dsimp only [convV] at h0; rw [h0] at u3; simp at u3
        · exact h
      obtain ⟨x0, x1⟩ := fown_cells o2 HY.out
      dsimp only at x0 x1
      clear b2 r o2
      dsimp only [convV]
      go_wp2_with (fail)
      obtain ⟨r0, r1, E⟩ := box1_ret BX3.out y0 y1
      refine bodyPost_ret (v := .tuple #[.agg #[.int .i64 y0, .int .i64 y1], .bool true]) (by simp [results, Try.results61, go_sem, r0, r1]) rfl ⟨rfl, E⟩

set_option maxHeartbeats 1600000 in
theorem specFractionAt (g c : Nat) (xs : List Int) (w : World) (hx : xs.length ≤ 2000000000) (ha : Ints w g 0 xs) :
    Calls Try.prog 20 #[.slice (some ⟨g, 0, none⟩) xs.length c] w fun e w' => e = .returned (tv (atP xs)) ∧ Below w.heap.size w w' := by
  have HB := hid (box1_new w)
  have HV := hid (specOkP g c xs _ hx (ints_below ha HB.out.2))
  have HA := hid ha
  unfold tv
  clear ha
  cases hp : okP xs
  · rw [atP_bad hp]
    rw [hp] at HV
    go_enter Try.func20, Try.ntmps20
    go_wp2_with (fail)
    refine HV.out.mono ?_
    rintro e w1 ⟨rfl, b1⟩
    have BX := hid (box1_below HB.out b1)
    obtain ⟨z0, z1, f0, f1, zl⟩ := blk2 BX.out.1
    clear b1
    go_wp2_with (fail)
    obtain ⟨r0, r1, E⟩ := box1_ret BX.out 0 0
    refine bodyPost_ret (v := .tuple #[.agg #[.int .i64 0, .int .i64 0], .int .i64 1]) (by simp [results, Try.results20, go_sem, r0, r1]) rfl ⟨rfl, E⟩
  rw [hp] at HV
  have HF := hid (fun (w' : World) (hb : Below w.heap.size w w') => specAt g c xs w' hp (ints_below HA.out hb))
  cases hf : fo 1 0 0 1 xs with
  | none =>
    rw [atP_full hp hf]
    rw [hf] at HF
    clear hp hf
    go_enter Try.func20, Try.ntmps20
    go_wp2_with (fail)
    refine HV.out.mono ?_
    rintro e w1 ⟨rfl, b1⟩
    have BX := hid (box1_below HB.out b1)
    clear b1
    go_wp2_with (fail)
    refine (HF.out _ BX.out.2).mono ?_
    rintro e w2 ⟨rfl, b2⟩
    have BX2 := hid (box1_below BX.out b2)
    obtain ⟨z0, z1, f0, f1, zl⟩ := blk2 BX2.out.1
    clear b2
    dsimp only [atB]
    go_wp2_with (fail)
    obtain ⟨k0, k1, E⟩ := box1_ret BX2.out 0 0
    obtain ⟨r0, r1⟩ := ret_alloc k0 k1 (.cells #[.int .i64 0, .int .i64 0] 25)
    refine bodyPost_ret (v := .tuple #[.agg #[.int .i64 0, .int .i64 0], .int .i64 5]) (by simp [results, Try.results20, go_sem, r0, r1]) rfl ⟨rfl, E.alloc E.size _⟩
  | some m =>
    rw [atP_ok hp hf]
    rw [hf] at HF
    clear hp hf
    obtain ⟨⟨y0, y1⟩, hm⟩ : ∃ y, y = mid m := ⟨_, rfl⟩
    rw [← hm]
    dsimp only [atB] at HF ⊢
    rw [← hm] at HF
    dsimp only at HF
    clear hm
    go_enter Try.func20, Try.ntmps20
    go_wp2_with (fail)
    refine HV.out.mono ?_
    rintro e w1 ⟨rfl, b1⟩
    have BX := hid (box1_below HB.out b1)
    clear b1
    go_wp2_with (fail)
    refine (HF.out _ BX.out.2).mono ?_
    rintro e w2 ⟨rfl, b2⟩
    have BX2 := hid (box1_below BX.out b2)
    obtain ⟨z0, z1, f0, f1, zl⟩ := blk2 BX2.out.1
    clear b2
    go_wp2_with (fail)
    obtain ⟨k0, k1, E⟩ := box1_ret BX2.out y0 y1
    obtain ⟨r0, r1⟩ := ret_alloc k0 k1 (.cells #[.int .i64 y0, .int .i64 y1] 25)
    refine bodyPost_ret (v := .tuple #[.agg #[.int .i64 y0, .int .i64 y1], .int .i64 0]) (by simp [results, Try.results20, go_sem, r0, r1]) rfl ⟨rfl, E.alloc E.size _⟩

end Go.Proofs.Ytjijabfamjhdjaa
