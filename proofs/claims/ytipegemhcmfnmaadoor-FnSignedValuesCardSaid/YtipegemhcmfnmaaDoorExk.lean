/- Contracts: the terms of a fraction by a kind, by the program. -/
import Derived.Test.YtipegemhcmfnmaaDoorExr
namespace Go.Proofs.YtipegemhcmfnmaaDoor
open Go.RowKit

theorem ok_boundsS {n d : Int} (h : okF n d = true) : 1 ≤ d ∧ d ≤ 1000000000 ∧ -1000000000 ≤ n ∧ n ≤ 1000000000 := by
  rw [okF_iff] at h; omega
theorem codeE {a0 a1 a2 a3 : Addr} (c : Int) (w : World) (h : Errs a0 a1 a2 a3 w) (hc : c = 0 ∨ c = 2 ∨ c = 5 ∨ c = 6) :
    Calls Tryd.prog 60 #[errE a0 a1 a3 c] w fun e w' => e = .returned (.int .i64 c) ∧ w' = w := by
  rcases hc with rfl | rfl | rfl | rfl
  · exact codeNone w
  · exact code0 w h
  · exact code3 w h
  · exact code1 w h
theorem codeS_kind {n d k : Int} (h : okF n d = true) (hk : okK k = false) : codeS n d k = 2 := by unfold codeS; rw [h, hk]; rfl
theorem codeS_even {n d : Int} (h : okF n d = true) (h1 : n.tmod 2 ≠ 0) (h2 : d.tmod 2 ≠ 0) : codeS n d 2 = 6 := by
  unfold codeS; rw [h, if_pos rfl, if_pos (by decide), if_pos ⟨rfl, h1, h2⟩]
theorem codeS_even1 {n d : Int} (h : okF n d = true) (h1 : n.tmod 2 = 0) : codeS n d 2 = 0 := by
  unfold codeS; rw [h, if_pos rfl, if_pos (by decide), if_neg (fun x => x.2.1 h1)]
theorem codeS_even2 {n d : Int} (h : okF n d = true) (h1 : d.tmod 2 = 0) : codeS n d 2 = 0 := by
  unfold codeS; rw [h, if_pos rfl, if_pos (by decide), if_neg (fun x => x.2.2 h1)]
theorem codeS_fine {n d k : Int} (h : okF n d = true) (hk : okK k = true) (h2 : k ≠ 2) : codeS n d k = 0 := by
  unfold codeS; rw [h, hk, if_pos rfl, if_pos rfl, if_neg (fun x => h2 x.1)]
theorem codeS_bad {n d k : Int} (h : okF n d = false) : codeS n d k = 1 := by unfold codeS; rw [h]; rfl
theorem expS_code {n d k : Int} (h : okF n d = true) : (expS n d k).2 = 0 ∨ (expS n d k).2 = 2 ∨ (expS n d k).2 = 5 ∨ (expS n d k).2 = 6 := by
  unfold expS
  split
  · rcases sxc_cases k [] 1 n d with h1 | ⟨m, h1, _⟩ <;> rw [h1]
    · exact .inr (.inr (.inl rfl))
    · exact .inl rfl
  · show codeS n d k = 0 ∨ _
    unfold codeS
    rw [h, if_pos rfl]
    split
    · split
      · exact .inr (.inr (.inr rfl))
      · exact .inl rfl
    · exact .inr (.inl rfl)

theorem rule1 (w : World) : Calls Tryd.prog 108 #[.int .i64 1] w fun e w' => e = .returned (.tuple #[.iface 153 (.agg #[]), .nilIface]) ∧ w' = w := by
  go_enter Tryd.func108, Tryd.ntmps108
  go_wp2_with (fail)
  go_ret2
  exact ⟨rfl, rfl⟩
theorem rule2 (w : World) : Calls Tryd.prog 108 #[.int .i64 2] w fun e w' => e = .returned (.tuple #[.iface 154 (.agg #[]), .nilIface]) ∧ w' = w := by
  go_enter Tryd.func108, Tryd.ntmps108
  go_wp2_with (fail)
  go_ret2
  exact ⟨rfl, rfl⟩
theorem rule3 (w : World) : Calls Tryd.prog 108 #[.int .i64 3] w fun e w' => e = .returned (.tuple #[.iface 155 (.agg #[]), .nilIface]) ∧ w' = w := by
  go_enter Tryd.func108, Tryd.ntmps108
  go_wp2_with (fail)
  go_ret2
  exact ⟨rfl, rfl⟩
theorem rule4 (w : World) : Calls Tryd.prog 108 #[.int .i64 4] w fun e w' => e = .returned (.tuple #[.iface 156 (.agg #[]), .nilIface]) ∧ w' = w := by
  go_enter Tryd.func108, Tryd.ntmps108
  go_wp2_with (fail)
  go_ret2
  exact ⟨rfl, rfl⟩
theorem ruleNo (k : Int) (a : Addr) (w : World) (hk : okK k = false) (hc : w.cell? ⟨1, 0, none⟩ = some (.iface 216 (.pointer (some a)))) :
    Calls Tryd.prog 108 #[.int .i64 k] w fun e w' => e = .returned (.tuple #[.nilIface, ErrV a]) ∧ Below w.heap.size w w' := by
  have h1 : k ≠ 1 := by rintro rfl; exact absurd hk (by decide)
  have h2 : k ≠ 2 := by rintro rfl; exact absurd hk (by decide)
  have h3 : k ≠ 3 := by rintro rfl; exact absurd hk (by decide)
  have h4 : k ≠ 4 := by rintro rfl; exact absurd hk (by decide)
  have e1 : (k == 1) = false := by simpa using h1
  have e2 : (k == 2) = false := by simpa using h2
  have e3 : (k == 3) = false := by simpa using h3
  have e4 : (k == 4) = false := by simpa using h4
  clear hk
  go_enter Tryd.func108, Tryd.ntmps108
  go_wp2_with (fail)
  go_quiet (fail)
  go_wp2_with (fail)
  go_ret2
  exact ⟨rfl, below_drewN (Below.refl _ _) _⟩

theorem byKind1 (n d : Int) (a0 a1 a2 a3 : Addr) (w : World) (hs : Errs a0 a1 a2 a3 w) (hok : okF n d = true) :
    Calls Tryd.prog 74 #[.agg #[.int .i64 n, .int .i64 d], .int .i64 1] w fun e w' => SErrR a0 a1 a3 w.heap.size (expS n d 1) e w' ∧ Below w.heap.size w w' := by
  obtain ⟨d1, d2, d3, d4⟩ := ok_boundsS hok
  have HS := hid hs
  have HX := hid (expS_ok (n := n) (d := d) (k := 1) (codeS_fine hok (by decide) (by decide)))
  obtain ⟨W, hW⟩ : ∃ W, W = w.alloc (.cells #[.int .i64 n, .int .i64 d] 30) := ⟨_, rfl⟩
  have A : Below w.heap.size w W := by rw [hW]; exact (Below.refl _ _).alloc (Nat.le_refl _) _
  have EA := hid A
  have FB0 := hid (show FB W w.heap.size n d by rw [hW]; exact fb_new w n d)
  obtain ⟨x0, x1, _, _, _⟩ := fb_cells FB0.out
  have RR := hid (expandRule1 n d a0 a1 a2 a3 W (errs_below HS.out A) d3 d4 d1 d2)
  have RU := hid (fun w => rule1 w)
  rw [hW] at x0 x1

  clear hs hok A
  go_enter Tryd.func74, Tryd.ntmps74
  go_wp2_with (fail)
  refine (RU.out _).mono ?_
  rintro e u ⟨rfl, rfl⟩
  rw [← hW] at *
  clear hW
  go_wp2_with (fail)
  refine RR.out.mono ?_
  rintro e w1 ⟨⟨v, rfl, r⟩, b1⟩
  have R1 := hid (sback_mono r EA.out.size)
  have E1 := hid (EA.out.trans (b1.mono EA.out.size))
  clear r b1
  go_wp2_with (fail)
  go_ret2
  exact ⟨⟨_, by rw [HX.out]; rfl, by rw [HX.out]; exact R1.out⟩, E1.out⟩

theorem byKind3 (n d : Int) (a0 a1 a2 a3 : Addr) (w : World) (hs : Errs a0 a1 a2 a3 w) (hok : okF n d = true) :
    Calls Tryd.prog 74 #[.agg #[.int .i64 n, .int .i64 d], .int .i64 3] w fun e w' => SErrR a0 a1 a3 w.heap.size (expS n d 3) e w' ∧ Below w.heap.size w w' := by
  obtain ⟨d1, d2, d3, d4⟩ := ok_boundsS hok
  have HS := hid hs
  have HX := hid (expS_ok (n := n) (d := d) (k := 3) (codeS_fine hok (by decide) (by decide)))
  obtain ⟨W, hW⟩ : ∃ W, W = w.alloc (.cells #[.int .i64 n, .int .i64 d] 30) := ⟨_, rfl⟩
  have A : Below w.heap.size w W := by rw [hW]; exact (Below.refl _ _).alloc (Nat.le_refl _) _
  have EA := hid A
  have FB0 := hid (show FB W w.heap.size n d by rw [hW]; exact fb_new w n d)
  obtain ⟨x0, x1, _, _, _⟩ := fb_cells FB0.out
  have RR := hid (expandRule3 n d a0 a1 a2 a3 W (errs_below HS.out A) d3 d4 d1 d2)
  have RU := hid (fun w => rule3 w)
  rw [hW] at x0 x1

  clear hs hok A
  go_enter Tryd.func74, Tryd.ntmps74
  go_wp2_with (fail)
  refine (RU.out _).mono ?_
  rintro e u ⟨rfl, rfl⟩
  rw [← hW] at *
  clear hW
  go_wp2_with (fail)
  refine RR.out.mono ?_
  rintro e w1 ⟨⟨v, rfl, r⟩, b1⟩
  have R1 := hid (sback_mono r EA.out.size)
  have E1 := hid (EA.out.trans (b1.mono EA.out.size))
  clear r b1
  go_wp2_with (fail)
  go_ret2
  exact ⟨⟨_, by rw [HX.out]; rfl, by rw [HX.out]; exact R1.out⟩, E1.out⟩

theorem byKind4 (n d : Int) (a0 a1 a2 a3 : Addr) (w : World) (hs : Errs a0 a1 a2 a3 w) (hok : okF n d = true) :
    Calls Tryd.prog 74 #[.agg #[.int .i64 n, .int .i64 d], .int .i64 4] w fun e w' => SErrR a0 a1 a3 w.heap.size (expS n d 4) e w' ∧ Below w.heap.size w w' := by
  obtain ⟨d1, d2, d3, d4⟩ := ok_boundsS hok
  have HS := hid hs
  have HX := hid (expS_ok (n := n) (d := d) (k := 4) (codeS_fine hok (by decide) (by decide)))
  obtain ⟨W, hW⟩ : ∃ W, W = w.alloc (.cells #[.int .i64 n, .int .i64 d] 30) := ⟨_, rfl⟩
  have A : Below w.heap.size w W := by rw [hW]; exact (Below.refl _ _).alloc (Nat.le_refl _) _
  have EA := hid A
  have FB0 := hid (show FB W w.heap.size n d by rw [hW]; exact fb_new w n d)
  obtain ⟨x0, x1, _, _, _⟩ := fb_cells FB0.out
  have RR := hid (expandRule4 n d a0 a1 a2 a3 W (errs_below HS.out A) d3 d4 d1 d2)
  have RU := hid (fun w => rule4 w)
  rw [hW] at x0 x1

  clear hs hok A
  go_enter Tryd.func74, Tryd.ntmps74
  go_wp2_with (fail)
  refine (RU.out _).mono ?_
  rintro e u ⟨rfl, rfl⟩
  rw [← hW] at *
  clear hW
  go_wp2_with (fail)
  refine RR.out.mono ?_
  rintro e w1 ⟨⟨v, rfl, r⟩, b1⟩
  have R1 := hid (sback_mono r EA.out.size)
  have E1 := hid (EA.out.trans (b1.mono EA.out.size))
  clear r b1
  go_wp2_with (fail)
  go_ret2
  exact ⟨⟨_, by rw [HX.out]; rfl, by rw [HX.out]; exact R1.out⟩, E1.out⟩

theorem byKind2a (n d : Int) (a0 a1 a2 a3 : Addr) (w : World) (hs : Errs a0 a1 a2 a3 w) (hok : okF n d = true) (h1 : n.tmod 2 = 0) :
    Calls Tryd.prog 74 #[.agg #[.int .i64 n, .int .i64 d], .int .i64 2] w fun e w' => SErrR a0 a1 a3 w.heap.size (expS n d 2) e w' ∧ Below w.heap.size w w' := by
  obtain ⟨d1, d2, d3, d4⟩ := ok_boundsS hok
  have HS := hid hs
  have HX := hid (expS_ok (n := n) (d := d) (k := 2) (codeS_even1 hok h1))
  obtain ⟨W, hW⟩ : ∃ W, W = w.alloc (.cells #[.int .i64 n, .int .i64 d] 30) := ⟨_, rfl⟩
  have A : Below w.heap.size w W := by rw [hW]; exact (Below.refl _ _).alloc (Nat.le_refl _) _
  have EA := hid A
  have FB0 := hid (show FB W w.heap.size n d by rw [hW]; exact fb_new w n d)
  obtain ⟨x0, x1, _, _, _⟩ := fb_cells FB0.out
  have RR := hid (expandRule2 n d a0 a1 a2 a3 W (errs_below HS.out A) d3 d4 d1 d2)
  have RU := hid (fun w => rule2 w)
  rw [hW] at x0 x1
  have z1 : (n.tmod 2 != 0) = false := by simp [h1]
  clear h1
  clear hs hok A
  go_enter Tryd.func74, Tryd.ntmps74
  go_wp2_with (fail)
  refine (RU.out _).mono ?_
  rintro e u ⟨rfl, rfl⟩
  rw [← hW] at *
  clear hW
  go_wp2_with (fail)
  refine RR.out.mono ?_
  rintro e w1 ⟨⟨v, rfl, r⟩, b1⟩
  have R1 := hid (sback_mono r EA.out.size)
  have E1 := hid (EA.out.trans (b1.mono EA.out.size))
  clear r b1
  go_wp2_with (fail)
  go_ret2
  exact ⟨⟨_, by rw [HX.out]; rfl, by rw [HX.out]; exact R1.out⟩, E1.out⟩

theorem byKind2b (n d : Int) (a0 a1 a2 a3 : Addr) (w : World) (hs : Errs a0 a1 a2 a3 w) (hok : okF n d = true) (h1 : n.tmod 2 ≠ 0) (h2 : d.tmod 2 = 0) :
    Calls Tryd.prog 74 #[.agg #[.int .i64 n, .int .i64 d], .int .i64 2] w fun e w' => SErrR a0 a1 a3 w.heap.size (expS n d 2) e w' ∧ Below w.heap.size w w' := by
  obtain ⟨d1, d2, d3, d4⟩ := ok_boundsS hok
  have HS := hid hs
  have HX := hid (expS_ok (n := n) (d := d) (k := 2) (codeS_even2 hok h2))
  obtain ⟨W, hW⟩ : ∃ W, W = w.alloc (.cells #[.int .i64 n, .int .i64 d] 30) := ⟨_, rfl⟩
  have A : Below w.heap.size w W := by rw [hW]; exact (Below.refl _ _).alloc (Nat.le_refl _) _
  have EA := hid A
  have FB0 := hid (show FB W w.heap.size n d by rw [hW]; exact fb_new w n d)
  obtain ⟨x0, x1, _, _, _⟩ := fb_cells FB0.out
  have RR := hid (expandRule2 n d a0 a1 a2 a3 W (errs_below HS.out A) d3 d4 d1 d2)
  have RU := hid (fun w => rule2 w)
  rw [hW] at x0 x1
  have z1 : (n.tmod 2 != 0) = true := by simpa using h1
  have z2 : (d % 2 != 0) = false := by rw [← Int.tmod_eq_emod_of_nonneg (by omega)]; simp [h2]
  clear h1 h2
  clear hs hok A
  go_enter Tryd.func74, Tryd.ntmps74
  go_wp2_with (fail)
  refine (RU.out _).mono ?_
  rintro e u ⟨rfl, rfl⟩
  rw [← hW] at *
  clear hW
  go_wp2_with (fail)
  refine RR.out.mono ?_
  rintro e w1 ⟨⟨v, rfl, r⟩, b1⟩
  have R1 := hid (sback_mono r EA.out.size)
  have E1 := hid (EA.out.trans (b1.mono EA.out.size))
  clear r b1
  go_wp2_with (fail)
  go_ret2
  exact ⟨⟨_, by rw [HX.out]; rfl, by rw [HX.out]; exact R1.out⟩, E1.out⟩

theorem byKind2c (n d : Int) (a0 a1 a2 a3 : Addr) (w : World) (hs : Errs a0 a1 a2 a3 w) (hok : okF n d = true) (h1 : n.tmod 2 ≠ 0) (h2 : d.tmod 2 ≠ 0) :
    Calls Tryd.prog 74 #[.agg #[.int .i64 n, .int .i64 d], .int .i64 2] w fun e w' => SErrR a0 a1 a3 w.heap.size (expS n d 2) e w' ∧ Below w.heap.size w w' := by
  obtain ⟨d1, d2, d3, d4⟩ := ok_boundsS hok
  have HX := hid (expS_bad (n := n) (d := d) (k := 2) (codeS_even hok h1 h2) (by decide))
  obtain ⟨W, hW⟩ : ∃ W, W = w.alloc (.cells #[.int .i64 n, .int .i64 d] 30) := ⟨_, rfl⟩
  have A : Below w.heap.size w W := by rw [hW]; exact (Below.refl _ _).alloc (Nat.le_refl _) _
  have EA := hid A
  have FB0 := hid (show FB W w.heap.size n d by rw [hW]; exact fb_new w n d)
  obtain ⟨x0, x1, _, _, _⟩ := fb_cells FB0.out
  have g1 := (errs_below hs A).2.1.1
  have RU := hid (fun w => rule2 w)
  rw [hW] at x0 x1 g1
  have z1 : (n.tmod 2 != 0) = true := by simpa using h1
  have z2 : (d % 2 != 0) = true := by rw [← Int.tmod_eq_emod_of_nonneg (by omega)]; simpa using h2
  clear hs hok A h1 h2
  go_enter Tryd.func74, Tryd.ntmps74
  go_wp2_with (fail)
  refine (RU.out _).mono ?_
  rintro e u ⟨rfl, rfl⟩
  go_wp2_with (fail)
  go_quiet (fail)
  go_wp2_with (fail)
  go_ret2
  rw [hW] at EA
  exact ⟨⟨_, by rw [HX.out]; rfl, by rw [HX.out]; exact sback_nil⟩, below_drewN EA.out _⟩
theorem byKindNo (n d k : Int) (a0 a1 a2 a3 : Addr) (w : World) (hs : Errs a0 a1 a2 a3 w) (hok : okF n d = true) (hk : okK k = false) :
    Calls Tryd.prog 74 #[.agg #[.int .i64 n, .int .i64 d], .int .i64 k] w fun e w' => SErrR a0 a1 a3 w.heap.size (expS n d k) e w' ∧ Below w.heap.size w w' := by
  have HX := hid (expS_bad (n := n) (d := d) (k := k) (codeS_kind hok hk) (by decide))
  have A : Below w.heap.size w (w.alloc (.cells #[.int .i64 n, .int .i64 d] 30)) := (Below.refl _ _).alloc (Nat.le_refl _) _
  have EA := hid A
  have RU := hid (ruleNo k a0 _ hk (errs_below hs A).1.1)
  unfold ErrV at RU
  clear hs hok A hk
  go_enter Tryd.func74, Tryd.ntmps74
  go_wp2_with (fail)
  refine RU.out.mono ?_
  rintro e u ⟨rfl, b1⟩
  have E1 := hid (EA.out.trans (b1.mono EA.out.size))
  clear b1 RU
  go_wp2_with (fail)
  go_ret2
  exact ⟨⟨_, by rw [HX.out]; rfl, by rw [HX.out]; exact sback_nil⟩, E1.out⟩
theorem byKind (n d k : Int) (a0 a1 a2 a3 : Addr) (w : World) (hs : Errs a0 a1 a2 a3 w) (hok : okF n d = true) :
    Calls Tryd.prog 74 #[.agg #[.int .i64 n, .int .i64 d], .int .i64 k] w fun e w' => SErrR a0 a1 a3 w.heap.size (expS n d k) e w' ∧ Below w.heap.size w w' := by
  cases hk : okK k
  · exact byKindNo n d k a0 a1 a2 a3 w hs hok hk
  · have h := inB_iff.1 hk
    have h3 : k = 1 ∨ k = 2 ∨ k = 3 ∨ k = 4 := by omega
    rcases h3 with rfl | rfl | rfl | rfl
    · exact byKind1 n d a0 a1 a2 a3 w hs hok
    · by_cases h1 : n.tmod 2 = 0
      · exact byKind2a n d a0 a1 a2 a3 w hs hok h1
      · by_cases h2 : d.tmod 2 = 0
        · exact byKind2b n d a0 a1 a2 a3 w hs hok h1 h2
        · exact byKind2c n d a0 a1 a2 a3 w hs hok h1 h2
    · exact byKind3 n d a0 a1 a2 a3 w hs hok
    · exact byKind4 n d a0 a1 a2 a3 w hs hok

theorem implExpandS (n d k : Int) (a0 a1 a2 a3 : Addr) (w : World) (hs : Errs a0 a1 a2 a3 w) :
    Calls Tryd.prog 30 #[.agg #[.int .i64 n, .int .i64 d], .int .i64 k] w fun e w' => SListR w.heap.size (expS n d k) e w' ∧ Below w.heap.size w w' := by
  have HS := hid hs
  obtain ⟨W, hW⟩ : ∃ W, W = w.alloc (.cells #[.int .i64 n, .int .i64 d] 30) := ⟨_, rfl⟩
  have A : Below w.heap.size w W := by rw [hW]; exact (Below.refl _ _).alloc (Nat.le_refl _) _
  have EA := hid A
  have FB0 := hid (show FB W w.heap.size n d by rw [hW]; exact fb_new w n d)
  have V := hid (implValid n d W)
  cases hok : okF n d
  · have HX := hid (expS_bad (n := n) (d := d) (k := k) (codeS_bad hok) (by decide))
    rw [hok] at V
    clear hs hok A
    go_enter Tryd.func30, Tryd.ntmps30
    go_wp2_with (fail)
    rw [← hW]
    refine V.out.mono ?_
    rintro e w1 ⟨rfl, b1⟩
    have E1 := hid (EA.out.trans (b1.mono EA.out.size))
    clear b1 V
    go_wp2_with (fail)
    go_ret2
    exact ⟨⟨_, by rw [HX.out]; rfl, by rw [HX.out]; exact sback_nil⟩, E1.out⟩
  rw [hok] at V
  have K := hid (fun w (h : Errs a0 a1 a2 a3 w) => byKind n d k a0 a1 a2 a3 w h hok)
  have HC := hid (expS_code (n := n) (d := d) (k := k) hok)
  generalize expS n d k = r at *
  obtain ⟨l, c⟩ := r
  have CC := hid (fun w (h : Errs a0 a1 a2 a3 w) => codeE c w h HC.out)
  clear hs hok A
  go_enter Tryd.func30, Tryd.ntmps30
  go_wp2_with (fail)
  rw [← hW]
  clear hW
  refine V.out.mono ?_
  rintro e w1 ⟨rfl, b1⟩
  have E1 := hid (EA.out.trans (b1.mono EA.out.size))
  obtain ⟨x0, x1, _, _, _⟩ := fb_cells (fb_below FB0.out b1)
  clear b1 V
  go_wp2_with (fail)
  refine (K.out _ (errs_below HS.out E1.out)).mono ?_
  rintro e w2 ⟨⟨v, rfl, r⟩, b2⟩
  have R2 := hid (sback_mono r E1.out.size)
  have E2 := hid (E1.out.trans (b2.mono E1.out.size))
  clear r b2 x0 x1
  dsimp only
  go_wp2_with (fail)
  refine (CC.out _ (errs_below HS.out E2.out)).mono ?_
  rintro e u ⟨rfl, rfl⟩
  go_wp2_with (fail)
  go_ret2
  exact ⟨⟨_, rfl, R2.out⟩, E2.out⟩

end Go.Proofs.YtipegemhcmfnmaaDoor
