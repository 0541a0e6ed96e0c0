/- Contracts: convergents and the value of terms with signs, by the program and by the model. -/
import Derived.Test.YtipegemhcmfnmaaDoorCpm
namespace Go.Proofs.YtipegemhcmfnmaaDoor
open Go.RowKit

theorem codeC {a0 a1 a2 a3 : Addr} (c : Int) (w : World) (h : Errs a0 a1 a2 a3 w) (hc : c = 0 ∨ c = 5 ∨ c = 6) :
    Calls Tryd.prog 60 #[errC a2 a3 c] w fun e w' => e = .returned (.int .i64 c) ∧ w' = w := by
  rcases hc with rfl | rfl | rfl
  · exact codeNone w
  · exact code3 w h
  · exact code2 w h
theorem valS_yes {xs : List (Int × Int)} (h : (convS xs).2 = 0) : valS xs = (((convS xs).1.getD ((convS xs).1.length - 1) (0, 0)).1, ((convS xs).1.getD ((convS xs).1.length - 1) (0, 0)).2, 0) := by
  unfold valS
  rw [if_pos h, (convS_len h).1]
theorem valS_not {xs : List (Int × Int)} (h : (convS xs).2 ≠ 0) : valS xs = (0, 0, (convS xs).2) := by unfold valS; rw [if_neg h]

theorem implConvS (g c : Nat) (xs : List (Int × Int)) (a0 a1 a2 a3 : Addr) (w : World) (hs : Errs a0 a1 a2 a3 w) (hx : xs.length ≤ 2000000000) (hc : xs.length ≤ c) (ha : Sgs w g 0 xs) :
    Calls Tryd.prog 16 #[.slice (some ⟨g, 0, none⟩) xs.length c] w fun e w' => FListR w.heap.size (convS xs) e w' ∧ Below w.heap.size w w' := by
  have HS := hid hs
  have HA := hid ha
  have V := hid (implValidS g c xs w hx hc ha)
  clear hs ha
  cases hok : okS xs
  · rw [hok] at V
    have HR := hid (convS_bad hok)
    clear hok
    go_enter Tryd.func16, Tryd.ntmps16
    go_wp2_with (fail)
    refine V.out.mono ?_
    rintro e w1 ⟨rfl, b1⟩
    have E1 := hid b1
    clear b1 V
    go_wp2_with (fail)
    go_ret2
    exact ⟨⟨_, by rw [HR.out]; rfl, by rw [HR.out]; exact .inl ⟨rfl, rfl⟩⟩, E1.out⟩
  rw [hok] at V
  have HR := hid (convS_ok hok)
  have C := hid (fun w (h : Errs a0 a1 a2 a3 w) (h2 : Sgs w g 0 xs) => implCvs g c xs a0 a1 a2 a3 w h hok h2)
  have HC := hid (scv_code xs 1 0 0 1).1
  rw [HR.out]
  clear hok HR
  generalize scv 1 0 0 1 xs = r at *
  obtain ⟨l, s⟩ := r
  have CC := hid (fun w (h : Errs a0 a1 a2 a3 w) => codeC s w h HC.out)
  go_enter Tryd.func16, Tryd.ntmps16
  go_wp2_with (fail)
  refine V.out.mono ?_
  rintro e w1 ⟨rfl, b1⟩
  have E1 := hid b1
  clear b1 V
  go_wp2_with (fail)
  refine (C.out _ (errs_below HS.out E1.out) (sgs_below HA.out E1.out)).mono ?_
  rintro e w2 ⟨⟨v, rfl, r⟩, b2⟩
  have R2 := hid (fback_mono r E1.out.size)
  have E2 := hid (E1.out.trans (b2.mono E1.out.size))
  clear r b2
  dsimp only
  go_wp2_with (fail)
  refine (CC.out _ (errs_below HS.out E2.out)).mono ?_
  rintro e u ⟨rfl, rfl⟩
  go_wp2_with (fail)
  go_ret2
  exact ⟨⟨_, rfl, R2.out⟩, E2.out⟩

theorem specConvS (g c : Nat) (xs : List (Int × Int)) (w : World) (hx : xs.length ≤ 2000000000) (ha : Sgs w g 0 xs) :
    Calls Tryd.prog 17 #[.slice (some ⟨g, 0, none⟩) xs.length c] w fun e w' => FListR w.heap.size (convS xs) e w' ∧ Below w.heap.size w w' := by
  have HA := hid ha
  have V := hid (specOkS g c xs w hx ha)
  clear ha
  cases hok : okS xs
  · rw [hok] at V
    have HR := hid (convS_bad hok)
    clear hok
    go_enter Tryd.func17, Tryd.ntmps17
    go_wp2_with (fail)
    refine V.out.mono ?_
    rintro e w1 ⟨rfl, b1⟩
    have E1 := hid b1
    clear b1 V
    go_wp2_with (fail)
    go_ret2
    exact ⟨⟨_, by rw [HR.out]; rfl, by rw [HR.out]; exact .inl ⟨rfl, rfl⟩⟩, E1.out⟩
  rw [hok] at V
  have HR := hid (convS_ok hok)
  have C := hid (fun w (h2 : Sgs w g 0 xs) => specCvs g c xs w hok h2)
  rw [HR.out]
  clear hok HR
  go_enter Tryd.func17, Tryd.ntmps17
  go_wp2_with (fail)
  refine V.out.mono ?_
  rintro e w1 ⟨rfl, b1⟩
  have E1 := hid b1
  clear b1 V
  go_wp2_with (fail)
  refine (C.out _ (sgs_below HA.out E1.out)).mono ?_
  rintro e w2 ⟨⟨v, rfl, r⟩, b2⟩
  have R2 := hid (fback_mono r E1.out.size)
  have E2 := hid (E1.out.trans (b2.mono E1.out.size))
  clear r b2
  dsimp only
  go_wp2_with (fail)
  go_ret2
  exact ⟨⟨_, rfl, R2.out⟩, E2.out⟩

theorem implValS (g c : Nat) (xs : List (Int × Int)) (a0 a1 a2 a3 : Addr) (w : World) (hs : Errs a0 a1 a2 a3 w) (hx : xs.length ≤ 2000000000) (hc : xs.length ≤ c) (ha : Sgs w g 0 xs) :
    Calls Tryd.prog 18 #[.slice (some ⟨g, 0, none⟩) xs.length c] w fun e w' => e = .returned (valV (valS xs)) ∧ Below w.heap.size w w' := by
  have HV0 := hid ((Below.refl w.heap.size w).alloc (Nat.le_refl _) (.cells #[.int .i64 0, .int .i64 0] 30))
  have V1 := hid (implConvS g c xs a0 a1 a2 a3 _ (errs_below hs HV0.out) hx hc (sgs_below ha HV0.out))
  have HVN := hid (valS_not (xs := xs))
  have HVY := hid (valS_yes (xs := xs))
  have HCL := hid (fun h : (convS xs).2 = 0 => (convS_len h).1)
  have HCN := hid (fun h : (convS xs).2 = 0 => okS_len (convS_len h).2)
  clear ha hs
  generalize convS xs = r at *
  obtain ⟨l, s⟩ := r
  by_cases hs0 : s = 0
  · subst hs0
    have HR := hid (HVY.out rfl)
    have hl := HCL.out rfl
    have hl2 := HCN.out rfl
    dsimp only at hl HR
    have hl1 : 1 ≤ l.length := by omega
    have hl60 : l.length ≤ 60 := by omega
    clear hl hl2
    obtain ⟨⟨y0, y1⟩, hy⟩ : ∃ y, l[l.length - 1]? = some y := ⟨_, List.getElem?_eq_getElem (by omega)⟩
    have hyd : l.getD (l.length - 1) (0, 0) = (y0, y1) := by rw [List.getD_eq_getElem?_getD, hy]; rfl
    rw [hyd] at HR
    have HY := hid hy
    have t1 : ((l.length : Int) - 1).toNat = l.length - 1 := by omega
    have t2 : (0 : Int) ≤ (l.length : Int) - 1 := by omega
    clear hyd hy HVN HVY HCL HCN
    go_enter Tryd.func18, Tryd.ntmps18
    go_wp2_with (fail)
    refine V1.out.mono ?_
    rintro e w1 ⟨⟨v, rfl, r⟩, b1⟩
    have E1 := hid (HV0.out.trans (b1.mono HV0.out.size))
    obtain ⟨q0, q1, q2, q3, q4⟩ := res_facts 30 b1
    obtain ⟨g2, c2, rfl, o2⟩ : ∃ g2 c2, v = .slice (some ⟨g2, 0, none⟩) l.length c2 ∧ FOwn (w.alloc (.cells #[.int .i64 0, .int .i64 0] 30)).heap.size w1 g2 c2 l := by
      rcases r with ⟨_, h0⟩ | h
      · dsimp only at h0; rw [h0] at hl1; simp at hl1
      · exact h
    obtain ⟨x0, x1⟩ := fown_cells o2 HY.out
    dsimp only at x0 x1
    clear r b1 o2
    dsimp only
    go_wp2_with (fail)
    obtain ⟨r0, r1⟩ := set_read (x := .int .i64 y0) (y := .int .i64 y1) q0 q1
    refine bodyPost_ret (v := valV (y0, y1, 0)) (by simp [results, Tryd.results18, go_sem, r0, r1, valV]) rfl ⟨by rw [HR.out], ?_⟩
    exact (E1.out.setCell (p := ⟨w.heap.size, 0, none⟩) (Nat.le_refl _) _).setCell (p := ⟨w.heap.size, 1, none⟩) (Nat.le_refl _) _
  · have HR := hid (HVN.out hs0)
    have hs2 : (s != 0) = true := by simpa using hs0
    dsimp only at HR
    clear HVN HVY HCL HCN hs0
    go_enter Tryd.func18, Tryd.ntmps18
    go_wp2_with (fail)
    refine V1.out.mono ?_
    rintro e w1 ⟨⟨v, rfl, r⟩, b1⟩
    have E1 := hid (HV0.out.trans (b1.mono HV0.out.size))
    obtain ⟨q0, q1, q2, q3, q4⟩ := res_facts 30 b1
    clear r b1
    dsimp only
    go_wp2_with (fail)
    obtain ⟨r0, r1⟩ := set_read (x := .int .i64 0) (y := .int .i64 0) q0 q1
    refine bodyPost_ret (v := valV (0, 0, s)) (by simp [results, Tryd.results18, go_sem, r0, r1, valV]) rfl ⟨by rw [HR.out], ?_⟩
    exact (E1.out.setCell (p := ⟨w.heap.size, 0, none⟩) (Nat.le_refl _) _).setCell (p := ⟨w.heap.size, 1, none⟩) (Nat.le_refl _) _

theorem specCvsC (g c : Nat) (xs : List (Int × Int)) (w : World) (hok : okS xs = true) (ha : Sgs w g 0 xs) :
    Calls Tryd.prog 62 #[.slice (some ⟨g, 0, none⟩) xs.length c] w fun e w' => FListR w.heap.size (convS xs) e w' ∧ Below w.heap.size w w' := by
  rw [convS_ok hok]; exact specCvs g c xs w hok ha
theorem specValL (g c : Nat) (xs : List (Int × Int)) (w : World) (hok : okS xs = true) (ha : Sgs w g 0 xs) :
    Calls Tryd.prog 80 #[.slice (some ⟨g, 0, none⟩) xs.length c] w fun e w' => e = .returned (valV (valS xs)) ∧ Below w.heap.size w w' := by
  have HV0 := hid ((Below.refl w.heap.size w).alloc (Nat.le_refl _) (.cells #[.int .i64 0, .int .i64 0] 30))
  have V1 := hid (specCvsC g c xs _ hok (sgs_below ha HV0.out))
  have HVN := hid (valS_not (xs := xs))
  have HVY := hid (valS_yes (xs := xs))
  have HCL := hid (fun h : (convS xs).2 = 0 => (convS_len h).1)
  have HCN := hid (fun h : (convS xs).2 = 0 => okS_len (convS_len h).2)
  clear ha hok
  generalize convS xs = r at *
  obtain ⟨l, s⟩ := r
  by_cases hs0 : s = 0
  · subst hs0
    have HR := hid (HVY.out rfl)
    have hl := HCL.out rfl
    have hl2 := HCN.out rfl
    dsimp only at hl HR
    have hl1 : 1 ≤ l.length := by omega
    have hl60 : l.length ≤ 60 := by omega
    clear hl hl2
    obtain ⟨⟨y0, y1⟩, hy⟩ : ∃ y, l[l.length - 1]? = some y := ⟨_, List.getElem?_eq_getElem (by omega)⟩
    have hyd : l.getD (l.length - 1) (0, 0) = (y0, y1) := by rw [List.getD_eq_getElem?_getD, hy]; rfl
    rw [hyd] at HR
    have HY := hid hy
    have t1 : ((l.length : Int) - 1).toNat = l.length - 1 := by omega
    have t2 : (0 : Int) ≤ (l.length : Int) - 1 := by omega
    clear hyd hy HVN HVY HCL HCN
    go_enter Tryd.func80, Tryd.ntmps80
    go_wp2_with (fail)
    refine V1.out.mono ?_
    rintro e w1 ⟨⟨v, rfl, r⟩, b1⟩
    have E1 := hid (HV0.out.trans (b1.mono HV0.out.size))
    obtain ⟨q0, q1, q2, q3, q4⟩ := res_facts 30 b1
    obtain ⟨g2, c2, rfl, o2⟩ : ∃ g2 c2, v = .slice (some ⟨g2, 0, none⟩) l.length c2 ∧ FOwn (w.alloc (.cells #[.int .i64 0, .int .i64 0] 30)).heap.size w1 g2 c2 l := by
      rcases r with ⟨_, h0⟩ | h
      · dsimp only at h0; rw [h0] at hl1; simp at hl1
      · exact h
    obtain ⟨x0, x1⟩ := fown_cells o2 HY.out
    dsimp only at x0 x1
    clear r b1 o2
    dsimp only
    go_wp2_with (fail)
    obtain ⟨r0, r1⟩ := set_read (x := .int .i64 y0) (y := .int .i64 y1) q0 q1
    refine bodyPost_ret (v := valV (y0, y1, 0)) (by simp [results, Tryd.results80, go_sem, r0, r1, valV]) rfl ⟨by rw [HR.out], ?_⟩
    exact (E1.out.setCell (p := ⟨w.heap.size, 0, none⟩) (Nat.le_refl _) _).setCell (p := ⟨w.heap.size, 1, none⟩) (Nat.le_refl _) _
  · have HR := hid (HVN.out hs0)
    have hs2 : (s != 0) = true := by simpa using hs0
    dsimp only at HR
    clear HVN HVY HCL HCN hs0
    go_enter Tryd.func80, Tryd.ntmps80
    go_wp2_with (fail)
    refine V1.out.mono ?_
    rintro e w1 ⟨⟨v, rfl, r⟩, b1⟩
    have E1 := hid (HV0.out.trans (b1.mono HV0.out.size))
    obtain ⟨q0, q1, q2, q3, q4⟩ := res_facts 30 b1
    clear r b1
    dsimp only
    go_wp2_with (fail)
    obtain ⟨r0, r1⟩ := set_read (x := .int .i64 0) (y := .int .i64 0) q0 q1
    refine bodyPost_ret (v := valV (0, 0, s)) (by simp [results, Tryd.results80, go_sem, r0, r1, valV]) rfl ⟨by rw [HR.out], ?_⟩
    exact (E1.out.setCell (p := ⟨w.heap.size, 0, none⟩) (Nat.le_refl _) _).setCell (p := ⟨w.heap.size, 1, none⟩) (Nat.le_refl _) _

theorem specValS (g c : Nat) (xs : List (Int × Int)) (w : World) (hx : xs.length ≤ 2000000000) (ha : Sgs w g 0 xs) :
    Calls Tryd.prog 40 #[.slice (some ⟨g, 0, none⟩) xs.length c] w fun e w' => e = .returned (valV (valS xs)) ∧ Below w.heap.size w w' := by
  have HA := hid ha
  have HV0 := hid ((Below.refl w.heap.size w).alloc (Nat.le_refl _) (.cells #[.int .i64 0, .int .i64 0] 30))
  have V := hid (specOkS g c xs _ hx (sgs_below ha HV0.out))
  clear ha
  cases hok : okS xs
  · rw [hok] at V
    have HR := hid (show valS xs = (0, 0, 1) by rw [valS_not (by rw [convS_bad hok]; decide), convS_bad hok])
    rw [HR.out]
    clear hok
    go_enter Tryd.func40, Tryd.ntmps40
    go_wp2_with (fail)
    refine V.out.mono ?_
    rintro e w1 ⟨rfl, b1⟩
    have E1 := hid (HV0.out.trans (b1.mono HV0.out.size))
    obtain ⟨q0, q1, q2, q3, q4⟩ := res_facts 30 b1
    clear b1 V
    go_wp2_with (fail)
    obtain ⟨r0, r1⟩ := set_read (x := .int .i64 0) (y := .int .i64 0) q0 q1
    refine bodyPost_ret (v := valV (0, 0, 1)) (by simp [results, Tryd.results40, go_sem, r0, r1, valV]) rfl ⟨rfl, ?_⟩
    exact (E1.out.setCell (p := ⟨w.heap.size, 0, none⟩) (Nat.le_refl _) _).setCell (p := ⟨w.heap.size, 1, none⟩) (Nat.le_refl _) _
  rw [hok] at V
  have C := hid (fun w (h2 : Sgs w g 0 xs) => specValL g c xs w hok h2)
  clear hok
  generalize valS xs = r at *
  obtain ⟨y0, y1, s⟩ := r
  go_enter Tryd.func40, Tryd.ntmps40
  go_wp2_with (fail)
  refine V.out.mono ?_
  rintro e w1 ⟨rfl, b1⟩
  have B1 := hid b1
  have E1 := hid (HV0.out.trans (b1.mono HV0.out.size))
  clear b1 V
  go_wp2_with (fail)
  refine (C.out _ (sgs_below HA.out E1.out)).mono ?_
  rintro e w2 ⟨rfl, b2⟩
  obtain ⟨q0, q1, q2, q3, q4⟩ := res_facts 30 (B1.out.trans (b2.mono B1.out.size))
  have E2 := hid (E1.out.trans (b2.mono E1.out.size))
  clear b2
  dsimp only [valV]
  go_wp2_with (fail)
  obtain ⟨r0, r1⟩ := set_read (x := .int .i64 y0) (y := .int .i64 y1) q0 q1
  refine bodyPost_ret (v := valV (y0, y1, s)) (by simp [results, Tryd.results40, go_sem, r0, r1, valV]) rfl ⟨rfl, ?_⟩
  exact (E2.out.setCell (p := ⟨w.heap.size, 0, none⟩) (Nat.le_refl _) _).setCell (p := ⟨w.heap.size, 1, none⟩) (Nat.le_refl _) _

end Go.Proofs.YtipegemhcmfnmaaDoor
