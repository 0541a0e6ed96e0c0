/- Contracts: all convergents and the value of terms, as the program tells them, at every list. -/
import Derived.Test.YtipegemhcmfnmaaDoorCvi
namespace Go.Proofs.YtipegemhcmfnmaaDoor
open Go.RowKit

theorem implConv (g c : Nat) (xs : List Int) (w : World) (hx : xs.length ≤ 2000000000) (hc : xs.length ≤ c) (ha : Ints w g 0 xs) :
    Calls Tryd.prog 75 #[.slice (some ⟨g, 0, none⟩) xs.length c] w fun e w' => FListR w.heap.size (convT xs) e w' ∧ Below w.heap.size w w' := by
  cases ho : okT xs
  · have W0 := (((Below.refl w.heap.size w).alloc (Nat.le_refl _) (.cells #[.slice none 0 0] 26)).alloc (by simp) (.cells #[.int .i64 0] 2))
    have HW0 := hid W0
    have V1 := hid (implValidTerms g c xs _ hx hc (ints_below ha W0))
    rw [ho] at V1
    have HCT := hid (convT_bad ho)
    clear W0 ha ho
    go_enter Tryd.func75, Tryd.ntmps75
    go_wp2_with (go_at_call 110; refine V1.out.mono ?_; rintro e w1 ⟨rfl, b1⟩; have k1 := one_cell ((b1.block w.heap.size (by simp; omega)).trans (two_blocks w _ _).1); have k2 := one_cell ((b1.block (w.heap.size + 1) (by simp)).trans (two_blocks w _ _).2.1); have E1 := hid (HW0.out.trans (b1.mono (by simp; omega))); obtain ⟨q0, q1⟩ := k1; obtain ⟨q2, q3⟩ := k2; clear b1)
    obtain ⟨r0, r1⟩ := set_two_one (u := .slice none 0 0) (v := .int .i64 1) q0 q2 (by omega)
    refine bodyPost_ret (v := .tuple #[.slice none 0 0, .int .i64 1]) (by simp [results, Tryd.results75, go_sem, r0, r1]) rfl ⟨?_, ?_⟩
    · rw [HCT.out]; exact ⟨_, rfl, .inl ⟨rfl, rfl⟩⟩
    · exact (E1.out.setCell (p := ⟨w.heap.size, 0, none⟩) (Nat.le_refl _) _).setCell (p := ⟨w.heap.size + 1, 0, none⟩) (by show w.heap.size ≤ w.heap.size + 1; omega) _
  · exact callsIn_wide.1 (implConvs g c xs w hx hc ha ho)

theorem implVal (g c : Nat) (xs : List Int) (w : World) (hx : xs.length ≤ 2000000000) (hc : xs.length ≤ c) (ha : Ints w g 0 xs) :
    Calls Tryd.prog 31 #[.slice (some ⟨g, 0, none⟩) xs.length c] w fun e w' => e = .returned (valV (valT xs)) ∧ Below w.heap.size w w' := by
  have HV0 := hid ((Below.refl w.heap.size w).alloc (Nat.le_refl _) (.cells #[.int .i64 0, .int .i64 0] 30))
  have V1 := hid (implConv g c xs _ hx hc (ints_below ha HV0.out))
  have HO := hid (fun h : okT xs = true => okT_len h)
  clear ha
  cases ho1 : okT xs
  · rw [convT_bad ho1] at V1
    rw [valT_bad ho1]
    clear HO
    go_enter Tryd.func31, Tryd.ntmps31
    go_wp2_with (go_at_call 75; refine V1.out.mono ?_; rintro e w1 ⟨⟨v, rfl, r⟩, b1⟩; obtain ⟨q0, q1, q2, q3, q4⟩ := res_facts 30 b1; have E1 := hid (HV0.out.trans (b1.mono HV0.out.size)); clear b1 r)
    obtain ⟨r0, r1⟩ := set_read (x := .int .i64 0) (y := .int .i64 0) q0 q1
    refine bodyPost_ret (v := valV (0, 0, 1)) (by simp [results, Tryd.results31, go_sem, r0, r1, valV]) rfl ⟨rfl, ?_⟩
    exact (E1.out.setCell (p := ⟨w.heap.size, 0, none⟩) (Nat.le_refl _) _).setCell (p := ⟨w.heap.size, 1, none⟩) (Nat.le_refl _) _
  · have HL := hid (HO.out ho1)
    cases hcv : cv 1 0 0 1 xs with
    | none =>
      rw [convT_full ho1 hcv] at V1
      rw [valT_full ho1 hcv]
      clear HO
      go_enter Tryd.func31, Tryd.ntmps31
      go_wp2_with (go_at_call 75; refine V1.out.mono ?_; rintro e w1 ⟨⟨v, rfl, r⟩, b1⟩; obtain ⟨q0, q1, q2, q3, q4⟩ := res_facts 30 b1; have E1 := hid (HV0.out.trans (b1.mono HV0.out.size)); clear b1 r)
      obtain ⟨r0, r1⟩ := set_read (x := .int .i64 0) (y := .int .i64 0) q0 q1
      refine bodyPost_ret (v := valV (0, 0, 5)) (by simp [results, Tryd.results31, go_sem, r0, r1, valV]) rfl ⟨rfl, ?_⟩
      exact (E1.out.setCell (p := ⟨w.heap.size, 0, none⟩) (Nat.le_refl _) _).setCell (p := ⟨w.heap.size, 1, none⟩) (Nat.le_refl _) _
    | some l =>
      rw [convT_ok ho1 hcv] at V1
      rw [valT_ok ho1 hcv]
      have hl : l.length = xs.length := cv_length hcv
      have hl1 : 1 ≤ l.length := by have := HL.out; omega
      have hl2 : l.length ≤ 60 := by have := HL.out; omega
      clear HO hl ho1 hcv
      obtain ⟨x, hxl⟩ : ∃ x, l[l.length - 1]? = some x := ⟨_, List.getElem?_eq_getElem (by omega)⟩
      have hgd : l.getD (l.length - 1) (0, 0) = x := by rw [List.getD_eq_getElem?_getD, hxl]; rfl
      rw [hgd]
      clear hgd
      obtain ⟨m, hm⟩ : ∃ m, m = l.length := ⟨_, rfl⟩
      have hm1 : (1 : Int) ≤ (m : Int) := by omega
      have hm2 : (m : Int) ≤ 60 := by omega
      go_enter Tryd.func31, Tryd.ntmps31
      go_wp2_with (go_at_call 75; refine V1.out.mono ?_; rintro e w1 ⟨⟨v, rfl, r⟩, b1⟩; obtain ⟨q0, q1, q2, q3, q4⟩ := res_facts 30 b1; have E1 := hid (HV0.out.trans (b1.mono HV0.out.size)); (obtain ⟨g2, c2, rfl, hf⟩ : ∃ g2 c2, v = .slice (some ⟨g2, 0, none⟩) l.length c2 ∧ FOwn (w.heap.size + 1) w1 g2 c2 l := by { rcases r with ⟨_, h0⟩ | ⟨g2, c2, e, h⟩; exact absurd (congrArg List.length (show l = [] from h0)) (by simp only [List.length_nil]; omega); exact ⟨g2, c2, e, fown_mono h (by simp)⟩ }); obtain ⟨x0, x1⟩ := fown_cells hf hxl; have hg2 := hf.1; clear b1 r hf)
      obtain ⟨r0, r1⟩ := set_read (x := .int .i64 x.1) (y := .int .i64 x.2) q0 q1
      refine bodyPost_ret (v := valV (x.1, x.2, 0)) (by simp [results, Tryd.results31, go_sem, r0, r1, valV]) rfl ⟨rfl, ?_⟩
      exact (E1.out.setCell (p := ⟨w.heap.size, 0, none⟩) (Nat.le_refl _) _).setCell (p := ⟨w.heap.size, 1, none⟩) (Nat.le_refl _) _

end Go.Proofs.YtipegemhcmfnmaaDoor
