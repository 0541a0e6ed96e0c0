/- Contract: all convergents, as the program tells them, by its own iterator. -/
import Derived.Test.YtipegemhcmfnmaaDoorCvk
import Derived.Shelf.RegionOpen
namespace Go.Proofs.YtipegemhcmfnmaaDoor
open Go.RowKit Go.Shelf
attribute [local go_sem] Oper.semAt_some

theorem implIter (g c : Nat) (n : Nat) (w : World) : Calls Tryd.prog 111 #[.slice (some ⟨g, 0, none⟩) n c] w fun e w' => e = .returned (.func (.func 131) #[] #[.pointer (some ⟨w.heap.size, 0, none⟩)]) ∧ w' = w.alloc (.cells #[.slice (some ⟨g, 0, none⟩) n c] 33) := by
  have hmf : ∀ (fn : Fn) (first cap : Array Value) (w : World), (Instr.makeFunc fn first cap).run Tryd.prog w = .ok (.func fn first cap) w := fun _ _ _ _ => rfl
  go_enter Tryd.func111, Tryd.ntmps111
  go_wp2_with (fail)
  go_ret
  exact ⟨rfl, rfl⟩

set_option maxRecDepth 100000 in
set_option maxHeartbeats 4000000 in
theorem implConvs (g c : Nat) (xs : List Int) (w : World) (hx : xs.length ≤ 2000000000) (hc : xs.length ≤ c) (ha : Ints w g 0 xs) (ho : okT xs = true) :
    CallsIn Fence.wide 8 Tryd.prog 75 #[.slice (some ⟨g, 0, none⟩) xs.length c] w fun e w' => FListR w.heap.size (convT xs) e w' ∧ Below w.heap.size w w' := by
  have W0 := (((Below.refl w.heap.size w).alloc (Nat.le_refl _) (.cells #[.slice none 0 0] 26)).alloc (by simp) (.cells #[.int .i64 0] 2))
  have HW0 := hid W0
  have V1 := hid (implValidTerms g c xs _ hx hc (ints_below ha W0))
  rw [ho] at V1
  have f26 : Fence.wide.fn 110 := trivial
  have f62 : Fence.wide.fn 111 := trivial
  have hL := okT_len ho
  have hgw : g < w.heap.size := by
    obtain ⟨x, hx0⟩ : ∃ x, xs[0]? = some x := ⟨_, List.getElem?_eq_getElem (by omega)⟩
    exact World.block_lt_of_cell? _ _ (ints_at ha hx0)
  clear W0
  refine callsIn_of_wp_marks Tryd.func75 rfl trivial ?_ rfl
  simp only [Tryd.ntmps75, List.size_toArray, List.length_cons, List.length_nil, Nat.reduceAdd, Nat.reduceSub, Array.replicate_succ, Array.replicate_zero, List.push_toArray, List.append_toArray, List.nil_append, List.cons_append]
  gi_wp2_with (first | (gi_at_call 110; refine (callsIn_wide.2 V1.out).mono ?_; rintro e w1 ⟨rfl, b1⟩) | (gi_at_call 111; refine (callsIn_wide.2 (implIter g c _ _)).mono ?_; rintro e w2 ⟨rfl, rfl⟩))
  have hs1 : w.heap.size + 2 ≤ w1.heap.size := by have := b1.size; simp at this; omega
  have E1 := hid (HW0.out.trans (b1.mono (by simp; omega)))
  have HA := hid ha
  have HBD := hid (okT_bd ho)
  have HCT1 := hid (fun l => @convT_ok xs l ho)
  have HCT2 := hid (@convT_full xs ho)
  have k1 : w1.heap[w.heap.size]? = some (.cells #[.slice none 0 0] 26 (0, 0)) := (b1.block w.heap.size (by simp; omega)).trans (two_blocks w _ _).1
  have k2 : w1.heap[w.heap.size + 1]? = some (.cells #[.int .i64 0] 2 (0, 0)) := (b1.block (w.heap.size + 1) (by simp)).trans (two_blocks w _ _).2.1
  have HK1 := hid k1
  have HK2 := hid k2
  clear b1 k1 k2 V1 HW0 ha ho
  refine rangeStart rfl (by decide) rfl trivial (enters_of Tryd.func131 (by kernel_rfl) rfl) ?_
  intro fn hfn r W1 hr hW1
  obtain ⟨a, hae⟩ : ∃ a, a = w.heap.size := ⟨_, rfl⟩
  obtain ⟨s, hse⟩ : ∃ s, s = w1.heap.size := ⟨_, rfl⟩
  have hz : ((w1.alloc (.cells #[.slice none 0 0] 26)).alloc (.cells #[.slice (some ⟨g, 0, none⟩) xs.length c] 33)).heap.size = s + 2 := by simp [hse]
  rw [hz] at hr
  rw [hz]
  have hC : Cvx a s g xs.length c r w W1 (.slice none 0 0) [] W1 := by
    obtain ⟨t1, t2, t3⟩ := two_blocks w1 (.cells #[.slice none 0 0] 26) (.cells #[.slice (some ⟨g, 0, none⟩) xs.length c] 33)
    obtain ⟨u1, u2, u3⟩ := two_blocks ((w1.alloc (.cells #[.slice none 0 0] 26)).alloc (.cells #[.slice (some ⟨g, 0, none⟩) xs.length c] 33)) (.deferred (some [])) (.loop r)
    rw [hz] at u1 u2 u3
    rw [← hW1] at u1 u2 u3
    rw [← hse] at t1 t2 t3
    refine ⟨⟨u2, u1⟩, ⟨?_, ?_, (u3 _ (by omega)).trans t1, (u3 _ (by omega)).trans t2⟩, ⟨rfl, rfl⟩, ⟨rfl, .inl ⟨rfl, rfl⟩⟩, ?_, ?_⟩
    · rw [u3 _ (by omega), t3 _ (by omega), hae]; exact HK1.out
    · rw [u3 _ (by omega), t3 _ (by omega), hae]; exact HK2.out
    · rw [hW1, hae]
      exact ((((E1.out.alloc E1.out.size _).alloc (by have := E1.out.size; simp; omega) _).alloc (by have := E1.out.size; simp; omega) _).alloc (by have := E1.out.size; simp; omega) _)
    · rw [hW1]; simp; omega
  have hW1s : W1.heap.size = s + 4 := by rw [hW1]; simp [hse]
  have hst : r.state = .ready := by rw [hr]
  have hpe : r.pending = none := by rw [hr]
  have has : a + 2 ≤ s := by omega
  have HC := hid hC
  obtain ⟨i0, hi, hz0, hz1, hz2⟩ := info_parts infoF
  clear hC HK1 HK2 E1 hW1 hz
  have hsz1 : w1.heap.size = s := hse.symm
  have hsz0 : w.heap.size = a := hae.symm
  have key := iterRun 7 (by decide) (s + 3) (s + 1) g c (s + 4) xs hL.2 HBD.out (fun pre X => ∃ v, Cvx a s g xs.length c r w X v pre X)
    (Cxx a s { r with state := .done, pending := some .ret } w) ?hY ?hG ?hI W1 hW1s (cvx_cells HC.out).2.2.2 (by omega) ⟨_, HC.out⟩
  simp only [hsz1, List.append_toArray, List.cons_append, List.nil_append]
  rotate_left
  case hG =>
    rintro pre X Y row ⟨v, h⟩ hg hr
    exact ⟨v, cvx_it h hg has hr⟩
  case hI =>
    rintro pre X ⟨v, h⟩
    have he : g < a := by omega
    exact ints_kept HA.out he h.2.2.2.2.1
  case hY =>
    rintro pre p q pp qq X hpl ⟨v, h⟩ hi0 hi1
    obtain ⟨R, hR⟩ : ∃ R : Ending → World → Prop, R = fun e Y => (e = .returned (.bool true) ∧ okF p q = true ∧ (∃ v, Cvx a s g xs.length c r w Y v (pre ++ [(p, q)]) Y) ∧ ItB Y (s + 4) pp qq ∧ ItB Y (s + 4 + 1) p q) ∨ (e = .returned (.bool false) ∧ okF p q = false ∧ Cxx a s { r with state := .done, pending := some .ret } w Y) := ⟨_, rfl⟩
    rw [← hR]
    refine ⟨_, _, _, _, run_yield h.1.1 (by rw [hr]; rfl), roundIn_of_wpIn trivial ?_⟩
    have hr2 := hr
    rw [hsz1] at hr2
    rw [hr2]
    have HX := hid h
    have HR := hid hR
    have HIT := hid (And.intro hi0 hi1)
    have hab : ¬ w.heap.size = w.heap.size + 1 := by omega
    have hba : ¬ w.heap.size + 1 = w.heap.size := by omega
    clear h hR hi0 hi1 hse hsz1 hr2 hsz0
    simp only [Nat.reduceSub]
    gi_wp2_with (fail)
    have h := HX.out
    have hXs : s + 6 ≤ X.heap.size := by have := (Array.getElem?_eq_some_iff.1 HIT.out.2).1; omega
    have h1 := cvx_grown h (World.grownBy_alloc X (.cells #[.int .i64 p, .int .i64 q] 30) none) has hXs (fun i e => by cases e)
    obtain ⟨rb, hrb⟩ : ∃ rb : Loop, rb = { r with state := .busy } := ⟨_, rfl⟩
    have h2 := cvx_loop h1 has rb
    have hbr : (Instr.beginRound (s + 3)).run Tryd.prog (X.alloc (.cells #[.int .i64 p, .int .i64 q] 30)) = .ok () ((X.alloc (.cells #[.int .i64 p, .int .i64 q] 30)).putObj (s + 3) (.loop rb)) := by rw [hrb]; exact run_beginRound h1.1.1 hst
    refine ⟨_, hbr, ?_⟩
    obtain ⟨Z, hZ⟩ : ∃ Z, Z = (X.alloc (.cells #[.int .i64 p, .int .i64 q] 30)).putObj (s + 3) (.loop rb) := ⟨_, rfl⟩
    have hf : ItB Z X.heap.size p q := by rw [hZ]; exact (World.putObj_heap_other (by omega)).trans (World.alloc_heap_new X _)
    have hZs : s + 6 < Z.heap.size := by rw [hZ]; simp; omega
    rw [← hZ] at h2 ⊢
    obtain ⟨f, hfe⟩ : ∃ f, f = X.heap.size := ⟨_, rfl⟩
    rw [← hfe] at hf ⊢
    have hfs : s + 6 ≤ f := by omega
    obtain ⟨y0, y1, _, _, hfl⟩ := itb_cells hf
    have HF := hid hf
    have HZ := hid h2
    have HRB := hid hrb
    have HV := hid (implValid p q Z)
    rw [hae] at HZ
    have HST := hid (And.intro hst hpe)
    clear h1 h2 h hbr hZ hf hrb hfe hXs hr hpe hst hW1s hs1 hgw
    have has : w.heap.size + 2 ≤ s := by rw [← hae]; exact has
    obtain ⟨⟨c0, c1⟩, ⟨c2, c3⟩, ⟨c4, c5⟩, _⟩ := cvx_cells HZ.out
    cases ho : okF p q
    · rw [ho] at HV
      have HNO := hid ho
      clear ho
      gi_wp2_with (refine ⟨trivial, ?_⟩; gi_at_call 66; refine (CallsIn.inRound (s + 3) (callsIn_wide.2 HV.out)).mono ?_; rintro e Z2 ⟨rfl, b2⟩; have HZ2 := hid (cvx_grown HZ.out (below_grows b2) has (Nat.le_of_lt hZs) (fun i e => by cases e)); obtain ⟨⟨d0, d1⟩, ⟨d2, d3⟩, ⟨d4, d5⟩, _⟩ := cvx_cells HZ2.out; clear b2)
      have hrb := HRB.out
      obtain ⟨rd, hrd⟩ : ∃ rd : Loop, rd = { rb with state := .done, pending := some .ret } := ⟨_, rfl⟩
      have hre : rd = { r with state := .done, pending := some .ret } := by rw [hrd, hrb]
      have her : (Instr.endRound (s + 3) (some .ret)).run Tryd.prog ((Z2.setCell ⟨w.heap.size, 0, none⟩ (.slice none 0 0)).setCell ⟨w.heap.size + 1, 0, none⟩ (.int .i64 5)) = .ok (.bool false) (((Z2.setCell ⟨w.heap.size, 0, none⟩ (.slice none 0 0)).setCell ⟨w.heap.size + 1, 0, none⟩ (.int .i64 5)).putObj (s + 3) (.loop rd)) := by
        rw [hrd]
        refine run_endRound (r := rb) (some .ret) ?_
        rw [heap_setCell_other _ ⟨w.heap.size + 1, 0, none⟩ _ _ (by show s + 3 ≠ w.heap.size + 1; omega), heap_setCell_other _ ⟨w.heap.size, 0, none⟩ _ _ (by show s + 3 ≠ w.heap.size; omega)]
        exact HZ2.out.1.1
      refine ⟨_, _, her, ?_⟩
      rw [HR.out]
      refine .inr ⟨rfl, HNO.out, ?_⟩
      rw [← hre, hae]
      exact cvx_exit HZ2.out has rd
    · rw [ho] at HV
      have HOK := hid ho
      clear ho
      gi_wp2_with (first | (refine ⟨trivial, ?_⟩; gi_at_call 66; refine (CallsIn.inRound (s + 3) (callsIn_wide.2 HV.out)).mono ?_; rintro e Z2 ⟨rfl, b2⟩; have HZ2 := hid (cvx_grown HZ.out (below_grows b2) has (Nat.le_of_lt hZs) (fun i e => by cases e)); have HF2 := hid ((b2.block f hfl).trans HF.out); have hZs2 : s + 6 < Z2.heap.size := Nat.lt_of_lt_of_le hZs b2.size; obtain ⟨x0, x1, _, _, hfl2⟩ := itb_cells HF2.out; obtain ⟨_, _, ⟨d4, d5⟩, _⟩ := cvx_cells HZ2.out; clear b2) | (gi_at_builtin; refine wpListIn_append_own _ rfl _ _ 26 rfl (s + 6) 30 i0 (.agg #[.int .i64 0, .int .i64 0]) 2 16 Tryd.underlying26 hi hz0 hz1 hz2 rfl (by decide) _ pre.length (frCells pre) (by rfl) ?_ ⟨Z2.heap.size, 0, none⟩ 1 1 [.int .i64 p, .int .i64 q] (by rfl) ?_ ?_ ?_ ?_ ?_ ?_ ?_))
      · exact (cvx_grown HZ2.out (World.grownBy_alloc Z2 (.cells #[.int .i64 p, .int .i64 q] 30) none) has (Nat.le_of_lt hZs2) (fun i e => by cases e)).2.2.2.1
      · rfl
      · exact news2 _ _ _ _
      · intro u hu
        rcases List.mem_cons.1 hu with rfl | hu
        · rfl
        · obtain rfl := List.mem_singleton.1 hu; rfl
      · unfold maxLen; omega
      · omega
      · simp; omega
      · intro v2 w5 hown2 hgrow2 _
        have h3 := cvx_grown HZ2.out (World.grownBy_alloc Z2 (.cells #[.int .i64 p, .int .i64 q] 30) none) has (Nat.le_of_lt hZs2) (fun i e => by cases e)
        have h5 := cvx_app (x := (p, q)) h3 has (by simp; omega) hgrow2 (by rw [← frCells_more, List.length_append]; exact hown2)
        have h5s : w5.heap[s]? = some (.cells #[v] 26 (0, 0)) := (hgrow2.block s (by simp; omega) (fun e => by have := (h3.2.2.2.1.lt s e.symm).1; omega)).trans h3.2.1.2.2.1
        obtain ⟨m0, m1⟩ := one_cell h5s
        have H5 := hid h5
        obtain ⟨g2, c2, rfl⟩ : ∃ g2 c2, v2 = .slice (some ⟨g2, 0, none⟩) (pre.length + 1) c2 := by
          rcases hown2.2 with ⟨_, h0⟩ | ⟨g2, cap, cur, e, _⟩
          · omega
          · exact ⟨g2, cap, e⟩
        clear hown2 hgrow2 h3 h5 h5s x0 x1 d4 d5
        gi_wp2_with (fail)
        have her : (Instr.endRound (s + 3) none).run Tryd.prog (w5.setCell ⟨s, 0, none⟩ (.slice (some ⟨g2, 0, none⟩) (pre.length + 1) c2)) = .ok (.bool true) ((w5.setCell ⟨s, 0, none⟩ (.slice (some ⟨g2, 0, none⟩) (pre.length + 1) c2)).putObj (s + 3) (.loop r)) := by
          have := run_endRound (P := Tryd.prog) (r := rb) none H5.out.1.1
          rw [loop_again HRB.out HST.out.1 HST.out.2] at this
          exact this
        refine ⟨_, _, her, ?_⟩
        rw [HR.out]
        have h6 := cvx_loop H5.out has r
        refine .inl ⟨rfl, HOK.out, ⟨_, by rw [hae]; exact cvx_ref h6⟩, h6.2.2.1.1.trans HIT.out.1, h6.2.2.1.2.trans HIT.out.2⟩
  have e3 : s + 2 + 1 = s + 3 := rfl
  rw [e3]
  simp only [Nat.reduceSub]
  refine key.mono ?_
  clear key
  rintro e Y ⟨⟨v, rfl⟩, ⟨ls, hcv, v', hv⟩ | ⟨hno, hxx⟩⟩
  · obtain ⟨rx, hrx⟩ : ∃ rx : Loop, rx = { r with state := .exhausted } := ⟨_, rfl⟩
    have hz := cvx_loop hv has rx
    have hel : (Instr.endLoop (s + 3)).run Tryd.prog Y = .ok r.pending (Y.putObj (s + 3) (.loop rx)) := by rw [hrx]; exact run_endLoop hv.1.1 (by rw [hst]; decide)
    rw [hpe] at hel
    obtain ⟨Z, hZ⟩ : ∃ Z, Z = Y.putObj (s + 3) (.loop rx) := ⟨_, rfl⟩
    rw [← hZ] at hz hel
    refine ⟨none, _, hel, ?_⟩
    obtain ⟨⟨z0, z1⟩, ⟨z2, z3⟩, ⟨z4, z5⟩, _⟩ := cvx_cells hz
    have HB := hid (fback_mono (frow_back hz.2.2.2.1 rfl) (show w.heap.size ≤ s + 6 by omega))
    have HE := hid (show Below w.heap.size w Z by rw [← hae]; exact hz.2.2.2.2.1)
    have HDf := hid hz.1.2
    have HCV := hid (HCT1.out ls hcv)
    have HLV := hid (leaveA (c := .int .i64 0) hz.2.1.1 hz.2.1.2.1 hz.1.2 has hz.2.2.2.2.1 hz.2.2.2.1)
    have HS := hid (show w.heap.size ≤ s + 6 by omega)
    have hlen : ls.length = xs.length := cv_length hcv
    obtain ⟨g2, c2, rfl, hf2⟩ : ∃ g2 c2, v' = .slice (some ⟨g2, 0, none⟩) ls.length c2 ∧ w.heap.size + 2 ≤ g2 := by
      rcases hz.2.2.2.1.2 with ⟨_, h0⟩ | ⟨g2, cap, cur, e, h1, _⟩
      · omega
      · exact ⟨g2, cap, e, by omega⟩
    rw [hae] at z0 z1 z2 z3 HLV
    have hab : ¬ w.heap.size = w.heap.size + 1 := by omega
    have hba : ¬ w.heap.size + 1 = w.heap.size := by omega
    clear hel hZ hrx hz hv hcv hL hse hsz1 hsz0 hst hpe hr has hW1s hs1 hgw hlen
    gi_wp2_with (fail)
    obtain ⟨l1, l2, l3, l4, l5⟩ := HLV.out _ rfl
    refine ⟨by simp, .inl ⟨_, _, rfl, run_takeDeferred l1, ?_⟩⟩
    refine ⟨.tuple #[.slice (some ⟨g2, 0, none⟩) ls.length c2, .int .i64 0], by simp [results, Tryd.results75, go_sem, l2, l3], ⟨⟨_, by rw [HCV.out], ?_⟩, l4⟩⟩
    rw [HCV.out]
    exact fback_mono (frow_back l5 rfl) HS.out
  · obtain ⟨rx, hrx⟩ : ∃ rx : Loop, rx = { { r with state := .done, pending := some .ret } with state := .exhausted } := ⟨_, rfl⟩
    have hel : (Instr.endLoop (s + 3)).run Tryd.prog Y = .ok (some .ret) (Y.putObj (s + 3) (.loop rx)) := by rw [hrx]; exact run_endLoop hxx.1.1 (by simp)
    have HLV := hid (leaveB hxx has rx)
    have HCV := hid (HCT2.out hno)
    rw [hae] at HLV
    obtain ⟨Z, hZ⟩ : ∃ Z, Z = Y.putObj (s + 3) (.loop rx) := ⟨_, rfl⟩
    have HLZ := hid (HLV.out Z hZ)
    rw [← hZ] at hel
    refine ⟨some .ret, _, hel, ?_⟩
    clear hel hZ hrx hxx hL hse hsz1 hsz0 hst hpe hr has hW1s hs1 hgw hno HLV
    gi_wp2_with (fail)
    obtain ⟨l1, l2, l3, l4⟩ := HLZ.out
    refine ⟨by simp, .inl ⟨_, _, rfl, run_takeDeferred l1, ?_⟩⟩
    refine ⟨.tuple #[.slice none 0 0, .int .i64 5], by simp [results, Tryd.results75, go_sem, l2, l3], ⟨⟨_, by rw [HCV.out], ?_⟩, l4⟩⟩
    rw [HCV.out]
    exact .inl ⟨rfl, rfl⟩

end Go.Proofs.YtipegemhcmfnmaaDoor
