/- Contracts: the elements are collected: slices.AppendSeq, slices.Collect at fractions, and FareySequence by the program and by the model. -/
import Derived.Test.YthfogmaefhfkoaaFap
import Derived.Shelf.RegionOpen
namespace Go.Proofs.Ythfogmaefhfkoaa
open Go.RowKit Go.Shelf
attribute [local go_sem] Oper.semAt_some

set_option maxRecDepth 100000 in
set_option maxHeartbeats 4000000 in
theorem implApp (bx : Nat) (o : Int) (w : World) (ho : 1 ≤ o) (ho1 : o ≤ 40) (hb : w.cell? ⟨bx, 0, none⟩ = some (.int .i64 o)) :
    CallsIn Fence.wide 8 Try.prog 156 #[.slice none 0 0, .func (.func 157) #[] #[.pointer (some ⟨bx, 0, none⟩)]] w fun e w' => (∃ v, e = .returned v ∧ FBack w.heap.size w' v (far o)) ∧ Below w.heap.size w w' := by
  have hbw : bx < w.heap.size := World.block_lt_of_cell? _ _ hb
  have k1 : (w.alloc (.cells #[.slice none 0 0] 52)).heap[w.heap.size]? = some (.cells #[.slice none 0 0] 52 (0, 0)) := nw_at _ _
  have E1 := hid ((Below.refl w.heap.size w).alloc (Nat.le_refl _) (.cells #[.slice none 0 0] 52))
  have HBX := hid hb
  refine callsIn_of_wp_marks Try.func156 rfl trivial ?_ rfl
  simp only [Try.ntmps156, List.size_toArray, List.length_cons, List.length_nil, Nat.reduceAdd, Nat.reduceSub, Array.replicate_succ, Array.replicate_zero, List.push_toArray, List.append_toArray, List.nil_append, List.cons_append]
  gi_wp2_with (fail)
  refine rangeStart rfl (by decide) rfl trivial (enters_of Try.func157 (by kernel_rfl) rfl) ?_
  intro fn hfn r W1 hr hW1
  obtain ⟨a, hae⟩ : ∃ a, a = w.heap.size := ⟨_, rfl⟩
  have hz : (w.alloc (.cells #[.slice none 0 0] 52)).heap.size = a + 1 := by simp [hae]
  rw [hz] at hr
  rw [hz]
  have hO : ApO w a (a + 1) (a + 2) (a + 3) := ⟨by omega, by omega, by omega, by omega⟩
  have hC : Ap a (a + 1) (a + 2) (a + 3) r w W1 (.slice none 0 0) [] W1 := by
    obtain ⟨u1, u2, u3⟩ := fit_two (w.alloc (.cells #[.slice none 0 0] 52)) (.deferred (some [])) (.loop r)
    rw [hz] at u1 u2 u3
    rw [← hW1] at u1 u2 u3
    refine ⟨⟨u2, u1⟩, (u3 _ (by omega)).trans (by rw [hae]; exact k1), ⟨rfl, rfl⟩, ⟨rfl, .inl ⟨rfl, rfl⟩⟩, ?_, ?_⟩
    · rw [hW1]
      exact (E1.out.alloc E1.out.size _).alloc (by have := E1.out.size; simp; omega) _
    · rw [hW1]; simp; omega
  have hW1s : W1.heap.size = a + 3 := by rw [hW1]; simp [hae]
  have hst : r.state = .ready := by rw [hr]
  have hpe : r.pending = none := by rw [hr]
  have HC := hid hC
  obtain ⟨i0, hi, hz0, hz1, hz2⟩ := info_parts infoF
  clear hC k1 E1 hW1 hz
  have hsz0 : w.heap.size = a := hae.symm
  have key := fitRun 7 (by decide) (a + 2) bx (a + 3) o ho ho1 (fun pre X => ∃ v, Ap a (a + 1) (a + 2) (a + 3) r w X v pre X) ?hY ?hG ?hB W1 hW1s (by omega) ⟨_, HC.out⟩
  simp only [hsz0, List.append_toArray, List.cons_append, List.nil_append]
  have HAE := hid hae
  rotate_left
  case hG =>
    rintro pre X Y row ⟨v, h⟩ hg hr
    exact ⟨v, ap_it h hO hg hr⟩
  case hB =>
    rintro pre X ⟨v, h⟩
    exact (h.2.2.2.2.1.cell (p := ⟨bx, 0, none⟩) (by omega)).trans HBX.out
  case hY =>
    rintro pre p q post X hfar ⟨v, h⟩ hXs
    obtain ⟨R, hR⟩ : ∃ R : Ending → World → Prop, R = fun e Y => e = .returned (.bool true) ∧ (∃ v, Ap a (a + 1) (a + 2) (a + 3) r w Y v (pre ++ [(p, q)]) Y) ∧ Y.heap[a + 3]? = X.heap[a + 3]? ∧ Y.heap[a + 3 + 1]? = X.heap[a + 3 + 1]? := ⟨_, rfl⟩
    rw [← hR]
    have hll : pre.length ≤ 600 := by have := far_len o; rw [hfar] at this; simp at this; omega
    refine ⟨_, _, _, _, run_yield h.1.1 (by rw [hr]; rfl), roundIn_of_wpIn trivial ?_⟩
    have hr2 := hr
    rw [hsz0] at hr2
    rw [hr2]
    have HX := hid h
    have HR := hid hR
    clear h hR hr2 hsz0 hfar hae
    simp only [Nat.reduceSub]
    gi_wp2_with (fail)
    have h1 := ap_grown HX.out hO (World.grownBy_alloc X (.cells #[.int .i64 p, .int .i64 q] 25) none) (by omega) (fun i e => by cases e)
    obtain ⟨rb, hrb⟩ : ∃ rb : Loop, rb = { r with state := .busy } := ⟨_, rfl⟩
    have h2 := ap_loop h1 hO rb
    have hbr : (Instr.beginRound (a + 2)).run Try.prog (X.alloc (.cells #[.int .i64 p, .int .i64 q] 25)) = .ok () ((X.alloc (.cells #[.int .i64 p, .int .i64 q] 25)).putObj (a + 2) (.loop rb)) := by rw [hrb]; exact run_beginRound h1.1.1 hst
    refine ⟨_, hbr, ?_⟩
    obtain ⟨Z, hZ⟩ : ∃ Z, Z = (X.alloc (.cells #[.int .i64 p, .int .i64 q] 25)).putObj (a + 2) (.loop rb) := ⟨_, rfl⟩
    have hf : ItF Z X.heap.size (p, q) := by rw [hZ]; exact (World.putObj_heap_other (by omega)).trans (World.alloc_heap_new X _)
    have hZs : a + 3 + 2 < Z.heap.size := by rw [hZ]; simp; omega
    rw [← hZ] at h2 ⊢
    obtain ⟨f, hfe⟩ : ∃ f, f = X.heap.size := ⟨_, rfl⟩
    rw [← hfe] at hf ⊢
    have hfs : a + 3 + 2 ≤ f := by omega
    obtain ⟨y0, y1, _, _, hfl⟩ := bk2 hf
    have HZ := hid h2
    have HRB := hid hrb
    have HST := hid (And.intro hst hpe)
    clear h1 h2 hbr hZ hf hrb hfe hXs hr hpe hst hW1s
    obtain ⟨c0, c1⟩ := cell1 HZ.out.2.1
    gi_wp2_with (gi_at_builtin; refine wpListIn_append_own _ rfl _ _ 52 rfl (a + 3 + 2) 25 i0 (.agg #[.int .i64 0, .int .i64 0]) 2 16 Try.underlying52 hi hz0 hz1 hz2 rfl (by decide) _ pre.length (frCells pre) (by rfl) ?_ ⟨Z.heap.size, 0, none⟩ 1 1 [.int .i64 p, .int .i64 q] (by rfl) ?_ ?_ ?_ ?_ ?_ ?_ ?_)
    · exact (ap_grown HZ.out hO (World.grownBy_alloc Z (.cells #[.int .i64 p, .int .i64 q] 25) none) (by omega) (fun i e => by cases e)).2.2.2.1
    · exact ⟨rfl, rfl⟩
    · unfold maxLen; omega
    · omega
    · (first | omega | (simp; omega))
    · intro v2 w5 hown2 hgrow2 _
      have h3 := ap_grown HZ.out hO (World.grownBy_alloc Z (.cells #[.int .i64 p, .int .i64 q] 25) none) (by omega) (fun i e => by cases e)
      have h5 := ap_app (x := (p, q)) h3 hO (by simp; omega) hgrow2 (by rw [← frCells_more, List.length_append]; exact hown2)
      have h5s : w5.heap[a]? = some (.cells #[v] 52 (0, 0)) := (hgrow2.block a (by simp; omega) (fun e => by have := (h3.2.2.2.1.lt a e.symm).1; omega)).trans h3.2.1
      obtain ⟨m0, m1⟩ := cell1 h5s
      have H5 := hid h5
      obtain ⟨g2, c2, rfl⟩ : ∃ g2 c2, v2 = .slice (some ⟨g2, 0, none⟩) (pre.length + 1) c2 := by
        rcases hown2.2 with ⟨_, h0⟩ | ⟨g2, cap, cur, e, _⟩
        · omega
        · exact ⟨g2, cap, e⟩
      clear hown2 hgrow2 h3 h5 h5s y0 y1 c0 c1
      gi_wp2_with (fail)
      have her : (Instr.endRound (a + 2) none).run Try.prog (w5.setCell ⟨a, 0, none⟩ (.slice (some ⟨g2, 0, none⟩) (pre.length + 1) c2)) = .ok (.bool true) ((w5.setCell ⟨a, 0, none⟩ (.slice (some ⟨g2, 0, none⟩) (pre.length + 1) c2)).putObj (a + 2) (.loop r)) := by
        have := run_endRound (P := Try.prog) (r := rb) none H5.out.1.1
        rw [loopAgain HRB.out HST.out.1 HST.out.2] at this
        exact this
      refine ⟨_, _, her, ?_⟩
      rw [HR.out]
      have h6 := ap_loop H5.out hO r
      exact ⟨rfl, ⟨_, ap_ref h6⟩, h6.2.2.1.1, h6.2.2.1.2⟩
  have e3 : a + 1 + 1 = a + 2 := rfl
  rw [e3]
  simp only [Nat.reduceSub]
  refine key.mono ?_
  clear key
  rintro e Y ⟨⟨v, rfl⟩, v', hv⟩
  obtain ⟨rx, hrx⟩ : ∃ rx : Loop, rx = { r with state := .exhausted } := ⟨_, rfl⟩
  have hz := ap_loop hv hO rx
  have hel : (Instr.endLoop (a + 2)).run Try.prog Y = .ok r.pending (Y.putObj (a + 2) (.loop rx)) := by rw [hrx]; exact run_endLoop hv.1.1 (by rw [hst]; decide)
  rw [hpe] at hel
  obtain ⟨Z, hZ⟩ : ∃ Z, Z = Y.putObj (a + 2) (.loop rx) := ⟨_, rfl⟩
  rw [← hZ] at hz hel
  refine ⟨none, _, hel, ?_⟩
  obtain ⟨z0, z1⟩ := cell1 hz.2.1
  have HZ := hid hz
  have hlen : 1 ≤ (far o).length := by obtain ⟨r, e⟩ := far_first ho ho1; rw [e]; simp
  obtain ⟨g2, c2, rfl, hf2⟩ : ∃ g2 c2, v' = .slice (some ⟨g2, 0, none⟩) (far o).length c2 ∧ a + 3 + 2 ≤ g2 := by
    rcases hz.2.2.2.1.2 with ⟨_, h0⟩ | ⟨g2, cap, cur, e, h1, _⟩
    · omega
    · exact ⟨g2, cap, e, h1⟩
  have HB := hid (fback_mono (frow_back hz.2.2.2.1 rfl) (show a ≤ a + 3 + 2 by omega))
  have hdf := hz.1.2
  clear hel hZ hrx hz hv hst hpe hr hW1s hae hsz0
  gi_wp2_with (fail)
  refine ⟨by simp, .inl ⟨_, _, rfl, run_takeDeferred hdf, ?_⟩⟩
  have hg := grownBy_putObj' Z (a + 1) (.deferred none)
  have hlt := (Array.getElem?_eq_some_iff.1 hdf).1
  refine ⟨.slice (some ⟨g2, 0, none⟩) (far o).length c2, by simp [results, Try.results156, go_sem], ⟨⟨_, rfl, ?_⟩, ?_⟩⟩
  · rw [← HAE.out]
    exact fback_mono (frow_back (HZ.out.2.2.2.1.kept hg (.inr (fun e => by have := (HZ.out.2.2.2.1.lt _ e).1; omega))) rfl) (by omega)
  · exact HZ.out.2.2.2.2.1.grown hg (by have := HAE.out; omega) (fun i e => by cases e; have := HAE.out; omega)

end Go.Proofs.Ythfogmaefhfkoaa
