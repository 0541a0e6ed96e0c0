/- Contracts: the circles that touch another one, by the program and by the model. -/
import Derived.Test.YthfogmaefhfkoaaFsq
import Derived.Test.YthfogmaefhfkoaaCtc
namespace Go.Proofs.Ythfogmaefhfkoaa
open Go.RowKit Go.Shelf
attribute [local go_sem] Oper.semAt_some

/-- What is true of each element. -/
theorem fyL_mem : ∀ (k : Nat) {o : Int} {e x : Int × Int}, fyGood k o e x = true → ∀ y ∈ fyL k o e x, okF y.1 y.2 = true ∧ 0 ≤ y.1 ∧ y.1 ≤ y.2 ∧ y.2 ≤ o
  | 0, o, e, x, h, y, hy => by cases h
  | k + 1, o, e, x, h, y, hy => by
    by_cases hle : e.1 ≤ e.2
    · obtain ⟨j, hj, hL, hs, hg⟩ := good_step h hle
      obtain rfl : k = j := by omega
      rw [hL] at hy
      rcases List.mem_cons.1 hy with rfl | hy
      · have := fyS_of hs
        exact ⟨this.ok, this.pos, hle, this.den⟩
      · exact fyL_mem k hg y hy
    · rw [good_end hle] at hy; simp at hy
theorem far_mem {o : Int} (h : 1 ≤ o) (h1 : o ≤ 40) {y : Int × Int} (hy : y ∈ far o) : okF y.1 y.2 = true ∧ 0 ≤ y.1 ∧ y.1 ≤ y.2 ∧ y.2 ≤ o := fyL_mem 600 (fy_start h h1) y hy
def tchB (n d : Int) (e : Int × Int) : Bool := nbB e.1 e.2 n d
/-- The elements whose circles touch, and a code. -/
def tccT (o n d : Int) : List (Int × Int) × Int := if code6 40 o n d = 0 then ((far o).filter (tchB n d), 0) else ([], code6 40 o n d)
theorem tccT_no {o n d : Int} (h : code6 40 o n d ≠ 0) : tccT o n d = ([], code6 40 o n d) := if_neg h
theorem tccT_ok {o n d : Int} (h : code6 40 o n d = 0) : tccT o n d = ((far o).filter (tchB n d), 0) := if_pos h
theorem tcc_len (o n d : Int) : ((far o).filter (tchB n d)).length ≤ 600 := Nat.le_trans (List.length_filter_le _ _) (far_len o)
theorem tccT_len (o n d : Int) : (tccT o n d).1.length ≤ 600 := by
  unfold tccT
  split
  · exact tcc_len o n d
  · simp

set_option maxRecDepth 100000 in
set_option maxHeartbeats 4000000 in
theorem implTcs (o n d : Int) (w : World) (hc : code6 40 o n d = 0) :
    CallsIn Fence.wide 8 Try.prog 57 #[.int .i64 o, .agg #[.int .i64 n, .int .i64 d]] w fun e w' => FListR w.heap.size ((far o).filter (tchB n d), 0) e w' ∧ Below w.heap.size w w' := by
  obtain ⟨hok, ⟨ho, ho1⟩, _⟩ := code6_zero hc
  have HC := hid (fun w => implChF 40 o n d w)
  rw [hc] at HC
  have HN := hid (nw_at w (.cells #[.int .i64 n, .int .i64 d] 25))
  have E0 := hid ((Below.refl w.heap.size w).alloc (Nat.le_refl _) (.cells #[.int .i64 n, .int .i64 d] 25))
  have HEL := hid (fun w => implElems o w)
  have f1 : Fence.wide.fn 114 := trivial
  have f2 : Fence.wide.fn 121 := trivial
  clear hc
  refine callsIn_of_wp_marks Try.func57 rfl trivial ?_ rfl
  simp only [Try.ntmps57, List.size_toArray, List.length_cons, List.length_nil, Nat.reduceAdd, Nat.reduceSub, Array.replicate_succ, Array.replicate_zero, List.push_toArray, List.append_toArray, List.nil_append, List.cons_append]
  gi_wp2_with (gi_at_call 114; refine (callsIn_wide.2 (HC.out _)).mono ?_; rintro e w1 ⟨rfl, b1⟩)
  have E1 := hid (E0.out.trans (b1.mono E0.out.size))
  have F1 := hid (bk_kept HN.out b1 (Nat.le_refl _))
  clear b1
  gi_wp2_with (gi_at_call 121; refine (callsIn_wide.2 (HEL.out _)).mono ?_; rintro e w2 ⟨rfl, rfl⟩)
  refine rangeStart rfl (by decide) rfl trivial (enters_of Try.func157 (by kernel_rfl) rfl) ?_
  intro fn hfn r W1 hr hW1
  obtain ⟨a, hae⟩ : ∃ a, a = w1.heap.size := ⟨_, rfl⟩
  have hsa : w.heap.size + 1 ≤ a := by have := (Array.getElem?_eq_some_iff.1 F1.out).1; omega
  have hz : ((w1.alloc (.cells #[.slice none 0 0] 52)).alloc (.cells #[.int .i64 o] 2)).heap.size = a + 2 := by simp [hae]
  rw [hz] at hr
  rw [hz]
  have hO : ApO w1 a (a + 2) (a + 3) (a + 4) := ⟨by omega, by omega, by omega, by omega⟩
  have HBXX : W1.cell? ⟨a + 1, 0, none⟩ = some (.int .i64 o) ∧ Ap a (a + 2) (a + 3) (a + 4) r w1 W1 (.slice none 0 0) [] W1 := by
    obtain ⟨t1, t2, t3⟩ := fit_two w1 (.cells #[.slice none 0 0] 52) (.cells #[.int .i64 o] 2)
    obtain ⟨u1, u2, u3⟩ := fit_two ((w1.alloc (.cells #[.slice none 0 0] 52)).alloc (.cells #[.int .i64 o] 2)) (.deferred (some [])) (.loop r)
    rw [hz] at u1 u2 u3
    rw [← hW1] at u1 u2 u3
    rw [← hae] at t1 t2 t3
    refine ⟨(cell1 ((u3 _ (by omega)).trans t2)).1, ⟨u2, u1⟩, (u3 _ (by omega)).trans t1, ⟨rfl, rfl⟩, ⟨rfl, .inl ⟨rfl, rfl⟩⟩, ?_, ?_⟩
    · rw [hW1]
      exact ((((Below.refl _ _).alloc (Nat.le_refl _) _).alloc (by simp) _).alloc (by simp; omega) _).alloc (by simp; omega) _
    · rw [hW1]; simp; omega
  have hW1s : W1.heap.size = a + 4 := by rw [hW1]; simp [hae]
  have hst : r.state = .ready := by rw [hr]
  have hpe : r.pending = none := by rw [hr]
  obtain ⟨hbx, hC⟩ := HBXX
  have HC := hid hC
  obtain ⟨i0, hi, hz0, hz1, hz2⟩ := info_parts infoF
  clear hC hW1 hz
  have hsz0 : w1.heap.size = a := hae.symm
  have HLEN := hid (tcc_len o n d)
  have HAE := hid hae
  have key := fitRun 7 (by decide) (a + 3) (a + 1) (a + 4) o ho ho1 (fun pre X => X.cell? ⟨a + 1, 0, none⟩ = some (.int .i64 o) ∧ ∃ v, Ap a (a + 2) (a + 3) (a + 4) r w1 X v (pre.filter (tchB n d)) X) ?hY ?hG ?hB W1 hW1s (by omega) ⟨hbx, _, HC.out⟩
  simp only [hsz0, List.append_toArray, List.cons_append, List.nil_append]
  rotate_left
  case hG =>
    rintro pre X Y row ⟨hb, v, h⟩ hg hrr
    refine ⟨?_, v, ap_it h hO hg hrr⟩
    have hlt : a + 1 < X.heap.size := by have := h.2.2.2.2.2; omega
    exact (World.cell?_of_block (hg.block _ hlt (fun e => by have := hrr (a + 1) e.symm; omega))).trans hb
  case hB =>
    rintro pre X ⟨hb, v, h⟩
    exact hb
  case hY =>
    rintro pre p q post X hfar ⟨hb, v, h⟩ hXs
    obtain ⟨R, hR⟩ : ∃ R : Ending → World → Prop, R = fun e Y => e = .returned (.bool true) ∧ (Y.cell? ⟨a + 1, 0, none⟩ = some (.int .i64 o) ∧ ∃ v, Ap a (a + 2) (a + 3) (a + 4) r w1 Y v ((pre ++ [(p, q)]).filter (tchB n d)) Y) ∧ Y.heap[a + 4]? = X.heap[a + 4]? ∧ Y.heap[a + 4 + 1]? = X.heap[a + 4 + 1]? := ⟨_, rfl⟩
    rw [← hR]
    have hll : (pre.filter (tchB n d)).length ≤ 600 := by
      have h1 := far_len o
      have h2 := List.length_filter_le (tchB n d) pre
      rw [hfar] at h1
      simp at h1
      omega
    refine ⟨_, _, _, _, run_yield h.1.1 (by rw [hr]; rfl), roundIn_of_wpIn trivial ?_⟩
    have hr2 := hr
    rw [hsz0] at hr2
    rw [hr2]
    have HX := hid h
    have HR := hid hR
    have HBO := hid hb
    clear h hR hr2 hsz0 hfar hae hb
    simp only [Nat.reduceSub]
    gi_wp2_with (fail)
    have h1 := ap_grown HX.out hO (World.grownBy_alloc X (.cells #[.int .i64 p, .int .i64 q] 25) none) (by omega) (fun i e => by cases e)
    obtain ⟨rb, hrb⟩ : ∃ rb : Loop, rb = { r with state := .busy } := ⟨_, rfl⟩
    have h2 := ap_loop h1 hO rb
    have hbr : (Instr.beginRound (a + 3)).run Try.prog (X.alloc (.cells #[.int .i64 p, .int .i64 q] 25)) = .ok () ((X.alloc (.cells #[.int .i64 p, .int .i64 q] 25)).putObj (a + 3) (.loop rb)) := by rw [hrb]; exact run_beginRound h1.1.1 hst
    refine ⟨_, hbr, ?_⟩
    obtain ⟨Z, hZ⟩ : ∃ Z, Z = (X.alloc (.cells #[.int .i64 p, .int .i64 q] 25)).putObj (a + 3) (.loop rb) := ⟨_, rfl⟩
    have hf : ItF Z X.heap.size (p, q) := by rw [hZ]; exact (World.putObj_heap_other (by omega)).trans (World.alloc_heap_new X _)
    have hZs : a + 4 + 2 < Z.heap.size := by rw [hZ]; simp; omega
    have hbo : Z.cell? ⟨a + 1, 0, none⟩ = some (.int .i64 o) := by
      rw [hZ]
      refine (World.cell?_of_block (World.putObj_heap_other (by show a + 1 ≠ a + 3; omega))).trans ?_
      exact (World.cell?_alloc_lt _ _ _ (by show a + 1 < X.heap.size; omega)).trans HBO.out
    rw [← hZ] at h2 ⊢
    obtain ⟨f, hfe⟩ : ∃ f, f = X.heap.size := ⟨_, rfl⟩
    rw [← hfe] at hf ⊢
    have hfs : a + 4 + 2 ≤ f := by omega
    obtain ⟨y0, y1, _, _, hfl⟩ := bk2 hf
    have HF := hid hf
    have HZ := hid h2
    have HRB := hid hrb
    have HST := hid (And.intro hst hpe)
    have HBZ := hid hbo
    have HV := hid (implNb p q n d Z)
    have hff := (h2.2.2.2.2.1.block w.heap.size (by have := HAE.out; omega)).trans F1.out
    obtain ⟨x0, x1, _, _, _⟩ := bk2 hff
    have hsl : w.heap.size < a := by omega
    clear h1 h2 hbr hZ hf hrb hfe hXs hr hpe hst hW1s hbo hff
    obtain ⟨c0, c1⟩ := cell1 HZ.out.2.1
    cases hnb : nbB p q n d
    · rw [hnb] at HV
      have HFI := hid (show (pre ++ [(p, q)]).filter (tchB n d) = pre.filter (tchB n d) by rw [List.filter_append, List.filter_cons_of_neg (by unfold tchB; rw [hnb]; decide)]; simp)
      clear hnb
      gi_wp2_with (refine ⟨trivial, ?_⟩; gi_at_call 126; refine (CallsIn.inRound (a + 3) (callsIn_wide.2 HV.out)).mono ?_; rintro e Z2 ⟨rfl, b2⟩; have HZ2 := hid (ap_grown HZ.out hO (below_grows b2) (Nat.le_of_lt hZs) (fun i e => by cases e)); have HB2 := hid ((b2.cell (p := ⟨a + 1, 0, none⟩) (by show a + 1 < _; omega)).trans HBZ.out); clear b2)
      have her : (Instr.endRound (a + 3) none).run Try.prog Z2 = .ok (.bool true) (Z2.putObj (a + 3) (.loop r)) := by
        have := run_endRound (P := Try.prog) (r := rb) none HZ2.out.1.1
        rw [loopAgain HRB.out HST.out.1 HST.out.2] at this
        exact this
      refine ⟨_, _, her, ?_⟩
      rw [HR.out]
      have h6 := ap_loop HZ2.out hO r
      refine ⟨rfl, ⟨(World.cell?_of_block (World.putObj_heap_other (by show a + 1 ≠ a + 3; omega))).trans HB2.out, v, ?_⟩, h6.2.2.1.1, h6.2.2.1.2⟩
      rw [HFI.out]
      exact ap_ref h6
    · rw [hnb] at HV
      have HFI := hid (show (pre ++ [(p, q)]).filter (tchB n d) = pre.filter (tchB n d) ++ [(p, q)] by rw [List.filter_append, List.filter_cons_of_pos (by unfold tchB; exact hnb)]; simp)
      clear hnb
      generalize pre.filter (tchB n d) = fs at *
      gi_wp2_with (first | (refine ⟨trivial, ?_⟩; gi_at_call 126; refine (CallsIn.inRound (a + 3) (callsIn_wide.2 HV.out)).mono ?_; rintro e Z2 ⟨rfl, b2⟩; have HZ2 := hid (ap_grown HZ.out hO (below_grows b2) (Nat.le_of_lt hZs) (fun i e => by cases e)); have HB2 := hid ((b2.cell (p := ⟨a + 1, 0, none⟩) (by show a + 1 < _; omega)).trans HBZ.out); have HF2 := hid ((b2.block f hfl).trans HF.out); have hZs2 : a + 4 + 2 < Z2.heap.size := Nat.lt_of_lt_of_le hZs b2.size; clear y0 y1 c0 c1 x0 x1; obtain ⟨y0, y1, _, _, hfl2⟩ := bk2 HF2.out; obtain ⟨c0, c1⟩ := cell1 HZ2.out.2.1; clear b2) | (gi_at_builtin; refine wpListIn_append_own _ rfl _ _ 52 rfl (a + 4 + 2) 25 i0 (.agg #[.int .i64 0, .int .i64 0]) 2 16 Try.underlying52 hi hz0 hz1 hz2 rfl (by decide) _ fs.length (frCells fs) (by rfl) ?_ ⟨Z2.heap.size, 0, none⟩ 1 1 [.int .i64 p, .int .i64 q] (by rfl) ?_ ?_ ?_ ?_ ?_ ?_ ?_))
      · exact (ap_grown HZ2.out hO (World.grownBy_alloc Z2 (.cells #[.int .i64 p, .int .i64 q] 25) none) (by omega) (fun i e => by cases e)).2.2.2.1
      · rfl
      · exact news2 _ _ _ _
      · intro u hu
        rcases List.mem_cons.1 hu with rfl | hu
        · rfl
        · obtain rfl := List.mem_singleton.1 hu; rfl
      · unfold maxLen; omega
      · omega
      · (first | omega | (simp; omega))
      · intro v2 w5 hown2 hgrow2 _
        have h3 := ap_grown HZ2.out hO (World.grownBy_alloc Z2 (.cells #[.int .i64 p, .int .i64 q] 25) none) (by omega) (fun i e => by cases e)
        have h5 := ap_app (x := (p, q)) h3 hO (by simp; omega) hgrow2 (by rw [← frCells_more, List.length_append]; exact hown2)
        have h5s : w5.heap[a]? = some (.cells #[v] 52 (0, 0)) := (hgrow2.block a (by simp; omega) (fun e => by have := (h3.2.2.2.1.lt a e.symm).1; omega)).trans h3.2.1
        have hb5 : w5.cell? ⟨a + 1, 0, none⟩ = some (.int .i64 o) := by
          refine (World.cell?_of_block (hgrow2.block (a + 1) (by simp; omega) (fun e => by have := (h3.2.2.2.1.lt _ e.symm).1; omega))).trans ?_
          exact (World.cell?_alloc_lt _ _ _ (by show a + 1 < Z2.heap.size; omega)).trans HB2.out
        obtain ⟨m0, m1⟩ := cell1 h5s
        have H5 := hid h5
        have HB5 := hid hb5
        obtain ⟨g2, c2, rfl⟩ : ∃ g2 c2, v2 = .slice (some ⟨g2, 0, none⟩) (fs.length + 1) c2 := by
          rcases hown2.2 with ⟨_, h0⟩ | ⟨g2, cap, cur, e, _⟩
          · omega
          · exact ⟨g2, cap, e⟩
        clear hown2 hgrow2 h3 h5 h5s y0 y1 c0 c1 hb5
        gi_wp2_with (fail)
        have her : (Instr.endRound (a + 3) none).run Try.prog (w5.setCell ⟨a, 0, none⟩ (.slice (some ⟨g2, 0, none⟩) (fs.length + 1) c2)) = .ok (.bool true) ((w5.setCell ⟨a, 0, none⟩ (.slice (some ⟨g2, 0, none⟩) (fs.length + 1) c2)).putObj (a + 3) (.loop r)) := by
          have := run_endRound (P := Try.prog) (r := rb) none H5.out.1.1
          rw [loopAgain HRB.out HST.out.1 HST.out.2] at this
          exact this
        refine ⟨_, _, her, ?_⟩
        rw [HR.out]
        have h6 := ap_loop H5.out hO r
        refine ⟨rfl, ⟨?_, .slice (some ⟨g2, 0, none⟩) (fs.length + 1) c2, ?_⟩, h6.2.2.1.1, h6.2.2.1.2⟩
        · refine (World.cell?_of_block (World.putObj_heap_other (by show a + 1 ≠ a + 3; omega))).trans ?_
          exact (World.cell?_of_block (heap_setCell_other _ ⟨a, 0, none⟩ _ _ (by show a + 1 ≠ a; omega))).trans HB5.out
        · rw [HFI.out]
          exact ap_ref h6
  have e3 : a + 2 + 1 = a + 3 := rfl
  rw [e3]
  simp only [Nat.reduceSub]
  refine key.mono ?_
  clear key
  rintro e Y ⟨⟨v, rfl⟩, _, v', hv⟩
  obtain ⟨rx, hrx⟩ : ∃ rx : Loop, rx = { r with state := .exhausted } := ⟨_, rfl⟩
  have hz := ap_loop hv hO rx
  have hel : (Instr.endLoop (a + 3)).run Try.prog Y = .ok r.pending (Y.putObj (a + 3) (.loop rx)) := by rw [hrx]; exact run_endLoop hv.1.1 (by rw [hst]; decide)
  rw [hpe] at hel
  obtain ⟨Z, hZ⟩ : ∃ Z, Z = Y.putObj (a + 3) (.loop rx) := ⟨_, rfl⟩
  rw [← hZ] at hz hel
  refine ⟨none, _, hel, ?_⟩
  obtain ⟨z0, z1⟩ := cell1 hz.2.1
  have HZ := hid hz
  obtain ⟨fs, hfs⟩ : ∃ fs, fs = (far o).filter (tchB n d) := ⟨_, rfl⟩
  have HFS := hid hfs
  rw [← hfs] at hz HZ
  have hdf := hz.1.2
  have HFORM := hid (show ∃ aa c2, v' = .slice aa fs.length c2 from by
    rcases hz.2.2.2.1.2 with ⟨e, h0⟩ | ⟨g2, cap, cur, e, h1, _⟩
    · exact ⟨none, 0, by rw [e, h0]⟩
    · exact ⟨_, cap, e⟩)
  obtain ⟨aa, c2, rfl⟩ := HFORM.out
  clear hel hZ hrx hz hv hst hpe hr hW1s hae hsz0 hbx hfs
  gi_wp2_with (fail)
  refine ⟨by simp, .inl ⟨_, _, rfl, run_takeDeferred hdf, ?_⟩⟩
  have hg := grownBy_putObj' Z (a + 2) (.deferred none)
  have hlt := (Array.getElem?_eq_some_iff.1 hdf).1
  have haa := HAE.out
  have hb := HZ.out.2.2.2.2.1.grown hg (by omega) (fun i e => by cases e; omega)
  refine ⟨.tuple #[.slice aa fs.length c2, .int .i64 0], by simp [results, Try.results57, go_sem], ⟨⟨_, by rw [← HFS.out], ?_⟩, E1.out.trans (hb.mono E1.out.size)⟩⟩
  show FBack _ _ _ ((far o).filter (tchB n d))
  rw [← HFS.out]
  exact fback_mono (frow_back (HZ.out.2.2.2.1.kept hg (.inr (fun e => by have := (HZ.out.2.2.2.1.lt (a + 2) e).1; omega))) rfl) (show w.heap.size ≤ a + 4 + 2 by omega)

theorem implTcc (o n d : Int) (w : World) :
    Calls Try.prog 57 #[.int .i64 o, .agg #[.int .i64 n, .int .i64 d]] w fun e w' => FListR w.heap.size (tccT o n d) e w' ∧ Below w.heap.size w w' := by
  by_cases hc : code6 40 o n d = 0
  · rw [tccT_ok hc]
    exact callsIn_wide.1 (implTcs o n d w hc)
  · rw [tccT_no hc]
    have HC := hid (fun w => implChF 40 o n d w)
    have E0 := hid ((Below.refl w.heap.size w).alloc (Nat.le_refl _) (.cells #[.int .i64 n, .int .i64 d] 25))
    generalize code6 40 o n d = k at *
    have hk : (k != 0) = true := by simpa using hc
    go_enter Try.func57, Try.ntmps57
    go_wp2_with (fail)
    refine (HC.out _).mono ?_
    rintro e w1 ⟨rfl, b1⟩
    have E1 := hid (E0.out.trans (b1.mono E0.out.size))
    clear b1
    go_wp2_with (fail)
    go_ret2
    exact ⟨⟨_, rfl, .inl ⟨rfl, rfl⟩⟩, E1.out⟩

set_option maxRecDepth 100000 in
set_option maxHeartbeats 3200000 in
theorem specTcc (o n d : Int) (w : World) :
    Calls Try.prog 58 #[.int .i64 o, .agg #[.int .i64 n, .int .i64 d]] w fun e w' => FListR w.heap.size (tccT o n d) e w' ∧ Below w.heap.size w w' := by
  have HC := hid (fun w => specSm6 o n d w)
  have E0 := hid ((Below.refl w.heap.size w).alloc (Nat.le_refl _) (.cells #[.int .i64 n, .int .i64 d] 25))
  have HN := hid (nw_at w (.cells #[.int .i64 n, .int .i64 d] 25))
  by_cases hc : code6 40 o n d = 0
  case neg =>
    rw [tccT_no hc]
    generalize code6 40 o n d = k at *
    have hk : (k != 0) = true := by simpa using hc
    go_enter Try.func58, Try.ntmps58
    go_wp2_with (fail)
    refine (HC.out _).mono ?_
    rintro e w1 ⟨rfl, b1⟩
    have E1 := hid (E0.out.trans (b1.mono E0.out.size))
    clear b1
    go_wp2_with (fail)
    go_ret2
    exact ⟨⟨_, rfl, .inl ⟨rfl, rfl⟩⟩, E1.out⟩
  rw [tccT_ok hc]
  obtain ⟨hok, ⟨ho, ho1⟩, _⟩ := code6_zero hc
  rw [hc] at HC
  obtain ⟨i0, hi, hz0, hz1, hz2⟩ := info_parts infoF
  have HS := hid (fun w => specAll o w ho ho1)
  have hlen : 1 ≤ (far o).length := by obtain ⟨r, e⟩ := far_first ho ho1; rw [e]; simp
  have hlen2 := far_len o
  have HFORM := hid (fun (B : Nat) (W : World) (v : Value) (r : FBack B W v (far o)) => show ∃ g c, v = .slice (some ⟨g, 0, none⟩) (far o).length c ∧ FOwn B W g c (far o) from by
    rcases r with ⟨_, h0⟩ | ⟨g, c, e, h⟩
    · rw [h0] at hlen; simp at hlen
    · exact ⟨g, c, e, h⟩)
  have HT := hid (fun (x : Int × Int) (hx : x ∈ far o) (w : World) => specTch x.1 x.2 n d w (far_mem ho ho1 hx).1 hok)
  clear hc hok
  generalize far o = xs at *
  go_enter Try.func58, Try.ntmps58
  go_wp2_with (fail)
  refine (HC.out _).mono ?_
  rintro e w1 ⟨rfl, b1⟩
  have E1 := hid (E0.out.trans (b1.mono E0.out.size))
  have F1 := hid (bk_kept HN.out b1 (Nat.le_refl _))
  clear b1
  go_wp2_with (fail)
  refine (HS.out _).mono ?_
  rintro e w2 ⟨v, rfl, r, b2⟩
  have E2 := hid (E1.out.trans (b2.mono E1.out.size))
  have F2 := hid (bk_kept F1.out b2 (Nat.le_refl _))
  obtain ⟨g, c, rfl, hr⟩ := HFORM.out _ _ _ r
  have HR := hid hr
  clear r b2 hr
  go_wp2_with (fail)
  have HR0 := hid (show (w2.alloc (.cells #[] 25)).ownsRow w2.heap.size 25 2 (.slice (some ⟨w2.heap.size, 0, none⟩) 0 0) 0 (frCells []) from
    World.ownsRow_lit (base := w2.heap.size) (e := 25) (size := 2) w2 #[] 0 (Nat.le_refl _) (by decide) rfl)
  have EB := hid ((Below.refl w2.heap.size w2).alloc (Nat.le_refl _) (.cells #[] 25))
  go_loopw [8, 9] (fun u i wr => ∃ (k : Nat) (vs : List (Int × Int)), i = .int .i64 k ∧ k ≤ xs.length ∧ vs.length ≤ k ∧ Hid (vs = (xs.take k).filter (tchB n d)) ∧ wr.ownsRow w2.heap.size 25 2 u vs.length (frCells vs) ∧ Below w2.heap.size w2 wr) (fun _ i _ => xs.length - (RowKit.intOf i).toNat)
  case atStart => exact ⟨0, [], rfl, by omega, by simp, hid rfl, HR0.out, EB.out⟩
  case round =>
    obtain ⟨k, vs, rfl, hk, hvk, hvs, hown, hbel⟩ := hrel
    have hk0 : (0 : Int) ≤ (k : Int) := by omega
    by_cases hlt : k < xs.length
    · have hlt' : (k : Int) < (xs.length : Int) := by omega
      obtain ⟨x, hx⟩ : ∃ x, xs[k]? = some x := ⟨_, List.getElem?_eq_getElem hlt⟩
      obtain ⟨x0, x1⟩ := x
      obtain ⟨c0, c1⟩ := fown_cells HR.out hx
      have hgl : g < w2.heap.size := World.block_lt_of_cell? _ _ c0
      have q0 := (hbel.cell (p := ⟨g, k * 2, none⟩) hgl).trans c0
      have q1 := (hbel.cell (p := ⟨g, k * 2 + 1, none⟩) hgl).trans c1
      have hsl : w.heap.size < w2.heap.size := (Array.getElem?_eq_some_iff.1 F2.out).1
      obtain ⟨u0, u1, _, _, _⟩ := bk2 ((hbel.block w.heap.size hsl).trans F2.out)
      have HTX := hid (fun w => HT.out (x0, x1) (List.mem_of_getElem? hx) w)
      have HOWN := hid hown
      have HBEL := hid hbel
      have HTK := hid (show (xs.take (k + 1)).filter (tchB n d) = vs ++ [(x0, x1)].filter (tchB n d) by rw [List.take_add_one, hx, List.filter_append, hvs.out]; rfl)
      clear c0 c1 hown hbel hvs hx
      dsimp only at HTX
      cases hnb : nbB x0 x1 n d
      · rw [hnb] at HTX
        have HTK2 := hid (show vs = (xs.take (k + 1)).filter (tchB n d) by rw [HTK.out, List.filter_cons_of_neg (by unfold tchB; rw [hnb]; decide)]; simp)
        clear hnb HTK
        go_wp2_with (fail)
        go_region_with (go_at_call 127; refine (HTX.out _).mono ?_; rintro e w3 ⟨rfl, b3⟩)
        all_goals
          have b3' : Below wr.heap.size wr w3 := (Below.drew (Below.refl _ _)).trans b3
          have R3 := hid (HOWN.out.kept (below_grows b3') (Classical.em _))
          have E3 := hid (HBEL.out.trans (b3'.mono HBEL.out.size))
          clear b3 b3' q0 q1 u0 u1
          go_wp2_with (fail)
          go_roundw
          case rel => exact ⟨k + 1, vs, by go_num, by omega, by omega, HTK2, R3.out, E3.out⟩
          case measure => simp only [RowKit.intOf]; omega
      · rw [hnb] at HTX
        have HTK2 := hid (show vs ++ [(x0, x1)] = (xs.take (k + 1)).filter (tchB n d) by rw [HTK.out, List.filter_cons_of_pos (by unfold tchB; exact hnb)]; simp)
        clear hnb HTK
        go_wp2_with (fail)
        go_region_with (go_at_call 127; refine (HTX.out _).mono ?_; rintro e w3 ⟨rfl, b3⟩)
        all_goals
          have b3' : Below wr.heap.size wr w3 := (Below.drew (Below.refl _ _)).trans b3
          have R3 := hid (HOWN.out.kept (below_grows b3') (Classical.em _))
          have E3 := hid (HBEL.out.trans (b3'.mono HBEL.out.size))
          have hgr : g < wr.heap.size := Nat.lt_of_lt_of_le hgl HBEL.out.size
          have p0 := (b3'.cell (p := ⟨g, k * 2, none⟩) hgr).trans q0
          have p1 := (b3'.cell (p := ⟨g, k * 2 + 1, none⟩) hgr).trans q1
          have hs3 := E3.out.size
          clear b3 b3' q0 q1 u0 u1
          go_wp2_with (at_builtin; refine wpList_append_own _ rfl _ _ 52 rfl w2.heap.size 25 i0 (.agg #[.int .i64 0, .int .i64 0]) 2 16 Try.underlying52 hi hz0 hz1 hz2 rfl (by decide) _ vs.length (frCells vs) (by rfl) ?_ ⟨w3.heap.size, 0, none⟩ 1 1 [.int .i64 x0, .int .i64 x1] (by rfl) ?_ ?_ ?_ ?_ ?_ ?_ ?_)
          · exact R3.out.alloc _
          · rfl
          · exact news2 _ _ _ _
          · intro u hu
            rcases List.mem_cons.1 hu with rfl | hu
            · rfl
            · obtain rfl := List.mem_singleton.1 hu; rfl
          · unfold maxLen; omega
          · omega
          · (first | omega | (simp <;> omega))
          · intro v2 w5 hown2 hgrow2 _
            have HO2 := hid (show w5.ownsRow w2.heap.size 25 2 v2 (vs ++ [(x0, x1)]).length (frCells (vs ++ [(x0, x1)])) by
              rw [← frCells_more, List.length_append]; exact hown2)
            have HE2 := hid ((E3.out.alloc hs3 (.cells #[.int .i64 x0, .int .i64 x1] 25)).grown hgrow2 (by first | omega | (simp <;> omega)) (fun k hk => (R3.out.lt k hk).1))
            clear hown2 hgrow2 p0 p1
            go_wp2_with (fail)
            go_roundw
            case rel => exact ⟨k + 1, vs ++ [(x0, x1)], by go_num, by omega, by simp; omega, HTK2, HO2.out, HE2.out⟩
            case measure => simp only [RowKit.intOf]; omega
    · have hlt' : ¬ (k : Int) < (xs.length : Int) := by omega
      have HV := hid (show xs.filter (tchB n d) = vs by rw [hvs.out, List.take_of_length_le (by omega)])
      have HB := hid (fback_mono (frow_back hown rfl) E2.out.size)
      have HE := hid (E2.out.trans (hbel.mono E2.out.size))
      clear hown hbel hvs
      go_wp2_with (fail)
      go_ret2
      exact ⟨⟨_, rfl, by rw [HV.out]; exact HB.out⟩, HE.out⟩

end Go.Proofs.Ythfogmaefhfkoaa
