/- Contract: terms with signs are read by the model. -/
import Derived.Test.YtipegemhcmfnmaaDoorRsl
namespace Go.Proofs.YtipegemhcmfnmaaDoor
open Go.RowKit Go.Lib

theorem spart_at {ps : List ByteArray} {l : List UInt8} {k : Nat} {x : ByteArray} (hp : ps.map (·.data.toList) = splitB 32 l) (hx : ps[k]? = some x) : (partsG l)[k]? = some (if k = 0 then 43 :: x.data.toList else x.data.toList) ∧ x.data.toList.length ≤ l.length := by
  have h1 : (splitB 32 l)[k]? = some x.data.toList := by rw [← hp, List.getElem?_map, hx]; rfl
  refine ⟨?_, splitB_piece (List.mem_of_getElem? h1)⟩
  unfold partsG
  cases h : splitB 32 l with
  | nil => exact absurd h (splitB_ne 32 l)
  | cons p r =>
    rw [h] at h1
    cases k with
    | zero => simp at h1; simp [h1]
    | succ k => simpa using h1
theorem parts_count {ps : List ByteArray} {l : List UInt8} (hp : ps.map (·.data.toList) = splitB 32 l) : ps.length = (partsG l).length := by
  have h0 := congrArg List.length hp
  rw [List.length_map] at h0
  rw [h0]
  unfold partsG
  cases h : splitB 32 l with
  | nil => exact absurd h (splitB_ne 32 l)
  | cons p r => rfl
theorem rs_none {l q : List UInt8} {k : Nat} {ys : List (Int × Int)} (hq : (partsG l)[k]? = some q) (h : rdEs ((partsG l).take k) = some ys) (h2 : rdE q = none) : rsG l = ([], false) := by
  have h3 := rdEs_step hq h
  rw [h2] at h3
  exact rsG_none (rdEs_fail h3)
theorem rs_some {l q : List UInt8} {k : Nat} {ys : List (Int × Int)} {z : Int × Int} (hq : (partsG l)[k]? = some q) (h : rdEs ((partsG l).take k) = some ys) (h2 : rdE q = some z) : rdEs ((partsG l).take (k + 1)) = some (ys ++ [z]) := by
  have h3 := rdEs_step hq h
  rw [h2] at h3
  exact h3
theorem gcset_grown (w : World) (b i : Nat) (x : Value) : w.grownBy (w.setCell ⟨b, i, none⟩ x) (some b) :=
  ⟨rfl, rfl, rfl, by simp, fun k _ hk => by
    have hne : k ≠ b := fun e => hk (by rw [e])
    rw [heap_setCell_other _ ⟨b, i, none⟩ k x hne]⟩
theorem row_cset {B b i : Nat} {w : World} {v : Value} {n : Nat} {xs : List Value} (h : w.ownsRow B 94 2 v n xs) (hb : ∀ g, v.ownBlock = some g → g < b) (x : Value) :
    (w.setCell ⟨b, i, none⟩ x).ownsRow B 94 2 v n xs :=
  h.kept (gcset_grown w b i x) (.inr (by intro e; exact Nat.lt_irrefl _ (hb b e)))
theorem gb_set0 {w : World} {b : Nat} {p q : Int} (h : GB w b p q) (a : Int) : GB (w.setCell ⟨b, 0, none⟩ (.int .i64 a)) b a q := heap_setCell_same w b 0 _ _ (.int .i64 a) h
theorem head_of {p : ByteArray} (h : 0 < p.size) : p.data.toList = p[0]'h :: (p.extract 1 p.size).data.toList := by
  have h1 := drop_parts p (j := 0) (k := 0) (Nat.le_refl _) h
  rw [ext_list] at h1
  rw [ext_all]
  simpa using h1

set_option maxRecDepth 100000 in
set_option maxHeartbeats 20000000 in
theorem specRS (s : ByteArray) (w : World) (hs : s.size ≤ 1048576) :
    Calls Tryd.prog 54 #[.string s] w fun e w' => SBoolR w.heap.size (rsG s.data.toList) e w' ∧ Below w.heap.size w w' := by
  obtain ⟨i0, hi, hz0, hz1, hz2⟩ := info_parts infoG
  have SP := hid (specSplit s 32 w hs)
  have hll : s.data.toList.length ≤ 1048576 := by rw [data_len]; exact hs
  have HLL := hid hll
  have L5 := hid (partsG_len s.data.toList)
  clear hll
  go_enter Tryd.func54, Tryd.ntmps54
  go_wp2_with (fail)
  refine SP.out.mono ?_
  rintro e w1 ⟨v1, ps, rfl, ⟨g1, c1, rfl, hg1, own1⟩, hpm, hpl, b1⟩
  have E1 := hid b1
  have P1 := hid (show PR w1 g1 ps from fun j x hj => row_cells own1 j _ (by unfold strCells; rw [List.getElem?_map, hj]; rfl))
  have PM := hid hpm
  have hpl2 : ps.length ≤ 1048577 := by omega
  have hp1 : 1 ≤ ps.length := by have h1 := parts_count hpm; have h2 := L5.out; omega
  have H1 := hid b1.size
  clear own1 hpm hpl b1 hg1 SP
  go_wp2_with (fail)
  have R0 := hid (show (w1.alloc (.cells #[] 94)).ownsRow w1.heap.size 94 2 (.slice (some ⟨w1.heap.size, 0, none⟩) 0 0) ([] : List (Int × Int)).length (sgCells []) from
    World.ownsRow_lit w1 #[] 0 (Nat.le_refl _) (by decide) rfl)
  have E0 := hid (show Below w1.heap.size w1 (w1.alloc (.cells #[] 94)) from (Below.refl _ _).alloc (Nat.le_refl _) _)
  go_loopw [5, 6, 7, 8, 9, 10] (fun v i _ _ _ _ wr => ∃ (k : Nat) (ys : List (Int × Int)), i = .int .i64 k ∧ k ≤ ps.length ∧ ys.length = k ∧ wr.ownsRow w1.heap.size 94 2 v ys.length (sgCells ys) ∧ Hid (rdEs ((partsG s.data.toList).take k) = some ys) ∧ Below w1.heap.size w1 wr) (fun _ i _ _ _ _ _ => ps.length - (RowKit.intOf i).toNat)
  case atStart => exact ⟨0, [], rfl, by omega, rfl, R0.out, hid rfl, E0.out⟩
  case round =>
    obtain ⟨k, ys, rfl, hk, hyk, hown, hrd, hbel⟩ := hrel
    have HBEL := hid hbel
    have HOWN := hid hown
    have HLB := hid (fun g hg => (hown.lt g hg).2)
    have hk0 : (0 : Int) ≤ (k : Int) := by omega
    have hbw : w1.heap.size ≤ wr.heap.size := hbel.size
    by_cases hlt : k < ps.length
    · have hlt' : (k : Int) < (ps.length : Int) := by omega
      obtain ⟨x, hxk⟩ : ∃ t, ps[k]? = some t := ⟨_, List.getElem?_eq_getElem hlt⟩
      obtain ⟨q1, q2⟩ := spart_at PM.out hxk
      have hxs : x.size ≤ 1048576 := by rw [← data_len]; have := HLL.out; omega
      have HRD := hid hrd.out
      have HYK := hid hyk
      have A1 := hid (HBEL.out.alloc hbw (.cells #[.int .i64 1, .int .i64 0] 94))
      have cx := pr_below P1.out A1.out k x hxk
      have G1 := hid (gb_new wr 1 0)
      have O1 := hid (HOWN.out.alloc (.cells #[.int .i64 1, .int .i64 0] 94))
      have hl6 : ys.length ≤ 1048577 := by omega
      clear hbel hown hrd hyk hxk q2
      by_cases hz : k = 0
      · have hgt : ¬ (0 : Int) < (k : Int) := by omega
        rw [if_pos hz] at q1
        have hre := rdE_plus x.data.toList
        clear hz
        have N := hid (fun w => specNum x w (by first | exact hxs | exact hts))
        have HV := hid (show numV (x).data.toList = .tuple #[.int .i64 (numS (x).data.toList).1, .bool (numS (x).data.toList).2] from rfl)
        rw [HV.out] at N
        have HQN := hid (fun h => rs_none q1 HRD.out h)
        have HQS := hid (fun z h => rs_some (z := z) q1 HRD.out h)
        rw [hre] at HQN HQS
        generalize numS (x).data.toList = r at *
        obtain ⟨n, b⟩ := r
        dsimp only at N HQN HQS
        clear HV hre q1 HRD
        cases b
        · skip
          have HR := hid (HQN.out rfl)
          clear HQN HQS
          go_wp2_with (fail)
          refine (N.out _).mono ?_
          rintro e w2 ⟨rfl, b2⟩
          have E2 := hid (A1.out.trans (b2.mono A1.out.size))
          clear b2
          go_wp2_with (fail)
          go_ret2
          exact ⟨⟨_, by rw [HR.out]; rfl, by rw [HR.out]; exact rs_nil⟩, E1.out.trans (E2.out.mono E1.out.size)⟩
        · skip
          have HR := hid (HQS.out _ rfl)
          clear HQN HQS
          go_wp2_with (fail)
          refine (N.out _).mono ?_
          rintro e w2 ⟨rfl, b2⟩
          have E2 := hid (A1.out.trans (b2.mono A1.out.size))
          obtain ⟨k0, k1, k2, k3, k4⟩ := gb_cells (gb_below G1.out b2)
          have O2 := hid (row_cset (i := 1) (O1.out.kept (below_grows b2) (Classical.em _)) HLB.out (.int .i64 n))
          have E3 := hid (E2.out.setCell (p := ⟨wr.heap.size, 1, none⟩) hbw (.int .i64 n))
          have hb2 : w1.heap.size ≤ w2.heap.size := E2.out.size
          clear b2 N
          go_wp2_with (at_builtin; refine wpList_append_own _ rfl _ _ 24 rfl w1.heap.size 94 i0 (.agg #[.int .i64 0, .int .i64 0]) 2 16 Tryd.underlying24 hi hz0 hz1 hz2 rfl (by decide) _ ys.length (sgCells ys) (by rfl) ?c0a ⟨w2.heap.size, 0, none⟩ 1 1 [.int .i64 1, .int .i64 n] (by rfl) ?c1a ?c2a ?c3a ?c4a ?c5a ?c6a ?c7a)
          case c0a => exact O2.out.alloc _
          case c1a => rfl
          case c2a =>
            have h := snews2 (w2.setCell ⟨wr.heap.size, 1, none⟩ (.int .i64 n)) (.int .i64 1) (.int .i64 n) 94
            rw [csize] at h
            exact h
          case c3a => exact rs_one _ _
          case c4a => unfold maxLen; omega
          case c5a => omega
          case c6a => (first | omega | (simp <;> omega))
          intro v2 w3 hown2 hgrow2 _
          have HO2 := hid (show w3.ownsRow w1.heap.size 94 2 v2 (ys ++ [(1, n)]).length (sgCells (ys ++ [(1, n)])) by
            rw [← sgCells_more, List.length_append]; exact hown2)
          have E4 := hid ((E3.out.alloc (by rw [csize]; exact hb2) (.cells #[.int .i64 1, .int .i64 n] 94)).grown hgrow2 (by first | omega | (simp <;> omega)) (fun k hk => (O2.out.lt k hk).1))
          have HL3 := hid (show (ys ++ [(1, n)]).length = k + 1 by have := HYK.out; simp; omega)
          obtain ⟨zs, hzs⟩ : ∃ zs, zs = ys ++ [(1, n)] := ⟨_, rfl⟩
          have HR2 := hid (show rdEs ((partsG s.data.toList).take (k + 1)) = some zs by rw [hzs]; exact HR.out)
          rw [← hzs] at HO2 HL3
          clear hown2 hgrow2 hzs HR
          go_wp2_with (fail)
          go_roundw
          case rel => exact ⟨k + 1, zs, by go_num, by omega, HL3.out, HO2.out, HR2, E4.out⟩
          case measure => simp [RowKit.intOf]; omega
      have hgt : (0 : Int) < (k : Int) := by omega
      rw [if_neg hz] at q1
      clear hz
      by_cases hx0 : 0 < x.size
      case neg =>
        have hl := len_data x
        have hl0 : x.data.toList = [] := List.length_eq_zero_iff.1 (by omega)
        have e1 : x.toList = [] := by rw [Lib.toList_data]; exact hl0
        have e2 : x.toList.isEmpty = true := by rw [e1]; rfl
        have HR := hid (rs_none q1 HRD.out (by rw [hl0]; rfl))
        clear q1 hl hl0 e1 HRD hx0
        go_wp2_with (fail)
        go_ret2
        exact ⟨⟨_, by rw [HR.out]; rfl, by rw [HR.out]; exact rs_nil⟩, E1.out.trans (A1.out.mono E1.out.size)⟩
      case pos =>
      have e1 : x.toList.isEmpty = false := isEmpty_no hx0
      have hp : (0 : Int) < (x.size : Int) := by omega
      have hp1' : (1 : Int) ≤ (x.size : Int) := by omega
      have hts : (x.extract 1 x.size).size ≤ 1048576 := by rw [← data_len, ext_all, List.length_drop, data_len]; omega
      have hv0 : 0 ≤ ((x[0]'hx0).toNat : Int) ∧ ((x[0]'hx0).toNat : Int) < 256 := by have := UInt8.toNat_lt (x[0]'hx0); omega
      rw [head_of hx0] at q1
      by_cases hc1 : x[0]'hx0 = 43
      · have d1 : (((x[0]'hx0).toNat : Int) != 43) = false := by rw [hc1]; rfl
        have d2 : (((x[0]'hx0).toNat : Int) == 45) = false := by rw [hc1]; rfl
        rw [hc1] at q1
        have hre := rdE_plus (x.extract 1 x.size).data.toList
        clear hc1
        have N := hid (fun w => specNum (x.extract 1 x.size) w (by first | exact hxs | exact hts))
        have HV := hid (show numV ((x.extract 1 x.size)).data.toList = .tuple #[.int .i64 (numS ((x.extract 1 x.size)).data.toList).1, .bool (numS ((x.extract 1 x.size)).data.toList).2] from rfl)
        rw [HV.out] at N
        have HQN := hid (fun h => rs_none q1 HRD.out h)
        have HQS := hid (fun z h => rs_some (z := z) q1 HRD.out h)
        rw [hre] at HQN HQS
        generalize numS ((x.extract 1 x.size)).data.toList = r at *
        obtain ⟨n, b⟩ := r
        dsimp only at N HQN HQS
        clear HV hre q1 HRD
        cases b
        · skip
          have HR := hid (HQN.out rfl)
          clear HQN HQS
          go_wp2_with (fail)
          refine (N.out _).mono ?_
          rintro e w2 ⟨rfl, b2⟩
          have E2 := hid (A1.out.trans (b2.mono A1.out.size))
          clear b2
          go_wp2_with (fail)
          go_ret2
          exact ⟨⟨_, by rw [HR.out]; rfl, by rw [HR.out]; exact rs_nil⟩, E1.out.trans (E2.out.mono E1.out.size)⟩
        · skip
          have HR := hid (HQS.out _ rfl)
          clear HQN HQS
          go_wp2_with (fail)
          refine (N.out _).mono ?_
          rintro e w2 ⟨rfl, b2⟩
          have E2 := hid (A1.out.trans (b2.mono A1.out.size))
          obtain ⟨k0, k1, k2, k3, k4⟩ := gb_cells (gb_below G1.out b2)
          have O2 := hid (row_cset (i := 1) (O1.out.kept (below_grows b2) (Classical.em _)) HLB.out (.int .i64 n))
          have E3 := hid (E2.out.setCell (p := ⟨wr.heap.size, 1, none⟩) hbw (.int .i64 n))
          have hb2 : w1.heap.size ≤ w2.heap.size := E2.out.size
          clear b2 N
          go_wp2_with (at_builtin; refine wpList_append_own _ rfl _ _ 24 rfl w1.heap.size 94 i0 (.agg #[.int .i64 0, .int .i64 0]) 2 16 Tryd.underlying24 hi hz0 hz1 hz2 rfl (by decide) _ ys.length (sgCells ys) (by rfl) ?c0b ⟨w2.heap.size, 0, none⟩ 1 1 [.int .i64 1, .int .i64 n] (by rfl) ?c1b ?c2b ?c3b ?c4b ?c5b ?c6b ?c7b)
          case c0b => exact O2.out.alloc _
          case c1b => rfl
          case c2b =>
            have h := snews2 (w2.setCell ⟨wr.heap.size, 1, none⟩ (.int .i64 n)) (.int .i64 1) (.int .i64 n) 94
            rw [csize] at h
            exact h
          case c3b => exact rs_one _ _
          case c4b => unfold maxLen; omega
          case c5b => omega
          case c6b => (first | omega | (simp <;> omega))
          intro v2 w3 hown2 hgrow2 _
          have HO2 := hid (show w3.ownsRow w1.heap.size 94 2 v2 (ys ++ [(1, n)]).length (sgCells (ys ++ [(1, n)])) by
            rw [← sgCells_more, List.length_append]; exact hown2)
          have E4 := hid ((E3.out.alloc (by rw [csize]; exact hb2) (.cells #[.int .i64 1, .int .i64 n] 94)).grown hgrow2 (by first | omega | (simp <;> omega)) (fun k hk => (O2.out.lt k hk).1))
          have HL3 := hid (show (ys ++ [(1, n)]).length = k + 1 by have := HYK.out; simp; omega)
          obtain ⟨zs, hzs⟩ : ∃ zs, zs = ys ++ [(1, n)] := ⟨_, rfl⟩
          have HR2 := hid (show rdEs ((partsG s.data.toList).take (k + 1)) = some zs by rw [hzs]; exact HR.out)
          rw [← hzs] at HO2 HL3
          clear hown2 hgrow2 hzs HR
          go_wp2_with (fail)
          go_roundw
          case rel => exact ⟨k + 1, zs, by go_num, by omega, HL3.out, HO2.out, HR2, E4.out⟩
          case measure => simp [RowKit.intOf]; omega
      have d1 : (((x[0]'hx0).toNat : Int) != 43) = true := by
        rw [bne_iff_ne]; intro e; exact hc1 (UInt8.toNat_inj.1 (by show _ = 43; omega))
      by_cases hc2 : x[0]'hx0 = 45
      · have d2 : (((x[0]'hx0).toNat : Int) == 45) = true := by rw [hc2]; rfl
        have d3 : (((x[0]'hx0).toNat : Int) != 45) = false := by rw [hc2]; rfl
        rw [hc2] at q1
        have hre := rdE_minus (x.extract 1 x.size).data.toList
        have A2 := hid (HBEL.out.alloc hbw (.cells #[.int .i64 (-1), .int .i64 0] 94))
        have G2 := hid (gb_new wr (-1) 0)
        have O3 := hid (HOWN.out.alloc (.cells #[.int .i64 (-1), .int .i64 0] 94))
        clear hc1 hc2
        have N := hid (fun w => specNum (x.extract 1 x.size) w (by first | exact hxs | exact hts))
        have HV := hid (show numV ((x.extract 1 x.size)).data.toList = .tuple #[.int .i64 (numS ((x.extract 1 x.size)).data.toList).1, .bool (numS ((x.extract 1 x.size)).data.toList).2] from rfl)
        rw [HV.out] at N
        have HQN := hid (fun h => rs_none q1 HRD.out h)
        have HQS := hid (fun z h => rs_some (z := z) q1 HRD.out h)
        rw [hre] at HQN HQS
        generalize numS ((x.extract 1 x.size)).data.toList = r at *
        obtain ⟨n, b⟩ := r
        dsimp only at N HQN HQS
        clear HV hre q1 HRD
        cases b
        · skip
          have HR := hid (HQN.out rfl)
          clear HQN HQS
          go_wp2_with (fail)
          refine (N.out _).mono ?_
          rintro e w2 ⟨rfl, b2⟩
          have E2 := hid (A2.out.trans (b2.mono A2.out.size))
          clear b2
          go_wp2_with (fail)
          go_ret2
          exact ⟨⟨_, by rw [HR.out]; rfl, by rw [HR.out]; exact rs_nil⟩, E1.out.trans (E2.out.mono E1.out.size)⟩
        · skip
          have HR := hid (HQS.out _ rfl)
          clear HQN HQS
          go_wp2_with (fail)
          refine (N.out _).mono ?_
          rintro e w2 ⟨rfl, b2⟩
          have E2 := hid (A2.out.trans (b2.mono A2.out.size))
          obtain ⟨k0, k1, k2, k3, k4⟩ := gb_cells (gb_below G2.out b2)
          have O2 := hid (row_cset (i := 1) (O3.out.kept (below_grows b2) (Classical.em _)) HLB.out (.int .i64 n))
          have E3 := hid (E2.out.setCell (p := ⟨wr.heap.size, 1, none⟩) hbw (.int .i64 n))
          have hb2 : w1.heap.size ≤ w2.heap.size := E2.out.size
          clear b2 N
          go_wp2_with (at_builtin; refine wpList_append_own _ rfl _ _ 24 rfl w1.heap.size 94 i0 (.agg #[.int .i64 0, .int .i64 0]) 2 16 Tryd.underlying24 hi hz0 hz1 hz2 rfl (by decide) _ ys.length (sgCells ys) (by rfl) ?c0d ⟨w2.heap.size, 0, none⟩ 1 1 [.int .i64 (-1), .int .i64 n] (by rfl) ?c1d ?c2d ?c3d ?c4d ?c5d ?c6d ?c7d)
          case c0d => exact O2.out.alloc _
          case c1d => rfl
          case c2d =>
            have h := snews2 (w2.setCell ⟨wr.heap.size, 1, none⟩ (.int .i64 n)) (.int .i64 (-1)) (.int .i64 n) 94
            rw [csize] at h
            exact h
          case c3d => exact rs_one _ _
          case c4d => unfold maxLen; omega
          case c5d => omega
          case c6d => (first | omega | (simp <;> omega))
          intro v2 w3 hown2 hgrow2 _
          have HO2 := hid (show w3.ownsRow w1.heap.size 94 2 v2 (ys ++ [((-1), n)]).length (sgCells (ys ++ [((-1), n)])) by
            rw [← sgCells_more, List.length_append]; exact hown2)
          have E4 := hid ((E3.out.alloc (by rw [csize]; exact hb2) (.cells #[.int .i64 (-1), .int .i64 n] 94)).grown hgrow2 (by first | omega | (simp <;> omega)) (fun k hk => (O2.out.lt k hk).1))
          have HL3 := hid (show (ys ++ [((-1), n)]).length = k + 1 by have := HYK.out; simp; omega)
          obtain ⟨zs, hzs⟩ : ∃ zs, zs = ys ++ [((-1), n)] := ⟨_, rfl⟩
          have HR2 := hid (show rdEs ((partsG s.data.toList).take (k + 1)) = some zs by rw [hzs]; exact HR.out)
          rw [← hzs] at HO2 HL3
          clear hown2 hgrow2 hzs HR
          go_wp2_with (fail)
          go_roundw
          case rel => exact ⟨k + 1, zs, by go_num, by omega, HL3.out, HO2.out, HR2, E4.out⟩
          case measure => simp [RowKit.intOf]; omega
      · have d2 : (((x[0]'hx0).toNat : Int) == 45) = false := by
          rw [beq_eq_false_iff_ne]; intro e; exact hc2 (UInt8.toNat_inj.1 (by show _ = 45; omega))
        have d3 : (((x[0]'hx0).toNat : Int) != 45) = true := by
          rw [bne_iff_ne]; intro e; exact hc2 (UInt8.toNat_inj.1 (by show _ = 45; omega))
        have HR := hid (rs_none q1 HRD.out (rdE_other hc1 hc2))
        clear hc1 hc2 q1 HRD
        go_wp2_with (fail)
        go_ret2
        exact ⟨⟨_, by rw [HR.out]; rfl, by rw [HR.out]; exact rs_nil⟩, E1.out.trans (A1.out.mono E1.out.size)⟩
    · have hlt' : ¬ (k : Int) < (ps.length : Int) := by omega
      have HALL := hid (show rdEs (partsG s.data.toList) = some ys by
        have h1 := hrd.out
        rw [List.take_of_length_le (by rw [← parts_count PM.out]; omega)] at h1
        exact h1)
      obtain ⟨g3, c3, rfl, O3⟩ := rs_more hown (by omega)
      have O3H := hid O3
      have V := hid (specOkS g3 c3 ys wr (by omega) (sown_sgs O3))
      have HNO := hid (fun h => rsG_no HALL.out h)
      have HOK := hid (fun h => rsG_ok HALL.out h)
      clear hbel hown hrd hyk O3 HOWN HLB
      generalize okS ys = b at *
      cases b
      · have HR := hid (HNO.out rfl)
        clear HNO HOK
        go_wp2_with (fail)
        refine V.out.mono ?_
        rintro e w4 ⟨rfl, b4⟩
        have E4 := hid (HBEL.out.trans (b4.mono hbw))
        clear b4
        go_wp2_with (fail)
        go_ret2
        exact ⟨⟨_, by rw [HR.out]; rfl, by rw [HR.out]; exact rs_nil⟩, E1.out.trans (E4.out.mono E1.out.size)⟩
      · have HR := hid (HOK.out rfl)
        clear HNO HOK
        go_wp2_with (fail)
        refine V.out.mono ?_
        rintro e w4 ⟨rfl, b4⟩
        have E4 := hid (HBEL.out.trans (b4.mono hbw))
        have O4 := hid (sown_below O3H.out b4)
        clear b4
        go_wp2_with (fail)
        go_ret2
        exact ⟨⟨_, by rw [HR.out]; rfl, by rw [HR.out]; exact .inr ⟨_, _, rfl, sown_mono O4.out E1.out.size⟩⟩, E1.out.trans (E4.out.mono E1.out.size)⟩

end Go.Proofs.YtipegemhcmfnmaaDoor
