/- Contract: ReadPath, by the model. -/
import Derived.Test.YtjijabfamjhdjaaDoorRpj
import Derived.Test.YtjijabfamjhdjaaDoorRd2
namespace Go.Proofs.YtjijabfamjhdjaaDoor
open Go.RowKit Go.Lib

theorem rpM_app : ∀ (a : List (List UInt8)) (acc : List Int) (b : List (List UInt8)), rpM acc (a ++ b) = (rpM acc a).bind fun y => rpM y b
  | [], _, _ => rfl
  | [] :: _, _, _ => rfl
  | (c :: t) :: r, acc, b => by
    rw [List.cons_append, rpM_cons, rpM_cons]
    by_cases hc : c = ltr acc.length ∧ (numS t).2 = true ∧ (numS t).1 ≠ 0
    · rw [if_pos hc, if_pos hc]; exact rpM_app r _ b
    · rw [if_neg hc, if_neg hc]; rfl
theorem rm_step {ps : List (List UInt8)} {k : Nat} {p : List UInt8} {acc ys : List Int} (hp : ps[k]? = some p) (h : rpM acc (ps.take k) = some ys) : rpM acc (ps.take (k + 1)) = rpM ys [p] := by
  rw [List.take_add_one, hp, rpM_app, h]; rfl
theorem rm_fail {ps : List (List UInt8)} {k : Nat} {acc : List Int} (h : rpM acc (ps.take k) = none) : rpM acc ps = none := by
  rw [← List.take_append_drop k ps, rpM_app, h]; rfl
theorem zhead_of {p : ByteArray} (h : 0 < p.size) : p.data.toList = p[0]'h :: (p.extract 1 p.size).data.toList := by
  have h1 := drop_parts p (j := 0) (k := 0) (Nat.le_refl _) h
  rw [ext_list] at h1
  rw [ext_all]
  simpa using h1
theorem rpM_one {ys : List Int} {c : UInt8} {t : List UInt8} : rpM ys [c :: t] = if c = ltr ys.length ∧ (numS t).2 = true ∧ (numS t).1 ≠ 0 then some (ys ++ [(numS t).1]) else none := rfl
theorem rpM_short {ys : List Int} {p : List UInt8} (h : p.length < 2) : rpM ys [p] = none := by
  match p, h with
  | [], _ => rfl
  | [c], _ =>
    rw [rpM_one, if_neg]
    intro e
    rw [numS_empty (l := []) (by show 0 < 1; omega)] at e
    cases e.2.1
/-- The first part begins as the text does. -/
theorem st0_head {l p : List UInt8} {c : UInt8} {t : List UInt8} (h : (splitB 32 l)[0]? = some p) (hp : p = c :: t) : st0 l = if c = 76 then [0] else [] := by
  subst hp
  cases l with
  | nil => simp [splitB] at h
  | cons x r =>
    rw [splitB_cons] at h
    by_cases hx : x = 32
    · rw [if_pos (by first | exact hx | simp [hx])] at h
      simp at h
    · rw [if_neg (by first | exact hx | simp [hx])] at h
      have hxc : x = c := by
        cases hs : splitB 32 r with
        | nil => rw [hs] at h; simp at h; exact h.1
        | cons q qs => rw [hs] at h; simp at h; exact h.1
      subst hxc
      unfold st0 hasPrefix
      by_cases h7 : x = 76
      · subst h7; simp
      · rw [if_neg h7, if_neg (by simp; intro e; exact h7 e.symm)]
theorem rz_fail {l : List UInt8} {k : Nat} (ht : l ≠ [116, 111, 112]) (h : rpM (st0 l) ((splitB 32 l).take k) = none) : rdPath l = ([], false) := rdPath_none ht (rm_fail h)

set_option maxRecDepth 100000 in
set_option maxHeartbeats 20000000 in
theorem specRP (s : ByteArray) (w : World) (hs : s.size ≤ 1048576) :
    Calls Tryd.prog 32 #[.string s] w fun e w' => BoolP w.heap.size (rdPath s.data.toList) e w' ∧ Below w.heap.size w w' := by
  obtain ⟨i0, hi, hz0, hz1, hz2⟩ := info_parts infoI
  have R0 := hid (show (w.alloc (.cells #[] 2)).ownsRow w.heap.size 2 1 (.slice (some ⟨w.heap.size, 0, none⟩) 0 0) ([] : List Int).length (intCells []) from World.ownsRow_lit w #[] 0 (Nat.le_refl _) (by decide) rfl)
  have E0 := hid (show Below w.heap.size w (w.alloc (.cells #[] 2)) from (Below.refl _ _).alloc (Nat.le_refl _) _)
  by_cases ht : s.data.toList = [116, 111, 112]
  · have hst := top_is ht
    subst hst
    go_enter Tryd.func32, Tryd.ntmps32
    go_wp2_with (fail)
    go_ret2
    exact ⟨⟨_, rfl, .inr ⟨w.heap.size, 0, rfl, Nat.le_refl _, R0.out⟩⟩, E0.out⟩
  have htop : (s.toList == (⟨#[116, 111, 112]⟩ : ByteArray).toList) = false := bytes_not (fun e => ht (by rw [e]))
  have htop2 : (s.toList == [116, 111, 112]) = false := by
    rw [beq_eq_false_iff_ne]
    intro e
    exact ht (by rw [← Lib.toList_data]; exact e)
  have SP := hid (fun w => specSplit s 32 w hs)
  have HT := hid ht
  have hll : s.data.toList.length ≤ 1048576 := by rw [data_len]; exact hs
  have HLL := hid hll
  have H5 := hid (splitB_ne 32 s.data.toList)
  clear ht hll
  go_enter Tryd.func32, Tryd.ntmps32
  go_wp2_with (fail)
  refine (SP.out _).mono ?_
  rintro e w1 ⟨v1, ps, rfl, ⟨g1, c1, rfl, hg1, own1⟩, hpm, hpl, b1⟩
  have E1 := hid (E0.out.trans (b1.mono E0.out.size))
  have hgw : w.heap.size < g1 := by rw [World.size_alloc] at hg1; omega
  have P1 := hid (show PR w1 g1 ps ∧ g1 < w1.heap.size from ⟨fun j x hj => row_cells own1 j _ (by unfold strCells; rw [List.getElem?_map, hj]; rfl), (own1.lt _ rfl).2⟩)
  have R1 := hid (R0.out.kept (below_grows b1) (Classical.em _))
  have PM := hid hpm
  have hpl2 : ps.length ≤ 1048577 := by omega
  have hp1 : 1 ≤ ps.length := by
    have h1 := congrArg List.length hpm
    rw [List.length_map] at h1
    have := List.length_pos_iff.2 H5.out
    omega
  have hne1 : ∀ g, (Value.slice (some ⟨w.heap.size, 0, none⟩) 0 0).ownBlock = some g → g ≠ g1 := fun g e => by injection e with e; simp at e; omega
  have HNE1 := hid hne1
  clear own1 hpm hpl b1 hg1 SP R0 hne1
  go_wp2_with (fail)
  go_loopw [4, 6, 7, 8, 9] (fun v i _ _ _ wr => ∃ (k : Nat) (ys : List Int), i = .int .i64 k ∧ k ≤ ps.length ∧ ys.length ≤ k + 1 ∧ wr.ownsRow w.heap.size 2 1 v ys.length (intCells ys) ∧ Hid ((k = 0 ∧ ys = []) ∨ (1 ≤ k ∧ rpM (st0 s.data.toList) ((splitB 32 s.data.toList).take k) = some ys)) ∧ Below w.heap.size w wr ∧ Hid (PR wr g1 ps ∧ g1 < wr.heap.size ∧ ∀ g, v.ownBlock = some g → g ≠ g1)) (fun _ i _ _ _ _ => ps.length - (RowKit.intOf i).toNat)
  case atStart => exact ⟨0, [], rfl, by omega, by simp, R1.out, hid (.inl ⟨rfl, rfl⟩), E1.out, hid ⟨P1.out.1, P1.out.2, HNE1.out⟩⟩
  case round =>
    obtain ⟨k, ys, rfl, hk, hyk, hown, hrd, hbel, HPQ⟩ := hrel
    have HBEL := hid hbel
    have HOWN := hid hown
    have HRD := hid hrd.out
    have HYK := hid hyk
    obtain ⟨va, vc, rfl⟩ := row_shape hown
    have hk0 : (0 : Int) ≤ (k : Int) := by omega
    have hbw : w.heap.size ≤ wr.heap.size := hbel.size
    have HNQ := hid HPQ.out.2.2
    have HPW := hid (And.intro HPQ.out.1 HPQ.out.2.1)
    by_cases hlt : k < ps.length
    case neg =>
      have hlt' : ¬ (k : Int) < (ps.length : Int) := by omega
      have hall : rpM (st0 s.data.toList) (splitB 32 s.data.toList) = some ys := by
        rcases hrd.out with ⟨h0, _⟩ | ⟨_, h1⟩
        · omega
        · rw [List.take_of_length_le (by rw [← PM.out, List.length_map]; omega)] at h1
          exact h1
      have HALL := hid hall
      have hS := rpM_S _ _ _ hall
      have hne := rpS_ne hS
      obtain ⟨g3, c3, hv3, O3⟩ := pr_form (xs := ys) hown rfl rfl (List.length_pos_iff.2 hne)
      injection hv3 with hv4 _ hv5
      subst hv4 hv5
      have O3H := hid O3
      have hbig : ys.length ≤ 2000000000 := by omega
      have V := hid (specOkP g3 vc ys wr hbig (own_ints O3))
      clear hbel hown hrd hyk O3 HOWN HPQ hS hne hall HRD
      cases hok : okP ys
      · have HR := hid (rdPath_no HT.out HALL.out hok)
        rw [hok] at V
        clear hok
        go_wp2_with (fail)
        refine V.out.mono ?_
        rintro e w4 ⟨rfl, b4⟩
        have E4 := hid (HBEL.out.trans (b4.mono hbw))
        clear b4
        go_wp2_with (fail)
        go_ret2
        exact ⟨⟨_, by rw [HR.out]; rfl, by rw [HR.out]; exact .inl ⟨rfl, rfl⟩⟩, E4.out⟩
      · have HR := hid (rdPath_ok HT.out HALL.out hok)
        rw [hok] at V
        clear hok
        go_wp2_with (fail)
        refine V.out.mono ?_
        rintro e w4 ⟨rfl, b4⟩
        have E4 := hid (HBEL.out.trans (b4.mono hbw))
        have O4 := hid (own_below O3H.out b4)
        clear b4
        go_wp2_with (fail)
        go_ret2
        exact ⟨⟨_, by rw [HR.out]; rfl, by rw [HR.out]; exact .inr ⟨_, _, rfl, O4.out⟩⟩, E4.out⟩
    have hlt' : (k : Int) < (ps.length : Int) := by omega
    obtain ⟨x, hxk⟩ : ∃ t, ps[k]? = some t := ⟨_, List.getElem?_eq_getElem hlt⟩
    have cx := HPQ.out.1 k x hxk
    have hpk : (splitB 32 s.data.toList)[k]? = some x.data.toList := by rw [← PM.out, List.getElem?_map, hxk]; rfl
    have hxl : x.data.toList.length ≤ 1048576 := by have := splitB_piece (List.mem_of_getElem? hpk); have := HLL.out; omega
    have hxs : x.size ≤ 1048576 := by rw [← data_len]; exact hxl
    have HXK := hid hxk
    have HPK := hid hpk
    clear hbel hown hrd hyk hxk hpk HPQ hxl
    by_cases hx2 : x.size < 2
    case pos =>
      have hx2' : (x.size : Int) < 2 := by omega
      have HR := hid (show rdPath s.data.toList = ([], false) from by
        rcases HRD.out with ⟨h0, _⟩ | ⟨_, h1⟩
        · subst h0
          exact rz_fail (k := 0 + 1) HT.out ((rm_step (acc := st0 s.data.toList) (ys := st0 s.data.toList) HPK.out rfl).trans (rpM_short (by rw [data_len]; exact hx2)))
        · exact rz_fail (k := k + 1) HT.out ((rm_step HPK.out h1).trans (rpM_short (by rw [data_len]; exact hx2))))
      clear HRD
      go_wp2_with (fail)
      go_ret2
      exact ⟨⟨_, by rw [HR.out]; rfl, by rw [HR.out]; exact .inl ⟨rfl, rfl⟩⟩, HBEL.out⟩
    have hx2' : ¬ (x.size : Int) < 2 := by omega
    have hx0 : 0 < x.size := by omega
    have hx1 : (0 : Int) < (x.size : Int) := by omega
    have hx1' : (1 : Int) ≤ (x.size : Int) := by omega
    have hxt : x.extract 1 x.size = x.extract 1 x.size := rfl
    have hts : (x.extract 1 x.size).size ≤ 1048576 := by rw [← data_len, ext_all, List.length_drop, data_len]; omega
    have HHD := hid (zhead_of hx0)
    have hv0 : 0 ≤ ((x[0]'hx0).toNat : Int) ∧ ((x[0]'hx0).toNat : Int) < 256 := by have := UInt8.toNat_lt (x[0]'hx0); omega
    have N := hid (fun w => specNum (x.extract 1 x.size) w hts)
    have HV := hid (show numV (x.extract 1 x.size).data.toList = .tuple #[.int .i64 (numS (x.extract 1 x.size).data.toList).1, .bool (numS (x.extract 1 x.size).data.toList).2] from rfl)
    rw [HV.out] at N
    clear HV hxt
    by_cases hz : k = 0
    case neg =>
      have hz1' : ((k : Int) == 0) = false := by rw [beq_eq_false_iff_ne]; omega
      have HZ := hid (show rpM (st0 s.data.toList) ((splitB 32 s.data.toList).take k) = some ys from by
        rcases HRD.out with ⟨h0, _⟩ | ⟨_, h1⟩
        · exact absurd h0 hz
        · exact h1)
      have HZL := hid HYK.out
      clear HRD hz
      have HSTEP := hid ((rm_step HPK.out HZ.out).trans (by rw [HHD.out, rpM_one]))
      have hbx : w.heap.size ≤ (wr).heap.size := HBEL.out.size
      have cz := HPW.out.1 k x HXK.out
      have hzl6 : ys.length ≤ 1048579 := by have := HZL.out; omega
      by_cases hev : ys.length % 2 = 0
      · skip
        have hlr : ltr ys.length = 82 := by first | rfl | (unfold ltr; rw [if_pos hev])
        have hrr : ((ys.length : Int) % 2 == 1) = false := by first | (rw [show (ys.length : Int) % 2 = 0 by omega]; rfl) | rfl
        have hrr2 : ((ys.length : Int).tmod 2 == 1) = false := by first | (rw [Int.tmod_eq_emod_of_nonneg (by omega), show (ys.length : Int) % 2 = 0 by omega]; rfl) | rfl
        have HS2 := hid HSTEP.out
        rw [hlr] at HS2
        generalize numS (x.extract 1 x.size).data.toList = r at *
        obtain ⟨n, rb⟩ := r
        dsimp only at N HS2
        go_wp2_with (fail)
        refine (N.out _).mono ?_
        rintro e w2 ⟨rfl, b2⟩
        have E2 := hid (HBEL.out.trans (b2.mono hbx))
        have O2 := hid (HOWN.out.kept (below_grows b2) (Classical.em _))
        have HP2 := hid (show PR w2 g1 ps ∧ g1 < w2.heap.size from ⟨pr_below HPW.out.1 b2, Nat.lt_of_lt_of_le HPW.out.2 b2.size⟩)
        have cz2 := HP2.out.1 k x HXK.out
        have hb2 : w.heap.size ≤ w2.heap.size := E2.out.size
        clear b2 N
        by_cases hg : x[0]'hx0 = 82 ∧ rb = true ∧ n ≠ 0
        case pos =>
          obtain ⟨hg1, hg2, hg3⟩ := hg
          subst hg2
          have d1 : (((x[0]'hx0).toNat : Int) != 82) = false := by rw [hg1]; rfl
          have d2 : (n == 0) = false := by simpa using hg3
          have HN := hid (show rpM (st0 s.data.toList) ((splitB 32 s.data.toList).take (k + 1)) = some (ys ++ [n]) by rw [HS2.out, if_pos ⟨hg1, rfl, hg3⟩])
          clear hg1 hg3 HS2 HSTEP
          go_wp2_with (at_builtin; refine Go.wpList_append_own_at _ rfl _ _ 44 rfl w.heap.size 2 i0 (.int .i64 0) 1 8 Tryd.underlying44 hi hz0 hz1 hz2 rfl (by decide) _ ys.length (intCells ys) (by rfl) ?c0z1 ⟨w2.heap.size, 0, none⟩ 1 1 [.int .i64 n] (by rfl) ?c1z1 ?c2z1 ?c3z1 ?c4z1 ?c5z1 ?c6z1 ?c7z1)
          case c0z1 => exact O2.out.alloc _
          case c1z1 => rfl
          case c2z1 => exact news_one _ _ _
          case c3z1 => intro u hu; obtain rfl := List.mem_singleton.1 hu; rfl
          case c4z1 => unfold maxLen; omega
          case c5z1 => omega
          case c6z1 => (first | omega | (simp <;> omega))
          intro v2 w3 hown2 hgrow2 _ hat
          have HO2 := hid (show w3.ownsRow w.heap.size 2 1 v2 (ys ++ [n]).length (intCells (ys ++ [n])) by
            rw [← intCells_more, List.length_append]; exact hown2)
          have E3 := hid ((E2.out.alloc hb2 (.cells #[.int .i64 n] 2)).grown hgrow2 (by first | omega | (simp <;> omega)) (fun k hk => (O2.out.lt k hk).1))
          have HP3 := hid (show PR w3 g1 ps ∧ g1 < w3.heap.size ∧ ∀ g, v2.ownBlock = some g → g ≠ g1 from by
            have A9 : Below w2.heap.size w2 (w2.alloc (.cells #[.int .i64 n] 2)) := (Below.refl _ _).alloc (Nat.le_refl _) _
            have hq9 : g1 < (w2.alloc (.cells #[.int .i64 n] 2)).heap.size := Nat.lt_of_lt_of_le HP2.out.2 A9.size
            refine ⟨pr_grown (pr_below HP2.out.1 A9) hq9 hgrow2 HNQ.out, Nat.lt_of_lt_of_le hq9 hgrow2.size, fun g hg => ?_⟩
            rcases hat with h9 | h9
            · exact HNQ.out g (h9.symm.trans hg)
            · rw [h9] at hg
              injection hg with hg
              have h10 : g1 < g := by rw [← hg]; have := HP2.out.2; omega
              omega)
          have HL3 := hid (show (ys ++ [n]).length ≤ k + 1 + 1 by have := HZL.out; first | (simp; omega) | (simp; done))
          obtain ⟨us, hus⟩ : ∃ us, us = ys ++ [n] := ⟨_, rfl⟩
          rw [← hus] at HO2 HL3 HN
          clear hown2 hgrow2 hus hat
          go_wp2_with (fail)
          go_roundw
          case rel => exact ⟨k + 1, us, by go_num, by omega, HL3.out, HO2.out, hid (.inr ⟨by omega, HN.out⟩), E3.out, HP3⟩
          case measure => simp [RowKit.intOf]; omega
        have HR := hid (rz_fail (k := k + 1) HT.out (by rw [HS2.out, if_neg hg]))
        clear HS2 HSTEP
        cases rb
        · skip
          go_wp2_with (fail)
          go_ret2
          exact ⟨⟨_, by rw [HR.out]; rfl, by rw [HR.out]; exact .inl ⟨rfl, rfl⟩⟩, E2.out⟩
        · skip
          by_cases hn : n = 0
          · have d2 : (n == 0) = true := by simpa using hn
            go_wp2_with (fail)
            go_ret2
            exact ⟨⟨_, by rw [HR.out]; rfl, by rw [HR.out]; exact .inl ⟨rfl, rfl⟩⟩, E2.out⟩
          · have d2 : (n == 0) = false := by simpa using hn
            have d1 : (((x[0]'hx0).toNat : Int) != 82) = true := by
              rw [bne_iff_ne]; intro e
              exact hg ⟨UInt8.toNat_inj.1 (by show _ = 82; omega), rfl, hn⟩
            go_wp2_with (fail)
            go_ret2
            exact ⟨⟨_, by rw [HR.out]; rfl, by rw [HR.out]; exact .inl ⟨rfl, rfl⟩⟩, E2.out⟩
      · skip
        have hlr : ltr ys.length = 76 := by first | rfl | (unfold ltr; rw [if_neg hev])
        have hrr : ((ys.length : Int) % 2 == 1) = true := by first | (rw [show (ys.length : Int) % 2 = 1 by omega]; rfl) | rfl
        have hrr2 : ((ys.length : Int).tmod 2 == 1) = true := by first | (rw [Int.tmod_eq_emod_of_nonneg (by omega), show (ys.length : Int) % 2 = 1 by omega]; rfl) | rfl
        have HS2 := hid HSTEP.out
        rw [hlr] at HS2
        generalize numS (x.extract 1 x.size).data.toList = r at *
        obtain ⟨n, rb⟩ := r
        dsimp only at N HS2
        go_wp2_with (fail)
        refine (N.out _).mono ?_
        rintro e w2 ⟨rfl, b2⟩
        have E2 := hid (HBEL.out.trans (b2.mono hbx))
        have O2 := hid (HOWN.out.kept (below_grows b2) (Classical.em _))
        have HP2 := hid (show PR w2 g1 ps ∧ g1 < w2.heap.size from ⟨pr_below HPW.out.1 b2, Nat.lt_of_lt_of_le HPW.out.2 b2.size⟩)
        have cz2 := HP2.out.1 k x HXK.out
        have hb2 : w.heap.size ≤ w2.heap.size := E2.out.size
        clear b2 N
        by_cases hg : x[0]'hx0 = 76 ∧ rb = true ∧ n ≠ 0
        case pos =>
          obtain ⟨hg1, hg2, hg3⟩ := hg
          subst hg2
          have d1 : (((x[0]'hx0).toNat : Int) != 76) = false := by rw [hg1]; rfl
          have d2 : (n == 0) = false := by simpa using hg3
          have HN := hid (show rpM (st0 s.data.toList) ((splitB 32 s.data.toList).take (k + 1)) = some (ys ++ [n]) by rw [HS2.out, if_pos ⟨hg1, rfl, hg3⟩])
          clear hg1 hg3 HS2 HSTEP
          go_wp2_with (at_builtin; refine Go.wpList_append_own_at _ rfl _ _ 44 rfl w.heap.size 2 i0 (.int .i64 0) 1 8 Tryd.underlying44 hi hz0 hz1 hz2 rfl (by decide) _ ys.length (intCells ys) (by rfl) ?c0z2 ⟨w2.heap.size, 0, none⟩ 1 1 [.int .i64 n] (by rfl) ?c1z2 ?c2z2 ?c3z2 ?c4z2 ?c5z2 ?c6z2 ?c7z2)
          case c0z2 => exact O2.out.alloc _
          case c1z2 => rfl
          case c2z2 => exact news_one _ _ _
          case c3z2 => intro u hu; obtain rfl := List.mem_singleton.1 hu; rfl
          case c4z2 => unfold maxLen; omega
          case c5z2 => omega
          case c6z2 => (first | omega | (simp <;> omega))
          intro v2 w3 hown2 hgrow2 _ hat
          have HO2 := hid (show w3.ownsRow w.heap.size 2 1 v2 (ys ++ [n]).length (intCells (ys ++ [n])) by
            rw [← intCells_more, List.length_append]; exact hown2)
          have E3 := hid ((E2.out.alloc hb2 (.cells #[.int .i64 n] 2)).grown hgrow2 (by first | omega | (simp <;> omega)) (fun k hk => (O2.out.lt k hk).1))
          have HP3 := hid (show PR w3 g1 ps ∧ g1 < w3.heap.size ∧ ∀ g, v2.ownBlock = some g → g ≠ g1 from by
            have A9 : Below w2.heap.size w2 (w2.alloc (.cells #[.int .i64 n] 2)) := (Below.refl _ _).alloc (Nat.le_refl _) _
            have hq9 : g1 < (w2.alloc (.cells #[.int .i64 n] 2)).heap.size := Nat.lt_of_lt_of_le HP2.out.2 A9.size
            refine ⟨pr_grown (pr_below HP2.out.1 A9) hq9 hgrow2 HNQ.out, Nat.lt_of_lt_of_le hq9 hgrow2.size, fun g hg => ?_⟩
            rcases hat with h9 | h9
            · exact HNQ.out g (h9.symm.trans hg)
            · rw [h9] at hg
              injection hg with hg
              have h10 : g1 < g := by rw [← hg]; have := HP2.out.2; omega
              omega)
          have HL3 := hid (show (ys ++ [n]).length ≤ k + 1 + 1 by have := HZL.out; first | (simp; omega) | (simp; done))
          obtain ⟨us, hus⟩ : ∃ us, us = ys ++ [n] := ⟨_, rfl⟩
          rw [← hus] at HO2 HL3 HN
          clear hown2 hgrow2 hus hat
          go_wp2_with (fail)
          go_roundw
          case rel => exact ⟨k + 1, us, by go_num, by omega, HL3.out, HO2.out, hid (.inr ⟨by omega, HN.out⟩), E3.out, HP3⟩
          case measure => simp [RowKit.intOf]; omega
        have HR := hid (rz_fail (k := k + 1) HT.out (by rw [HS2.out, if_neg hg]))
        clear HS2 HSTEP
        cases rb
        · skip
          go_wp2_with (fail)
          go_ret2
          exact ⟨⟨_, by rw [HR.out]; rfl, by rw [HR.out]; exact .inl ⟨rfl, rfl⟩⟩, E2.out⟩
        · skip
          by_cases hn : n = 0
          · have d2 : (n == 0) = true := by simpa using hn
            go_wp2_with (fail)
            go_ret2
            exact ⟨⟨_, by rw [HR.out]; rfl, by rw [HR.out]; exact .inl ⟨rfl, rfl⟩⟩, E2.out⟩
          · have d2 : (n == 0) = false := by simpa using hn
            have d1 : (((x[0]'hx0).toNat : Int) != 76) = true := by
              rw [bne_iff_ne]; intro e
              exact hg ⟨UInt8.toNat_inj.1 (by show _ = 76; omega), rfl, hn⟩
            go_wp2_with (fail)
            go_ret2
            exact ⟨⟨_, by rw [HR.out]; rfl, by rw [HR.out]; exact .inl ⟨rfl, rfl⟩⟩, E2.out⟩
    have hz1' : ((k : Int) == 0) = true := by rw [hz]; rfl
    have hys : ys = [] := by
      rcases HRD.out with ⟨_, h⟩ | ⟨h, _⟩
      · exact h
      · omega
    have HST := hid (show st0 s.data.toList = if x[0]'hx0 = 76 then [0] else [] from st0_head (by have h := HPK.out; rw [hz] at h; exact h) HHD.out)
    have HK0 := hid hz
    subst hys
    clear HRD hz
    by_cases h7 : x[0]'hx0 = 76
    case neg =>
      have d7 : (((x[0]'hx0).toNat : Int) == 76) = false := by
        rw [beq_eq_false_iff_ne]; intro e; exact h7 (UInt8.toNat_inj.1 (by show _ = 76; omega))
      have HZ := hid (show rpM (st0 s.data.toList) ((splitB 32 s.data.toList).take k) = some [] from by rw [HK0.out, List.take_zero, HST.out, if_neg h7]; rfl)
      have HZL := hid HYK.out
      clear HST h7
      have HSTEP := hid ((rm_step HPK.out HZ.out).trans (by rw [HHD.out, rpM_one]))
      have hbx : w.heap.size ≤ (wr).heap.size := HBEL.out.size
      have cz := HPW.out.1 k x HXK.out
      have hzl6 : ([] : List Int).length ≤ 1048579 := by have := HZL.out; omega
      have hev : ([] : List Int).length % 2 = 0 := rfl
      have hlr : ltr ([] : List Int).length = 82 := by first | rfl | (unfold ltr; rw [if_pos hev])
      have hrr : ((([] : List Int).length : Int) % 2 == 1) = false := by first | (rw [show (([] : List Int).length : Int) % 2 = 0 by omega]; rfl) | rfl
      have hrr2 : ((([] : List Int).length : Int).tmod 2 == 1) = false := by first | (rw [Int.tmod_eq_emod_of_nonneg (by omega), show (([] : List Int).length : Int) % 2 = 0 by omega]; rfl) | rfl
      have HS2 := hid HSTEP.out
      rw [hlr] at HS2
      generalize numS (x.extract 1 x.size).data.toList = r at *
      obtain ⟨n, rb⟩ := r
      dsimp only at N HS2
      go_wp2_with (fail)
      refine (N.out _).mono ?_
      rintro e w2 ⟨rfl, b2⟩
      have E2 := hid (HBEL.out.trans (b2.mono hbx))
      have O2 := hid (HOWN.out.kept (below_grows b2) (Classical.em _))
      have HP2 := hid (show PR w2 g1 ps ∧ g1 < w2.heap.size from ⟨pr_below HPW.out.1 b2, Nat.lt_of_lt_of_le HPW.out.2 b2.size⟩)
      have cz2 := HP2.out.1 k x HXK.out
      have hb2 : w.heap.size ≤ w2.heap.size := E2.out.size
      clear b2 N
      by_cases hg : x[0]'hx0 = 82 ∧ rb = true ∧ n ≠ 0
      case pos =>
        obtain ⟨hg1, hg2, hg3⟩ := hg
        subst hg2
        have d1 : (((x[0]'hx0).toNat : Int) != 82) = false := by rw [hg1]; rfl
        have d2 : (n == 0) = false := by simpa using hg3
        have HN := hid (show rpM (st0 s.data.toList) ((splitB 32 s.data.toList).take (k + 1)) = some (([] : List Int) ++ [n]) by rw [HS2.out, if_pos ⟨hg1, rfl, hg3⟩])
        clear hg1 hg3 HS2 HSTEP
        go_wp2_with (at_builtin; refine Go.wpList_append_own_at _ rfl _ _ 44 rfl w.heap.size 2 i0 (.int .i64 0) 1 8 Tryd.underlying44 hi hz0 hz1 hz2 rfl (by decide) _ ([] : List Int).length (intCells ([] : List Int)) (by rfl) ?c0z3 ⟨w2.heap.size, 0, none⟩ 1 1 [.int .i64 n] (by rfl) ?c1z3 ?c2z3 ?c3z3 ?c4z3 ?c5z3 ?c6z3 ?c7z3)
        case c0z3 => exact O2.out.alloc _
        case c1z3 => rfl
        case c2z3 => exact news_one _ _ _
        case c3z3 => intro u hu; obtain rfl := List.mem_singleton.1 hu; rfl
        case c4z3 => unfold maxLen; omega
        case c5z3 => omega
        case c6z3 => (first | omega | (simp <;> omega))
        intro v2 w3 hown2 hgrow2 _ hat
        have HO2 := hid (show w3.ownsRow w.heap.size 2 1 v2 (([] : List Int) ++ [n]).length (intCells (([] : List Int) ++ [n])) by
          rw [← intCells_more, List.length_append]; exact hown2)
        have E3 := hid ((E2.out.alloc hb2 (.cells #[.int .i64 n] 2)).grown hgrow2 (by first | omega | (simp <;> omega)) (fun k hk => (O2.out.lt k hk).1))
        have HP3 := hid (show PR w3 g1 ps ∧ g1 < w3.heap.size ∧ ∀ g, v2.ownBlock = some g → g ≠ g1 from by
          have A9 : Below w2.heap.size w2 (w2.alloc (.cells #[.int .i64 n] 2)) := (Below.refl _ _).alloc (Nat.le_refl _) _
          have hq9 : g1 < (w2.alloc (.cells #[.int .i64 n] 2)).heap.size := Nat.lt_of_lt_of_le HP2.out.2 A9.size
          refine ⟨pr_grown (pr_below HP2.out.1 A9) hq9 hgrow2 HNQ.out, Nat.lt_of_lt_of_le hq9 hgrow2.size, fun g hg => ?_⟩
          rcases hat with h9 | h9
          · exact HNQ.out g (h9.symm.trans hg)
          · rw [h9] at hg
            injection hg with hg
            have h10 : g1 < g := by rw [← hg]; have := HP2.out.2; omega
            omega)
        have HL3 := hid (show (([] : List Int) ++ [n]).length ≤ k + 1 + 1 by have := HZL.out; first | (simp; omega) | (simp; done))
        obtain ⟨us, hus⟩ : ∃ us, us = ([] : List Int) ++ [n] := ⟨_, rfl⟩
        rw [← hus] at HO2 HL3 HN
        clear hown2 hgrow2 hus hat
        go_wp2_with (fail)
        go_roundw
        case rel => exact ⟨k + 1, us, by go_num, by omega, HL3.out, HO2.out, hid (.inr ⟨by omega, HN.out⟩), E3.out, HP3⟩
        case measure => simp [RowKit.intOf]; omega
      have HR := hid (rz_fail (k := k + 1) HT.out (by rw [HS2.out, if_neg hg]))
      clear HS2 HSTEP
      cases rb
      · skip
        go_wp2_with (fail)
        go_ret2
        exact ⟨⟨_, by rw [HR.out]; rfl, by rw [HR.out]; exact .inl ⟨rfl, rfl⟩⟩, E2.out⟩
      · skip
        by_cases hn : n = 0
        · have d2 : (n == 0) = true := by simpa using hn
          go_wp2_with (fail)
          go_ret2
          exact ⟨⟨_, by rw [HR.out]; rfl, by rw [HR.out]; exact .inl ⟨rfl, rfl⟩⟩, E2.out⟩
        · have d2 : (n == 0) = false := by simpa using hn
          have d1 : (((x[0]'hx0).toNat : Int) != 82) = true := by
            rw [bne_iff_ne]; intro e
            exact hg ⟨UInt8.toNat_inj.1 (by show _ = 82; omega), rfl, hn⟩
          go_wp2_with (fail)
          go_ret2
          exact ⟨⟨_, by rw [HR.out]; rfl, by rw [HR.out]; exact .inl ⟨rfl, rfl⟩⟩, E2.out⟩
    have d7 : (((x[0]'hx0).toNat : Int) == 76) = true := by rw [h7]; rfl
    have HZ := hid (show rpM (st0 s.data.toList) ((splitB 32 s.data.toList).take k) = some [0] from by rw [HK0.out, List.take_zero, HST.out, if_pos h7]; rfl)
    have HZL := hid (show ([0] : List Int).length ≤ k + 1 by simp)
    clear HST h7
    go_wp2_with (at_builtin; refine Go.wpList_append_own_at _ rfl _ _ 44 rfl w.heap.size 2 i0 (.int .i64 0) 1 8 Tryd.underlying44 hi hz0 hz1 hz2 rfl (by decide) _ 0 (intCells []) (by rfl) ?d0 ⟨wr.heap.size, 0, none⟩ 1 1 [.int .i64 0] (by rfl) ?d1 ?d2 ?d3 ?d4 ?d5 ?d6 ?d7)
    case d0 => exact HOWN.out.alloc _
    try (case d1 => rfl)
    try (case d2 => exact news_one _ _ _)
    try (case d3 => first | rfl | (intro u hu; obtain rfl := List.mem_singleton.1 hu; rfl))
    try (case d4 => unfold maxLen; omega)
    try (case d5 => omega)
    try (case d6 => (first | omega | (simp <;> omega)))
    intro v0 w0 hown0 hgrow0 _ hat0
    have EG := hid ((HBEL.out.alloc hbw (.cells #[.int .i64 0] 2)).grown hgrow0 (by first | omega | (simp <;> omega)) (fun k hk => (HOWN.out.lt k hk).1))
    have OG := hid (show w0.ownsRow w.heap.size 2 1 v0 ([0] : List Int).length (intCells [0]) from hown0)
    have HG := hid (show (PR w0 g1 ps ∧ g1 < w0.heap.size) ∧ ∀ g, v0.ownBlock = some g → g ≠ g1 from by
      have A9 : Below wr.heap.size wr (wr.alloc (.cells #[.int .i64 0] 2)) := (Below.refl _ _).alloc (Nat.le_refl _) _
      have hq9 : g1 < (wr.alloc (.cells #[.int .i64 0] 2)).heap.size := Nat.lt_of_lt_of_le HPW.out.2 A9.size
      refine ⟨⟨pr_grown (pr_below HPW.out.1 A9) hq9 hgrow0 HNQ.out, Nat.lt_of_lt_of_le hq9 hgrow0.size⟩, fun g hg => ?_⟩
      rcases hat0 with h9 | h9
      · exact HNQ.out g (h9.symm.trans hg)
      · rw [h9] at hg
        injection hg with hg
        have h10 : g1 < g := by rw [← hg]; have := HPW.out.2; omega
        omega)
    have HGP := hid HG.out.1
    have HGN := hid HG.out.2
    obtain ⟨zz, hzz⟩ : ∃ zz : List Int, zz = [0] := ⟨_, rfl⟩
    rw [← hzz] at HZ HZL OG
    clear hown0 hgrow0 hat0 HG hzz
    obtain ⟨ga, gc, rfl⟩ := row_shape OG.out
    have HSTEP := hid ((rm_step HPK.out HZ.out).trans (by rw [HHD.out, rpM_one]))
    have hbx : w.heap.size ≤ (w0).heap.size := EG.out.size
    have cz := HGP.out.1 k x HXK.out
    have hzl6 : zz.length ≤ 1048579 := by have := HZL.out; omega
    by_cases hev : zz.length % 2 = 0
    · skip
      have hlr : ltr zz.length = 82 := by first | rfl | (unfold ltr; rw [if_pos hev])
      have hrr : ((zz.length : Int) % 2 == 1) = false := by first | (rw [show (zz.length : Int) % 2 = 0 by omega]; rfl) | rfl
      have hrr2 : ((zz.length : Int).tmod 2 == 1) = false := by first | (rw [Int.tmod_eq_emod_of_nonneg (by omega), show (zz.length : Int) % 2 = 0 by omega]; rfl) | rfl
      have HS2 := hid HSTEP.out
      rw [hlr] at HS2
      generalize numS (x.extract 1 x.size).data.toList = r at *
      obtain ⟨n, rb⟩ := r
      dsimp only at N HS2
      go_wp2_with (fail)
      refine (N.out _).mono ?_
      rintro e w2 ⟨rfl, b2⟩
      have E2 := hid (EG.out.trans (b2.mono hbx))
      have O2 := hid (OG.out.kept (below_grows b2) (Classical.em _))
      have HP2 := hid (show PR w2 g1 ps ∧ g1 < w2.heap.size from ⟨pr_below HGP.out.1 b2, Nat.lt_of_lt_of_le HGP.out.2 b2.size⟩)
      have cz2 := HP2.out.1 k x HXK.out
      have hb2 : w.heap.size ≤ w2.heap.size := E2.out.size
      clear b2 N
      by_cases hg : x[0]'hx0 = 82 ∧ rb = true ∧ n ≠ 0
      case pos =>
        obtain ⟨hg1, hg2, hg3⟩ := hg
        subst hg2
        have d1 : (((x[0]'hx0).toNat : Int) != 82) = false := by rw [hg1]; rfl
        have d2 : (n == 0) = false := by simpa using hg3
        have HN := hid (show rpM (st0 s.data.toList) ((splitB 32 s.data.toList).take (k + 1)) = some (zz ++ [n]) by rw [HS2.out, if_pos ⟨hg1, rfl, hg3⟩])
        clear hg1 hg3 HS2 HSTEP
        go_wp2_with (at_builtin; refine Go.wpList_append_own_at _ rfl _ _ 44 rfl w.heap.size 2 i0 (.int .i64 0) 1 8 Tryd.underlying44 hi hz0 hz1 hz2 rfl (by decide) _ zz.length (intCells zz) (by rfl) ?c0z4 ⟨w2.heap.size, 0, none⟩ 1 1 [.int .i64 n] (by rfl) ?c1z4 ?c2z4 ?c3z4 ?c4z4 ?c5z4 ?c6z4 ?c7z4)
        case c0z4 => exact O2.out.alloc _
        case c1z4 => rfl
        case c2z4 => exact news_one _ _ _
        case c3z4 => intro u hu; obtain rfl := List.mem_singleton.1 hu; rfl
        case c4z4 => unfold maxLen; omega
        case c5z4 => omega
        case c6z4 => (first | omega | (simp <;> omega))
        intro v2 w3 hown2 hgrow2 _ hat
        have HO2 := hid (show w3.ownsRow w.heap.size 2 1 v2 (zz ++ [n]).length (intCells (zz ++ [n])) by
          rw [← intCells_more, List.length_append]; exact hown2)
        have E3 := hid ((E2.out.alloc hb2 (.cells #[.int .i64 n] 2)).grown hgrow2 (by first | omega | (simp <;> omega)) (fun k hk => (O2.out.lt k hk).1))
        have HP3 := hid (show PR w3 g1 ps ∧ g1 < w3.heap.size ∧ ∀ g, v2.ownBlock = some g → g ≠ g1 from by
          have A9 : Below w2.heap.size w2 (w2.alloc (.cells #[.int .i64 n] 2)) := (Below.refl _ _).alloc (Nat.le_refl _) _
          have hq9 : g1 < (w2.alloc (.cells #[.int .i64 n] 2)).heap.size := Nat.lt_of_lt_of_le HP2.out.2 A9.size
          refine ⟨pr_grown (pr_below HP2.out.1 A9) hq9 hgrow2 HGN.out, Nat.lt_of_lt_of_le hq9 hgrow2.size, fun g hg => ?_⟩
          rcases hat with h9 | h9
          · exact HGN.out g (h9.symm.trans hg)
          · rw [h9] at hg
            injection hg with hg
            have h10 : g1 < g := by rw [← hg]; have := HP2.out.2; omega
            omega)
        have HL3 := hid (show (zz ++ [n]).length ≤ k + 1 + 1 by have := HZL.out; first | (simp; omega) | (simp; done))
        obtain ⟨us, hus⟩ : ∃ us, us = zz ++ [n] := ⟨_, rfl⟩
        rw [← hus] at HO2 HL3 HN
        clear hown2 hgrow2 hus hat
        go_wp2_with (fail)
        go_roundw
        case rel => exact ⟨k + 1, us, by go_num, by omega, HL3.out, HO2.out, hid (.inr ⟨by omega, HN.out⟩), E3.out, HP3⟩
        case measure => simp [RowKit.intOf]; omega
      have HR := hid (rz_fail (k := k + 1) HT.out (by rw [HS2.out, if_neg hg]))
      clear HS2 HSTEP
      cases rb
      · skip
        go_wp2_with (fail)
        go_ret2
        exact ⟨⟨_, by rw [HR.out]; rfl, by rw [HR.out]; exact .inl ⟨rfl, rfl⟩⟩, E2.out⟩
      · skip
        by_cases hn : n = 0
        · have d2 : (n == 0) = true := by simpa using hn
          go_wp2_with (fail)
          go_ret2
          exact ⟨⟨_, by rw [HR.out]; rfl, by rw [HR.out]; exact .inl ⟨rfl, rfl⟩⟩, E2.out⟩
        · have d2 : (n == 0) = false := by simpa using hn
          have d1 : (((x[0]'hx0).toNat : Int) != 82) = true := by
            rw [bne_iff_ne]; intro e
            exact hg ⟨UInt8.toNat_inj.1 (by show _ = 82; omega), rfl, hn⟩
          go_wp2_with (fail)
          go_ret2
          exact ⟨⟨_, by rw [HR.out]; rfl, by rw [HR.out]; exact .inl ⟨rfl, rfl⟩⟩, E2.out⟩
    · skip
      have hlr : ltr zz.length = 76 := by first | rfl | (unfold ltr; rw [if_neg hev])
      have hrr : ((zz.length : Int) % 2 == 1) = true := by first | (rw [show (zz.length : Int) % 2 = 1 by omega]; rfl) | rfl
      have hrr2 : ((zz.length : Int).tmod 2 == 1) = true := by first | (rw [Int.tmod_eq_emod_of_nonneg (by omega), show (zz.length : Int) % 2 = 1 by omega]; rfl) | rfl
      have HS2 := hid HSTEP.out
      rw [hlr] at HS2
      generalize numS (x.extract 1 x.size).data.toList = r at *
      obtain ⟨n, rb⟩ := r
      dsimp only at N HS2
      go_wp2_with (fail)
      refine (N.out _).mono ?_
      rintro e w2 ⟨rfl, b2⟩
      have E2 := hid (EG.out.trans (b2.mono hbx))
      have O2 := hid (OG.out.kept (below_grows b2) (Classical.em _))
      have HP2 := hid (show PR w2 g1 ps ∧ g1 < w2.heap.size from ⟨pr_below HGP.out.1 b2, Nat.lt_of_lt_of_le HGP.out.2 b2.size⟩)
      have cz2 := HP2.out.1 k x HXK.out
      have hb2 : w.heap.size ≤ w2.heap.size := E2.out.size
      clear b2 N
      by_cases hg : x[0]'hx0 = 76 ∧ rb = true ∧ n ≠ 0
      case pos =>
        obtain ⟨hg1, hg2, hg3⟩ := hg
        subst hg2
        have d1 : (((x[0]'hx0).toNat : Int) != 76) = false := by rw [hg1]; rfl
        have d2 : (n == 0) = false := by simpa using hg3
        have HN := hid (show rpM (st0 s.data.toList) ((splitB 32 s.data.toList).take (k + 1)) = some (zz ++ [n]) by rw [HS2.out, if_pos ⟨hg1, rfl, hg3⟩])
        clear hg1 hg3 HS2 HSTEP
        go_wp2_with (at_builtin; refine Go.wpList_append_own_at _ rfl _ _ 44 rfl w.heap.size 2 i0 (.int .i64 0) 1 8 Tryd.underlying44 hi hz0 hz1 hz2 rfl (by decide) _ zz.length (intCells zz) (by rfl) ?c0z5 ⟨w2.heap.size, 0, none⟩ 1 1 [.int .i64 n] (by rfl) ?c1z5 ?c2z5 ?c3z5 ?c4z5 ?c5z5 ?c6z5 ?c7z5)
        case c0z5 => exact O2.out.alloc _
        case c1z5 => rfl
        case c2z5 => exact news_one _ _ _
        case c3z5 => intro u hu; obtain rfl := List.mem_singleton.1 hu; rfl
        case c4z5 => unfold maxLen; omega
        case c5z5 => omega
        case c6z5 => (first | omega | (simp <;> omega))
        intro v2 w3 hown2 hgrow2 _ hat
        have HO2 := hid (show w3.ownsRow w.heap.size 2 1 v2 (zz ++ [n]).length (intCells (zz ++ [n])) by
          rw [← intCells_more, List.length_append]; exact hown2)
        have E3 := hid ((E2.out.alloc hb2 (.cells #[.int .i64 n] 2)).grown hgrow2 (by first | omega | (simp <;> omega)) (fun k hk => (O2.out.lt k hk).1))
        have HP3 := hid (show PR w3 g1 ps ∧ g1 < w3.heap.size ∧ ∀ g, v2.ownBlock = some g → g ≠ g1 from by
          have A9 : Below w2.heap.size w2 (w2.alloc (.cells #[.int .i64 n] 2)) := (Below.refl _ _).alloc (Nat.le_refl _) _
          have hq9 : g1 < (w2.alloc (.cells #[.int .i64 n] 2)).heap.size := Nat.lt_of_lt_of_le HP2.out.2 A9.size
          refine ⟨pr_grown (pr_below HP2.out.1 A9) hq9 hgrow2 HGN.out, Nat.lt_of_lt_of_le hq9 hgrow2.size, fun g hg => ?_⟩
          rcases hat with h9 | h9
          · exact HGN.out g (h9.symm.trans hg)
          · rw [h9] at hg
            injection hg with hg
            have h10 : g1 < g := by rw [← hg]; have := HP2.out.2; omega
            omega)
        have HL3 := hid (show (zz ++ [n]).length ≤ k + 1 + 1 by have := HZL.out; first | (simp; omega) | (simp; done))
        obtain ⟨us, hus⟩ : ∃ us, us = zz ++ [n] := ⟨_, rfl⟩
        rw [← hus] at HO2 HL3 HN
        clear hown2 hgrow2 hus hat
        go_wp2_with (fail)
        go_roundw
        case rel => exact ⟨k + 1, us, by go_num, by omega, HL3.out, HO2.out, hid (.inr ⟨by omega, HN.out⟩), E3.out, HP3⟩
        case measure => simp [RowKit.intOf]; omega
      have HR := hid (rz_fail (k := k + 1) HT.out (by rw [HS2.out, if_neg hg]))
      clear HS2 HSTEP
      cases rb
      · skip
        go_wp2_with (fail)
        go_ret2
        exact ⟨⟨_, by rw [HR.out]; rfl, by rw [HR.out]; exact .inl ⟨rfl, rfl⟩⟩, E2.out⟩
      · skip
        by_cases hn : n = 0
        · have d2 : (n == 0) = true := by simpa using hn
          go_wp2_with (fail)
          go_ret2
          exact ⟨⟨_, by rw [HR.out]; rfl, by rw [HR.out]; exact .inl ⟨rfl, rfl⟩⟩, E2.out⟩
        · have d2 : (n == 0) = false := by simpa using hn
          have d1 : (((x[0]'hx0).toNat : Int) != 76) = true := by
            rw [bne_iff_ne]; intro e
            exact hg ⟨UInt8.toNat_inj.1 (by show _ = 76; omega), rfl, hn⟩
          go_wp2_with (fail)
          go_ret2
          exact ⟨⟨_, by rw [HR.out]; rfl, by rw [HR.out]; exact .inl ⟨rfl, rfl⟩⟩, E2.out⟩

end Go.Proofs.YtjijabfamjhdjaaDoor
