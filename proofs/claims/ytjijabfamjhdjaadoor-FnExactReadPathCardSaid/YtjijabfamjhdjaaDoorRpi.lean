/- Contract: a path is read by the program. -/
import Derived.Test.YtjijabfamjhdjaaDoorRpm
import Derived.Test.YtjijabfamjhdjaaDoorPti
import Derived.Maps.AppendAt
import Derived.RangeFuncRecord
namespace Go.Proofs.YtjijabfamjhdjaaDoor
open Go.RowKit Go.Lib

def BoolP (B : Nat) (r : List Int × Bool) (e : Ending) (w' : World) : Prop := ∃ v, e = .returned (.tuple #[v, .bool r.2]) ∧ Back B w' v r.1
def rpV (l : List UInt8) : List Int × Bool := match rpS (st0 l) (splitB 32 l) with | some ys => (ys, true) | none => ([], false)
theorem rpV_some {l : List UInt8} {ys : List Int} (h : rpS (st0 l) (splitB 32 l) = some ys) : rpV l = (ys, true) := by unfold rpV; rw [h]
theorem rpV_none {l : List UInt8} (h : rpS (st0 l) (splitB 32 l) = none) : rpV l = ([], false) := by unfold rpV; rw [h]
theorem rpS_app : ∀ (a : List (List UInt8)) (acc : List Int) (b : List (List UInt8)), rpS acc (a ++ b) = (rpS acc a).bind fun y => rpS y b
  | [], _, _ => rfl
  | [] :: _, _, _ => rfl
  | (c :: t) :: r, acc, b => by
    rw [List.cons_append, rpS_cons, rpS_cons]
    by_cases hc : c = ltr acc.length ∧ (numS t).2 = true
    · rw [if_pos hc, if_pos hc]; exact rpS_app r _ b
    · rw [if_neg hc, if_neg hc]; rfl
theorem rp_one {ys : List Int} {p : List UInt8} : rpS ys [p] = if hasPrefix p [ltr ys.length] = true ∧ (numS (trimPrefix p [ltr ys.length])).2 = true then some (ys ++ [(numS (trimPrefix p [ltr ys.length])).1]) else none := by
  cases h : hasPrefix p [ltr ys.length]
  · rw [if_neg (fun e => by cases e.1)]
    cases p with
    | nil => rfl
    | cons c t => rw [rpS_cons, if_neg (fun e => (pfx_not h).2 c t rfl e.1)]
  · obtain ⟨m, rfl, hm⟩ := pfx_form h
    rw [hm, rpS_cons]
    by_cases h2 : (numS m).2 = true
    · rw [if_pos ⟨rfl, h2⟩, if_pos ⟨rfl, h2⟩]; rfl
    · rw [if_neg (fun e => h2 e.2), if_neg (fun e => h2 e.2)]
theorem rp_step {ps : List (List UInt8)} {k : Nat} {p : List UInt8} {acc ys : List Int} (hp : ps[k]? = some p) (h : rpS acc (ps.take k) = some ys) : rpS acc (ps.take (k + 1)) = rpS ys [p] := by
  rw [List.take_add_one, hp, rpS_app, h]; rfl
theorem rp_fail {ps : List (List UInt8)} {k : Nat} {acc : List Int} (h : rpS acc (ps.take k) = none) : rpS acc ps = none := by
  rw [← List.take_append_drop k ps, rpS_app, h]; rfl
theorem rp_go {ps : List ByteArray} {l : List UInt8} {k : Nat} {x : ByteArray} {ys : List Int} (hp : ps.map (·.data.toList) = splitB 32 l) (hx : ps[k]? = some x) (h : rpS (st0 l) ((splitB 32 l).take k) = some ys) :
    (trimPrefix x.data.toList [ltr ys.length]).length ≤ l.length ∧ (hasPrefix x.data.toList [ltr ys.length] = false ∨ (numS (trimPrefix x.data.toList [ltr ys.length])).2 = false → rpV l = ([], false)) ∧
    (hasPrefix x.data.toList [ltr ys.length] = true → (numS (trimPrefix x.data.toList [ltr ys.length])).2 = true → rpS (st0 l) ((splitB 32 l).take (k + 1)) = some (ys ++ [(numS (trimPrefix x.data.toList [ltr ys.length])).1])) := by
  have hk : (splitB 32 l)[k]? = some x.data.toList := by rw [← hp, List.getElem?_map, hx]; rfl
  have hs := rp_step hk h
  rw [rp_one] at hs
  refine ⟨?_, ?_, ?_⟩
  · have h1 := splitB_piece (List.mem_of_getElem? hk)
    unfold trimPrefix
    split
    · rw [List.length_drop]; omega
    · exact h1
  · intro h1
    rw [if_neg (fun e => by
      rcases h1 with h1 | h1
      · rw [h1] at e; cases e.1
      · rw [h1] at e; cases e.2)] at hs
    exact rpV_none (rp_fail hs)
  · intro h1 h2
    rw [if_pos ⟨h1, h2⟩] at hs
    exact hs
theorem pathParts (s : ByteArray) : (Lib.splitB ⟨#[32]⟩ 0 (countB s ⟨#[32]⟩) s).map (·.data.toList) = splitB 32 s.data.toList ∧ (Lib.splitB ⟨#[32]⟩ 0 (countB s ⟨#[32]⟩) s).length = countB s ⟨#[32]⟩ + 1 := by
  have h1 : (Lib.splitB ⟨#[32]⟩ 0 (countB s ⟨#[32]⟩) s).map (·.data.toList) = split s.data.toList [32] := Lib.splitB_data _ _ _ _
  have h2 := split_count 32 _ s.data.toList (Nat.le_refl _)
  refine ⟨by rw [h1, split_one 32 _ _ (Nat.le_refl _)], ?_⟩
  have h3 := congrArg List.length h1
  rw [List.length_map] at h3
  rw [h3, h2]
theorem row_shape {B : Nat} {w : World} {t : TypeId} {z : Nat} {v : Value} {n : Nat} {cs : List Value} (h : w.ownsRow B t z v n cs) : ∃ a c, v = .slice a n c := by
  rcases h.2 with ⟨rfl, rfl⟩ | ⟨g, cap, _, h1, _⟩
  · exact ⟨none, 0, rfl⟩
  · exact ⟨_, cap, h1⟩
theorem pr_grown {w w' : World} {q : Nat} {ps : List ByteArray} {row : Option Nat} (h : PR w q ps) (hq : q < w.heap.size) (hg : w.grownBy w' row) (hr : ∀ g, row = some g → g ≠ q) : PR w' q ps := fun j x hj => by
  have h1 := h j x hj
  exact (World.cell?_of_block (a := ⟨q, j, none⟩) (hg.block q hq (fun e => hr q e.symm rfl))).trans h1
theorem implLetter2 (k : Nat) (w : World) (hk : k ≤ 2000000000) :
    Calls Tryd.prog 62 #[.int .i64 k] w fun e w' => e = .returned (.string ⟨#[ltr k]⟩) ∧ w' = w := by
  have hk0 : (0 : Int) ≤ (k : Int) := by omega
  unfold ltr
  by_cases hev : k % 2 = 0
  · have hrr2 : ((k : Int) % 2 == 0) = true := by rw [show (k : Int) % 2 = 0 by omega]; rfl
    rw [if_pos hev]
    go_enter Tryd.func62, Tryd.ntmps62
    go_wp2_with (fail)
    go_ret
    exact ⟨rfl, rfl⟩
  · have hrr2 : ((k : Int) % 2 == 0) = false := by rw [show (k : Int) % 2 = 1 by omega]; rfl
    rw [if_neg hev]
    go_enter Tryd.func62, Tryd.ntmps62
    go_wp2_with (fail)
    go_ret
    exact ⟨rfl, rfl⟩
theorem pr_form {B : Nat} {w : World} {v : Value} {n : Nat} {cs : List Value} {xs : List Int} (h : w.ownsRow B 2 1 v n cs) (hn : n = xs.length) (hc : cs = intCells xs) (h0 : 0 < xs.length) : ∃ g c, v = .slice (some ⟨g, 0, none⟩) xs.length c ∧ Own B w g c xs := by
  subst hn hc
  obtain ⟨g, cap, rfl, hg, _⟩ := h.form h0
  exact ⟨g, cap, rfl, hg, h⟩

set_option maxRecDepth 100000 in
set_option maxHeartbeats 20000000 in
theorem implRuns (s : ByteArray) (w : World) (hs : s.size ≤ 1048576) (hw : Wg w) :
    Calls Tryd.prog 67 #[.string s] w fun e w' => BoolP w.heap.size (rpV s.data.toList) e w' ∧ Below w.heap.size w w' := by
  obtain ⟨i0, hi, hz0, hz1, hz2⟩ := info_parts infoI
  have L1 := hid (fun w => implLetter2 1 w (by omega))
  have HPX := hid (fun w => Tryd.strings_HasPrefix s ⟨#[76]⟩ w)
  have e76 : (⟨#[76]⟩ : ByteArray).data.toList = [76] := rfl
  rw [e76] at HPX
  obtain ⟨lp1, lp2⟩ := pathParts s
  have hll : s.data.toList.length ≤ 1048576 := by rw [show s.data.toList.length = s.size from Array.length_toList]; exact hs
  have lp3 := congrArg List.length lp1
  rw [List.length_map] at lp3
  have lp4 := splitB_len 32 s.data.toList
  have SP := hid (fun (w : World) (h : Wg w) => Tryd.strings_Split s ⟨#[32]⟩ h.2.2.2.choose w (by omega) h.2.2.2.choose_spec (by decide))
  have lp5 : 1 ≤ (Lib.splitB ⟨#[32]⟩ 0 (countB s ⟨#[32]⟩) s).length := by omega
  rw [← lp2] at SP
  generalize Lib.splitB ⟨#[32]⟩ 0 (countB s ⟨#[32]⟩) s = ps at *
  have hpl : ps.length ≤ 1048577 := by omega
  have HP := hid lp1
  have HLL := hid hll
  have HW := hid hw
  have HS0 := hid (show st0 s.data.toList = if hasPrefix s.data.toList [76] = true then [0] else [] from rfl)
  clear lp1 lp2 lp3 lp4 hll hw e76
  go_enter Tryd.func67, Tryd.ntmps67
  go_wp2_with (fail)
  refine (L1.out _).mono ?_
  rintro e u ⟨rfl, hu⟩
  rw [hu]
  clear hu L1
  rw [show (⟨#[ltr 1]⟩ : ByteArray) = ⟨#[76]⟩ from rfl]
  go_wp2_with (fail)
  refine (HPX.out _).mono ?_
  rintro e u ⟨rfl, hu⟩
  rw [hu]
  clear hu HPX
  cases hpx : hasPrefix s.data.toList [76]
  case false =>
    have HE0 := hid (show st0 s.data.toList = [] by rw [HS0.out, hpx]; rfl)
    clear hpx HS0
    have E00 := hid (show Below w.heap.size w w from Below.refl _ _)
    have HU0 := hid (wg_below HW.out E00.out)
    have hbU : w.heap.size ≤ w.heap.size := E00.out.size
    go_wp2_with (fail)
    refine (SP.out _ HU0.out).mono ?_
    rintro e u ⟨rfl, hu⟩
    have E0 := hid (show Below w.heap.size w u by rw [hu]; exact (Below.refl _ _).alloc (Nat.le_refl _) _)
    have P0 := hid (show PR u w.heap.size ps from by
      rw [hu]
      intro j x hj
      unfold World.cell?
      rw [World.alloc_heap_new]
      simp [hj])
    have HU := hid hbU
    have OU := hid (show u.ownsRow w.heap.size 2 1 (.slice none 0 0) (st0 s.data.toList).length (intCells (st0 s.data.toList)) by rw [HE0.out]; exact World.ownsRow_nil _ _ _ _)
    have EW := hid (show Below w.heap.size w u from E00.out.trans (E0.out.mono E00.out.size))
    obtain ⟨q, hq⟩ : ∃ q, q = w.heap.size := ⟨_, rfl⟩
    have hqu : q < u.heap.size := by rw [hu, hq]; simp
    have hnq : ∀ g, ((.slice none 0 0) : Value).ownBlock = some g → g ≠ q := fun g e => by cases e
    have HNQ := hid hnq
    have HWU := hid (fun (wr : World) (h : Below w.heap.size w wr) => wg_below HW.out h)
    have hs1 : (st0 s.data.toList).length ≤ 1 := by unfold st0; split <;> simp
    have HS1 := hid hs1
    rw [← hq] at P0
    try rw [← hq]
    clear hu SP HW E00 HU0 hs1 hq hnq HU E0
    go_wp2_with (fail)
    go_loopw [4, 6, 7, 8, 9, 10, 20] (fun v _ _ _ _ _ i wr => ∃ (k : Nat) (ys : List Int), i = .int .i64 k ∧ k ≤ ps.length ∧ ys.length ≤ k + 1 ∧ wr.ownsRow w.heap.size 2 1 v ys.length (intCells ys) ∧ Hid (rpS (st0 s.data.toList) ((splitB 32 s.data.toList).take k) = some ys) ∧ Below w.heap.size w wr ∧ Hid (PR wr q ps ∧ q < wr.heap.size ∧ ∀ g, v.ownBlock = some g → g ≠ q)) (fun _ _ _ _ _ _ i _ => ps.length - (RowKit.intOf i).toNat)
    case atStart => exact ⟨0, st0 s.data.toList, rfl, by omega, by have := HS1.out; omega, OU.out, hid (by rw [List.take_zero]; rfl), EW.out, hid ⟨P0.out, hqu, HNQ.out⟩⟩
    case round =>
      obtain ⟨k, ys, rfl, hk, hyk, hown, hrd, hbel, HPQ⟩ := hrel
      obtain ⟨va, vc, rfl⟩ := row_shape hown
      have HBEL := hid hbel
      have HOWN := hid hown
      have hk0 : (0 : Int) ≤ (k : Int) := by omega
      have hbw : w.heap.size ≤ wr.heap.size := hbel.size
      by_cases hlt : k < ps.length
      · have hlt' : (k : Int) < (ps.length : Int) := by omega
        obtain ⟨x, hxk⟩ : ∃ t, ps[k]? = some t := ⟨_, List.getElem?_eq_getElem hlt⟩
        have cx := HPQ.out.1 k x hxk
        obtain ⟨s1, s2, s3⟩ := rp_go HP.out hxk hrd.out
        have LT := hid (fun w => implLetter2 ys.length w (by omega))
        have CP := hid (fun w => Tryd.strings_CutPrefix x ⟨#[ltr ys.length]⟩ w)
        have e1 : (⟨#[ltr ys.length]⟩ : ByteArray).data.toList = [ltr ys.length] := rfl
        rw [e1] at CP
        have R := hid (fun w (h : Wg w) => wg_read (l := trimPrefix x.data.toList [ltr ys.length]) (by have := HLL.out; omega) w h)
        have HV := hid (show numV (trimPrefix x.data.toList [ltr ys.length]) = .tuple #[.int .i64 (numS (trimPrefix x.data.toList [ltr ys.length])).1, .bool (numS (trimPrefix x.data.toList [ltr ys.length])).2] from rfl)
        rw [HV.out] at R
        generalize (⟨#[ltr ys.length]⟩ : ByteArray) = LB at *
        generalize numS (trimPrefix x.data.toList [ltr ys.length]) = r at *
        generalize hasPrefix x.data.toList [ltr ys.length] = fb at *
        generalize trimPrefix x.data.toList [ltr ys.length] = D at *
        obtain ⟨nn, rb⟩ := r
        have S2 := hid s2
        have S3 := hid s3
        have HYK := hid hyk
        have hq0 : (0 : Int) ≤ (ys.length : Int) := by omega
        clear hbel hxk hown hrd hyk s1 s2 s3 HV e1
        dsimp only at R S2 S3
        go_wp2_with (fail)
        refine (LT.out _).mono ?_
        rintro e u2 ⟨rfl, hu⟩
        rw [hu]
        clear hu
        go_wp2_with (fail)
        refine (CP.out _).mono ?_
        rintro e u2 ⟨rfl, hu⟩
        rw [hu]
        clear hu
        go_wp2_with (fail)
        refine (R.out _ (HWU.out _ HBEL.out)).mono ?_
        rintro e w2 ⟨rfl, b2⟩
        have E2 := hid (HBEL.out.trans (b2.mono hbw))
        have HP2 := hid (show PR w2 q ps ∧ q < w2.heap.size from ⟨pr_below HPQ.out.1 b2, Nat.lt_of_lt_of_le HPQ.out.2.1 b2.size⟩)
        have O2 := hid (HOWN.out.kept (below_grows b2) (Classical.em _))
        have hb2 : w.heap.size ≤ w2.heap.size := E2.out.size
        clear b2 R CP LT
        by_cases hbad : fb = false ∨ rb = false
        · have HR := hid (S2.out hbad)
          have hbb : (!fb || !rb) = true := by rcases hbad with h | h <;> simp [h]
          clear S2 S3
          rcases hbad with rfl | rfl
          · go_wp2_with (fail)
            go_ret2
            exact ⟨⟨_, by rw [HR.out]; rfl, by rw [HR.out]; exact .inl ⟨rfl, rfl⟩⟩, E2.out⟩
          · cases fb
            · go_wp2_with (fail)
              go_ret2
              exact ⟨⟨_, by rw [HR.out]; rfl, by rw [HR.out]; exact .inl ⟨rfl, rfl⟩⟩, E2.out⟩
            · go_wp2_with (fail)
              go_ret2
              exact ⟨⟨_, by rw [HR.out]; rfl, by rw [HR.out]; exact .inl ⟨rfl, rfl⟩⟩, E2.out⟩
        · have hf : fb = true := by cases fb <;> simp_all
          have hr : rb = true := by cases rb <;> simp_all
          subst hf hr
          have HR := hid (S3.out rfl rfl)
          have hl6 : ys.length ≤ 1048579 := by have := HYK.out; omega
          clear S2 S3 hbad
          go_wp2_with (at_builtin; refine Go.wpList_append_own_at _ rfl _ _ 44 rfl w.heap.size 2 i0 (.int .i64 0) 1 8 Tryd.underlying44 hi hz0 hz1 hz2 rfl (by decide) _ ys.length (intCells ys) (by rfl) ?c0f ⟨w2.heap.size, 0, none⟩ 1 1 [.int .i64 nn] (by rfl) ?c1f ?c2f ?c3f ?c4f ?c5f ?c6f ?c7f)
          case c0f => exact O2.out.alloc _
          case c1f => rfl
          case c2f => exact news_one _ _ _
          case c3f => intro u hu; obtain rfl := List.mem_singleton.1 hu; rfl
          case c4f => unfold maxLen; omega
          case c5f => omega
          case c6f => (first | omega | (simp <;> omega))
          intro v2 w3 hown2 hgrow2 _ hat
          have HO2 := hid (show w3.ownsRow w.heap.size 2 1 v2 (ys ++ [nn]).length (intCells (ys ++ [nn])) by
            rw [← intCells_more, List.length_append]; exact hown2)
          have E3 := hid ((E2.out.alloc hb2 (.cells #[.int .i64 nn] 2)).grown hgrow2 (by first | omega | (simp <;> omega)) (fun k hk => (O2.out.lt k hk).1))
          have HP3 := hid (show PR w3 q ps ∧ q < w3.heap.size ∧ ∀ g, v2.ownBlock = some g → g ≠ q from by
            have A9 : Below w2.heap.size w2 (w2.alloc (.cells #[.int .i64 nn] 2)) := (Below.refl _ _).alloc (Nat.le_refl _) _
            have hq9 : q < (w2.alloc (.cells #[.int .i64 nn] 2)).heap.size := Nat.lt_of_lt_of_le HP2.out.2 A9.size
            refine ⟨pr_grown (pr_below HP2.out.1 A9) hq9 hgrow2 HPQ.out.2.2, Nat.lt_of_lt_of_le hq9 hgrow2.size, fun g hg => ?_⟩
            rcases hat with h9 | h9
            · exact HPQ.out.2.2 g (h9.symm.trans hg)
            · rw [h9] at hg
              injection hg with hg
              have h10 : q < g := by rw [← hg]; have := HP2.out.2; omega
              omega)
          have HL3 := hid (show (ys ++ [nn]).length ≤ k + 1 + 1 by have := HYK.out; simp; omega)
          obtain ⟨zs, hzs⟩ : ∃ zs, zs = ys ++ [nn] := ⟨_, rfl⟩
          have HR2 := hid (show rpS (st0 s.data.toList) ((splitB 32 s.data.toList).take (k + 1)) = some zs by rw [hzs]; exact HR.out)
          rw [← hzs] at HO2 HL3
          clear hown2 hgrow2 hzs HR hat
          go_wp2_with (fail)
          go_roundw
          case rel => exact ⟨k + 1, zs, by go_num, by omega, HL3.out, HO2.out, HR2, E3.out, HP3⟩
          case measure => simp [RowKit.intOf]; omega
      · have hlt' : ¬ (k : Int) < (ps.length : Int) := by omega
        have hR : rpV s.data.toList = (ys, true) := rpV_some (by
          have h1 := hrd.out
          rw [List.take_of_length_le (by rw [← HP.out, List.length_map]; omega)] at h1
          exact h1)
        have HR := hid hR
        have hne : ys ≠ [] := rpS_ne (by
          have h1 := hrd.out
          rw [List.take_of_length_le (by rw [← HP.out, List.length_map]; omega)] at h1
          exact h1)
        obtain ⟨g3, c3, hv3, O3⟩ := pr_form (xs := ys) hown rfl rfl (List.length_pos_iff.2 hne)
        injection hv3 with hv4 _ hv5
        subst hv4 hv5
        have O3H := hid O3
        clear hbel hown hrd hyk O3 HOWN hR hne
        go_wp2_with (fail)
        go_ret2
        exact ⟨⟨_, by rw [HR.out]; rfl, by rw [HR.out]; exact .inr ⟨_, _, rfl, O3H.out⟩⟩, HBEL.out⟩
  case true =>
    have HE0 := hid (show st0 s.data.toList = [0] by rw [HS0.out, hpx]; rfl)
    clear hpx HS0
    go_wp2_with (at_builtin; refine wpList_append_own _ rfl _ _ 44 rfl w.heap.size 2 i0 (.int .i64 0) 1 8 Tryd.underlying44 hi hz0 hz1 hz2 rfl (by decide) _ 0 (intCells []) (by rfl) ?d0 ⟨w.heap.size, 0, none⟩ 1 1 [.int .i64 0] (by rfl) ?d1 ?d2 ?d3 ?d4 ?d5 ?d6 ?d7)
    case d0 => exact World.ownsRow_nil _ _ _ _
    case d1 => rfl
    case d2 => exact news_one _ _ _
    case d3 => intro u hu; obtain rfl := List.mem_singleton.1 hu; rfl
    case d4 => unfold maxLen; omega
    case d5 => omega
    case d6 => (first | omega | (simp <;> omega))
    intro v0 w0 hown0 hgrow0 hgx
    have EG := hid (((Below.refl w.heap.size w).alloc (Nat.le_refl _) (.cells #[.int .i64 0] 2)).grown hgrow0 (by first | omega | (simp <;> omega)) (fun k hk => by cases hk))
    have OG := hid (show w0.ownsRow w.heap.size 2 1 v0 (st0 s.data.toList).length (intCells (st0 s.data.toList)) by rw [HE0.out]; exact hown0)
    clear hown0 hgrow0 hgx
    have E00 := hid (show Below w.heap.size w w0 from EG.out)
    have HU0 := hid (wg_below HW.out E00.out)
    have hbU : w.heap.size ≤ w0.heap.size := E00.out.size
    go_wp2_with (fail)
    refine (SP.out _ HU0.out).mono ?_
    rintro e u ⟨rfl, hu⟩
    have E0 := hid (show Below w0.heap.size w0 u by rw [hu]; exact (Below.refl _ _).alloc (Nat.le_refl _) _)
    have P0 := hid (show PR u w0.heap.size ps from by
      rw [hu]
      intro j x hj
      unfold World.cell?
      rw [World.alloc_heap_new]
      simp [hj])
    have HU := hid hbU
    have OU := hid (show u.ownsRow w.heap.size 2 1 v0 (st0 s.data.toList).length (intCells (st0 s.data.toList)) by rw [hu]; exact OG.out.alloc _)
    have EW := hid (show Below w.heap.size w u from E00.out.trans (E0.out.mono E00.out.size))
    obtain ⟨q, hq⟩ : ∃ q, q = w0.heap.size := ⟨_, rfl⟩
    have hqu : q < u.heap.size := by rw [hu, hq]; simp
    have hnq : ∀ g, (v0 : Value).ownBlock = some g → g ≠ q := fun g e => by have := (OG.out.lt g e).2; omega
    have HNQ := hid hnq
    have HWU := hid (fun (wr : World) (h : Below w.heap.size w wr) => wg_below HW.out h)
    have hs1 : (st0 s.data.toList).length ≤ 1 := by unfold st0; split <;> simp
    have HS1 := hid hs1
    rw [← hq] at P0
    try rw [← hq]
    clear hu SP HW E00 HU0 hs1 hq hnq HU E0
    go_wp2_with (fail)
    go_loopw [4, 6, 7, 8, 9, 10, 20] (fun v _ _ _ _ _ i wr => ∃ (k : Nat) (ys : List Int), i = .int .i64 k ∧ k ≤ ps.length ∧ ys.length ≤ k + 1 ∧ wr.ownsRow w.heap.size 2 1 v ys.length (intCells ys) ∧ Hid (rpS (st0 s.data.toList) ((splitB 32 s.data.toList).take k) = some ys) ∧ Below w.heap.size w wr ∧ Hid (PR wr q ps ∧ q < wr.heap.size ∧ ∀ g, v.ownBlock = some g → g ≠ q)) (fun _ _ _ _ _ _ i _ => ps.length - (RowKit.intOf i).toNat)
    case atStart => exact ⟨0, st0 s.data.toList, rfl, by omega, by have := HS1.out; omega, OU.out, hid (by rw [List.take_zero]; rfl), EW.out, hid ⟨P0.out, hqu, HNQ.out⟩⟩
    case round =>
      obtain ⟨k, ys, rfl, hk, hyk, hown, hrd, hbel, HPQ⟩ := hrel
      obtain ⟨va, vc, rfl⟩ := row_shape hown
      have HBEL := hid hbel
      have HOWN := hid hown
      have hk0 : (0 : Int) ≤ (k : Int) := by omega
      have hbw : w.heap.size ≤ wr.heap.size := hbel.size
      by_cases hlt : k < ps.length
      · have hlt' : (k : Int) < (ps.length : Int) := by omega
        obtain ⟨x, hxk⟩ : ∃ t, ps[k]? = some t := ⟨_, List.getElem?_eq_getElem hlt⟩
        have cx := HPQ.out.1 k x hxk
        obtain ⟨s1, s2, s3⟩ := rp_go HP.out hxk hrd.out
        have LT := hid (fun w => implLetter2 ys.length w (by omega))
        have CP := hid (fun w => Tryd.strings_CutPrefix x ⟨#[ltr ys.length]⟩ w)
        have e1 : (⟨#[ltr ys.length]⟩ : ByteArray).data.toList = [ltr ys.length] := rfl
        rw [e1] at CP
        have R := hid (fun w (h : Wg w) => wg_read (l := trimPrefix x.data.toList [ltr ys.length]) (by have := HLL.out; omega) w h)
        have HV := hid (show numV (trimPrefix x.data.toList [ltr ys.length]) = .tuple #[.int .i64 (numS (trimPrefix x.data.toList [ltr ys.length])).1, .bool (numS (trimPrefix x.data.toList [ltr ys.length])).2] from rfl)
        rw [HV.out] at R
        generalize (⟨#[ltr ys.length]⟩ : ByteArray) = LB at *
        generalize numS (trimPrefix x.data.toList [ltr ys.length]) = r at *
        generalize hasPrefix x.data.toList [ltr ys.length] = fb at *
        generalize trimPrefix x.data.toList [ltr ys.length] = D at *
        obtain ⟨nn, rb⟩ := r
        have S2 := hid s2
        have S3 := hid s3
        have HYK := hid hyk
        have hq0 : (0 : Int) ≤ (ys.length : Int) := by omega
        clear hbel hxk hown hrd hyk s1 s2 s3 HV e1
        dsimp only at R S2 S3
        go_wp2_with (fail)
        refine (LT.out _).mono ?_
        rintro e u2 ⟨rfl, hu⟩
        rw [hu]
        clear hu
        go_wp2_with (fail)
        refine (CP.out _).mono ?_
        rintro e u2 ⟨rfl, hu⟩
        rw [hu]
        clear hu
        go_wp2_with (fail)
        refine (R.out _ (HWU.out _ HBEL.out)).mono ?_
        rintro e w2 ⟨rfl, b2⟩
        have E2 := hid (HBEL.out.trans (b2.mono hbw))
        have HP2 := hid (show PR w2 q ps ∧ q < w2.heap.size from ⟨pr_below HPQ.out.1 b2, Nat.lt_of_lt_of_le HPQ.out.2.1 b2.size⟩)
        have O2 := hid (HOWN.out.kept (below_grows b2) (Classical.em _))
        have hb2 : w.heap.size ≤ w2.heap.size := E2.out.size
        clear b2 R CP LT
        by_cases hbad : fb = false ∨ rb = false
        · have HR := hid (S2.out hbad)
          have hbb : (!fb || !rb) = true := by rcases hbad with h | h <;> simp [h]
          clear S2 S3
          rcases hbad with rfl | rfl
          · go_wp2_with (fail)
            go_ret2
            exact ⟨⟨_, by rw [HR.out]; rfl, by rw [HR.out]; exact .inl ⟨rfl, rfl⟩⟩, E2.out⟩
          · cases fb
            · go_wp2_with (fail)
              go_ret2
              exact ⟨⟨_, by rw [HR.out]; rfl, by rw [HR.out]; exact .inl ⟨rfl, rfl⟩⟩, E2.out⟩
            · go_wp2_with (fail)
              go_ret2
              exact ⟨⟨_, by rw [HR.out]; rfl, by rw [HR.out]; exact .inl ⟨rfl, rfl⟩⟩, E2.out⟩
        · have hf : fb = true := by cases fb <;> simp_all
          have hr : rb = true := by cases rb <;> simp_all
          subst hf hr
          have HR := hid (S3.out rfl rfl)
          have hl6 : ys.length ≤ 1048579 := by have := HYK.out; omega
          clear S2 S3 hbad
          go_wp2_with (at_builtin; refine Go.wpList_append_own_at _ rfl _ _ 44 rfl w.heap.size 2 i0 (.int .i64 0) 1 8 Tryd.underlying44 hi hz0 hz1 hz2 rfl (by decide) _ ys.length (intCells ys) (by rfl) ?c0t ⟨w2.heap.size, 0, none⟩ 1 1 [.int .i64 nn] (by rfl) ?c1t ?c2t ?c3t ?c4t ?c5t ?c6t ?c7t)
          case c0t => exact O2.out.alloc _
          case c1t => rfl
          case c2t => exact news_one _ _ _
          case c3t => intro u hu; obtain rfl := List.mem_singleton.1 hu; rfl
          case c4t => unfold maxLen; omega
          case c5t => omega
          case c6t => (first | omega | (simp <;> omega))
          intro v2 w3 hown2 hgrow2 _ hat
          have HO2 := hid (show w3.ownsRow w.heap.size 2 1 v2 (ys ++ [nn]).length (intCells (ys ++ [nn])) by
            rw [← intCells_more, List.length_append]; exact hown2)
          have E3 := hid ((E2.out.alloc hb2 (.cells #[.int .i64 nn] 2)).grown hgrow2 (by first | omega | (simp <;> omega)) (fun k hk => (O2.out.lt k hk).1))
          have HP3 := hid (show PR w3 q ps ∧ q < w3.heap.size ∧ ∀ g, v2.ownBlock = some g → g ≠ q from by
            have A9 : Below w2.heap.size w2 (w2.alloc (.cells #[.int .i64 nn] 2)) := (Below.refl _ _).alloc (Nat.le_refl _) _
            have hq9 : q < (w2.alloc (.cells #[.int .i64 nn] 2)).heap.size := Nat.lt_of_lt_of_le HP2.out.2 A9.size
            refine ⟨pr_grown (pr_below HP2.out.1 A9) hq9 hgrow2 HPQ.out.2.2, Nat.lt_of_lt_of_le hq9 hgrow2.size, fun g hg => ?_⟩
            rcases hat with h9 | h9
            · exact HPQ.out.2.2 g (h9.symm.trans hg)
            · rw [h9] at hg
              injection hg with hg
              have h10 : q < g := by rw [← hg]; have := HP2.out.2; omega
              omega)
          have HL3 := hid (show (ys ++ [nn]).length ≤ k + 1 + 1 by have := HYK.out; simp; omega)
          obtain ⟨zs, hzs⟩ : ∃ zs, zs = ys ++ [nn] := ⟨_, rfl⟩
          have HR2 := hid (show rpS (st0 s.data.toList) ((splitB 32 s.data.toList).take (k + 1)) = some zs by rw [hzs]; exact HR.out)
          rw [← hzs] at HO2 HL3
          clear hown2 hgrow2 hzs HR hat
          go_wp2_with (fail)
          go_roundw
          case rel => exact ⟨k + 1, zs, by go_num, by omega, HL3.out, HO2.out, HR2, E3.out, HP3⟩
          case measure => simp [RowKit.intOf]; omega
      · have hlt' : ¬ (k : Int) < (ps.length : Int) := by omega
        have hR : rpV s.data.toList = (ys, true) := rpV_some (by
          have h1 := hrd.out
          rw [List.take_of_length_le (by rw [← HP.out, List.length_map]; omega)] at h1
          exact h1)
        have HR := hid hR
        have hne : ys ≠ [] := rpS_ne (by
          have h1 := hrd.out
          rw [List.take_of_length_le (by rw [← HP.out, List.length_map]; omega)] at h1
          exact h1)
        obtain ⟨g3, c3, hv3, O3⟩ := pr_form (xs := ys) hown rfl rfl (List.length_pos_iff.2 hne)
        injection hv3 with hv4 _ hv5
        subst hv4 hv5
        have O3H := hid O3
        clear hbel hown hrd hyk O3 HOWN hR hne
        go_wp2_with (fail)
        go_ret2
        exact ⟨⟨_, by rw [HR.out]; rfl, by rw [HR.out]; exact .inr ⟨_, _, rfl, O3H.out⟩⟩, HBEL.out⟩

end Go.Proofs.YtjijabfamjhdjaaDoor
