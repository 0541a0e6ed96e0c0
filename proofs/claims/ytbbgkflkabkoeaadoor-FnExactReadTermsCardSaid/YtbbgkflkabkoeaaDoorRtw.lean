/- Contract: the terms that a text spells, as the program reads them, walked. -/
import Derived.Test.YtbbgkflkabkoeaaDoorRtp
namespace Go.Proofs.YtbbgkflkabkoeaaDoor
open Go.RowKit Go.Lib

theorem cut_lens (l sep : List UInt8) : (cut l sep).1.length ≤ l.length ∧ (cut l sep).2.1.length ≤ l.length := by
  unfold cut
  split
  · exact ⟨by rw [List.length_take]; omega, by rw [List.length_drop]; omega⟩
  · exact ⟨Nat.le_refl _, by simp⟩
theorem back_formT {B : Nat} {w : World} {v : Value} {xs : List Int} (h : Back B w v xs) (h0 : 0 < xs.length) : ∃ g c, v = .slice (some ⟨g, 0, none⟩) xs.length c ∧ Own B w g c xs := by
  rcases h with ⟨_, rfl⟩ | h
  · simp at h0
  · exact h
theorem str_lit (w : World) (x : ByteArray) (B : Nat) (hB : B ≤ w.heap.size) : (w.alloc (.cells #[.string x] 9)).ownsRow B 9 1 (.slice (some ⟨w.heap.size, 0, none⟩) 1 1) 1 (strCells [x]) := World.ownsRow_lit w #[.string x] 1 hB (by decide) rfl
theorem rd_len {ps : List (List UInt8)} {ys : List Int} (h : rdP ps = some ys) : ys.length = ps.length := by rw [rdP_back h, List.length_map]

set_option maxHeartbeats 3200000 in
theorem implRT (s : ByteArray) (w : World) (hs : s.size ≤ 1048576) (hw : Wt w) :
    Calls Tryd.prog 10 #[.string s] w fun e w' => BoolR w.heap.size (rtT s.data.toList) e w' ∧ Below w.heap.size w w' := by
  obtain ⟨i0, hi, hz0, hz1, hz2⟩ := info_parts info9
  have hsl : s.data.toList.length ≤ 1048576 := by rw [data_len]; exact hs
  have CP := hid (Tryd.strings_CutPrefix s ⟨#[91]⟩ w)
  have HW := hid hw
  obtain ⟨l, hl⟩ : ∃ l, l = s.data.toList := ⟨_, rfl⟩
  rw [← hl] at CP hsl ⊢
  have e91 : (⟨#[91]⟩ : ByteArray).data.toList = [91] := rfl
  rw [e91] at CP
  have htl : (trimPrefix l [91]).length ≤ 1048576 := by
    unfold trimPrefix
    split
    · rw [List.length_drop]; omega
    · exact hsl
  clear hw hl e91
  cases hp : hasPrefix l [91]
  · rw [hp] at CP
    rw [rt_none1 hp]
    generalize trimPrefix l [91] = T at *
    have CS := hid (Tryd.strings_CutSuffix ⟨T.toArray⟩ ⟨#[93]⟩ w (by rw [size_of]; omega))
    generalize hasSuffix (⟨T.toArray⟩ : ByteArray).data.toList (⟨#[93]⟩ : ByteArray).data.toList = b at CS
    generalize trimSuffix (⟨T.toArray⟩ : ByteArray).data.toList (⟨#[93]⟩ : ByteArray).data.toList = U at CS
    clear hp hsl htl
    go_enter Tryd.func10, Tryd.ntmps10
    go_wp2_with (fail)
    refine CP.out.mono ?_
    rintro e w1 ⟨rfl, rfl⟩
    go_wp2_with (fail)
    refine CS.out.mono ?_
    rintro e w1 ⟨rfl, rfl⟩
    go_wp2_with (fail)
    go_ret2
    exact ⟨⟨_, rfl, backNil⟩, Below.refl _ _⟩
  obtain ⟨m, rfl, hm⟩ := prefix_form hp
  rw [hm] at CP htl
  rw [hp] at CP
  have CS := hid (Tryd.strings_CutSuffix ⟨m.toArray⟩ ⟨#[93]⟩ w (by rw [size_of]; omega))
  have e1 : (⟨m.toArray⟩ : ByteArray).data.toList = m := rfl
  have e2 : (⟨#[93]⟩ : ByteArray).data.toList = [93] := rfl
  rw [e1, e2] at CS
  clear e1 e2 hm hp
  cases hx : hasSuffix m [93]
  · rw [hx] at CS
    rw [rt_none2 hx]
    generalize trimSuffix m [93] = U at CS
    clear hx hsl htl
    go_enter Tryd.func10, Tryd.ntmps10
    go_wp2_with (fail)
    refine CP.out.mono ?_
    rintro e w1 ⟨rfl, rfl⟩
    go_wp2_with (fail)
    refine CS.out.mono ?_
    rintro e w1 ⟨rfl, rfl⟩
    go_wp2_with (fail)
    go_ret2
    exact ⟨⟨_, rfl, backNil⟩, Below.refl _ _⟩
  obtain ⟨inner, rfl, hm⟩ := suffix_form hx
  rw [hm, hx] at CS
  have hil : inner.length ≤ 1048576 := by rw [List.length_append] at htl; omega
  obtain ⟨mx, hmx⟩ := HW.out.2.2.2
  have CC := hid (Tryd.strings_Cut ⟨inner.toArray⟩ ⟨#[59, 32]⟩ mx w (by rw [size_of]; omega) hmx)
  have e1 : (⟨inner.toArray⟩ : ByteArray).data.toList = inner := rfl
  have e2 : (⟨#[59, 32]⟩ : ByteArray).data.toList = [59, 32] := rfl
  rw [e1, e2] at CC
  obtain ⟨hca, hcb⟩ := cut_lens inner [59, 32]
  have HPI := hid (show partsI inner = (cut inner [59, 32]).1 :: (if (cut inner [59, 32]).2.2 then split (cut inner [59, 32]).2.1 [44, 32] else []) from rfl)
  obtain ⟨a, b, f, hcut⟩ : ∃ a b f, cut inner [59, 32] = (a, b, f) := ⟨_, _, _, rfl⟩
  rw [hcut] at CC hca hcb HPI
  dsimp only at CC hca hcb HPI
  have RB := hid (@rt_bad inner)
  have RU := hid (fun (ys : List Int) => @rt_unok inner ys)
  have RG := hid (fun (ys : List Int) => @rt_good inner ys)
  generalize rtT (91 :: (inner ++ [93])) = R at *
  generalize partsI inner = PS at *
  have hal : a.length ≤ 1048576 := by omega
  have hbl : b.length ≤ 1048576 := by omega
  clear e1 e2 hm hx htl hsl hca hcb hcut
  have HA0 := hid (fun (n : Nat) => str_lit (w.drewN n) ⟨a.toArray⟩ w.heap.size (Nat.le_refl _))
  cases f
  · have hps : PS = ([(⟨a.toArray⟩ : ByteArray)]).map (·.data.toList) := by rw [HPI.out]; rfl
    have HPL := hid (show 1 ≤ PS.length ∧ PS.length ≤ 2000000 by rw [hps]; simp)
    go_enter Tryd.func10, Tryd.ntmps10
    go_wp2_with (fail)
    refine CP.out.mono ?_
    rintro e w1 ⟨rfl, rfl⟩
    go_wp2_with (fail)
    refine CS.out.mono ?_
    rintro e w1 ⟨rfl, rfl⟩
    go_wp2_with (fail)
    refine CC.out.mono ?_
    rintro e w1 ⟨rfl, n, rfl⟩
    have E1 := hid (show Below w1.heap.size w1 ((w1.drewN n).alloc (.cells #[.string ⟨a.toArray⟩] 9)) from (below_drewN (Below.refl _ _) n).alloc (Nat.le_refl _) _)
    have R1 := hid (HA0.out n)
    have RD := hid (rdDecs w1.heap.size 1 [(⟨a.toArray⟩ : ByteArray)] ((w1.drewN n).alloc (.cells #[.string ⟨a.toArray⟩] 9)) (by simp) (fun j x hj => by
        have hj2 := List.mem_of_getElem? hj
        rw [List.mem_singleton.1 hj2, size_of]; omega) (fun j x hj => row_cells R1.out j _ (by unfold strCells; rw [List.getElem?_map, hj]; rfl)) (wt_below HW.out E1.out))
    rw [← hps] at RD
    clear hps
    cases hr : rdP PS with
    | none =>
      rw [rdV_none hr] at RD
      have HR := hid (RB.out hr)
      clear hr
      go_wp2_with (fail)
      refine RD.out.mono ?_
      rintro e w5 ⟨v, rfl, r, b5⟩
      have E5 := hid (E1.out.trans (b5.mono E1.out.size))
      clear r b5
      dsimp only
      go_wp2_with (fail)
      go_ret2
      exact ⟨by rw [HR.out]; exact ⟨_, rfl, backNil⟩, E5.out⟩
    | some ys =>
      have hyl := rd_len hr
      have HYL := hid hyl
      have RU2 := hid (RU.out ys hr)
      have RG2 := hid (RG.out ys hr)
      rw [rdV_some hr] at RD
      clear hr hyl
      go_wp2_with (fail)
      refine RD.out.mono ?_
      rintro e w5 ⟨v, rfl, r, b5⟩
      have E5 := hid (E1.out.trans (b5.mono E1.out.size))
      obtain ⟨g5, c5, rfl, o5⟩ := back_formT r (by have := HYL.out; have := HPL.out; omega)
      have O5 := hid (own_mono o5 E1.out.size)
      have HY8 := hid (show ys.length ≤ 2000000 by have := HYL.out; have := HPL.out; omega)
      clear r b5 o5
      have VT := hid (implValidTerms g5 c5 ys w5 (by have := HY8.out; omega) (own_cap O5.out) (own_ints O5.out))
      dsimp only
      cases hok : okT ys
      · rw [hok] at VT
        have HR := hid (RU2.out hok)
        clear hok
        go_wp2_with (fail)
        refine VT.out.mono ?_
        rintro e w6 ⟨rfl, b6⟩
        have E6 := hid (E5.out.trans (b6.mono E5.out.size))
        clear b6
        go_wp2_with (fail)
        go_ret2
        exact ⟨by rw [HR.out]; exact ⟨_, rfl, backNil⟩, E6.out⟩
      · rw [hok] at VT
        have HR := hid (RG2.out hok)
        clear hok
        go_wp2_with (fail)
        refine VT.out.mono ?_
        rintro e w6 ⟨rfl, b6⟩
        have O6 := hid (own_below O5.out b6)
        have E6 := hid (E5.out.trans (b6.mono E5.out.size))
        clear b6
        go_wp2_with (fail)
        go_ret2
        exact ⟨by rw [HR.out]; exact ⟨_, rfl, .inr ⟨_, _, rfl, O6.out⟩⟩, E6.out⟩
  · go_enter Tryd.func10, Tryd.ntmps10
    go_wp2_with (fail)
    refine CP.out.mono ?_
    rintro e w1 ⟨rfl, rfl⟩
    go_wp2_with (fail)
    refine CS.out.mono ?_
    rintro e w1 ⟨rfl, rfl⟩
    go_wp2_with (fail)
    refine CC.out.mono ?_
    rintro e w1 ⟨rfl, n, rfl⟩
    have E1 := hid (show Below w1.heap.size w1 ((w1.drewN n).alloc (.cells #[.string ⟨a.toArray⟩] 9)) from (below_drewN (Below.refl _ _) n).alloc (Nat.le_refl _) _)
    have R1 := hid (HA0.out n)
    obtain ⟨mx2, hmx2⟩ := maxW_below HW.out.2.2.2 E1.out
    have CT := hid (Tryd.strings_Split ⟨b.toArray⟩ ⟨#[44, 32]⟩ mx2 ((w1.drewN n).alloc (.cells #[.string ⟨a.toArray⟩] 9)) (by rw [size_of]; omega) hmx2 (by decide))
    have hpl := splitB_len ⟨b.toArray⟩ 44 32
    have hpp := splitB_parts ⟨b.toArray⟩ 44 32
    have hpz : ∀ x ∈ Go.Lib.splitB ⟨#[44, 32]⟩ 0 (countB ⟨b.toArray⟩ ⟨#[44, 32]⟩) ⟨b.toArray⟩, x.size ≤ 1048576 := fun x hx => by
      have h1 : x.data.toList ∈ split b [44, 32] := by
        have := List.mem_map_of_mem (f := fun y : ByteArray => y.data.toList) hx
        rw [hpp] at this
        exact this
      have := piece_len _ b (Nat.le_refl _) h1
      rw [data_len] at this
      omega
    have hcn : countB ⟨b.toArray⟩ ⟨#[44, 32]⟩ ≤ b.length + 1 := count_le _ _
    generalize Go.Lib.splitB ⟨#[44, 32]⟩ 0 (countB ⟨b.toArray⟩ ⟨#[44, 32]⟩) ⟨b.toArray⟩ = ts at *
    generalize countB ⟨b.toArray⟩ ⟨#[44, 32]⟩ = cn at *
    have hpl2 : cn + 1 = ts.length := hpl.symm
    have HCN := hid hpl2
    rw [hpl2] at CT
    have hps : PS = ((⟨a.toArray⟩ : ByteArray) :: ts).map (·.data.toList) := by rw [HPI.out, List.map_cons, hpp]; rfl
    have htn : ts.length ≤ 1048578 := by omega
    have HPL := hid (show 1 ≤ PS.length ∧ PS.length ≤ 2000000 by rw [hps]; simp; omega)
    clear hpl hpp hcn hmx2 hpl2
    go_wp2_with (fail)
    refine CT.out.mono ?_
    rintro e w2 ⟨rfl, hw2⟩
    have b2 : Below ((w1.drewN n).alloc (.cells #[.string ⟨a.toArray⟩] 9)).heap.size ((w1.drewN n).alloc (.cells #[.string ⟨a.toArray⟩] 9)) w2 := by rw [hw2]; exact (Below.refl _ _).alloc (Nat.le_refl _) _
    have R2 := hid (R1.out.kept (row := none) ⟨b2.os, b2.tape, b2.output, b2.size, fun i hi _ => b2.block i hi⟩ (.inr (by simp [Value.ownBlock])))
    have E2 := hid (E1.out.trans (b2.mono E1.out.size))
    have N2 := hid (show ∀ (j : Nat) (u : Value), (strCells ts)[j]? = some u → w2.cell? ((⟨w1.heap.size + 1, 0, none⟩ : Addr).add j) = some u by
      rw [hw2]
      have h := (World.ownsRow_lit (base := 0) (e := 9) (size := 1) ((w1.drewN n).alloc (.cells #[.string ⟨a.toArray⟩] 9)) ((ts.map Value.string).toArray) ts.length (Nat.zero_le _) (by unfold maxLen; omega) (by simp)).cells rfl
      have h2 : ((w1.drewN n).alloc (.cells #[.string ⟨a.toArray⟩] 9)).heap.size = w1.heap.size + 1 := by rw [World.size_alloc]; rfl
      rw [h2] at h
      exact h)
    have hb2 : w1.heap.size ≤ w2.heap.size := E2.out.size
    clear hw2 b2
    go_wp2_with (at_builtin; refine wpList_append_own _ rfl _ _ 33 rfl w1.heap.size 9 i0 (.string ByteArray.empty) 1 16 Tryd.underlying33 hi hz0 hz1 hz2 rfl (by decide) _ 1 (strCells [(⟨a.toArray⟩ : ByteArray)]) (by rfl) ?c0 ⟨w1.heap.size + 1, 0, none⟩ ts.length ts.length (strCells ts) (by rfl) ?c1 ?c2 ?c3 ?c4 ?c5 ?c6 ?c7)
    case c0 => exact R2.out
    case c1 => rw [strCells_length]; omega
    case c2 => exact N2.out
    case c3 =>
      intro u hu
      unfold strCells at hu
      obtain ⟨x, _, rfl⟩ := List.mem_map.1 hu
      rfl
    case c4 => unfold maxLen; omega
    case c5 => omega
    case c6 => exact hb2
    intro v3 w3 hown3 hgrow3 _
    obtain ⟨g3, c3, rfl, hg3, own3⟩ := rowOf_own (xs := (⟨a.toArray⟩ : ByteArray) :: ts) hown3 (by rw [List.length_cons]; omega) rfl (by simp)
    have E3 := hid (E2.out.grown hgrow3 hb2 (fun k hk => by have h' : w1.heap.size = k := Option.some.inj hk; omega))
    have R3 := hid own3
    clear hown3 own3 hgrow3
    have hlen3 : ((⟨a.toArray⟩ : ByteArray) :: ts).length ≤ 2000000 := by rw [List.length_cons]; omega
    have RD := hid (rdDecs g3 c3 ((⟨a.toArray⟩ : ByteArray) :: ts) w3 hlen3 (fun j x hj => by
        rcases List.mem_cons.1 (List.mem_of_getElem? hj) with rfl | hx
        · rw [size_of]; omega
        · exact hpz x hx) (fun j x hj => row_cells R3.out j _ (by unfold strCells; rw [List.getElem?_map, hj]; rfl)) (wt_below HW.out E3.out))
    rw [← hps] at RD
    clear hps hpz hlen3
    obtain ⟨us, hus⟩ : ∃ us, us = (⟨a.toArray⟩ : ByteArray) :: ts := ⟨_, rfl⟩
    rw [← hus] at RD ⊢
    clear hus R3
    cases hr : rdP PS with
    | none =>
      rw [rdV_none hr] at RD
      have HR := hid (RB.out hr)
      clear hr
      go_wp2_with (fail)
      refine RD.out.mono ?_
      rintro e w5 ⟨v, rfl, r, b5⟩
      have E5 := hid (E3.out.trans (b5.mono E3.out.size))
      clear r b5
      dsimp only
      go_wp2_with (fail)
      go_ret2
      exact ⟨by rw [HR.out]; exact ⟨_, rfl, backNil⟩, E5.out⟩
    | some ys =>
      have hyl := rd_len hr
      have HYL := hid hyl
      have RU2 := hid (RU.out ys hr)
      have RG2 := hid (RG.out ys hr)
      rw [rdV_some hr] at RD
      clear hr hyl
      go_wp2_with (fail)
      refine RD.out.mono ?_
      rintro e w5 ⟨v, rfl, r, b5⟩
      have E5 := hid (E3.out.trans (b5.mono E3.out.size))
      obtain ⟨g5, c5, rfl, o5⟩ := back_formT r (by have := HYL.out; have := HPL.out; omega)
      have O5 := hid (own_mono o5 E3.out.size)
      have HY8 := hid (show ys.length ≤ 2000000 by have := HYL.out; have := HPL.out; omega)
      clear r b5 o5
      have VT := hid (implValidTerms g5 c5 ys w5 (by have := HY8.out; omega) (own_cap O5.out) (own_ints O5.out))
      dsimp only
      cases hok : okT ys
      · rw [hok] at VT
        have HR := hid (RU2.out hok)
        clear hok
        go_wp2_with (fail)
        refine VT.out.mono ?_
        rintro e w6 ⟨rfl, b6⟩
        have E6 := hid (E5.out.trans (b6.mono E5.out.size))
        clear b6
        go_wp2_with (fail)
        go_ret2
        exact ⟨by rw [HR.out]; exact ⟨_, rfl, backNil⟩, E6.out⟩
      · rw [hok] at VT
        have HR := hid (RG2.out hok)
        clear hok
        go_wp2_with (fail)
        refine VT.out.mono ?_
        rintro e w6 ⟨rfl, b6⟩
        have O6 := hid (own_below O5.out b6)
        have E6 := hid (E5.out.trans (b6.mono E5.out.size))
        clear b6
        go_wp2_with (fail)
        go_ret2
        exact ⟨by rw [HR.out]; exact ⟨_, rfl, .inr ⟨_, _, rfl, O6.out⟩⟩, E6.out⟩
end Go.Proofs.YtbbgkflkabkoeaaDoor
