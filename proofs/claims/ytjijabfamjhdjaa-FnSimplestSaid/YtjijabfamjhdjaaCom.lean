/- Contracts: the common beginning of two paths, by the program and by the model. -/
import Derived.Test.YtjijabfamjhdjaaPar
import Derived.Test.YtjijabfamjhdjaaCtm
import Derived.Deep.AppendLies
import Derived.Deep.RegionLaw
namespace Go.Proofs.Ytjijabfamjhdjaa
open Go.RowKit

/-- A copy of no numbers, by the library. -/
theorem implClone0 (g o c : Nat) (w : World) :
    Calls Try.prog 95 #[.slice (some ⟨g, o, none⟩) 0 c] w fun e w' => ∃ a, e = .returned (.slice (some ⟨a, 0, none⟩) 0 0) ∧ Own w.heap.size w' a 0 [] ∧ Below w.heap.size w w' := by
  obtain ⟨i0, hi, hz0, hz1, hz2⟩ := info_parts infoI
  have q22 : ∀ (w : World) (a : Option Addr) (n c n' c' : Nat), (binOp .eql 27 (.slice a n c) (.slice none n' c')).run Try.prog w = .ok (.bool a.isNone) w := fun w a n c n' c' => Lib.run_eql_slice_nil w _ _ a n c n' c' Try.underlying27
  go_enter Try.func95, Try.ntmps95
  go_wp2_with (fail)
  go_ret
  exact ⟨_, rfl, ⟨Nat.le_refl _, lit_none w _ (Nat.le_refl _)⟩, (Below.refl _ _).alloc (Nat.le_refl _) _⟩
/-- A copy of a list that may be empty. -/
theorem cloneAll (g n c : Nat) (xs : List Int) (w : World) (hn : n = xs.length) (hx : xs.length ≤ 2000000000) (ha : Ints w g 0 xs) :
    Calls Try.prog 95 #[.slice (some ⟨g, 0, none⟩) n c] w fun e w' => ∃ g' c', e = .returned (.slice (some ⟨g', 0, none⟩) n c') ∧ Own w.heap.size w' g' c' xs ∧ Below w.heap.size w w' := by
  subst hn
  by_cases h0 : 0 < xs.length
  · exact implClone g 0 c xs w h0 hx ha
  · have : xs = [] := List.length_eq_zero_iff.1 (by omega)
    subst this
    refine (implClone0 g 0 c w).mono ?_
    rintro e w1 ⟨a, rfl, o, b⟩
    exact ⟨a, 0, rfl, o, b⟩

theorem trim_ret {B : Nat} {w : World} {g c : Nat} {zs : List Int} (h : Own B w g c zs) : Own B w g c (trimL zs) ∧ (trimL zs).length = trimN zs zs.length := own_trim h

set_option maxRecDepth 100000 in
set_option maxHeartbeats 1600000 in
theorem implCommonRuns (ga ca gb cb : Nat) (xs ys : List Int) (w : World) (hx : xs.length ≤ 60) (hy : ys.length ≤ 60) (hcx : xs.length ≤ ca) (ha : Ints w ga 0 xs) (hb : Ints w gb 0 ys) :
    Calls Try.prog 73 #[.slice (some ⟨ga, 0, none⟩) xs.length ca, .slice (some ⟨gb, 0, none⟩) ys.length cb] w fun e w' => ∃ g c, e = .returned (.slice (some ⟨g, 0, none⟩) (cmnL xs ys).length c) ∧ Own w.heap.size w' g c (cmnL xs ys) ∧ Below w.heap.size w w' := by
  obtain ⟨i0, hi, hz0, hz1, hz2⟩ := info_parts infoI
  have HL := hid (implCommonLen ga 0 ca gb 0 cb xs ys w (by omega) (by omega) ha hb)
  have hla := comm_le_left xs ys
  have hlb := comm_le_right xs ys
  have HDEF := hid (show cmnL xs ys = trimL (xs.take (comm xs ys) ++ (if comm xs ys < xs.length ∧ comm xs ys < ys.length then [min (xs.getD (comm xs ys) 0) (ys.getD (comm xs ys) 0)] else [])) from rfl)
  obtain ⟨k, hk⟩ : ∃ k, k = comm xs ys := ⟨_, rfl⟩
  rw [← hk] at HL hla hlb HDEF
  clear hk
  have HA := hid ha
  have HB := hid hb
  obtain ⟨C, hC⟩ : ∃ C, C = xs.take k := ⟨_, rfl⟩
  have hCl : C.length = k := by rw [hC, List.length_take]; omega
  have HCL := hid (fun w' (h : Below w.heap.size w w') => cloneAll ga k ca C w' hCl.symm (by omega) (fun j x hj => by
    rw [hC] at hj
    have hjk : j < k := by have := (List.getElem?_eq_some_iff.1 hj).1; rw [List.length_take] at this; omega
    rw [List.getElem?_take_of_lt hjk] at hj
    exact ints_below HA.out h j x hj))
  rw [← hC] at HDEF
  have HCl := hid hCl
  have q1 : (0 : Int) ≤ (k : Int) := by omega
  have q2 : (k : Int) ≤ (ca : Int) := by omega
  clear hC ha hb
  by_cases hlt : k < xs.length ∧ k < ys.length
  · obtain ⟨h1, h2⟩ := hlt
    rw [if_pos ⟨h1, h2⟩] at HDEF
    have h1' : (k : Int) < (xs.length : Int) := by omega
    have h2' : (k : Int) < (ys.length : Int) := by omega
    obtain ⟨x, hxk⟩ : ∃ x, xs[k]? = some x := ⟨_, List.getElem?_eq_getElem h1⟩
    obtain ⟨y, hyk⟩ : ∃ y, ys[k]? = some y := ⟨_, List.getElem?_eq_getElem h2⟩
    rw [List.getD_eq_getElem?_getD, List.getD_eq_getElem?_getD, hxk, hyk] at HDEF
    have HDEF2 := hid (show cmnL xs ys = trimL (C ++ [min x y]) from HDEF.out)
    have cx := ints_at HA.out hxk
    have cy := ints_at HB.out hyk
    have HCX := hid cx
    have HCY := hid cy
    obtain ⟨M, hM⟩ : ∃ M, M = min x y := ⟨_, rfl⟩
    rw [← hM] at HDEF2
    have hM2 : (if y < x then y else x) = M := by rw [hM]; split <;> omega
    clear hxk hyk HDEF hCl cx cy hM
    go_enter Try.func73, Try.ntmps73
    go_wp2_with (fail)
    refine HL.out.mono ?_
    rintro e w1 ⟨rfl, b1⟩
    have E1 := hid b1
    clear b1
    go_wp2_with (fail)
    refine (HCL.out _ E1.out).mono ?_
    rintro e w2 ⟨g2, c2, rfl, o2, b2⟩
    have E2 := hid (E1.out.trans (b2.mono E1.out.size))
    have O2 := hid (own_mono o2 E1.out.size)
    have cx := (E2.out.cell (p := ⟨ga, k, none⟩) (World.block_lt_of_cell? _ _ HCX.out)).trans HCX.out
    have cy := (E2.out.cell (p := ⟨gb, k, none⟩) (World.block_lt_of_cell? _ _ HCY.out)).trans HCY.out
    clear b2 o2
    go_wp2_with (fail)
    have OA := hid ((own_below O2.out (Below.drew ((Below.refl w2.heap.size w2).alloc (Nat.le_refl _) (.cells #[.int .i64 M] 2)))).2)
    rw [HCl.out] at OA
    have NW := hid (show ∀ (j : Nat) (u : Value), [Value.int .i64 M][j]? = some u → (w2.alloc (.cells #[.int .i64 M] 2)).drew.cell? ((⟨w2.heap.size, 0, none⟩ : Addr).add j) = some u from fun j u h => by have := news1 w2 (.int .i64 M) 2 j u h; simpa using this)
    have OC := hid (show ∀ u ∈ [Value.int .i64 M], u.oneCell' = true from fun u hu => by obtain rfl := List.mem_singleton.1 hu; rfl)
    have ML := hid (show k + 1 ≤ maxLen by unfold maxLen; omega)
    have MB := hid (show (k + 1) * 8 ≤ 140737488355328 by omega)
    have HSZ := hid (show w.heap.size ≤ (w2.alloc (.cells #[.int .i64 M] 2)).drew.heap.size by have := E2.out.size; simp; omega)
    go_region_law (refine step_append_lies (w2.alloc (.cells #[.int .i64 M] 2)).drew (by rfl) (.tmp 24) (.tmp 34) 27 (by rfl) w.heap.size 2 i0 (.int .i64 0) 1 8 Try.underlying27 hi hz0 hz1 hz2 rfl (by decide) (.slice (some ⟨g2, 0, none⟩) k c2) k (intCells C) (by rfl) OA.out ⟨w2.heap.size, 0, none⟩ 1 1 [.int .i64 M] (by rfl) rfl NW.out OC.out (by decide) ML.out MB.out HSZ.out _ rfl ?_; intro g4 c4 w4 hown4 hgrow4 _ hlt4)
    all_goals
      have hB : w.heap.size ≤ g2 := O2.out.1
      have O4 : Own w.heap.size w4 g4 c4 (C ++ [M]) := by
        refine ⟨(hown4.lt g4 rfl).1, ?_⟩
        have h := hown4
        rw [show intCells C ++ [Value.int .i64 M] = intCells (C ++ [M]) from intCells_more _ _] at h
        rw [List.length_append, HCl.out]
        exact h
      have E4 := hid ((Below.drew (E2.out.alloc E2.out.size (.cells #[.int .i64 M] 2))).grown hgrow4 (by have := E2.out.size; simp; omega) (fun k' hk => by have h' : g2 = k' := Option.some.inj hk; omega))
      have hcap := own_cap O4
      have HT := hid (implTrim g4 c4 (C ++ [M]) w4 (by rw [List.length_append, HCl.out]; simp; omega) hcap (own_ints O4))
      rw [List.length_append, HCl.out] at HT
      obtain ⟨T1, T2⟩ := own_trim O4
      rw [List.length_append, HCl.out] at T2
      have HT1 := hid T1
      have HT2 := hid T2
      clear T1 T2 O4 hown4 hgrow4
      go_wp2_with (fail)
      refine HT.out.mono ?_
      rintro e w5 ⟨rfl, rfl⟩
      go_wp2_with (fail)
      go_ret
      rw [HDEF2.out]
      exact ⟨g4, c4, by rw [HT2.out]; rfl, HT1.out, E4.out⟩
  · rw [if_neg hlt, List.append_nil] at HDEF
    have HDEF2 := hid (show cmnL xs ys = trimL C from HDEF.out)
    clear HDEF hCl
    have hcond : (decide ((k : Int) < (xs.length : Int)) && decide ((k : Int) < (ys.length : Int))) = false := by
      rw [Bool.and_eq_false_iff, decide_eq_false_iff_not, decide_eq_false_iff_not]
      by_cases h1 : k < xs.length
      · exact .inr (fun h2 => hlt ⟨h1, by omega⟩)
      · exact .inl (by omega)
    by_cases h1 : k < xs.length
    · have h1' : (k : Int) < (xs.length : Int) := by omega
      have h2' : ¬ (k : Int) < (ys.length : Int) := fun h2 => hlt ⟨h1, by omega⟩
      clear hcond hlt
      go_enter Try.func73, Try.ntmps73
      go_wp2_with (fail)
      refine HL.out.mono ?_
      rintro e w1 ⟨rfl, b1⟩
      have E1 := hid b1
      clear b1
      go_wp2_with (fail)
      refine (HCL.out _ E1.out).mono ?_
      rintro e w2 ⟨g2, c2, rfl, o2, b2⟩
      have E2 := hid (E1.out.trans (b2.mono E1.out.size))
      have O2 := own_mono o2 E1.out.size
      have hcap := own_cap O2
      have HT := hid (implTrim g2 c2 C w2 (by have := HCl.out; omega) hcap (own_ints O2))
      rw [HCl.out] at HT
      obtain ⟨T1, T2⟩ := own_trim O2
      rw [HCl.out] at T2
      have HT1 := hid T1
      have HT2 := hid T2
      clear T1 T2 O2 o2 b2
      go_wp2_with (fail)
      refine HT.out.mono ?_
      rintro e w5 ⟨rfl, rfl⟩
      go_wp2_with (fail)
      go_ret
      rw [HDEF2.out]
      exact ⟨g2, c2, by rw [HT2.out]; rfl, HT1.out, E2.out⟩
    · have h1' : ¬ (k : Int) < (xs.length : Int) := by omega
      clear hcond hlt
      go_enter Try.func73, Try.ntmps73
      go_wp2_with (fail)
      refine HL.out.mono ?_
      rintro e w1 ⟨rfl, b1⟩
      have E1 := hid b1
      clear b1
      go_wp2_with (fail)
      refine (HCL.out _ E1.out).mono ?_
      rintro e w2 ⟨g2, c2, rfl, o2, b2⟩
      have E2 := hid (E1.out.trans (b2.mono E1.out.size))
      have O2 := own_mono o2 E1.out.size
      have hcap := own_cap O2
      have HT := hid (implTrim g2 c2 C w2 (by have := HCl.out; omega) hcap (own_ints O2))
      rw [HCl.out] at HT
      obtain ⟨T1, T2⟩ := own_trim O2
      rw [HCl.out] at T2
      have HT1 := hid T1
      have HT2 := hid T2
      clear T1 T2 O2 o2 b2
      go_wp2_with (fail)
      refine HT.out.mono ?_
      rintro e w5 ⟨rfl, rfl⟩
      go_wp2_with (fail)
      go_ret
      rw [HDEF2.out]
      exact ⟨g2, c2, by rw [HT2.out]; rfl, HT1.out, E2.out⟩

end Go.Proofs.Ytjijabfamjhdjaa
