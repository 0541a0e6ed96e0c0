/- Contract: the common beginning of two paths, by the model. -/
import Derived.Test.YtjijabfamjhdjaaCom
namespace Go.Proofs.Ytjijabfamjhdjaa
open Go.RowKit

theorem specMin (a b : Int) (w : World) :
    Calls Try.prog 96 #[.int .i64 a, .int .i64 b] w fun e w' => e = .returned (.int .i64 (min a b)) ∧ w' = w := by
  by_cases h : a < b
  · have H := hid (show min a b = a by omega)
    go_enter Try.func96, Try.ntmps96
    go_wp2_with (fail)
    go_ret
    exact ⟨by rw [H.out]; rfl, rfl⟩
  · have H := hid (show min a b = b by omega)
    go_enter Try.func96, Try.ntmps96
    go_wp2_with (fail)
    go_ret
    exact ⟨by rw [H.out]; rfl, rfl⟩

/-- The common beginning ends with a 0 only if it is this one number. -/
theorem cmn_end {xs ys : List Int} (hx : okP xs = true) (hy : okP ys = true) : ((cmn xs ys)[(cmn xs ys).length - 1]? = some 0 → cmnL xs ys = []) ∧ ((cmn xs ys)[(cmn xs ys).length - 1]? ≠ some 0 → cmnL xs ys = cmn xs ys) := by
  refine ⟨fun h => ?_, fun h => trimL_same h⟩
  have la := comm_le_left xs ys
  have lb := comm_le_right xs ys
  unfold cmnL
  unfold cmn at h ⊢
  by_cases hc : comm xs ys < xs.length ∧ comm xs ys < ys.length
  · rw [if_pos hc] at h ⊢
    obtain ⟨x, hxk⟩ : ∃ x, xs[comm xs ys]? = some x := ⟨_, List.getElem?_eq_getElem hc.1⟩
    obtain ⟨y, hyk⟩ : ∃ y, ys[comm xs ys]? = some y := ⟨_, List.getElem?_eq_getElem hc.2⟩
    rw [List.getD_eq_getElem?_getD, List.getD_eq_getElem?_getD, hxk, hyk] at h ⊢
    have hl : (xs.take (comm xs ys)).length = comm xs ys := by rw [List.length_take]; omega
    rw [List.length_append, hl, List.length_singleton, Nat.add_sub_cancel, List.getElem?_append_right (by omega), hl, Nat.sub_self] at h
    have hm : min x y = 0 := by simpa using h
    have hz : comm xs ys = 0 := by
      rcases Nat.eq_zero_or_pos (comm xs ys) with e | e
      · exact e
      · have p1 := (okP_iff.1 hx).2 _ x hxk
        have p2 := (okP_iff.1 hy).2 _ y hyk
        rw [lowP_next e] at p1 p2
        omega
    show trimL (xs.take (comm xs ys) ++ [min x y]) = []
    rw [hm, hz]
    rfl
  · rw [if_neg hc, List.append_nil] at h ⊢
    by_cases h1 : comm xs ys < xs.length
    · have e : comm xs ys = ys.length := by omega
      rw [comm_take, e, List.take_length] at h ⊢
      by_cases h0 : 0 < ys.length
      · obtain ⟨z, hz, hz1, _⟩ := okP_last hy h0
        rw [hz] at h
        injection h with h
        omega
      · have : ys = [] := List.length_eq_zero_iff.1 (by omega)
        rw [this]; rfl
    · have e : comm xs ys = xs.length := by omega
      rw [e, List.take_length] at h ⊢
      by_cases h0 : 0 < xs.length
      · obtain ⟨z, hz, hz1, _⟩ := okP_last hx h0
        rw [hz] at h
        injection h with h
        omega
      · have : xs = [] := List.length_eq_zero_iff.1 (by omega)
        rw [this]; rfl

set_option maxRecDepth 100000 in
set_option maxHeartbeats 6400000 in
theorem specCommonL (ga ca gb cb : Nat) (xs ys : List Int) (w : World) (hpx : okP xs = true) (hpy : okP ys = true) (ha : Ints w ga 0 xs) (hb : Ints w gb 0 ys) :
    Calls Try.prog 75 #[.slice (some ⟨ga, 0, none⟩) xs.length ca, .slice (some ⟨gb, 0, none⟩) ys.length cb] w fun e w' => ∃ g c, e = .returned (.slice (some ⟨g, 0, none⟩) (cmnL xs ys).length c) ∧ Own w.heap.size w' g c (cmnL xs ys) ∧ Below w.heap.size w w' := by
  obtain ⟨i0, hi, hz0, hz1, hz2⟩ := info_parts infoI
  have hx := okP_len hpx
  have hy := okP_len hpy
  have HEND := hid (cmn_end hpx hpy)
  have HLX := hid (fun h => okP_last hpx h)
  have HLY := hid (fun h => okP_last hpy h)
  have HCT := hid (comm_take xs ys)
  have HDEF := hid (show cmn xs ys = xs.take (comm xs ys) ++ (if comm xs ys < xs.length ∧ comm xs ys < ys.length then [min (xs.getD (comm xs ys) 0) (ys.getD (comm xs ys) 0)] else []) from rfl)
  have HCA := hid (fun (k : Nat) => comm_at (xs := xs) (ys := ys) (k := k))
  have HA := hid ha
  have HB := hid hb
  have HMN := hid (fun a b w => specMin a b w)
  clear ha hb hpx hpy
  go_enter Try.func75, Try.ntmps75
  go_wp2_with (fail)
  go_loopw [5, 6] (fun v i wr => ∃ (k g c : Nat), i = .int .i64 k ∧ k ≤ xs.length ∧ k ≤ ys.length ∧ v = .slice (some ⟨g, 0, none⟩) k c ∧ Hid (∀ j, j < k → ∃ x, xs[j]? = some x ∧ ys[j]? = some x) ∧ Own w.heap.size wr g c (xs.take k) ∧ Below w.heap.size w wr) (fun _ i _ => xs.length - (RowKit.intOf i).toNat)
  case atStart => exact ⟨0, w.heap.size, 0, rfl, by omega, by omega, rfl, hid fun j hj => by omega, ⟨Nat.le_refl _, lit_none w _ (Nat.le_refl _)⟩, (Below.refl _ _).alloc (Nat.le_refl _) _⟩
  case round =>
    obtain ⟨k, g, c, rfl, hk, hk2, rfl, hall, hown, hbel⟩ := hrel
    have HBEL := hid hbel
    have HOWN := hid hown
    have hk0 : (0 : Int) ≤ (k : Int) := by omega
    have hCl : (xs.take k).length = k := by rw [List.length_take]; omega
    by_cases hlt : k < xs.length ∧ k < ys.length
    · obtain ⟨h1, h2⟩ := hlt
      have h1' : (k : Int) < (xs.length : Int) := by omega
      have h2' : (k : Int) < (ys.length : Int) := by omega
      obtain ⟨x, hxk⟩ : ∃ x, xs[k]? = some x := ⟨_, List.getElem?_eq_getElem h1⟩
      obtain ⟨y, hyk⟩ : ∃ y, ys[k]? = some y := ⟨_, List.getElem?_eq_getElem h2⟩
      have HXK := hid hxk
      have HYK := hid hyk
      have cx1 := HA.out k x hxk
      have cy1 := HB.out k y hyk
      rw [Nat.zero_add] at cx1 cy1
      have hga : ga < w.heap.size := World.block_lt_of_cell? _ _ cx1
      have hgb : gb < w.heap.size := World.block_lt_of_cell? _ _ cy1
      have cx := (hbel.cell (p := ⟨ga, k, none⟩) hga).trans cx1
      have cy := (hbel.cell (p := ⟨gb, k, none⟩) hgb).trans cy1
      have HCX := hid cx1
      have HCY := hid cy1
      obtain ⟨M, hM⟩ : ∃ M, M = min x y := ⟨_, rfl⟩
      have HMN2 := hid (fun w => HMN.out x y w)
      rw [← hM] at HMN2
      have HMM := hid hM
      have hsz := hbel.size
      have hgo : w.heap.size ≤ g := hown.1
      have HGO := hid hgo
      have OA := hid ((own_below HOWN.out (Below.drew ((Below.refl wr.heap.size wr).alloc (Nat.le_refl _) (.cells #[.int .i64 M] 2)))).2)
      rw [hCl] at OA
      have NW := hid (show ∀ (j : Nat) (u : Value), [Value.int .i64 M][j]? = some u → (wr.alloc (.cells #[.int .i64 M] 2)).drew.cell? ((⟨wr.heap.size, 0, none⟩ : Addr).add j) = some u from fun j u h => by have := news1 wr (.int .i64 M) 2 j u h; simpa using this)
      have OC := hid (show ∀ u ∈ [Value.int .i64 M], u.oneCell' = true from fun u hu => by obtain rfl := List.mem_singleton.1 hu; rfl)
      have ML := hid (show k + 1 ≤ maxLen by unfold maxLen; omega)
      have MB := hid (show (k + 1) * 8 ≤ 140737488355328 by omega)
      have HSZ := hid (show w.heap.size ≤ (wr.alloc (.cells #[.int .i64 M] 2)).drew.heap.size by simp; omega)
      have HCl := hid hCl
      clear hxk hyk hM cx1 cy1 hCl hown hbel
      go_wp2_with (fail)
      go_region_law (first | (refine step_append_lies (wr.alloc (.cells #[.int .i64 M] 2)).drew (by rfl) (.tmp 20) (.tmp 30) 27 (by rfl) w.heap.size 2 i0 (.int .i64 0) 1 8 Try.underlying27 hi hz0 hz1 hz2 rfl (by decide) (.slice (some ⟨g, 0, none⟩) k c) k (intCells (xs.take k)) (by rfl) OA.out ⟨wr.heap.size, 0, none⟩ 1 1 [.int .i64 M] (by rfl) rfl NW.out OC.out (by decide) ML.out MB.out HSZ.out _ rfl ?_; intro g4 c4 w4 hown4 hgrow4 _ hlt4) | (go_simp; go_at_call 96; refine (HMN2.out _).mono ?_; rintro e w3 ⟨rfl, rfl⟩))
      all_goals
        have O4 : Own w.heap.size w4 g4 c4 (xs.take k ++ [M]) := by
          refine ⟨(hown4.lt g4 rfl).1, ?_⟩
          have h := hown4
          rw [show intCells (xs.take k) ++ [Value.int .i64 M] = intCells (xs.take k ++ [M]) from intCells_more _ _] at h
          rw [List.length_append, HCl.out]
          exact h
        have E4 := hid ((Below.drew (HBEL.out.alloc HBEL.out.size (.cells #[.int .i64 M] 2))).grown hgrow4 (by have := HBEL.out.size; simp; omega) (fun k' hk => by have h' : g = k' := Option.some.inj hk; have := HGO.out; omega))
        have cx4 := (E4.out.cell (p := ⟨ga, k, none⟩) hga).trans HCX.out
        have cy4 := (E4.out.cell (p := ⟨gb, k, none⟩) hgb).trans HCY.out
        have HO4 := hid O4
        have HL4 := hid (show (xs.take k ++ [M]).length = k + 1 by rw [List.length_append, HCl.out]; rfl)
        have HM4 := hid (show (xs.take k ++ [M])[k]? = some M by rw [List.getElem?_append_right (by rw [HCl.out]; exact Nat.le_refl _), HCl.out, Nat.sub_self]; rfl)
        clear O4 hown4 hgrow4 cx cy
        by_cases hxy : x = y
        · subst hxy
          have hMx : M = x := by rw [HMM.out]; omega
          have HTK := hid (show xs.take k ++ [M] = xs.take (k + 1) by rw [hMx, List.take_add_one, HXK.out]; rfl)
          rw [HTK.out] at HO4
          have HALL := hid (show ∀ j, j < k + 1 → ∃ x, xs[j]? = some x ∧ ys[j]? = some x by
            intro j hj
            by_cases hjk : j = k
            · subst hjk; exact ⟨x, HXK.out, HYK.out⟩
            · exact hall.out j (by omega))
          clear hall hMx HTK
          go_wp2_with (fail)
          go_quiet (fail)
          go_wp2_with (fail)
          go_roundw
          case rel => exact ⟨k + 1, g4, c4, by go_num, by omega, by omega, rfl, HALL, own_below HO4.out (by repeat (first | exact Below.refl _ _ | refine below_drewN ?_ _ | refine Below.drew ?_)), by repeat (first | exact E4.out | refine below_drewN ?_ _ | refine Below.drew ?_)⟩
          case measure => simp only [RowKit.intOf]; omega
        · have hne : (x != y) = true := by simpa using hxy
          have hC : comm xs ys = k := HCA.out k hall.out (fun a b h1 h2 => by
            rw [HXK.out] at h1; rw [HYK.out] at h2
            injection h1 with h1
            injection h2 with h2
            rw [← h1, ← h2]; exact hxy) (by omega) (by omega)
          have HZ := hid (show cmn xs ys = xs.take k ++ [M] by
            rw [HDEF.out, hC, if_pos ⟨by omega, by omega⟩, List.getD_eq_getElem?_getD, List.getD_eq_getElem?_getD, HXK.out, HYK.out, HMM.out]; rfl)
          have cm := ints_at (own_ints HO4.out) HM4.out
          have HLAST := hid (show (xs.take k ++ [M])[(xs.take k ++ [M]).length - 1]? = some M by rw [HL4.out, Nat.add_sub_cancel]; exact HM4.out)
          have hkk : (0 : Int) < (k : Int) + 1 := by omega
          clear hall hxy hC
          by_cases hM0 : M = 0
          · subst hM0
            have HR := hid (show cmnL xs ys = [] from HEND.out.1 (by rw [HZ.out]; exact HLAST.out))
            clear HEND HLAST HZ
            go_wp2_with (fail)
            go_quiet (fail)
            go_wp2_with (fail)
            go_ret
            rw [HR.out]
            exact ⟨w4.heap.size, 0, rfl, ⟨E4.out.size, lit_none (w4.drewN _) w.heap.size E4.out.size⟩, (below_drewN E4.out _).alloc E4.out.size _⟩
          · have HR := hid (show cmnL xs ys = xs.take k ++ [M] by
              rw [HEND.out.2 (by rw [HZ.out, HLAST.out]; intro e; injection e with e; exact hM0 e), HZ.out])
            have hM1 : (M == 0) = false := by simpa using hM0
            clear HEND HLAST HZ
            go_wp2_with (fail)
            go_quiet (fail)
            go_wp2_with (fail)
            go_ret
            rw [HR.out]
            exact ⟨g4, c4, by rw [HL4.out]; rfl, own_below HO4.out (by repeat (first | exact Below.refl _ _ | refine below_drewN ?_ _ | refine Below.drew ?_)), by repeat (first | exact E4.out | refine below_drewN ?_ _ | refine Below.drew ?_)⟩
    · have hC : comm xs ys = k := HCA.out k hall.out (fun a b h1 h2 => absurd ⟨(List.getElem?_eq_some_iff.1 h1).1, (List.getElem?_eq_some_iff.1 h2).1⟩ hlt) hk hk2
      have HZ := hid (show cmn xs ys = xs.take k by rw [HDEF.out, hC, if_neg hlt, List.append_nil])
      have HCl := hid hCl
      rw [hC] at HCT
      clear hall hbel hown hC hCl
      by_cases h0 : k = 0
      · subst h0
        have HR := hid (show cmnL xs ys = xs.take 0 by rw [HEND.out.2 (by rw [HZ.out]; simp), HZ.out])
        by_cases h1 : 0 < xs.length
        · have h1' : (0 : Int) < (xs.length : Int) := by omega
          have h2' : ¬ (0 : Int) < (ys.length : Int) := fun h2 => hlt ⟨h1, by omega⟩
          clear hlt HEND HZ HLX HLY HCT
          go_wp2_with (fail)
          go_ret
          rw [HR.out]
          exact ⟨g, c, rfl, HOWN.out, HBEL.out⟩
        · have h1' : ¬ (0 : Int) < (xs.length : Int) := by omega
          clear hlt HEND HZ HLX HLY HCT
          go_wp2_with (fail)
          go_ret
          rw [HR.out]
          exact ⟨g, c, rfl, HOWN.out, HBEL.out⟩
      · obtain ⟨z, hz⟩ : ∃ z, xs[k - 1]? = some z := ⟨_, List.getElem?_eq_getElem (by omega)⟩
        have hz1 : 1 ≤ z := by
          by_cases h1 : k < xs.length
          · have e : k = ys.length := by
              have : ¬ k < ys.length := fun h2 => hlt ⟨h1, h2⟩
              omega
            obtain ⟨u, hu, hu1, _⟩ := HLY.out (by omega)
            have h2 : (xs.take k)[k - 1]? = some z := by rw [List.getElem?_take_of_lt (by omega)]; exact hz
            rw [HCT.out, List.getElem?_take_of_lt (by omega), e, hu] at h2
            injection h2 with h2
            omega
          · have e : k = xs.length := by omega
            obtain ⟨u, hu, hu1, _⟩ := HLX.out (by omega)
            rw [e, hu] at hz
            injection hz with hz
            omega
        have HZT := hid (show (xs.take k)[k - 1]? = some z by rw [List.getElem?_take_of_lt (by omega)]; exact hz)
        have HR := hid (show cmnL xs ys = xs.take k by
          rw [HEND.out.2 (by rw [HZ.out, HCl.out, HZT.out]; intro e; injection e with e; omega), HZ.out])
        have cm := ints_at (own_ints HOWN.out) HZT.out
        have hzz : (z == 0) = false := by simp; omega
        have hkk : (0 : Int) < (k : Int) := by omega
        have hk1 : (1 : Int) ≤ (k : Int) := by omega
        have t1 : ((k : Int) - 1).toNat = k - 1 := by omega
        have p2 : (0 : Int) ≤ (k : Int) - 1 := by omega
        by_cases h1 : k < xs.length
        · have h1' : (k : Int) < (xs.length : Int) := by omega
          have h2' : ¬ (k : Int) < (ys.length : Int) := fun h2 => hlt ⟨h1, by omega⟩
          clear hlt HEND HZ HLX HLY HCT hz h0
          go_wp2_with (fail)
          go_ret
          rw [HR.out]
          exact ⟨g, c, by rw [HCl.out]; rfl, HOWN.out, HBEL.out⟩
        · have h1' : ¬ (k : Int) < (xs.length : Int) := by omega
          clear hlt HEND HZ HLX HLY HCT hz h0
          go_wp2_with (fail)
          go_ret
          rw [HR.out]
          exact ⟨g, c, by rw [HCl.out]; rfl, HOWN.out, HBEL.out⟩

end Go.Proofs.Ytjijabfamjhdjaa
