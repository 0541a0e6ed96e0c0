/- FnContinuants, walked: continuants do not depend on the direction, and are numerators and denominators. -/
import Derived.Test.YtbbgkflkabkoeaaKf
namespace Go.Proofs.Ytbbgkflkabkoeaa.pContinuants
open Go.RowKit

theorem rev_at {ys : List Int} {k : Nat} {x : Int} (h : ys[k]? = some x) : (ys.drop (k + 1)).reverse ++ [x] = (ys.drop k).reverse := by
  obtain ⟨h1, h2⟩ := List.getElem?_eq_some_iff.1 h
  rw [List.drop_eq_getElem_cons h1, List.reverse_cons, h2]

set_option maxRecDepth 100000 in
set_option maxHeartbeats 4000000 in
theorem walk (ca : Option Addr) (la pa : Nat) (w : World) (ha : ByI w ca la) :
    Calls Try.prog 4 #[.slice ca la pa] w fun e w' => e = .returned (.bool true) ∧ Below w.heap.size w w' := by
  obtain ⟨i0, hi, hz0, hz1, hz2'⟩ := info_parts infoI
  have CL := fun w => a2Long ca none la pa 0 0 w
  cases hl : decide (3000 < la ∨ 3000 < 0) with
  | true =>
    rw [hl] at CL
    have HL := hid CL
    clear CL hl ha
    go_enter Try.func4, Try.ntmps4
    go_wp2_with (fail)
    refine (HL.out _).mono ?_
    rintro e w1 ⟨rfl, rfl⟩
    go_wp2
    go_ret
    exact ⟨rfl, Below.refl _ _⟩
  | false =>
    rw [hl] at CL
    have HL := hid CL
    have hla : la ≤ 3000 := by simp at hl; omega
    have HA := hid ha
    clear CL hl ha
    go_enter Try.func4, Try.ntmps4
    go_wp2_with (fail)
    refine (HL.out _).mono ?_
    rintro e u1 ⟨rfl, rfl⟩
    go_wp2_with (fail)
    refine (a2Terms _ _ _ _ HA.out hla).mono ?_
    rintro e u1 ⟨xs, g, c, rfl, x1, x8, hf, o1, b1⟩
    obtain ⟨N, D, S, V1, V2, V3, f1, f2, f3, f4, f5, f6, f7⟩ := kfacts x1 x8 hf
    have F1 := hid f1
    have F2 := hid f2
    have F3 := hid f3
    have F4 := hid f4
    have F5 := hid f5
    have F7 := hid f7
    have HPL := hid (posT_len xs)
    have E0 := hid b1
    have hx0 : (xs.length : Int) ≤ 8 := by omega
    have hx1 : (1 : Int) ≤ (xs.length : Int) := by omega
    have hx2 : (0 : Int) < (xs.length : Int) := by omega
    obtain ⟨x, hx⟩ : ∃ x, xs[0]? = some x := ⟨_, List.getElem?_eq_getElem (by omega)⟩
    have hxd : xs.getD 0 0 = x := by rw [List.getD_eq_getElem?_getD, hx]; rfl
    have c0 := ints_at (own_ints o1) hx
    have z0 := own_frozen o1 0
    have hgc := own_cap o1
    have hgB := o1.1
    have hgl := own_lt o1
    have OP := hid (show Own w.heap.size (u1.setCell ⟨g, 0, none⟩ (.int .i64 (max 1 x))) g c (posT xs) by
      refine ⟨o1.1, ?_⟩
      have h2 := (o1.2.stored 0 (.int .i64 (max 1 x))).1
      rw [← intCells_set] at h2
      unfold posT
      rw [List.length_set, hxd]
      exact h2)
    have E1 := hid (b1.setCell (p := ⟨g, 0, none⟩) o1.1 (.int .i64 (max 1 x)))
    have hxb := hf.1 x hx
    have hxb1 := hxb.1
    have hxb2 := hxb.2
    clear f1 f2 f3 f4 f5 f7 hf o1 b1 hx hxd hxb HA hla HL
    generalize posT xs = ys at *
    have hlx : xs.length = ys.length := HPL.out.symm
    rw [hlx] at hx0 hx1 hx2 hgc f6 x1 x8 ⊢
    have hm : (1 < x ∧ max 1 x = x) ∨ (x ≤ 1 ∧ max 1 x = 1) := by omega
    have hS : ¬ S < (ys.length : Int) - 1 := by omega
    have hNN : (N != N) = false := by simp
    clear hxb1 hxb2 HPL hlx f6

    rcases hm with ⟨hx3, hm⟩ | ⟨hx3, hm⟩
    · skip
      rw [hm] at OP E1
      clear hm
      go_wp2_with (fail)
      obtain ⟨V, hV⟩ : ∃ V : World, V = (u1.setCell ⟨g, 0, none⟩ (.int .i64 x)).alloc (.cells #[] 2) := ⟨_, rfl⟩
      have hVs : u1.heap.size < V.heap.size := by rw [hV]; simp
      have OV := hid (show Own w.heap.size V g c ys by rw [hV]; exact own_below OP.out ((Below.refl _ _).alloc (Nat.le_refl _) _))
      have EV := hid (show Below w.heap.size w V by rw [hV]; exact E1.out.alloc E1.out.size _)
      have RW := hid (show V.ownsRow u1.heap.size 2 1 (.slice (some ⟨u1.heap.size, 0, none⟩) 0 0) 0 (intCells []) by
        rw [hV]
        have h := lit_none (u1.setCell ⟨g, 0, none⟩ (.int .i64 x)) u1.heap.size (by simp)
        rw [World.size_setCell] at h
        exact h)
      have hBu : w.heap.size ≤ u1.heap.size := E0.out.size
      rw [← hV]
      clear hV OP E1 c0 z0
      go_loopw [4, 5] (fun v i wr => ∃ k : Nat, k ≤ ys.length ∧ i = .int .i64 ((k : Int) - 1) ∧ wr.ownsRow u1.heap.size 2 1 v (ys.length - k) (intCells (ys.drop k).reverse) ∧ Own w.heap.size wr g c ys ∧ Below w.heap.size w wr ∧ u1.heap.size < wr.heap.size) (fun _ i _ => (RowKit.intOf i + 1).toNat)
      case atStart => exact ⟨ys.length, Nat.le_refl _, rfl, by rw [Nat.sub_self, List.drop_eq_nil_of_le (Nat.le_refl _)]; exact RW.out, OV.out, EV.out, hVs⟩
      case round =>
        obtain ⟨k, hk, rfl, hown, hg, hbel, hsz⟩ := hrel
        have HOWN := hid hown
        have HG := hid hg
        have HBEL := hid hbel
        clear hown hbel RW OV EV
        by_cases hk0 : 0 < k
        · have hki : (0 : Int) ≤ (k : Int) - 1 := by omega
          have hkl : (k : Int) - 1 < (ys.length : Int) := by omega
          have ht : ((k : Int) - 1).toNat = k - 1 := by omega
          obtain ⟨z, hzk⟩ : ∃ z, ys[k - 1]? = some z := ⟨_, List.getElem?_eq_getElem (by omega)⟩
          have cz := ints_at (own_ints hg) hzk
          have HRV := hid (show (ys.drop k).reverse ++ [z] = (ys.drop (k - 1)).reverse by have := rev_at hzk; rw [show k - 1 + 1 = k by omega] at this; exact this)
          have hlen : ys.length - k + 1 = ys.length - (k - 1) := by omega
          have HLN := hid hlen
          clear hlen hg hzk
          go_wp2_with (at_builtin; refine wpList_append_own _ rfl _ _ 28 rfl u1.heap.size 2 i0 (.int .i64 0) 1 8 Try.underlying28 hi hz0 hz1 hz2' rfl (by decide) _ (ys.length - k) (intCells (ys.drop k).reverse) (by rfl) ?ka0 ⟨wr.heap.size, 0, none⟩ 1 1 [.int .i64 z] (by rfl) ?ka1 ?ka2 ?ka3 ?ka4 ?ka5 ?ka6 ?ka7)
          case ka0 => exact HOWN.out.alloc _
          case ka1 => rfl
          case ka2 => exact news1 _ _ _
          case ka3 => intro u hu; obtain rfl := List.mem_singleton.1 hu; rfl
          case ka4 => unfold maxLen; omega
          case ka5 => omega
          case ka6 => (first | omega | (simp <;> omega))
          intro v2 w7 hown2 hgrow2 _
          have HO2 := hid (show w7.ownsRow u1.heap.size 2 1 v2 (ys.length - (k - 1)) (intCells (ys.drop (k - 1)).reverse) by
            rw [← HLN.out, ← HRV.out, ← intCells_more]; exact hown2)
          have HG2 := hid (show Own w.heap.size w7 g c ys from ⟨HG.out.1, (HG.out.2.alloc _).kept hgrow2 (.inr (by intro e; have h3 : g = g := rfl; have := (HOWN.out.lt g (by have h4 := e.symm; simpa [Value.ownBlock] using h4)).1; omega))⟩)
          have HE2 := hid ((HBEL.out.alloc HBEL.out.size (.cells #[.int .i64 z] 2)).grown hgrow2 (by have := HBEL.out.size; simp; omega) (fun i hi => by have := (HOWN.out.lt i hi).1; omega))
          have hs2 : u1.heap.size < w7.heap.size := by have := hgrow2.size; simp at this; omega
          clear hown2 hgrow2 cz
          go_wp2_with (fail)
          go_roundw
          case rel => exact ⟨k - 1, by omega, by go_num, HO2.out, HG2.out, HE2.out, hs2⟩
          case measure => simp only [RowKit.intOf]; omega
        · have hkz : k = 0 := by omega
          subst hkz
          obtain ⟨zs, hzs⟩ : ∃ zs, zs = ys.reverse := ⟨_, rfl⟩
          have hzl : zs.length = ys.length := by rw [hzs]; simp
          obtain ⟨g9, c9, rfl, o9⟩ := own_more (xs := zs) HOWN.out (by rw [hzl]; rfl) (by rw [hzs]; rfl) (by omega)
          have O9 := hid o9
          rw [← hzs] at F2
          have HZ8 := hid (show zs.length ≤ 8 by omega)
          have HY8 := hid (show ys.length ≤ 8 by omega)
          have hng : ¬ (0 : Int) ≤ (0 : Int) - 1 := by omega
          clear o9 HOWN hzs hzl hg hk0 hk
          go_wp2_with (fail)
          refine (implCtn g 0 c ys.length ys _ rfl (by have := HY8.out; omega) (own_ints (own_below HG.out (Below.refl _ _)))).mono ?_
          rintro e w1 ⟨rfl, b1⟩
          have Fb_1 := hid b1
          clear b1
          rw [F1.out]
          dsimp only
          go_wp2_with (fail)
          refine (implCtn g9 0 c9 zs.length zs _ rfl (by have := HZ8.out; omega) (own_ints (own_below O9.out (Fb_1.out)))).mono ?_
          rintro e w2 ⟨rfl, b2⟩
          have Fb_2 := hid (Fb_1.out.trans (b2.mono Fb_1.out.size))
          clear Fb_1
          clear b2
          rw [F2.out]
          dsimp only
          by_cases hc1 : c = 1
          · skip
            subst hc1
            have hd1 : ys.length - 1 = (ys.drop 1).length := by rw [List.length_drop]
            have hd2 : (ys.drop 1).length ≤ 2000000000 := by have := HY8.out; omega
            have hd3 : ys.drop 1 = [] := List.drop_eq_nil_of_le (by omega)
            have hd4 : Ints w2 g 0 (ys.drop 1) := by rw [hd3]; intro j x hj; simp at hj
            have hd0 : 0 = (ys.drop 1).length := by rw [List.length_drop]; omega
            have C3 := hid (implCtn g 0 0 0 (ys.drop 1) w2 hd0 hd2 hd4)
            clear hd0 hd1 hd2 hd3 hd4
            go_wp2_with (fail)
            refine (C3.out).mono ?_
            rintro e w3 ⟨rfl, b3⟩
            have Fb_3 := hid (Fb_2.out.trans (b3.mono Fb_2.out.size))
            clear Fb_2
            clear b3
            rw [F3.out]
            dsimp only
            go_wp2_with (fail)
            refine (implSum g 1 ys _ (by have := HY8.out; omega) hgc (own_ints (own_below HG.out (Fb_3.out)))).mono ?_
            rintro e w4 ⟨rfl, b4⟩
            have Fb_4 := hid (Fb_3.out.trans (b4.mono Fb_3.out.size))
            clear Fb_3
            clear b4
            rw [F4.out]
            dsimp only
            go_wp2_with (fail)
            refine (specVal g 1 ys _ (by have := HY8.out; omega) (own_ints (own_below HG.out (Fb_4.out)))).mono ?_
            rintro e w5 ⟨rfl, b5⟩
            have Fb_5 := hid (Fb_4.out.trans (b5.mono Fb_4.out.size))
            clear Fb_4
            clear b5
            rw [F5.out]
            dsimp only [valV]
            by_cases hv : V3 = 0
            · obtain ⟨rfl, rfl⟩ := F7.out hv
              subst hv
              go_wp2_with (fail)
              go_ret
              exact ⟨rfl, HBEL.out.trans (((Fb_5.out).alloc (Fb_5.out.size) _).mono HBEL.out.size)⟩
            · have hv2 : (V3 != 0) = true := by simpa using hv
              go_wp2_with (fail)
              go_ret
              exact ⟨rfl, HBEL.out.trans (((Fb_5.out).alloc (Fb_5.out.size) _).mono HBEL.out.size)⟩
          · skip
            have hd1 : ys.length - 1 = (ys.drop 1).length := by rw [List.length_drop]
            have hd2 : (ys.drop 1).length ≤ 2000000000 := by have := HY8.out; omega
            have C3 := hid (implCtn g 1 (c - 1) (ys.length - 1) (ys.drop 1) w2 hd1 hd2 (ints_drop (own_ints (own_below HG.out (Fb_2.out))) 1))
            clear hd1 hd2
            go_wp2_with (fail)
            refine (C3.out).mono ?_
            rintro e w3 ⟨rfl, b3⟩
            have Fb_3 := hid (Fb_2.out.trans (b3.mono Fb_2.out.size))
            clear Fb_2
            clear b3
            rw [F3.out]
            dsimp only
            go_wp2_with (fail)
            refine (implSum g c ys _ (by have := HY8.out; omega) hgc (own_ints (own_below HG.out (Fb_3.out)))).mono ?_
            rintro e w4 ⟨rfl, b4⟩
            have Fb_4 := hid (Fb_3.out.trans (b4.mono Fb_3.out.size))
            clear Fb_3
            clear b4
            rw [F4.out]
            dsimp only
            go_wp2_with (fail)
            refine (specVal g c ys _ (by have := HY8.out; omega) (own_ints (own_below HG.out (Fb_4.out)))).mono ?_
            rintro e w5 ⟨rfl, b5⟩
            have Fb_5 := hid (Fb_4.out.trans (b5.mono Fb_4.out.size))
            clear Fb_4
            clear b5
            rw [F5.out]
            dsimp only [valV]
            by_cases hv : V3 = 0
            · obtain ⟨rfl, rfl⟩ := F7.out hv
              subst hv
              go_wp2_with (fail)
              go_ret
              exact ⟨rfl, HBEL.out.trans (((Fb_5.out).alloc (Fb_5.out.size) _).mono HBEL.out.size)⟩
            · have hv2 : (V3 != 0) = true := by simpa using hv
              go_wp2_with (fail)
              go_ret
              exact ⟨rfl, HBEL.out.trans (((Fb_5.out).alloc (Fb_5.out.size) _).mono HBEL.out.size)⟩
    · skip
      rw [hm] at OP E1
      clear hm
      go_wp2_with (fail)
      obtain ⟨V, hV⟩ : ∃ V : World, V = (u1.setCell ⟨g, 0, none⟩ (.int .i64 1)).alloc (.cells #[] 2) := ⟨_, rfl⟩
      have hVs : u1.heap.size < V.heap.size := by rw [hV]; simp
      have OV := hid (show Own w.heap.size V g c ys by rw [hV]; exact own_below OP.out ((Below.refl _ _).alloc (Nat.le_refl _) _))
      have EV := hid (show Below w.heap.size w V by rw [hV]; exact E1.out.alloc E1.out.size _)
      have RW := hid (show V.ownsRow u1.heap.size 2 1 (.slice (some ⟨u1.heap.size, 0, none⟩) 0 0) 0 (intCells []) by
        rw [hV]
        have h := lit_none (u1.setCell ⟨g, 0, none⟩ (.int .i64 1)) u1.heap.size (by simp)
        rw [World.size_setCell] at h
        exact h)
      have hBu : w.heap.size ≤ u1.heap.size := E0.out.size
      rw [← hV]
      clear hV OP E1 c0 z0
      go_loopw [4, 5] (fun v i wr => ∃ k : Nat, k ≤ ys.length ∧ i = .int .i64 ((k : Int) - 1) ∧ wr.ownsRow u1.heap.size 2 1 v (ys.length - k) (intCells (ys.drop k).reverse) ∧ Own w.heap.size wr g c ys ∧ Below w.heap.size w wr ∧ u1.heap.size < wr.heap.size) (fun _ i _ => (RowKit.intOf i + 1).toNat)
      case atStart => exact ⟨ys.length, Nat.le_refl _, rfl, by rw [Nat.sub_self, List.drop_eq_nil_of_le (Nat.le_refl _)]; exact RW.out, OV.out, EV.out, hVs⟩
      case round =>
        obtain ⟨k, hk, rfl, hown, hg, hbel, hsz⟩ := hrel
        have HOWN := hid hown
        have HG := hid hg
        have HBEL := hid hbel
        clear hown hbel RW OV EV
        by_cases hk0 : 0 < k
        · have hki : (0 : Int) ≤ (k : Int) - 1 := by omega
          have hkl : (k : Int) - 1 < (ys.length : Int) := by omega
          have ht : ((k : Int) - 1).toNat = k - 1 := by omega
          obtain ⟨z, hzk⟩ : ∃ z, ys[k - 1]? = some z := ⟨_, List.getElem?_eq_getElem (by omega)⟩
          have cz := ints_at (own_ints hg) hzk
          have HRV := hid (show (ys.drop k).reverse ++ [z] = (ys.drop (k - 1)).reverse by have := rev_at hzk; rw [show k - 1 + 1 = k by omega] at this; exact this)
          have hlen : ys.length - k + 1 = ys.length - (k - 1) := by omega
          have HLN := hid hlen
          clear hlen hg hzk
          go_wp2_with (at_builtin; refine wpList_append_own _ rfl _ _ 28 rfl u1.heap.size 2 i0 (.int .i64 0) 1 8 Try.underlying28 hi hz0 hz1 hz2' rfl (by decide) _ (ys.length - k) (intCells (ys.drop k).reverse) (by rfl) ?kb0 ⟨wr.heap.size, 0, none⟩ 1 1 [.int .i64 z] (by rfl) ?kb1 ?kb2 ?kb3 ?kb4 ?kb5 ?kb6 ?kb7)
          case kb0 => exact HOWN.out.alloc _
          case kb1 => rfl
          case kb2 => exact news1 _ _ _
          case kb3 => intro u hu; obtain rfl := List.mem_singleton.1 hu; rfl
          case kb4 => unfold maxLen; omega
          case kb5 => omega
          case kb6 => (first | omega | (simp <;> omega))
          intro v2 w7 hown2 hgrow2 _
          have HO2 := hid (show w7.ownsRow u1.heap.size 2 1 v2 (ys.length - (k - 1)) (intCells (ys.drop (k - 1)).reverse) by
            rw [← HLN.out, ← HRV.out, ← intCells_more]; exact hown2)
          have HG2 := hid (show Own w.heap.size w7 g c ys from ⟨HG.out.1, (HG.out.2.alloc _).kept hgrow2 (.inr (by intro e; have h3 : g = g := rfl; have := (HOWN.out.lt g (by have h4 := e.symm; simpa [Value.ownBlock] using h4)).1; omega))⟩)
          have HE2 := hid ((HBEL.out.alloc HBEL.out.size (.cells #[.int .i64 z] 2)).grown hgrow2 (by have := HBEL.out.size; simp; omega) (fun i hi => by have := (HOWN.out.lt i hi).1; omega))
          have hs2 : u1.heap.size < w7.heap.size := by have := hgrow2.size; simp at this; omega
          clear hown2 hgrow2 cz
          go_wp2_with (fail)
          go_roundw
          case rel => exact ⟨k - 1, by omega, by go_num, HO2.out, HG2.out, HE2.out, hs2⟩
          case measure => simp only [RowKit.intOf]; omega
        · have hkz : k = 0 := by omega
          subst hkz
          obtain ⟨zs, hzs⟩ : ∃ zs, zs = ys.reverse := ⟨_, rfl⟩
          have hzl : zs.length = ys.length := by rw [hzs]; simp
          obtain ⟨g9, c9, rfl, o9⟩ := own_more (xs := zs) HOWN.out (by rw [hzl]; rfl) (by rw [hzs]; rfl) (by omega)
          have O9 := hid o9
          rw [← hzs] at F2
          have HZ8 := hid (show zs.length ≤ 8 by omega)
          have HY8 := hid (show ys.length ≤ 8 by omega)
          have hng : ¬ (0 : Int) ≤ (0 : Int) - 1 := by omega
          clear o9 HOWN hzs hzl hg hk0 hk
          go_wp2_with (fail)
          refine (implCtn g 0 c ys.length ys _ rfl (by have := HY8.out; omega) (own_ints (own_below HG.out (Below.refl _ _)))).mono ?_
          rintro e w1 ⟨rfl, b1⟩
          have Fb_1 := hid b1
          clear b1
          rw [F1.out]
          dsimp only
          go_wp2_with (fail)
          refine (implCtn g9 0 c9 zs.length zs _ rfl (by have := HZ8.out; omega) (own_ints (own_below O9.out (Fb_1.out)))).mono ?_
          rintro e w2 ⟨rfl, b2⟩
          have Fb_2 := hid (Fb_1.out.trans (b2.mono Fb_1.out.size))
          clear Fb_1
          clear b2
          rw [F2.out]
          dsimp only
          by_cases hc1 : c = 1
          · skip
            subst hc1
            have hd1 : ys.length - 1 = (ys.drop 1).length := by rw [List.length_drop]
            have hd2 : (ys.drop 1).length ≤ 2000000000 := by have := HY8.out; omega
            have hd3 : ys.drop 1 = [] := List.drop_eq_nil_of_le (by omega)
            have hd4 : Ints w2 g 0 (ys.drop 1) := by rw [hd3]; intro j x hj; simp at hj
            have hd0 : 0 = (ys.drop 1).length := by rw [List.length_drop]; omega
            have C3 := hid (implCtn g 0 0 0 (ys.drop 1) w2 hd0 hd2 hd4)
            clear hd0 hd1 hd2 hd3 hd4
            go_wp2_with (fail)
            refine (C3.out).mono ?_
            rintro e w3 ⟨rfl, b3⟩
            have Fb_3 := hid (Fb_2.out.trans (b3.mono Fb_2.out.size))
            clear Fb_2
            clear b3
            rw [F3.out]
            dsimp only
            go_wp2_with (fail)
            refine (implSum g 1 ys _ (by have := HY8.out; omega) hgc (own_ints (own_below HG.out (Fb_3.out)))).mono ?_
            rintro e w4 ⟨rfl, b4⟩
            have Fb_4 := hid (Fb_3.out.trans (b4.mono Fb_3.out.size))
            clear Fb_3
            clear b4
            rw [F4.out]
            dsimp only
            go_wp2_with (fail)
            refine (specVal g 1 ys _ (by have := HY8.out; omega) (own_ints (own_below HG.out (Fb_4.out)))).mono ?_
            rintro e w5 ⟨rfl, b5⟩
            have Fb_5 := hid (Fb_4.out.trans (b5.mono Fb_4.out.size))
            clear Fb_4
            clear b5
            rw [F5.out]
            dsimp only [valV]
            by_cases hv : V3 = 0
            · obtain ⟨rfl, rfl⟩ := F7.out hv
              subst hv
              go_wp2_with (fail)
              go_ret
              exact ⟨rfl, HBEL.out.trans (((Fb_5.out).alloc (Fb_5.out.size) _).mono HBEL.out.size)⟩
            · have hv2 : (V3 != 0) = true := by simpa using hv
              go_wp2_with (fail)
              go_ret
              exact ⟨rfl, HBEL.out.trans (((Fb_5.out).alloc (Fb_5.out.size) _).mono HBEL.out.size)⟩
          · skip
            have hd1 : ys.length - 1 = (ys.drop 1).length := by rw [List.length_drop]
            have hd2 : (ys.drop 1).length ≤ 2000000000 := by have := HY8.out; omega
            have C3 := hid (implCtn g 1 (c - 1) (ys.length - 1) (ys.drop 1) w2 hd1 hd2 (ints_drop (own_ints (own_below HG.out (Fb_2.out))) 1))
            clear hd1 hd2
            go_wp2_with (fail)
            refine (C3.out).mono ?_
            rintro e w3 ⟨rfl, b3⟩
            have Fb_3 := hid (Fb_2.out.trans (b3.mono Fb_2.out.size))
            clear Fb_2
            clear b3
            rw [F3.out]
            dsimp only
            go_wp2_with (fail)
            refine (implSum g c ys _ (by have := HY8.out; omega) hgc (own_ints (own_below HG.out (Fb_3.out)))).mono ?_
            rintro e w4 ⟨rfl, b4⟩
            have Fb_4 := hid (Fb_3.out.trans (b4.mono Fb_3.out.size))
            clear Fb_3
            clear b4
            rw [F4.out]
            dsimp only
            go_wp2_with (fail)
            refine (specVal g c ys _ (by have := HY8.out; omega) (own_ints (own_below HG.out (Fb_4.out)))).mono ?_
            rintro e w5 ⟨rfl, b5⟩
            have Fb_5 := hid (Fb_4.out.trans (b5.mono Fb_4.out.size))
            clear Fb_4
            clear b5
            rw [F5.out]
            dsimp only [valV]
            by_cases hv : V3 = 0
            · obtain ⟨rfl, rfl⟩ := F7.out hv
              subst hv
              go_wp2_with (fail)
              go_ret
              exact ⟨rfl, HBEL.out.trans (((Fb_5.out).alloc (Fb_5.out.size) _).mono HBEL.out.size)⟩
            · have hv2 : (V3 != 0) = true := by simpa using hv
              go_wp2_with (fail)
              go_ret
              exact ⟨rfl, HBEL.out.trans (((Fb_5.out).alloc (Fb_5.out.size) _).mono HBEL.out.size)⟩

end Go.Proofs.Ytbbgkflkabkoeaa.pContinuants
