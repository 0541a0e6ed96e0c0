/- Contracts: how many terms there are by each kind, by the program and by the model. -/
import Derived.Test.YtipegemhcmfnmaaDoorExm
namespace Go.Proofs.YtipegemhcmfnmaaDoor
open Go.RowKit

def IListR (B : Nat) (r : List Int × Int) (e : Ending) (w' : World) : Prop := ∃ v, e = .returned (.tuple #[v, .int .i64 r.2]) ∧ Back B w' v r.1
def lensTo (n d : Int) (k : Nat) : List Int := (List.range k).map fun i : Nat => lenK n d ((i : Int) + 1)
theorem lensTo_len (n d : Int) (k : Nat) : (lensTo n d k).length = k := by unfold lensTo; simp
theorem lensTo_more (n d : Int) (k : Nat) : lensTo n d k ++ [lenK n d ((k : Int) + 1)] = lensTo n d (k + 1) := by unfold lensTo; rw [List.range_succ, List.map_append]; rfl
theorem lensS_ok {n d : Int} (h : okF n d = true) : lensS n d = (lensTo n d 4, 0) := by unfold lensS; rw [if_pos h]; rfl
theorem lensS_no {n d : Int} (h : okF n d = false) : lensS n d = ([], 1) := by unfold lensS; rw [h]; rfl
theorem lensS_len (n d : Int) : (lensS n d).1.length ≤ 4 := by
  cases h : okF n d
  · rw [lensS_no h]; exact Nat.zero_le _
  · rw [lensS_ok h, lensTo_len]; exact Nat.le_refl _
theorem irow_back {B : Nat} {w : World} {v : Value} {n : Nat} {xs : List Int} (h : w.ownsRow B 2 1 v n (intCells xs)) (hn : n = xs.length) : Back B w v xs := by
  subst hn
  rcases h.2 with ⟨h1, h2⟩ | ⟨g, cap, cur, rfl, hB, hr⟩
  · exact .inl ⟨h1, List.length_eq_zero_iff.1 h2⟩
  · exact .inr ⟨g, cap, rfl, hB, h⟩
theorem inews1 (w : World) (x : Value) (t : TypeId) : ∀ (j : Nat) (u : Value), [x][j]? = some u → (w.alloc (.cells #[x] t)).cell? ((⟨w.heap.size, 0, none⟩ : Addr).add j) = some u :=
  (World.ownsRow_lit (base := 0) (e := t) (size := 1) w #[x] 1 (Nat.zero_le _) (by decide) rfl).cells rfl
theorem irow_other {B b : Nat} {w : World} {v : Value} {n : Nat} {xs : List Value} {cs : Array Value} {t : TypeId} {z : Nat × Nat} (h : w.ownsRow B 2 1 v n xs) (hb : w.heap[b]? = some (.cells cs t z)) (ht : t ≠ 2) : some b ≠ v.ownBlock := by
  rcases h.2 with ⟨rfl, h0⟩ | ⟨g, cap, cur, rfl, hB, hg, hr⟩
  · simp [Value.ownBlock]
  · intro e
    have e : b = g := by simpa [Value.ownBlock] using e
    subst e
    rw [hg] at hb
    injection hb with hb
    injection hb with _ h2 _
    exact ht h2.symm
theorem sback_slice {B : Nat} {w : World} {v : Value} {xs : List (Int × Int)} (h : SBack B w v xs) : ∃ a c, v = .slice a xs.length c := by
  rcases h with ⟨rfl, rfl⟩ | ⟨g, c, rfl, _⟩
  · exact ⟨_, _, rfl⟩
  · exact ⟨_, _, rfl⟩

set_option maxRecDepth 100000 in
set_option maxHeartbeats 3200000 in
theorem implLens (n d : Int) (a0 a1 a2 a3 : Addr) (w : World) (hs : Errs a0 a1 a2 a3 w) :
    Calls Tryd.prog 22 #[.agg #[.int .i64 n, .int .i64 d]] w fun e w' => IListR w.heap.size (lensS n d) e w' ∧ Below w.heap.size w w' := by
  obtain ⟨i0, hi, hz0, hz1, hz2⟩ := info_parts infoI
  have HS := hid hs
  clear hs
  obtain ⟨W, hW⟩ : ∃ W, W = w.alloc (.cells #[.int .i64 n, .int .i64 d] 30) := ⟨_, rfl⟩
  have A : Below w.heap.size w W := by rw [hW]; exact (Below.refl _ _).alloc (Nat.le_refl _) _
  have EA := hid A
  have FB0 := hid (show FB W w.heap.size n d by rw [hW]; exact fb_new w n d)
  have hWl : w.heap.size < W.heap.size := by rw [hW]; simp
  have V := hid (implValid n d W)
  have K := hid (fun k w (h : Errs a0 a1 a2 a3 w) => implExpandS n d k a0 a1 a2 a3 w h)
  clear A
  cases hok : okF n d
  · rw [hok] at V
    have HR := hid (lensS_no hok)
    clear hok
    go_enter Tryd.func22, Tryd.ntmps22
    go_wp2_with (fail)
    rw [← hW]
    clear hW
    refine V.out.mono ?_
    rintro e w1 ⟨rfl, b1⟩
    have E1 := hid (EA.out.trans (b1.mono EA.out.size))
    clear b1 V
    go_wp2_with (fail)
    go_ret2
    exact ⟨⟨_, by rw [HR.out]; rfl, by rw [HR.out]; exact .inl ⟨rfl, rfl⟩⟩, E1.out⟩
  rw [hok] at V
  have HR := hid (lensS_ok hok)
  clear hok
  go_enter Tryd.func22, Tryd.ntmps22
  go_wp2_with (fail)
  rw [← hW]
  clear hW
  refine V.out.mono ?_
  rintro e w1 ⟨rfl, b1⟩
  have E1 := hid (EA.out.trans (b1.mono EA.out.size))
  have F1 := hid (fb_below FB0.out b1)
  clear b1 V
  go_wp2_with (fail)
  have R0 := hid (show w1.ownsRow w.heap.size 2 1 (.slice none 0 0) 0 (intCells []) from World.ownsRow_nil _ _ _ _)
  have E2 := hid E1.out
  have F2 := hid F1.out
  go_loopw [4, 5, 6, 7, 8] (fun v u5 u6 u7 u8 wr => ∃ k : Nat, u5 = .int .i64 ((k : Int) + 1) ∧ k ≤ 4 ∧ wr.ownsRow w.heap.size 2 1 v k (intCells (lensTo n d k)) ∧ FB wr w.heap.size n d ∧ Below w.heap.size w wr) (fun v u5 u6 u7 u8 _ => 5 - (RowKit.intOf u5).toNat)
  case atStart => exact ⟨0, rfl, by omega, R0.out, F2.out, E2.out⟩
  case round =>
    obtain ⟨k, rfl, hk, hown, hfb, hbel⟩ := hrel
    have HBEL := hid hbel
    have HOWN := hid hown
    have HFB := hid hfb
    have hbw : w.heap.size ≤ wr.heap.size := hbel.size
    obtain ⟨x0, x1, _, _, _⟩ := fb_cells hfb
    clear hown hfb
    by_cases hlt : k < 4
    · have hlt' : (k : Int) + 1 ≤ 4 := by omega
      have HM := hid (lensTo_more n d k)
      have KK := hid (K.out ((k : Int) + 1) wr (errs_below HS.out hbel))
      have HLK := hid (show lenK n d ((k : Int) + 1) = if (expS n d ((k : Int) + 1)).2 = 0 then ((expS n d ((k : Int) + 1)).1.length : Int) else -1 from rfl)
      have HEL := hid (expS_len n d ((k : Int) + 1))
      clear hbel
      generalize expS n d ((k : Int) + 1) = r at *
      obtain ⟨l, c⟩ := r
      by_cases hc : c = 0
      · subst hc
        have HV := hid (show lenK n d ((k : Int) + 1) = (l.length : Int) from by rw [HLK.out]; rfl)
        go_wp2_with (fail)
        refine KK.out.mono ?_
        rintro e w4 ⟨⟨v4, rfl, r4⟩, b4⟩
        obtain ⟨p4, q4, rfl⟩ := sback_slice r4
        clear r4 HLK
        have E4 := hid (HBEL.out.trans (b4.mono hbw))
        have O4 := hid (HOWN.out.kept (below_grows b4) (Classical.em _))
        have F4 := hid (fb_below HFB.out b4)
        have hb4 : w.heap.size ≤ w4.heap.size := E4.out.size
        have HEL := HEL
        clear b4 KK x0 x1 HOWN HBEL HFB
        dsimp only
        go_wp2_with (at_builtin; refine wpList_append_own _ rfl _ _ 33 rfl w.heap.size 2 i0 (.int .i64 0) 1 8 Tryd.underlying33 hi hz0 hz1 hz2 rfl (by decide) _ k (intCells (lensTo n d k)) (by rfl) ?ca0 ⟨w4.heap.size, 0, none⟩ 1 1 [.int .i64 l.length] (by rfl) ?ca1 ?ca2 ?ca3 ?ca4 ?ca5 ?ca6 ?ca7)
        case ca0 => exact O4.out.alloc _
        case ca1 => rfl
        case ca2 => exact inews1 _ _ _
        case ca3 => intro u hu; obtain rfl := List.mem_singleton.1 hu; rfl
        case ca4 => unfold maxLen; omega
        case ca5 => omega
        case ca6 => (first | omega | (simp <;> omega))
        intro v2 w5 hown2 hgrow2 _
        have HO2 := hid (show w5.ownsRow w.heap.size 2 1 v2 (k + 1) (intCells (lensTo n d (k + 1))) by
          rw [← HM.out, HV.out, ← intCells_more]; exact hown2)
        have E5 := hid ((E4.out.alloc hb4 (.cells #[.int .i64 l.length] 2)).grown hgrow2 (by first | omega | (simp <;> omega)) (fun i hi => (O4.out.lt i hi).1))
        have F5 := hid (show FB w5 w.heap.size n d by
          have h8 := fb_below F4.out ((Below.refl _ _).alloc (Nat.le_refl _) (.cells #[.int .i64 l.length] 2))
          unfold FB
          rw [hgrow2.block w.heap.size (fb_lt h8) (irow_other (O4.out.alloc _) h8 (by decide))]
          exact h8)
        clear hown2 hgrow2
        go_wp2_with (fail)
        go_roundw
        case rel => exact ⟨k + 1, by go_num, by omega, HO2.out, F5.out, E5.out⟩
        case measure => simp only [RowKit.intOf]; omega
      · have hc2 : (c == 0) = false := by simpa using hc
        have hc3 : (c != 0) = true := by simpa using hc
        have HV := hid (show lenK n d ((k : Int) + 1) = -1 from by rw [HLK.out]; exact if_neg hc)
        go_wp2_with (fail)
        refine KK.out.mono ?_
        rintro e w4 ⟨⟨v4, rfl, r4⟩, b4⟩
        clear r4 HLK
        have E4 := hid (HBEL.out.trans (b4.mono hbw))
        have O4 := hid (HOWN.out.kept (below_grows b4) (Classical.em _))
        have F4 := hid (fb_below HFB.out b4)
        have hb4 : w.heap.size ≤ w4.heap.size := E4.out.size
        have HEL := HEL
        clear b4 KK x0 x1 HOWN HBEL HFB
        dsimp only
        go_wp2_with (at_builtin; refine wpList_append_own _ rfl _ _ 33 rfl w.heap.size 2 i0 (.int .i64 0) 1 8 Tryd.underlying33 hi hz0 hz1 hz2 rfl (by decide) _ k (intCells (lensTo n d k)) (by rfl) ?cb0 ⟨w4.heap.size, 0, none⟩ 1 1 [.int .i64 (-1)] (by rfl) ?cb1 ?cb2 ?cb3 ?cb4 ?cb5 ?cb6 ?cb7)
        case cb0 => exact O4.out.alloc _
        case cb1 => rfl
        case cb2 => exact inews1 _ _ _
        case cb3 => intro u hu; obtain rfl := List.mem_singleton.1 hu; rfl
        case cb4 => unfold maxLen; omega
        case cb5 => omega
        case cb6 => (first | omega | (simp <;> omega))
        intro v2 w5 hown2 hgrow2 _
        have HO2 := hid (show w5.ownsRow w.heap.size 2 1 v2 (k + 1) (intCells (lensTo n d (k + 1))) by
          rw [← HM.out, HV.out, ← intCells_more]; exact hown2)
        have E5 := hid ((E4.out.alloc hb4 (.cells #[.int .i64 (-1)] 2)).grown hgrow2 (by first | omega | (simp <;> omega)) (fun i hi => (O4.out.lt i hi).1))
        have F5 := hid (show FB w5 w.heap.size n d by
          have h8 := fb_below F4.out ((Below.refl _ _).alloc (Nat.le_refl _) (.cells #[.int .i64 (-1)] 2))
          unfold FB
          rw [hgrow2.block w.heap.size (fb_lt h8) (irow_other (O4.out.alloc _) h8 (by decide))]
          exact h8)
        clear hown2 hgrow2
        go_wp2_with (fail)
        go_roundw
        case rel => exact ⟨k + 1, by go_num, by omega, HO2.out, F5.out, E5.out⟩
        case measure => simp only [RowKit.intOf]; omega
    · have hlt' : ¬ (k : Int) + 1 ≤ 4 := by omega
      have hk4 : k = 4 := by omega
      subst hk4
      go_wp2_with (fail)
      go_ret2
      exact ⟨⟨_, by rw [HR.out]; rfl, by rw [HR.out]; exact irow_back HOWN.out (lensTo_len n d 4).symm⟩, HBEL.out⟩

set_option maxRecDepth 100000 in
set_option maxHeartbeats 3200000 in
theorem specLens (n d : Int) (w : World) :
    Calls Tryd.prog 23 #[.agg #[.int .i64 n, .int .i64 d]] w fun e w' => IListR w.heap.size (lensS n d) e w' ∧ Below w.heap.size w w' := by
  obtain ⟨i0, hi, hz0, hz1, hz2⟩ := info_parts infoI
  obtain ⟨W, hW⟩ : ∃ W, W = w.alloc (.cells #[.int .i64 n, .int .i64 d] 30) := ⟨_, rfl⟩
  have A : Below w.heap.size w W := by rw [hW]; exact (Below.refl _ _).alloc (Nat.le_refl _) _
  have EA := hid A
  have FB0 := hid (show FB W w.heap.size n d by rw [hW]; exact fb_new w n d)
  have hWl : w.heap.size < W.heap.size := by rw [hW]; simp
  have V := hid (specOk n d W)
  have K := hid (fun k w => specExpandS n d k w)
  clear A
  cases hok : okF n d
  · rw [hok] at V
    have HR := hid (lensS_no hok)
    clear hok
    go_enter Tryd.func23, Tryd.ntmps23
    go_wp2_with (fail)
    rw [← hW]
    clear hW
    refine V.out.mono ?_
    rintro e w1 ⟨rfl, b1⟩
    have E1 := hid (EA.out.trans (b1.mono EA.out.size))
    clear b1 V
    go_wp2_with (fail)
    go_ret2
    exact ⟨⟨_, by rw [HR.out]; rfl, by rw [HR.out]; exact .inl ⟨rfl, rfl⟩⟩, E1.out⟩
  rw [hok] at V
  have HR := hid (lensS_ok hok)
  clear hok
  go_enter Tryd.func23, Tryd.ntmps23
  go_wp2_with (fail)
  rw [← hW]
  clear hW
  refine V.out.mono ?_
  rintro e w1 ⟨rfl, b1⟩
  have E1 := hid (EA.out.trans (b1.mono EA.out.size))
  have F1 := hid (fb_below FB0.out b1)
  clear b1 V
  go_wp2_with (fail)
  have R0 := hid (show (w1.alloc (.cells #[] 2)).ownsRow w.heap.size 2 1 (.slice (some ⟨w1.heap.size, 0, none⟩) 0 0) 0 (intCells []) from World.ownsRow_lit w1 #[] 0 E1.out.size (by decide) rfl)
  have E2 := hid (E1.out.alloc E1.out.size (.cells #[] 2))
  have F2 := hid (fb_below F1.out ((Below.refl _ _).alloc (Nat.le_refl _) (.cells #[] 2)))
  go_loopw [4, 5, 6, 7] (fun v u5 u6 u7 wr => ∃ k : Nat, u5 = .int .i64 ((k : Int) + 1) ∧ k ≤ 4 ∧ wr.ownsRow w.heap.size 2 1 v k (intCells (lensTo n d k)) ∧ FB wr w.heap.size n d ∧ Below w.heap.size w wr) (fun v u5 u6 u7 _ => 5 - (RowKit.intOf u5).toNat)
  case atStart => exact ⟨0, rfl, by omega, R0.out, F2.out, E2.out⟩
  case round =>
    obtain ⟨k, rfl, hk, hown, hfb, hbel⟩ := hrel
    have HBEL := hid hbel
    have HOWN := hid hown
    have HFB := hid hfb
    have hbw : w.heap.size ≤ wr.heap.size := hbel.size
    obtain ⟨x0, x1, _, _, _⟩ := fb_cells hfb
    clear hown hfb
    by_cases hlt : k < 4
    · have hlt' : (k : Int) + 1 ≤ 4 := by omega
      have HM := hid (lensTo_more n d k)
      have KK := hid (K.out ((k : Int) + 1) wr)
      have HLK := hid (show lenK n d ((k : Int) + 1) = if (expS n d ((k : Int) + 1)).2 = 0 then ((expS n d ((k : Int) + 1)).1.length : Int) else -1 from rfl)
      have HEL := hid (expS_len n d ((k : Int) + 1))
      clear hbel
      generalize expS n d ((k : Int) + 1) = r at *
      obtain ⟨l, c⟩ := r
      by_cases hc : c = 0
      · subst hc
        have HV := hid (show lenK n d ((k : Int) + 1) = (l.length : Int) from by rw [HLK.out]; rfl)
        go_wp2_with (fail)
        refine KK.out.mono ?_
        rintro e w4 ⟨⟨v4, rfl, r4⟩, b4⟩
        obtain ⟨p4, q4, rfl⟩ := sback_slice r4
        clear r4 HLK
        have E4 := hid (HBEL.out.trans (b4.mono hbw))
        have O4 := hid (HOWN.out.kept (below_grows b4) (Classical.em _))
        have F4 := hid (fb_below HFB.out b4)
        have hb4 : w.heap.size ≤ w4.heap.size := E4.out.size
        have HEL := HEL
        clear b4 KK x0 x1 HOWN HBEL HFB
        dsimp only
        go_wp2_with (at_builtin; refine wpList_append_own _ rfl _ _ 33 rfl w.heap.size 2 i0 (.int .i64 0) 1 8 Tryd.underlying33 hi hz0 hz1 hz2 rfl (by decide) _ k (intCells (lensTo n d k)) (by rfl) ?ca0 ⟨w4.heap.size, 0, none⟩ 1 1 [.int .i64 l.length] (by rfl) ?ca1 ?ca2 ?ca3 ?ca4 ?ca5 ?ca6 ?ca7)
        case ca0 => exact O4.out.alloc _
        case ca1 => rfl
        case ca2 => exact inews1 _ _ _
        case ca3 => intro u hu; obtain rfl := List.mem_singleton.1 hu; rfl
        case ca4 => unfold maxLen; omega
        case ca5 => omega
        case ca6 => (first | omega | (simp <;> omega))
        intro v2 w5 hown2 hgrow2 _
        have HO2 := hid (show w5.ownsRow w.heap.size 2 1 v2 (k + 1) (intCells (lensTo n d (k + 1))) by
          rw [← HM.out, HV.out, ← intCells_more]; exact hown2)
        have E5 := hid ((E4.out.alloc hb4 (.cells #[.int .i64 l.length] 2)).grown hgrow2 (by first | omega | (simp <;> omega)) (fun i hi => (O4.out.lt i hi).1))
        have F5 := hid (show FB w5 w.heap.size n d by
          have h8 := fb_below F4.out ((Below.refl _ _).alloc (Nat.le_refl _) (.cells #[.int .i64 l.length] 2))
          unfold FB
          rw [hgrow2.block w.heap.size (fb_lt h8) (irow_other (O4.out.alloc _) h8 (by decide))]
          exact h8)
        clear hown2 hgrow2
        go_wp2_with (fail)
        go_roundw
        case rel => exact ⟨k + 1, by go_num, by omega, HO2.out, F5.out, E5.out⟩
        case measure => simp only [RowKit.intOf]; omega
      · have hc2 : (c == 0) = false := by simpa using hc
        have hc3 : (c != 0) = true := by simpa using hc
        have HV := hid (show lenK n d ((k : Int) + 1) = -1 from by rw [HLK.out]; exact if_neg hc)
        go_wp2_with (fail)
        refine KK.out.mono ?_
        rintro e w4 ⟨⟨v4, rfl, r4⟩, b4⟩
        clear r4 HLK
        have E4 := hid (HBEL.out.trans (b4.mono hbw))
        have O4 := hid (HOWN.out.kept (below_grows b4) (Classical.em _))
        have F4 := hid (fb_below HFB.out b4)
        have hb4 : w.heap.size ≤ w4.heap.size := E4.out.size
        have HEL := HEL
        clear b4 KK x0 x1 HOWN HBEL HFB
        dsimp only
        go_wp2_with (at_builtin; refine wpList_append_own _ rfl _ _ 33 rfl w.heap.size 2 i0 (.int .i64 0) 1 8 Tryd.underlying33 hi hz0 hz1 hz2 rfl (by decide) _ k (intCells (lensTo n d k)) (by rfl) ?cb0 ⟨w4.heap.size, 0, none⟩ 1 1 [.int .i64 (-1)] (by rfl) ?cb1 ?cb2 ?cb3 ?cb4 ?cb5 ?cb6 ?cb7)
        case cb0 => exact O4.out.alloc _
        case cb1 => rfl
        case cb2 => exact inews1 _ _ _
        case cb3 => intro u hu; obtain rfl := List.mem_singleton.1 hu; rfl
        case cb4 => unfold maxLen; omega
        case cb5 => omega
        case cb6 => (first | omega | (simp <;> omega))
        intro v2 w5 hown2 hgrow2 _
        have HO2 := hid (show w5.ownsRow w.heap.size 2 1 v2 (k + 1) (intCells (lensTo n d (k + 1))) by
          rw [← HM.out, HV.out, ← intCells_more]; exact hown2)
        have E5 := hid ((E4.out.alloc hb4 (.cells #[.int .i64 (-1)] 2)).grown hgrow2 (by first | omega | (simp <;> omega)) (fun i hi => (O4.out.lt i hi).1))
        have F5 := hid (show FB w5 w.heap.size n d by
          have h8 := fb_below F4.out ((Below.refl _ _).alloc (Nat.le_refl _) (.cells #[.int .i64 (-1)] 2))
          unfold FB
          rw [hgrow2.block w.heap.size (fb_lt h8) (irow_other (O4.out.alloc _) h8 (by decide))]
          exact h8)
        clear hown2 hgrow2
        go_wp2_with (fail)
        go_roundw
        case rel => exact ⟨k + 1, by go_num, by omega, HO2.out, F5.out, E5.out⟩
        case measure => simp only [RowKit.intOf]; omega
    · have hlt' : ¬ (k : Int) + 1 ≤ 4 := by omega
      have hk4 : k = 4 := by omega
      subst hk4
      go_wp2_with (fail)
      go_ret2
      exact ⟨⟨_, by rw [HR.out]; rfl, by rw [HR.out]; exact irow_back HOWN.out (lensTo_len n d 4).symm⟩, HBEL.out⟩

end Go.Proofs.YtipegemhcmfnmaaDoor
