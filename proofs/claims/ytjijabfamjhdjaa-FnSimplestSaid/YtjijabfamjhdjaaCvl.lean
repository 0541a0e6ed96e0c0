/- Contract: all convergents, as the model tells them. -/
import Derived.Test.YtjijabfamjhdjaaCvs
import Derived.Deep.RegionHeld3
namespace Go.Proofs.Ytjijabfamjhdjaa
open Go.RowKit

def convV (o : Option (List (Int × Int))) : Bool × List (Int × Int) := match o with | some l => (true, l) | none => (false, [])
/-- The block of the model's convergents. -/
def CBlk (w : World) (b : Nat) (p q pp qq : Int) : Prop := w.heap[b]? = some (.cells #[.int .i64 p, .int .i64 q, .int .i64 pp, .int .i64 qq] 110 (0, 0))
theorem cblk_cells {w : World} {b : Nat} {p q pp qq : Int} (h : CBlk w b p q pp qq) : w.cell? ⟨b, 0, none⟩ = some (.int .i64 p) ∧ w.cell? ⟨b, 1, none⟩ = some (.int .i64 q) ∧ w.cell? ⟨b, 2, none⟩ = some (.int .i64 pp) ∧ w.cell? ⟨b, 3, none⟩ = some (.int .i64 qq) := by
  unfold CBlk at h
  refine ⟨?_, ?_, ?_, ?_⟩ <;> simp [World.cell?, h]
theorem cblk_frozen {w : World} {b : Nat} {p q pp qq : Int} (h : CBlk w b p q pp qq) (j : Nat) : w.frozen? ⟨b, j, none⟩ = false := by
  unfold CBlk at h
  simp [World.frozen?, h]
theorem cblk_lt {w : World} {b : Nat} {p q pp qq : Int} (h : CBlk w b p q pp qq) : b < w.heap.size := (Array.getElem?_eq_some_iff.1 h).1
theorem cblk_below {w w' : World} {b : Nat} {p q pp qq : Int} (h : CBlk w b p q pp qq) (hb : Below w.heap.size w w') : CBlk w' b p q pp qq := (hb.block b (cblk_lt h)).trans h
theorem cblk_set {w : World} {b : Nat} {p q pp qq : Int} (h : CBlk w b p q pp qq) (a c d e : Int) : CBlk ((((w.setCell ⟨b, 0, none⟩ (.int .i64 a)).setCell ⟨b, 1, none⟩ (.int .i64 c)).setCell ⟨b, 2, none⟩ (.int .i64 d)).setCell ⟨b, 3, none⟩ (.int .i64 e)) b a c d e := by
  have h1 := heap_setCell_same w b 0 _ _ (.int .i64 a) h
  have h2 := heap_setCell_same _ b 1 _ _ (.int .i64 c) h1
  have h3 := heap_setCell_same _ b 2 _ _ (.int .i64 d) h2
  have h4 := heap_setCell_same _ b 3 _ _ (.int .i64 e) h3
  exact h4
theorem frow_other {B b : Nat} {w : World} {v : Value} {n : Nat} {xs : List Value} {cs : Array Value} {t : TypeId} {z : Nat × Nat} (h : w.ownsRow B 25 2 v n xs) (hb : w.heap[b]? = some (.cells cs t z)) (ht : t ≠ 25) : some b ≠ v.ownBlock := by
  rcases h.2 with ⟨rfl, h0⟩ | ⟨g, cap, cur, rfl, hB, hg, hr⟩
  · simp [Value.ownBlock]
  · intro e
    have e : b = g := by simpa [Value.ownBlock] using e
    subst e
    rw [hg] at hb
    injection hb with hb
    injection hb with _ h2 _
    exact ht h2.symm
theorem cset_grown (w : World) (b : Nat) (x y z u : Value) : w.grownBy ((((w.setCell ⟨b, 0, none⟩ x).setCell ⟨b, 1, none⟩ y).setCell ⟨b, 2, none⟩ z).setCell ⟨b, 3, none⟩ u) (some b) :=
  ⟨rfl, rfl, rfl, by simp, fun k _ hk => by
    have hne : k ≠ b := fun e => hk (by rw [e])
    rw [heap_setCell_other _ ⟨b, 3, none⟩ k u hne, heap_setCell_other _ ⟨b, 2, none⟩ k z hne, heap_setCell_other _ ⟨b, 1, none⟩ k y hne, heap_setCell_other _ ⟨b, 0, none⟩ k x hne]⟩

set_option maxRecDepth 100000 in
set_option maxHeartbeats 1600000 in
theorem specConvL2 (g c : Nat) (xs : List Int) (w : World) (hx : xs.length ≤ 60) (hb : ∀ (j : Nat) (x : Int), xs[j]? = some x → -2000000000 ≤ x ∧ x ≤ 2000000000) (ha : Ints w g 0 xs) :
    Calls Try.prog 89 #[.slice (some ⟨g, 0, none⟩) xs.length c] w fun e w' => ∃ v, e = .returned (.tuple #[v, .bool (convV (cv 1 0 0 1 xs)).1]) ∧ FBack w.heap.size w' v (convV (cv 1 0 0 1 xs)).2 ∧ Below w.heap.size w w' := by
  obtain ⟨i0, hi, hz0, hz1, hz2⟩ := info_parts infoF
  have HA := hid ha
  have HBD := hid hb
  clear ha hb
  go_enter Try.func89, Try.ntmps89
  go_wp2_with (fail)
  refine (specNew _).mono ?_
  rintro e w1 ⟨rfl, b1⟩
  have HR0 := hid (show w1.ownsRow w.heap.size 25 2 (.slice (some ⟨w.heap.size, 0, none⟩) 0 0) 0 (frCells []) from
    (World.ownsRow_lit (base := w.heap.size) (e := 25) (size := 2) w #[] 0 (Nat.le_refl _) (by decide) rfl).kept (below_grows b1) (.inr (by simp [Value.ownBlock])))
  have E1 := hid (show Below w.heap.size w w1 from ((Below.refl w.heap.size w).alloc (Nat.le_refl _) (.cells #[] 25)).trans (b1.mono (by simp)))
  have HSZ := hid E1.out.size
  clear b1
  go_wp2_with (fail)
  have HB1 := hid (show CBlk (w1.alloc (.cells #[.int .i64 1, .int .i64 0, .int .i64 0, .int .i64 1] 110)) w1.heap.size 1 0 0 1 from by unfold CBlk; show (w1.heap.push _)[w1.heap.size]? = _; simp)
  have E2 := hid (E1.out.alloc E1.out.size (.cells #[.int .i64 1, .int .i64 0, .int .i64 0, .int .i64 1] 110))
  have hb5 : w.heap.size ≤ w1.heap.size := E1.out.size
  obtain ⟨b5, hb5e⟩ : ∃ b5, b5 = w1.heap.size := ⟨_, rfl⟩
  rw [← hb5e] at HB1 hb5 ⊢
  clear hb5e
  go_loopw [4, 6, 7] (fun v i u wr => ∃ (k : Nat) (l : List (Int × Int)) (p q pp qq : Int), i = .int .i64 k ∧ k ≤ xs.length ∧ l.length ≤ k ∧ wr.ownsRow w.heap.size 25 2 v l.length (frCells l) ∧ CBlk wr b5 p q pp qq ∧ Bd p ∧ Bd q ∧ Bd pp ∧ Bd qq ∧ Hid (cv 1 0 0 1 xs = (cv p q pp qq (xs.drop k)).map (l ++ ·)) ∧ Below w.heap.size w wr) (fun _ i _ _ => xs.length - (RowKit.intOf i).toNat)
  case atStart => exact ⟨0, [], 1, 0, 0, 1, rfl, by omega, by simp, HR0.out.alloc _, HB1.out, by constructor <;> omega, by constructor <;> omega, by constructor <;> omega, by constructor <;> omega, hid (by simp), E2.out⟩
  case round =>
    obtain ⟨k, l, p, q, pp, qq, rfl, hk, hlk, hown, hblk, hp, hq, hpp, hqq, hst, hbel⟩ := hrel
    have HBEL := hid hbel
    have HOWN := hid hown
    have HBLK := hid hblk
    have hk0 : (0 : Int) ≤ (k : Int) := by omega
    by_cases hlt : k < xs.length
    · have hlt' : (k : Int) < (xs.length : Int) := by omega
      obtain ⟨t, hxk⟩ : ∃ t, xs[k]? = some t := ⟨_, List.getElem?_eq_getElem hlt⟩
      have ca1 := ints_at HA.out hxk
      have hgl : g < w.heap.size := World.block_lt_of_cell? _ _ ca1
      have ca0 := (hbel.cell (p := ⟨g, k, none⟩) hgl).trans ca1
      have HT := hid (HBD.out _ _ hxk)
      have HP := hid hp
      have HQ := hid hq
      obtain ⟨c0, c1, c2, c3⟩ := cblk_cells hblk
      have f0 := cblk_frozen hblk 0
      have f1 := cblk_frozen hblk 1
      have f2 := cblk_frozen hblk 2
      have f3 := cblk_frozen hblk 3
      have hb5l := cblk_lt hblk
      have hgr : g < wr.heap.size := Nat.lt_of_lt_of_le hgl hbel.size
      have hgb : g ≠ b5 := by omega
      have HN := hid (fun w => specNext p q pp qq t w hp hq hpp hqq HT.out)
      have hst2 := hst.out
      rw [List.drop_eq_getElem_cons hlt, (List.getElem?_eq_some_iff.1 hxk).2] at hst2
      have HST := hid hst2
      clear hst hst2 hown hblk hbel hp hq hpp hqq ca1 hxk
      go_wp2_with (fail)
      go_region_with (go_at_call 102; refine (HN.out _).mono ?_; rintro e w2 ⟨rfl, hb2⟩; have B2 : CBlk w2 b5 p q pp qq := cblk_below (by exact HBLK.out) hb2; obtain ⟨d0, d1, d2, d3⟩ := cblk_cells B2; have e0 := cblk_frozen B2 0; have e1 := cblk_frozen B2 1; have e2 := cblk_frozen B2 2; have e3 := cblk_frozen B2 3)
      all_goals
        obtain ⟨w3, hw3⟩ : ∃ w3, w3 = (((w2.setCell ⟨b5, 0, none⟩ (.int .i64 (t * p + pp))).setCell ⟨b5, 1, none⟩ (.int .i64 (t * q + qq))).setCell ⟨b5, 2, none⟩ (.int .i64 p)).setCell ⟨b5, 3, none⟩ (.int .i64 q) := ⟨_, rfl⟩
        have hB2 : Below w.heap.size w w2 := HBEL.out.trans ((Below.drew (Below.refl _ _)).trans (hb2.mono HBEL.out.size))
        have R3 := hid (show w3.ownsRow w.heap.size 25 2 _ l.length (frCells l) by
          rw [hw3]
          have hb2' : Below wr.heap.size wr w2 := (Below.drew (Below.refl _ _)).trans hb2
          have r2 := HOWN.out.kept (below_grows hb2') (Classical.em _)
          exact r2.kept (cset_grown _ _ _ _ _ _) (.inr (by intro e; exact frow_other r2 B2 (by decide) e.symm)))
        have B3 := hid (show CBlk w3 b5 (t * p + pp) (t * q + qq) p q by rw [hw3]; exact cblk_set B2 _ _ _ _)
        have E3 := hid (show Below w.heap.size w w3 by rw [hw3]; exact (((hB2.setCell (p := ⟨b5, 0, none⟩) hb5 _).setCell (p := ⟨b5, 1, none⟩) hb5 _).setCell (p := ⟨b5, 2, none⟩) hb5 _).setCell (p := ⟨b5, 3, none⟩) hb5 _)
        rw [← hw3]
        have OKP := hid (fun h : okF (t * p + pp) (t * q + qq) = true => okF_iff.1 h)
        have HST := HST
        obtain ⟨x0, x1, _, _⟩ := cblk_cells B3.out
        clear hw3 B2 d0 d1 d2 d3 e0 e1 e2 e3 hb2 hB2 c0 c1 c2 c3 f0 f1 f2 f3 HBEL HOWN HBLK
        have HS := hid (fun w => specOk (t * p + pp) (t * q + qq) w)
        have HCV := hid (show ∀ b, okF (t * p + pp) (t * q + qq) = b → cv 1 0 0 1 xs = if b then ((cv (t * p + pp) (t * q + qq) p q (xs.drop (k + 1))).map ((t * p + pp, t * q + qq) :: ·)).map (l ++ ·) else none from fun b hb => by
          rw [HST.out]
          cases b
          · rw [cv_no hb]; rfl
          · rw [cv_yes hb]; rfl)
        generalize t * p + pp = p2 at *
        generalize t * q + qq = q2 at *
        cases ho : okF p2 q2
        · have HR := hid (show cv 1 0 0 1 xs = none from HCV.out _ ho)
          rw [ho] at HS
          go_wp2_with (fail)
          refine (HS.out _).mono ?_
          rintro e w4 ⟨rfl, b4⟩
          have E4 := hid ((E3.out.alloc E3.out.size _).trans (b4.mono (Nat.le_trans E3.out.size (by simp))))
          go_wp2_with (fail)
          go_ret2
          exact ⟨_, by rw [HR.out]; rfl, by rw [HR.out]; exact .inl ⟨rfl, rfl⟩, E4.out⟩
        · have HR := hid (show cv 1 0 0 1 xs = _ from HCV.out _ ho)
          rw [if_pos rfl] at HR
          obtain ⟨ob1, ob2, ob3, ob4, _⟩ := OKP.out ho
          rw [ho] at HS
          go_wp2_with (fail)
          refine (HS.out _).mono ?_
          rintro e w4 ⟨rfl, b4⟩
          have E4 := hid ((E3.out.alloc E3.out.size (.cells #[.int .i64 p2, .int .i64 q2] 25)).trans (b4.mono (Nat.le_trans E3.out.size (by simp))))
          have R4 := hid ((R3.out.alloc (.cells #[.int .i64 p2, .int .i64 q2] 25)).kept (below_grows b4) (Classical.em _))
          have HL4 := hid (show cv 1 0 0 1 xs = (cv p2 q2 p q (xs.drop (k + 1))).map ((l ++ [(p2, q2)]) ++ ·) by rw [HR.out, Option.map_map]; congr 1; funext z; simp)
          have y0 := (b4.cell (p := ⟨w3.heap.size, 0, none⟩) (by simp)).trans (two_new w3 25 (.int .i64 p2) (.int .i64 q2)).1
          have y1 := (b4.cell (p := ⟨w3.heap.size, 1, none⟩) (by simp)).trans (two_new w3 25 (.int .i64 p2) (.int .i64 q2)).2
          have B4 := hid (cblk_below (cblk_below B3.out ((Below.refl _ _).alloc (Nat.le_refl _) (.cells #[.int .i64 p2, .int .i64 q2] 25))) b4)
          have hb4 : w.heap.size ≤ w4.heap.size := E4.out.size
          clear b4 R3 E3 HR B3
          go_wp2_with (at_builtin; refine wpList_append_own _ rfl _ _ 52 rfl w.heap.size 25 i0 (.agg #[.int .i64 0, .int .i64 0]) 2 16 Try.underlying52 hi hz0 hz1 hz2 rfl (by decide) _ l.length (frCells l) (by rfl) ?_ ⟨w4.heap.size, 0, none⟩ 1 1 [.int .i64 p2, .int .i64 q2] (by rfl) ?_ ?_ ?_ ?_ ?_ ?_ ?_)
          · exact R4.out.alloc _
          · rfl
          · exact news2 _ _ _ _
          · intro u hu
            rcases List.mem_cons.1 hu with rfl | hu
            · rfl
            · obtain rfl := List.mem_singleton.1 hu; rfl
          · unfold maxLen; omega
          · omega
          · (first | omega | (simp <;> omega))
          · intro v2 w5 hown2 hgrow2 _
            have HO2 := hid (show w5.ownsRow w.heap.size 25 2 v2 (l ++ [(p2, q2)]).length (frCells (l ++ [(p2, q2)])) by
              rw [← frCells_more, List.length_append]; exact hown2)
            have HE2 := hid ((E4.out.alloc hb4 (.cells #[.int .i64 p2, .int .i64 q2] 25)).grown hgrow2 (by first | omega | (simp <;> omega)) (fun k hk => (R4.out.lt k hk).1))
            have hl5 : b5 < (w4.alloc (.cells #[.int .i64 p2, .int .i64 q2] 25)).heap.size := by have := cblk_lt B4.out; simp; omega
            have B5 := hid (show CBlk w5 b5 p2 q2 p q by
              unfold CBlk
              rw [hgrow2.block b5 hl5 (frow_other (R4.out.alloc _) (cblk_below B4.out ((Below.refl _ _).alloc (Nat.le_refl _) (.cells #[.int .i64 p2, .int .i64 q2] 25))) (by decide))]
              exact cblk_below B4.out ((Below.refl _ _).alloc (Nat.le_refl _) (.cells #[.int .i64 p2, .int .i64 q2] 25)))
            have HL5 := hid (show (l ++ [(p2, q2)]).length ≤ k + 1 by simp; omega)
            obtain ⟨zs, hzs⟩ : ∃ zs, zs = l ++ [(p2, q2)] := ⟨_, rfl⟩
            rw [← hzs] at HO2 HL4 HL5
            clear hown2 hgrow2 hzs y0 y1
            go_wp2_with (fail)
            go_roundw
            case rel => exact ⟨k + 1, zs, p2, q2, p, q, by go_num, by omega, HL5.out, HO2.out, B5.out, ⟨by omega, by omega⟩, ⟨by omega, by omega⟩, HP.out, HQ.out, HL4, HE2.out⟩
            case measure => simp only [RowKit.intOf]; omega
    · have hlt' : ¬ (k : Int) < (xs.length : Int) := by omega
      have HR := hid (show cv 1 0 0 1 xs = some l by
        rw [hst.out, List.drop_eq_nil_of_le (by omega)]
        show some (l ++ []) = some l
        rw [List.append_nil])
      clear hst hown hblk hbel
      go_wp2_with (fail)
      go_ret2
      exact ⟨_, by rw [HR.out]; rfl, by rw [HR.out]; exact frow_back HOWN.out rfl, HBEL.out⟩

theorem specConvL (g c : Nat) (xs : List Int) (w : World) (hx : xs.length ≤ 60) (hb : ∀ (j : Nat) (x : Int), xs[j]? = some x → -1000000000 ≤ x ∧ x ≤ 1000000000) (ha : Ints w g 0 xs) :
    Calls Try.prog 89 #[.slice (some ⟨g, 0, none⟩) xs.length c] w fun e w' => ∃ v, e = .returned (.tuple #[v, .bool (convV (cv 1 0 0 1 xs)).1]) ∧ FBack w.heap.size w' v (convV (cv 1 0 0 1 xs)).2 ∧ Below w.heap.size w w' :=
  specConvL2 g c xs w hx (fun j x h => by have := hb j x h; omega) ha

end Go.Proofs.Ytjijabfamjhdjaa
