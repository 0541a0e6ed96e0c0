/- Contracts: BoundsOf, by the program and by the model. -/
import Derived.Test.YtjijabfamjhdjaaAro
namespace Go.Proofs.Ytjijabfamjhdjaa
open Go.RowKit

/-- The model's block of bounds. -/
def BBk (w : World) (b : Nat) (q : Int × Int × Int × Int) : Prop := w.heap[b]? = some (.cells #[.int .i64 q.1, .int .i64 q.2.1, .int .i64 q.2.2.1, .int .i64 q.2.2.2] 72 (0, 0))
theorem bbk_below {w w' : World} {b : Nat} {q : Int × Int × Int × Int} (h : BBk w b q) (hb : Below w.heap.size w w') : BBk w' b q := (hb.block b (Array.getElem?_eq_some_iff.1 h).1).trans h
theorem fo_step {P Q PP QQ x : Int} {xs : List Int} {k : Nat} {m : Int × Int × Int × Int} (h : fo P Q PP QQ (xs.drop k) = some m) (hx : xs[k]? = some x) : okF (P + PP) (Q + QQ) = true ∧ fo (PP + x * P) (QQ + x * Q) P Q (xs.drop (k + 1)) = some m := by
  have ho := fo_ok h
  have hlt := (List.getElem?_eq_some_iff.1 hx).1
  rw [List.drop_eq_getElem_cons hlt, (List.getElem?_eq_some_iff.1 hx).2, fo_cons ho] at h
  exact ⟨ho, h⟩

set_option maxRecDepth 100000 in
set_option maxHeartbeats 6400000 in
theorem specBnd (g c : Nat) (xs : List Int) (m : Int × Int × Int × Int) (w : World) (hp : okP xs = true) (hm : fo 1 0 0 1 xs = some m) (ha : Ints w g 0 xs) :
    Calls Try.prog 57 #[.slice (some ⟨g, 0, none⟩) xs.length c] w fun e w' => e = .returned (bV (bQ xs.length m)) ∧ Below w.heap.size w w' := by
  have HA := hid ha
  have hl := okP_len hp
  have HBD := hid (fun (j : Nat) (x : Int) (h : xs[j]? = some x) => okP_bd hp h)
  have N2 := new_two w (.cells #[.int .i64 0, .int .i64 0, .int .i64 0, .int .i64 0] 72) (.cells #[.int .i64 0, .int .i64 1, .int .i64 1, .int .i64 0] 72)
  have HN := hid N2
  have HM := hid hm
  unfold bV
  obtain ⟨⟨q0, q1, q2, q3⟩, hq⟩ : ∃ q, q = bQ xs.length m := ⟨_, rfl⟩
  rw [← hq]
  have HQ := hid hq
  clear hq
  clear ha hp N2 hm
  go_enter Try.func57, Try.ntmps57
  go_wp2_with (fail)
  go_loopw [4] (fun i wr => ∃ (k : Nat) (P Q PP QQ : Int), i = .int .i64 k ∧ k ≤ xs.length ∧ Hid (InvT P Q PP QQ ∧ fo P Q PP QQ (xs.drop k) = some m) ∧ BBk wr (w.heap.size + 1) (bQ k (P, Q, PP, QQ)) ∧ BBk wr w.heap.size (0, 0, 0, 0) ∧ Below w.heap.size w wr) (fun i _ => xs.length - (RowKit.intOf i).toNat)
  case atStart => exact ⟨0, 1, 0, 0, 1, rfl, by omega, hid ⟨inv_top, HM.out⟩, HN.out.2.1, HN.out.1, HN.out.2.2⟩
  case round =>
    obtain ⟨k, P, Q, PP, QQ, rfl, hk, hst, hblk, hb0, hbel⟩ := hrel
    have HBEL := hid hbel
    have HB0 := hid hb0
    have HBLK := hid hblk
    have hk0 : (0 : Int) ≤ (k : Int) := by omega
    by_cases hlt : k < xs.length
    · have hlt' : (k : Int) < (xs.length : Int) := by omega
      obtain ⟨x, hxk⟩ : ∃ x, xs[k]? = some x := ⟨_, List.getElem?_eq_getElem hlt⟩
      have ca1 := ints_at HA.out hxk
      have hgl : g < w.heap.size := World.block_lt_of_cell? _ _ ca1
      have ca0 := (hbel.cell (p := ⟨g, k, none⟩) hgl).trans ca1
      obtain ⟨hx0, hx1⟩ := HBD.out _ _ hxk
      obtain ⟨hinv, hfo⟩ := hst.out
      obtain ⟨ho, hfo2⟩ := fo_step hfo hxk
      obtain ⟨s1, s2⟩ := (inv_ok hinv).1 ho
      have hinv2 := inv_step hinv hx0
      obtain ⟨i1, i2, i3, i4, _⟩ := hinv
      have HST := hid (show InvT (PP + x * P) (QQ + x * Q) P Q ∧ fo (PP + x * P) (QQ + x * Q) P Q (xs.drop (k + 1)) = some m from ⟨hinv2, hfo2⟩)
      obtain ⟨p1, p2⟩ := mul_bd (a := x) (b := P) (by omega) hx1 (by omega) (by omega)
      obtain ⟨p3, p4⟩ := mul_bd (a := x) (b := Q) (by omega) hx1 (by omega) (by omega)
      have hz0 : w.heap.size ≤ wr.heap.size := hbel.size
      have hgr : g < wr.heap.size := by omega
      have hgb : g ≠ w.heap.size + 1 := by omega
      have hgb2 : g ≠ w.heap.size := by omega
      have hzl : w.heap.size + 1 < wr.heap.size := (Array.getElem?_eq_some_iff.1 hblk).1
      clear hst hfo hfo2 hinv2 ho hxk ca1 hbel hb0
      by_cases hev : k % 2 = 0
      · have hr : ((k : Int).tmod 2) = 0 := by rw [Int.tmod_eq_emod_of_nonneg (by omega)]; omega
        have hrr : (((k : Int).tmod 2) == 0) = true := by rw [hr]; rfl
        rw [bQ_even hev] at hblk
        obtain ⟨c0, c1, c2, c3, f0, f1, f2, f3, _⟩ := blk4 hblk
        have HBK := hid (show BBk wr (w.heap.size + 1) (PP, QQ, P, Q) from hblk)
        have HQ2 := hid (bQ_odd (k := k + 1) (by omega) (PP + x * P, QQ + x * Q, P, Q))
        clear hblk HBLK hev
        go_wp2_with (fail)
        go_region
        go_wp2_with (fail)
        go_region
        go_wp2_with (fail)
        go_roundw
        case rel =>
          refine ⟨k + 1, PP + x * P, QQ + x * Q, P, Q, by go_num, by omega, HST, ?_, ?_, ?_⟩
          · rw [HQ2.out]
            exact heap_setCell_same _ (w.heap.size + 1) 1 _ _ (.int .i64 (QQ + x * Q)) (heap_setCell_same wr (w.heap.size + 1) 0 _ _ (.int .i64 (PP + x * P)) HBK.out)
          · have h1 : (wr.setCell ⟨w.heap.size + 1, 0, none⟩ (.int .i64 (PP + x * P))).heap[w.heap.size]? = _ := (heap_setCell_other wr ⟨w.heap.size + 1, 0, none⟩ w.heap.size _ (by simp)).trans HB0.out
            exact (heap_setCell_other (wr.setCell ⟨w.heap.size + 1, 0, none⟩ (.int .i64 (PP + x * P))) ⟨w.heap.size + 1, 1, none⟩ w.heap.size _ (by simp)).trans h1
          · repeat (first | exact HBEL.out | refine below_drewN ?_ _ | refine Below.drew ?_ | refine below_set ?_ (by omega) _)
        case measure => simp only [RowKit.intOf]; omega
      · have hr : ((k : Int).tmod 2) = 1 := by rw [Int.tmod_eq_emod_of_nonneg (by omega)]; omega
        have hrr : (((k : Int).tmod 2) == 0) = false := by rw [hr]; rfl
        rw [bQ_odd hev] at hblk
        obtain ⟨c0, c1, c2, c3, f0, f1, f2, f3, _⟩ := blk4 hblk
        have HBK := hid (show BBk wr (w.heap.size + 1) (P, Q, PP, QQ) from hblk)
        have HQ2 := hid (bQ_even (k := k + 1) (by omega) (PP + x * P, QQ + x * Q, P, Q))
        clear hblk HBLK hev
        go_wp2_with (fail)
        go_region
        go_wp2_with (fail)
        go_region
        go_wp2_with (fail)
        go_roundw
        case rel =>
          refine ⟨k + 1, PP + x * P, QQ + x * Q, P, Q, by go_num, by omega, HST, ?_, ?_, ?_⟩
          · rw [HQ2.out]
            exact heap_setCell_same _ (w.heap.size + 1) 3 _ _ (.int .i64 (QQ + x * Q)) (heap_setCell_same wr (w.heap.size + 1) 2 _ _ (.int .i64 (PP + x * P)) HBK.out)
          · have h1 : (wr.setCell ⟨w.heap.size + 1, 2, none⟩ (.int .i64 (PP + x * P))).heap[w.heap.size]? = _ := (heap_setCell_other wr ⟨w.heap.size + 1, 2, none⟩ w.heap.size _ (by simp)).trans HB0.out
            exact (heap_setCell_other (wr.setCell ⟨w.heap.size + 1, 2, none⟩ (.int .i64 (PP + x * P))) ⟨w.heap.size + 1, 3, none⟩ w.heap.size _ (by simp)).trans h1
          · repeat (first | exact HBEL.out | refine below_drewN ?_ _ | refine Below.drew ?_ | refine below_set ?_ (by omega) _)
        case measure => simp only [RowKit.intOf]; omega
    · have hlt' : ¬ (k : Int) < (xs.length : Int) := by omega
      have hke : k = xs.length := by omega
      obtain ⟨hinv, hfo⟩ := hst.out
      rw [List.drop_eq_nil_of_le (by omega)] at hfo
      have hm2 : (P, Q, PP, QQ) = m := by
        have ho := fo_ok hfo
        rw [fo_nil ho] at hfo
        injection hfo
      rw [hm2, hke, ← HQ.out] at hblk
      obtain ⟨c0, c1, c2, c3, _, _, _, _, _⟩ := blk4 hblk
      obtain ⟨z0, z1, z2, z3, f0, f1, f2, f3, zl⟩ := blk4 HB0.out
      dsimp only at c0 c1 c2 c3
      have HZ := hid HB0.out
      have hz0 : w.heap.size + 1 < wr.heap.size := (Array.getElem?_eq_some_iff.1 hblk).1
      clear hst hinv hfo hm2 hblk hb0 hbel HM HBD hke hk
      go_wp2_with (fail)
      have s4 := set4 HZ.out (.int .i64 q0) (.int .i64 q1) (.int .i64 q2) (.int .i64 q3)
      obtain ⟨r0, r1, r2, r3, _⟩ := blk4 s4
      refine bodyPost_ret (v := .agg #[.int .i64 q0, .int .i64 q1, .int .i64 q2, .int .i64 q3]) (by simp [results, Try.results57, go_sem, r0, r1, r2, r3]) rfl ⟨rfl, ?_⟩
      exact below4 HBEL.out (by omega) _ _ _ _

/-- The numbers of both bounds, and a code. -/
def bdsT (n d : Int) : Int × Int × Int × Int × Int := if code1 n d = 0 then ((bnd n d).1, (bnd n d).2.1, (bnd n d).2.2.1, (bnd n d).2.2.2, 0) else (0, 0, 0, 0, code1 n d)
theorem bdsT_no {n d : Int} (h : code1 n d ≠ 0) : bdsT n d = (0, 0, 0, 0, code1 n d) := if_neg h
theorem bdsT_ok {n d : Int} (h : code1 n d = 0) : bdsT n d = ((bnd n d).1, (bnd n d).2.1, (bnd n d).2.2.1, (bnd n d).2.2.2, 0) := if_pos h
def v5 (t : Int × Int × Int × Int × Int) : Value := .tuple #[.int .i64 t.1, .int .i64 t.2.1, .int .i64 t.2.2.1, .int .i64 t.2.2.2.1, .int .i64 t.2.2.2.2]

set_option maxHeartbeats 1600000 in
theorem implBounds (n d : Int) (w : World) :
    Calls Try.prog 34 #[.agg #[.int .i64 n, .int .i64 d]] w fun e w' => e = .returned (v5 (bdsT n d)) ∧ Below w.heap.size w w' := by
  have HC := hid (chkAt n d w)
  unfold v5
  by_cases hc : code1 n d = 0
  · obtain ⟨ho, hn⟩ := code1_zero hc
    rw [bdsT_ok hc]
    rw [hc] at HC
    have HR := hid (fun w => implAround n d w ho hn)
    unfold bV at HR
    clear hc ho hn
    generalize bnd n d = q at *
    obtain ⟨p, q, r, t⟩ := q
    dsimp only at HR ⊢
    go_enter Try.func34, Try.ntmps34
    go_wp2_with (fail)
    refine HC.out.mono ?_
    rintro e w1 ⟨rfl, ⟨m1, m2⟩, b1⟩
    have E1 := hid b1
    clear b1
    go_wp2_with (fail)
    refine (HR.out _).mono ?_
    rintro e w2 ⟨rfl, b2⟩
    have E2 := hid (E1.out.trans (b2.mono E1.out.size))
    clear b2
    go_wp2_with (fail)
    go_quiet (fail)
    go_wp2_with (fail)
    refine bodyPost_ret (v := .tuple #[.int .i64 p, .int .i64 q, .int .i64 r, .int .i64 t, .int .i64 0]) (by simp [results, Try.results34, go_sem]) rfl ⟨rfl, ?_⟩
    exact (by repeat (first | exact E2.out | refine below_drewN ?_ _ | refine Below.drew ?_ | refine Below.alloc ?_ E2.out.size _))
  · rw [bdsT_no hc]
    generalize code1 n d = k at *
    have hk : (k != 0) = true := by simpa using hc
    go_enter Try.func34, Try.ntmps34
    go_wp2_with (fail)
    refine HC.out.mono ?_
    rintro e w1 ⟨rfl, ⟨m1, m2⟩, b1⟩
    have E1 := hid b1
    clear b1
    go_wp2_with (fail)
    refine bodyPost_ret (v := .tuple #[.int .i64 0, .int .i64 0, .int .i64 0, .int .i64 0, .int .i64 k]) (by simp [results, Try.results34, go_sem]) rfl ⟨rfl, ?_⟩
    exact E1.out

set_option maxHeartbeats 1600000 in
theorem specBounds (n d : Int) (w : World) :
    Calls Try.prog 35 #[.agg #[.int .i64 n, .int .i64 d]] w fun e w' => e = .returned (v5 (bdsT n d)) ∧ Below w.heap.size w w' := by
  have CV := hid (two_new w 25 (.int .i64 n) (.int .i64 d))
  have HC := hid (specCode n d (w.alloc (.cells #[.int .i64 n, .int .i64 d] 25)))
  unfold v5
  by_cases hc : code1 n d = 0
  · obtain ⟨ho, hn⟩ := code1_zero hc
    obtain ⟨m, hm, _⟩ := path_fo ho hn
    rw [bdsT_ok hc, bnd_some hm]
    rw [hc] at HC
    have HP := hid (fun w => specPathL n d w ho hn)
    have hok := path_ok ho hn
    have HR := hid (fun (g c : Nat) (w : World) (h : Ints w g 0 (pathF n d)) => specBnd g c (pathF n d) m w hok hm h)
    unfold bV at HR
    clear hc ho hn hm hok
    generalize bQ (pathF n d).length m = q at *
    obtain ⟨p, q, r, t⟩ := q
    dsimp only at HR ⊢
    generalize pathF n d = xs at *
    go_enter Try.func35, Try.ntmps35
    go_wp2_with (fail)
    refine HC.out.mono ?_
    rintro e w1 ⟨rfl, b1⟩
    have qa := (b1.cell (p := ⟨w.heap.size, 0, none⟩) (by simp)).trans CV.out.1
    have qb := (b1.cell (p := ⟨w.heap.size, 1, none⟩) (by simp)).trans CV.out.2
    have E1 := hid (((Below.refl w.heap.size w).alloc (Nat.le_refl _) (.cells #[.int .i64 n, .int .i64 d] 25)).trans (b1.mono (by simp)))
    clear b1
    go_wp2_with (fail)
    refine (HP.out _).mono ?_
    rintro e w2 ⟨g, c, rfl, o, b2⟩
    have O := hid (own_ints o)
    have E2 := hid (E1.out.trans (b2.mono E1.out.size))
    clear o b2
    go_wp2_with (fail)
    refine (HR.out _ _ _ O.out).mono ?_
    rintro e w3 ⟨rfl, b3⟩
    have E3 := hid (E2.out.trans (b3.mono E2.out.size))
    clear b3
    go_wp2_with (fail)
    go_quiet (fail)
    go_wp2_with (fail)
    refine bodyPost_ret (v := .tuple #[.int .i64 p, .int .i64 q, .int .i64 r, .int .i64 t, .int .i64 0]) (by simp [results, Try.results35, go_sem]) rfl ⟨rfl, ?_⟩
    exact (by repeat (first | exact E3.out | refine below_drewN ?_ _ | refine Below.drew ?_ | refine Below.alloc ?_ E3.out.size _))
  · rw [bdsT_no hc]
    generalize code1 n d = k at *
    have hk : (k != 0) = true := by simpa using hc
    go_enter Try.func35, Try.ntmps35
    go_wp2_with (fail)
    refine HC.out.mono ?_
    rintro e w1 ⟨rfl, b1⟩
    have E1 := hid (((Below.refl w.heap.size w).alloc (Nat.le_refl _) (.cells #[.int .i64 n, .int .i64 d] 25)).trans (b1.mono (by simp)))
    clear b1
    go_wp2_with (fail)
    refine bodyPost_ret (v := .tuple #[.int .i64 0, .int .i64 0, .int .i64 0, .int .i64 0, .int .i64 k]) (by simp [results, Try.results35, go_sem]) rfl ⟨rfl, ?_⟩
    exact E1.out

end Go.Proofs.Ytjijabfamjhdjaa
