/- Contracts: the terms of a fraction by Euclid, by the program and by the model. -/
import Derived.Test.YtjijabfamjhdjaaSh
import Derived.Test.YtjijabfamjhdjaaOth
import Derived.Test.YtjijabfamjhdjaaLv
import Derived.Test.YtjijabfamjhdjaaAr6
namespace Go.Proofs.Ytjijabfamjhdjaa
open Go.RowKit

def expT (n d : Int) : List Int × Int := if okF n d then (eu n d, 0) else ([], 1)
theorem expT_no {n d : Int} (h : okF n d = false) : expT n d = ([], 1) := by unfold expT; rw [h]; rfl
theorem expT_ok {n d : Int} (h : okF n d = true) : expT n d = (eu n d, 0) := by unfold expT; rw [h]; rfl
theorem eu_len_den : ∀ (k : Nat) (n d : Int), d.toNat ≤ k → ((eu n d).length : Int) ≤ max d 0
  | 0, n, d, h => by rw [eu_end (by omega)]; simp; omega
  | k + 1, n, d, h => by
    by_cases hd : d ≤ 0
    · rw [eu_end hd]; simp; omega
    have r1 := Int.emod_nonneg n (b := d) (by omega)
    have r2 := Int.emod_lt_of_pos n (b := d) (by omega)
    rw [eu_step (by omega)]
    have := eu_len_den k d (n % d) (by omega)
    simp only [List.length_cons]
    omega
theorem expT_len {n d : Int} : (expT n d).1.length ≤ 1000000000 := by
  cases h : okF n d
  · rw [expT_no h]; exact Nat.zero_le _
  · rw [expT_ok h]
    have h1 := ok_bounds h
    have := eu_len_den _ n d (Nat.le_refl _)
    show (eu n d).length ≤ _
    omega
theorem row_back {B : Nat} {w : World} {v : Value} {n : Nat} {xs : List Int} (h : w.ownsRow B 2 1 v n (intCells xs)) (hn : n = xs.length) : Back B w v xs := by
  subst hn
  rcases h.2 with ⟨h1, h2⟩ | ⟨g, cap, cur, rfl, hB, hr⟩
  · exact .inl ⟨h1, List.length_eq_zero_iff.1 h2⟩
  · exact .inr ⟨g, cap, rfl, hB, h⟩


theorem implExpand (n d : Int) (w : World) :
    Calls Try.prog 83 #[.agg #[.int .i64 n, .int .i64 d]] w fun e w' => ListR w.heap.size (expT n d) e w' ∧ Below w.heap.size w w' := by
  obtain ⟨i0, hi, hz0, hz1, hz2'⟩ := info_parts infoI
  have CV := hid (two_new w 25 (.int .i64 n) (.int .i64 d))
  have HVv := hid (implValid n d (w.alloc (.cells #[.int .i64 n, .int .i64 d] 25)))
  cases hok : okF n d
  · rw [expT_no hok]
    rw [hok] at HVv
    go_enter Try.func83, Try.ntmps83
    go_wp2_with (fail)
    refine HVv.out.mono ?_
    rintro e w1 ⟨rfl, b1⟩
    have E1 := hid (((Below.refl w.heap.size w).alloc (Nat.le_refl _) (.cells #[.int .i64 n, .int .i64 d] 25)).trans (b1.mono (by simp)))
    clear b1
    go_wp2_with (fail)
    go_ret2
    exact ⟨⟨_, rfl, backNil⟩, E1.out⟩
  have hbd := ok_bounds hok
  obtain ⟨d1, d2, d3, d4⟩ := hbd
  rw [expT_ok hok]
  rw [hok] at HVv
  clear hok
  go_enter Try.func83, Try.ntmps83
  go_wp2_with (fail)
  refine HVv.out.mono ?_
  rintro e w1 ⟨rfl, b1⟩
  have qa := (b1.cell (p := ⟨w.heap.size, 0, none⟩) (by simp)).trans CV.out.1
  have qb := (b1.cell (p := ⟨w.heap.size, 1, none⟩) (by simp)).trans CV.out.2
  have E1 := hid (((Below.refl w.heap.size w).alloc (Nat.le_refl _) (.cells #[.int .i64 n, .int .i64 d] 25)).trans (b1.mono (by simp)))
  clear b1
  go_wp2_with (fail)
  go_quiet (fail)
  go_wp2_with (fail)
  go_loopw [4, 5, 6, 7] (fun v num den u wr => ∃ (xs : List Int) (m e : Int), num = .int .i64 m ∧ den = .int .i64 e ∧ -1000000000 ≤ m ∧ m ≤ 1000000000 ∧ 0 ≤ e ∧ e ≤ 1000000000 ∧ Hid (eu n d = xs ++ eu m e) ∧ (xs.length : Int) + e ≤ d ∧ wr.ownsRow w.heap.size 2 1 v xs.length (intCells xs) ∧ Below w.heap.size w wr) (fun _ _ den _ _ => (RowKit.intOf den).toNat)
  case atStart => exact ⟨[], n, d, rfl, rfl, by omega, by omega, by omega, by omega, hid rfl, by simp, World.ownsRow_nil _ _ _ _, below_drewN E1.out _⟩
  case round =>
    obtain ⟨xs, m, e, rfl, rfl, hm1, hm2, he0, he1, hst, hlen, hown, hbel⟩ := hrel
    have HBEL := hid hbel
    have HOWN := hid hown
    have hb : w.heap.size ≤ wr.heap.size := hbel.size
    clear hown hbel
    by_cases hz : e = 0
    · subst hz
      have HR := hid (show eu n d = xs by rw [hst.out, eu_end (Int.le_refl 0), List.append_nil])
      clear hst
      go_wp2_with (fail)
      go_ret2
      exact ⟨⟨_, rfl, by rw [HR.out]; exact row_back HOWN.out rfl⟩, HBEL.out⟩
    · have hz2 : (e != 0) = true := by simpa using hz
      have hst2 := hst.out
      rw [eu_step (show 0 < e by omega)] at hst2
      have r1 := Int.emod_nonneg m (b := e) (by omega)
      have r2 := Int.emod_lt_of_pos m (b := e) (by omega)
      have re := eu_rest (num := m) (den := e)
      have p1 : -2000000000 ≤ m / e * e := by omega
      have p2 : m / e * e ≤ 2000000000 := by omega
      have q1 : -1000000000 ≤ m / e := by
        rw [Int.le_ediv_iff_mul_le (by omega)]
        have : (-1000000000) * e ≤ (-1000000000) * 1 := Int.mul_le_mul_of_nonpos_left (by omega) (by omega)
        omega
      have q2 : m / e ≤ 1000000000 := by
        refine Int.ediv_le_of_le_mul (by omega) ?_
        have : 1000000000 * 1 ≤ 1000000000 * e := Int.mul_le_mul_of_nonneg_left (by omega) (by omega)
        omega
      have HQ := hid (fun w => implFloorQ m e w (by omega) (by omega) (by omega) (by omega))
      have HRE := hid re
      have hre1 : 0 ≤ m - m / e * e := by omega
      have hre2 : m - m / e * e < e := by omega
      clear hst re
      rw [← eu_rest] at hst2
      have HST := hid hst2
      clear hst2 r1 r2 HRE
      generalize m / e = t at *
      generalize hy : t * e = y at *
      go_wp2_with (fail)
      refine (HQ.out _).mono ?_
      rintro e2 w2 ⟨rfl, rfl⟩
      go_wp2_with (at_builtin; refine wpList_append_own _ rfl _ _ 27 rfl w.heap.size 2 i0 (.int .i64 0) 1 8 Try.underlying27 hi hz0 hz1 hz2' rfl (by decide) _ xs.length (intCells xs) (by rfl) ?c0 ⟨w2.heap.size, 0, none⟩ 1 1 [.int .i64 t] (by rfl) ?c1 ?c2 ?c3 ?c4 ?c5 ?c6 ?c7)
      case c0 => exact HOWN.out.alloc _
      case c1 => rfl
      case c2 => exact news1 _ _ _
      case c3 => intro u hu; obtain rfl := List.mem_singleton.1 hu; rfl
      case c4 => unfold maxLen; omega
      case c5 => omega
      case c6 => (first | omega | (simp <;> omega))
      intro v2 w3 hown2 hgrow2 _
      have HO2 := hid (show w3.ownsRow w.heap.size 2 1 v2 (xs ++ [t]).length (intCells (xs ++ [t])) by
        rw [← intCells_more, List.length_append]; exact hown2)
      have HE2 := hid ((HBEL.out.alloc hb _).grown hgrow2 (by first | omega | (simp <;> omega)) (fun k hk => (HOWN.out.lt k hk).1))
      have HL2 := hid (show ((xs ++ [t]).length : Int) + (m - y) ≤ d by simp; omega)
      have HST2 := hid (show eu n d = (xs ++ [t]) ++ eu e (m - y) by rw [HST.out]; simp)
      obtain ⟨zs, hzs⟩ : ∃ zs, zs = xs ++ [t] := ⟨_, rfl⟩
      rw [← hzs] at HO2 HL2 HST2
      clear hown2 hgrow2 hzs HST
      go_wp2_with (fail)
      go_roundw
      case rel => exact ⟨zs, e, m - y, by go_num, by go_num, by omega, by omega, by omega, by omega, HST2, HL2.out, HO2.out, HE2.out⟩
      case measure => simp only [RowKit.intOf]; omega

theorem specTerms (n d : Int) (w : World) (d1 : 1 ≤ d) (d2 : d ≤ 1000000000) (d3 : -1000000000 ≤ n) (d4 : n ≤ 1000000000) :
    Calls Try.prog 84 #[.agg #[.int .i64 n, .int .i64 d]] w fun e w' => ∃ v, e = .returned v ∧ Back w.heap.size w' v (eu n d) ∧ Below w.heap.size w w' := by
  obtain ⟨i0, hi, hz0, hz1, hz2'⟩ := info_parts infoI
  obtain ⟨c1, c2⟩ := two_new w 25 (.int .i64 n) (.int .i64 d)
  go_enter Try.func84, Try.ntmps84
  go_wp2_with (fail)
  go_loopw [3, 4, 5, 6, 7] (fun v num den u u2 wr => ∃ (xs : List Int) (m e : Int), num = .int .i64 m ∧ den = .int .i64 e ∧ -1000000000 ≤ m ∧ m ≤ 1000000000 ∧ 0 ≤ e ∧ e ≤ 1000000000 ∧ Hid (eu n d = xs ++ eu m e) ∧ (xs.length : Int) + e ≤ d ∧ wr.ownsRow w.heap.size 2 1 v xs.length (intCells xs) ∧ Below w.heap.size w wr) (fun _ _ den _ _ _ => (RowKit.intOf den).toNat)
  case atStart => exact ⟨[], n, d, rfl, rfl, by omega, by omega, by omega, by omega, hid rfl, by simp, (by have h := lit_none (w.alloc (.cells #[.int .i64 n, .int .i64 d] 25)) w.heap.size (by simp); rw [World.size_alloc] at h; exact h), ((Below.refl _ _).alloc (Nat.le_refl _) _).alloc (by simp) _⟩
  case round =>
    obtain ⟨xs, m, e, rfl, rfl, hm1, hm2, he0, he1, hst, hlen, hown, hbel⟩ := hrel
    have HBEL := hid hbel
    have HOWN := hid hown
    have hb : w.heap.size ≤ wr.heap.size := hbel.size
    clear hown hbel
    by_cases hz : e = 0
    · subst hz
      have HR := hid (show eu n d = xs by rw [hst.out, eu_end (Int.le_refl 0), List.append_nil])
      clear hst
      go_wp2_with (fail)
      go_ret
      exact ⟨_, rfl, by rw [HR.out]; exact row_back HOWN.out rfl, HBEL.out⟩
    · have hz2 : (e != 0) = true := by simpa using hz
      have hst2 := hst.out
      rw [eu_step (show 0 < e by omega)] at hst2
      have r1 := Int.emod_nonneg m (b := e) (by omega)
      have r2 := Int.emod_lt_of_pos m (b := e) (by omega)
      have re := eu_rest (num := m) (den := e)
      have p1 : -2000000000 ≤ m / e * e := by omega
      have p2 : m / e * e ≤ 2000000000 := by omega
      have q1 : -1000000000 ≤ m / e := by
        rw [Int.le_ediv_iff_mul_le (by omega)]
        have : (-1000000000) * e ≤ (-1000000000) * 1 := Int.mul_le_mul_of_nonpos_left (by omega) (by omega)
        omega
      have q2 : m / e ≤ 1000000000 := by
        refine Int.ediv_le_of_le_mul (by omega) ?_
        have : 1000000000 * 1 ≤ 1000000000 * e := Int.mul_le_mul_of_nonneg_left (by omega) (by omega)
        omega
      have HQ := hid (fun w => specFloorQ m e w (by omega) (by omega) (by omega) (by omega))
      have HRE := hid re
      have hre1 : 0 ≤ m - m / e * e := by omega
      have hre2 : m - m / e * e < e := by omega
      clear hst re
      rw [← eu_rest] at hst2
      have HST := hid hst2
      clear hst2 r1 r2 HRE
      generalize m / e = t at *
      generalize hy : t * e = y at *
      go_wp2_with (fail)
      refine (HQ.out _).mono ?_
      rintro e2 w2 ⟨rfl, rfl⟩
      go_wp2_with (at_builtin; refine wpList_append_own _ rfl _ _ 27 rfl w.heap.size 2 i0 (.int .i64 0) 1 8 Try.underlying27 hi hz0 hz1 hz2' rfl (by decide) _ xs.length (intCells xs) (by rfl) ?c0 ⟨w2.heap.size, 0, none⟩ 1 1 [.int .i64 t] (by rfl) ?c1 ?c2 ?c3 ?c4 ?c5 ?c6 ?c7)
      case c0 => exact HOWN.out.alloc _
      case c1 => rfl
      case c2 => exact news1 _ _ _
      case c3 => intro u hu; obtain rfl := List.mem_singleton.1 hu; rfl
      case c4 => unfold maxLen; omega
      case c5 => omega
      case c6 => (first | omega | (simp <;> omega))
      intro v2 w3 hown2 hgrow2 _
      have HO2 := hid (show w3.ownsRow w.heap.size 2 1 v2 (xs ++ [t]).length (intCells (xs ++ [t])) by
        rw [← intCells_more, List.length_append]; exact hown2)
      have HE2 := hid ((HBEL.out.alloc hb _).grown hgrow2 (by first | omega | (simp <;> omega)) (fun k hk => (HOWN.out.lt k hk).1))
      have HL2 := hid (show ((xs ++ [t]).length : Int) + (m - y) ≤ d by simp; omega)
      have HST2 := hid (show eu n d = (xs ++ [t]) ++ eu e (m - y) by rw [HST.out]; simp)
      obtain ⟨zs, hzs⟩ : ∃ zs, zs = xs ++ [t] := ⟨_, rfl⟩
      rw [← hzs] at HO2 HL2 HST2
      clear hown2 hgrow2 hzs HST
      go_wp2_with (fail)
      go_roundw
      case rel => exact ⟨zs, e, m - y, by go_num, by go_num, by omega, by omega, by omega, by omega, HST2, HL2.out, HO2.out, HE2.out⟩
      case measure => simp only [RowKit.intOf]; omega

end Go.Proofs.Ytjijabfamjhdjaa
