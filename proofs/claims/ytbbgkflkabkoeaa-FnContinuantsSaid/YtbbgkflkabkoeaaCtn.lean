/- Contracts: continuants, by the program and by the model. -/
import Derived.Test.YtbbgkflkabkoeaaVt
namespace Go.Proofs.Ytbbgkflkabkoeaa
open Go.RowKit

def ctnR (o : Option Int) : Int × Int := match o with | some v => (v, 0) | none => (0, 5)
def ctnT (xs : List Int) : Int × Int := if xs.length ≤ 60 ∧ xs.all (inB 1 1000000000) = true then ctnR (ctn 0 1 xs) else (0, 2)
theorem ctnT_range {xs : List Int} (h : ¬ (xs.length ≤ 60 ∧ xs.all (inB 1 1000000000) = true)) : ctnT xs = (0, 2) := if_neg h
theorem ctnT_in {xs : List Int} (h : xs.length ≤ 60 ∧ xs.all (inB 1 1000000000) = true) : ctnT xs = ctnR (ctn 0 1 xs) := if_pos h
theorem drop_at {xs : List Int} {k : Nat} {x : Int} (h : xs[k]? = some x) : xs.drop k = x :: xs.drop (k + 1) := by
  obtain ⟨h1, h2⟩ := List.getElem?_eq_some_iff.1 h
  rw [List.drop_eq_getElem_cons h1, h2]
theorem quo_pos {b t : Int} (hb : b ≤ 1000000000000000000) : (1000000000000000000 - b).tdiv t = (1000000000000000000 - b) / t := Int.tdiv_eq_ediv_of_nonneg (by omega)
theorem quo_le {b t n : Int} (ht : 1 ≤ t) (hb : b ≤ 1000000000000000000) (h : ¬ (1000000000000000000 - b).tdiv t < n) : t * n ≤ 1000000000000000000 - b := by
  rw [quo_pos hb] at h
  have := (Int.le_ediv_iff_mul_le (a := n) (b := 1000000000000000000 - b) (c := t) (by omega)).1 (by omega)
  rw [Int.mul_comm]; exact this
theorem ctn_none {b n t : Int} {r : List Int} (hb : b ≤ 1000000000000000000) (h : (1000000000000000000 - b).tdiv t < n) : ctn b n (t :: r) = none := by
  show ite _ _ _ = _
  rw [← quo_pos hb, if_pos h]
theorem ctn_some {b n t : Int} {r : List Int} (hb : b ≤ 1000000000000000000) (h : ¬ (1000000000000000000 - b).tdiv t < n) : ctn b n (t :: r) = ctn n (t * n + b) r := by
  show ite _ _ _ = _
  rw [← quo_pos hb, if_neg h]

theorem implCtn (g o c n : Nat) (xs : List Int) (w : World) (hn : n = xs.length) (hx : xs.length ≤ 2000000000) (ha : Ints w g o xs) :
    Calls Try.prog 21 #[.slice (some ⟨g, o, none⟩) n c] w fun e w' => e = .returned (.tuple #[.int .i64 (ctnT xs).1, .int .i64 (ctnT xs).2]) ∧ Below w.heap.size w w' := by
  subst hn
  have HA := hid ha
  have V := hid (allWithin 1 1000000000 g o xs.length c xs w rfl hx ha)
  clear ha
  by_cases h60 : 60 < xs.length
  · have h60' : (60 : Int) < (xs.length : Int) := by omega
    rw [ctnT_range (by omega)]
    clear V HA
    go_enter Try.func21, Try.ntmps21
    go_wp2_with (fail)
    go_ret2
    exact ⟨rfl, Below.refl _ _⟩
  have h60' : ¬ (60 : Int) < (xs.length : Int) := by omega
  cases ho : xs.all (inB 1 1000000000)
  · rw [ctnT_range (by rw [ho]; simp)]
    rw [ho] at V
    clear ho HA
    go_enter Try.func21, Try.ntmps21
    go_wp2_with (fail)
    refine V.out.mono ?_
    rintro e w1 ⟨rfl, hb1⟩
    have HB := hid hb1
    clear hb1
    go_wp2_with (fail)
    go_ret2
    exact ⟨rfl, HB.out⟩
  · have HR := hid (ctnT_in (xs := xs) ⟨by omega, ho⟩)
    rw [ho] at V
    have HT := hid (fun (j : Nat) (x : Int) (h : xs[j]? = some x) => inB_iff.1 (List.all_eq_true.1 ho x (List.mem_of_getElem? h)))
    clear ho
    go_enter Try.func21, Try.ntmps21
    go_wp2_with (fail)
    refine V.out.mono ?_
    rintro e w1 ⟨rfl, hb1⟩
    have HB := hid hb1
    clear hb1
    go_wp2_with (fail)
    go_loopw [4, 5, 7, 18] (fun bs ns u i wr => ∃ (k : Nat) (b n : Int), k ≤ xs.length ∧ bs = .int .i64 b ∧ ns = .int .i64 n ∧ i = .int .i64 k ∧ 0 ≤ b ∧ b ≤ 1000000000000000000 ∧ 1 ≤ n ∧ n ≤ 1000000000000000000 ∧ Hid (ctnT xs = ctnR (ctn b n (xs.drop k))) ∧ Below w.heap.size w wr) (fun _ _ _ i _ => xs.length - (RowKit.intOf i).toNat)
    case atStart => exact ⟨0, 0, 1, by omega, rfl, rfl, rfl, by omega, by omega, by omega, by omega, HR, HB.out⟩
    case round =>
      obtain ⟨k, b, n, hk, rfl, rfl, rfl, hb0, hb1, hn0, hn1, hst, hbel⟩ := hrel
      have HBEL := hid hbel
      have hk0 : (0 : Int) ≤ (k : Int) := by omega
      by_cases hlt : k < xs.length
      · have hlt' : (k : Int) < (xs.length : Int) := by omega
        obtain ⟨t, hxk⟩ : ∃ t, xs[k]? = some t := ⟨_, List.getElem?_eq_getElem (by omega)⟩
        have ca1 := HA.out k t hxk
        have ca0 := (hbel.cell (p := ⟨g, o + k, none⟩) (World.block_lt_of_cell? _ _ ca1)).trans ca1
        obtain ⟨ht1, ht2⟩ := HT.out _ _ hxk
        have hst2 := hst.out
        rw [drop_at hxk] at hst2
        have ht0 : t ≠ 0 := by omega
        have hq0 : 0 ≤ (1000000000000000000 - b).tdiv t := Int.tdiv_nonneg (by omega) (by omega)
        have hq1 : (1000000000000000000 - b).tdiv t ≤ 1000000000000000000 := by
          rw [quo_pos hb1]
          have := Int.ediv_le_self t (a := 1000000000000000000 - b) (by omega)
          omega
        by_cases hov : (1000000000000000000 - b).tdiv t < n
        · rw [ctn_none hb1 hov] at hst2
          have HST := hid hst2
          clear ca1 hbel hxk hst hst2 hlt
          go_wp2_with (fail)
          go_ret2
          exact ⟨by rw [HST.out]; rfl, HBEL.out⟩
        · have hle := quo_le ht1 hb1 hov
          rw [ctn_some hb1 hov] at hst2
          have HST := hid hst2
          have hm1 : 1 * n ≤ t * n := Int.mul_le_mul_of_nonneg_right ht1 (by omega)
          have hm0 : 0 ≤ t * n := by omega
          clear ca1 hbel hxk hst hst2
          go_wp2_with (fail)
          go_roundw
          case rel => exact ⟨k + 1, n, t * n + b, by omega, by go_num, by go_num, by go_num, by omega, by omega, by omega, by omega, HST, HBEL.out⟩
          case measure => simp [RowKit.intOf]; omega
      · have hlt' : ¬ (k : Int) < (xs.length : Int) := by omega
        have hst2 := hst.out
        rw [List.drop_eq_nil_of_le (by omega)] at hst2
        have HR := hid (show ctnT xs = (n, 0) by rw [hst2]; rfl)
        clear hbel hst hst2
        go_wp2_with (fail)
        go_ret2
        exact ⟨by rw [HR.out]; rfl, HBEL.out⟩

theorem specCtn (g c : Nat) (xs : List Int) (w : World) (_hx : xs.length ≤ 2000000000) (ha : Ints w g 0 xs) :
    Calls Try.prog 41 #[.slice (some ⟨g, 0, none⟩) xs.length c] w fun e w' => e = .returned (.tuple #[.int .i64 (ctnT xs).1, .int .i64 (ctnT xs).2]) ∧ Below w.heap.size w w' := by
  have HA := hid ha
  clear ha
  go_enter Try.func41, Try.ntmps41
  go_wp2_with (fail)
  go_loopw [4] (fun i wr => ∃ k : Nat, k ≤ xs.length ∧ i = .int .i64 k ∧ Hid (∀ (j : Nat) (x : Int), j < k → xs[j]? = some x → 1 ≤ x ∧ x ≤ 1000000000) ∧ Below w.heap.size w wr) (fun i _ => xs.length - (RowKit.intOf i).toNat)
  case atStart => exact ⟨0, by omega, rfl, hid fun j x hj => by omega, Below.refl _ _⟩
  case round =>
    obtain ⟨k, hk, rfl, hall, hbel⟩ := hrel
    have HBEL := hid hbel
    have hk0 : (0 : Int) ≤ (k : Int) := by omega
    by_cases hlt : k < xs.length
    · have hlt' : (k : Int) < (xs.length : Int) := by omega
      obtain ⟨x, hxk⟩ : ∃ x, xs[k]? = some x := ⟨_, List.getElem?_eq_getElem hlt⟩
      have ca1 := ints_at HA.out hxk
      have ca0 := (hbel.cell (p := ⟨g, k, none⟩) (World.block_lt_of_cell? _ _ ca1)).trans ca1
      have HXK := hid hxk
      have SI := hid (fun w => specIn x 1 1000000000 w)
      clear ca1 hbel hxk
      go_wp2_with (fail)
      refine (SI.out _).mono ?_
      rintro e w1 ⟨rfl, rfl⟩
      cases hb : inB 1 1000000000 x
      · have HBAD := hid (show ctnT xs = (0, 2) from ctnT_range (by rw [all_bad HXK.out (by intro e; rw [inB_yes e] at hb; simp at hb)]; simp))
        clear hall
        go_wp2_with (fail)
        go_ret2
        exact ⟨by rw [HBAD.out]; rfl, HBEL.out⟩
      · have HALL := hid (show ∀ (j : Nat) (y : Int), j < k + 1 → xs[j]? = some y → 1 ≤ y ∧ y ≤ 1000000000 by
          intro j y hj hy
          by_cases hjk : j = k
          · subst hjk
            have : x = y := by have := HXK.out.symm.trans hy; simpa using this
            rw [← this]
            exact inB_iff.1 hb
          · exact hall.out j y (by omega) hy)
        clear hall
        go_wp2_with (fail)
        go_roundw
        case rel => exact ⟨k + 1, by omega, by go_num, HALL, HBEL.out⟩
        case measure => simp [RowKit.intOf]; omega
    · have hlt' : ¬ (k : Int) < (xs.length : Int) := by omega
      have HT := hid (show ∀ (j : Nat) (x : Int), xs[j]? = some x → 1 ≤ x ∧ x ≤ 1000000000 from fun j x h => hall.out j x (by
        have := (List.getElem?_eq_some_iff.1 h).1
        omega) h)
      have HB := hid hbel
      clear hbel hall
      by_cases h60 : 60 < xs.length
      · have h60' : (60 : Int) < (xs.length : Int) := by omega
        have HR := hid (show ctnT xs = (0, 2) from ctnT_range (by omega))
        go_wp2_with (fail)
        go_ret2
        exact ⟨by rw [HR.out]; rfl, HB.out⟩
      · have h60' : ¬ (60 : Int) < (xs.length : Int) := by omega
        have HR := hid (ctnT_in (xs := xs) ⟨by omega, all_good HT.out⟩)
        clear HBEL hlt
        go_wp2_with (fail)
        go_loopw [5, 6, 7, 8] (fun ns bs i u wr => ∃ (k : Nat) (b n : Int), k ≤ xs.length ∧ bs = .int .i64 b ∧ ns = .int .i64 n ∧ i = .int .i64 k ∧ 0 ≤ b ∧ b ≤ 1000000000000000000 ∧ 1 ≤ n ∧ n ≤ 1000000000000000000 ∧ Hid (ctnT xs = ctnR (ctn b n (xs.drop k))) ∧ Below w.heap.size w wr) (fun _ _ i _ _ => xs.length - (RowKit.intOf i).toNat)
        case atStart => exact ⟨0, 0, 1, by omega, rfl, rfl, rfl, by omega, by omega, by omega, by omega, HR, HB.out⟩
        case round =>
          obtain ⟨k, b, n, hk, rfl, rfl, rfl, hb0, hb1, hn0, hn1, hst, hbel⟩ := hrel
          have HBEL := hid hbel
          have hk0 : (0 : Int) ≤ (k : Int) := by omega
          by_cases hlt : k < xs.length
          · have hlt' : (k : Int) < (xs.length : Int) := by omega
            obtain ⟨t, hxk⟩ : ∃ t, xs[k]? = some t := ⟨_, List.getElem?_eq_getElem (by omega)⟩
            have ca1 := ints_at HA.out hxk
            have ca0 := (hbel.cell (p := ⟨g, k, none⟩) (World.block_lt_of_cell? _ _ ca1)).trans ca1
            obtain ⟨ht1, ht2⟩ := HT.out _ _ hxk
            have hst2 := hst.out
            rw [drop_at hxk] at hst2
            have ht0 : t ≠ 0 := by omega
            have hq0 : 0 ≤ (1000000000000000000 - b).tdiv t := Int.tdiv_nonneg (by omega) (by omega)
            have hq1 : (1000000000000000000 - b).tdiv t ≤ 1000000000000000000 := by
              rw [quo_pos hb1]
              have := Int.ediv_le_self t (a := 1000000000000000000 - b) (by omega)
              omega
            by_cases hov : (1000000000000000000 - b).tdiv t < n
            · rw [ctn_none hb1 hov] at hst2
              have HST := hid hst2
              clear ca1 hbel hxk hst hst2 hlt
              go_wp2_with (fail)
              go_ret2
              exact ⟨by rw [HST.out]; rfl, HBEL.out⟩
            · have hle := quo_le ht1 hb1 hov
              rw [ctn_some hb1 hov] at hst2
              have HST := hid hst2
              have hm1 : 1 * n ≤ t * n := Int.mul_le_mul_of_nonneg_right ht1 (by omega)
              have hm0 : 0 ≤ t * n := by omega
              clear ca1 hbel hxk hst hst2
              go_wp2_with (fail)
              go_roundw
              case rel => exact ⟨k + 1, n, t * n + b, by omega, by go_num, by go_num, by go_num, by omega, by omega, by omega, by omega, HST, HBEL.out⟩
              case measure => simp [RowKit.intOf]; omega
          · have hlt' : ¬ (k : Int) < (xs.length : Int) := by omega
            have hst2 := hst.out
            rw [List.drop_eq_nil_of_le (by omega)] at hst2
            have HR := hid (show ctnT xs = (n, 0) by rw [hst2]; rfl)
            clear hbel hst hst2
            go_wp2_with (fail)
            go_ret2
            exact ⟨by rw [HR.out]; rfl, HBEL.out⟩

end Go.Proofs.Ytbbgkflkabkoeaa
