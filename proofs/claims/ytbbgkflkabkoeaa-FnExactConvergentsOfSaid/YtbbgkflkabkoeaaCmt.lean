/- Contracts: terms are compared, by the program and by the model. -/
import Derived.Test.YtbbgkflkabkoeaaSh
import Derived.Test.YtbbgkflkabkoeaaCtm
namespace Go.Proofs.Ytbbgkflkabkoeaa
open Go.RowKit

def cmpTT (xs ys : List Int) : Int × Int := if (okT xs && okT ys) = true then (cmpL 1 (short xs) (short ys), 0) else (0, 1)
theorem cmpTT_bad {xs ys : List Int} (h : (okT xs && okT ys) = false) : cmpTT xs ys = (0, 1) := by unfold cmpTT; rw [h]; rfl
theorem cmpTT_ok {xs ys : List Int} (h : okT xs = true) (h2 : okT ys = true) : cmpTT xs ys = (cmpL 1 (short xs) (short ys), 0) := by unfold cmpTT; rw [h, h2]; rfl

theorem okT_bd {xs : List Int} (h : okT xs = true) : ∀ (j : Nat) (x : Int), xs[j]? = some x → -1000000000 ≤ x ∧ x ≤ 1000000000 := by
  intro j x hj
  by_cases h0 : j = 0
  · subst h0
    have := okT_first h
    rw [List.getD_eq_getElem?_getD, hj] at this
    exact this
  · have := okT_at h (by omega) hj
    omega
theorem short_length {xs : List Int} : (short xs).length ≤ xs.length := by
  by_cases h : 1 < xs.length ∧ xs[xs.length - 1]? = some 1
  · rw [short_yes_len h.1 h.2]; omega
  · rw [short_no h]; exact Nat.le_refl _
theorem short_bd {xs : List Int} (h : okT xs = true) : ∀ x ∈ short xs, -1000000000 ≤ x ∧ x ≤ 1000000001 := by
  intro x hx
  by_cases h1 : 1 < xs.length ∧ xs[xs.length - 1]? = some 1
  · rw [short_yes h1.1 h1.2] at hx
    rcases List.mem_or_eq_of_mem_set hx with h2 | h2
    · obtain ⟨j, hj⟩ := List.mem_iff_getElem?.1 (List.mem_of_mem_take h2)
      have := okT_bd h j x hj
      omega
    · subst h2
      obtain ⟨z, hz⟩ : ∃ z, xs[xs.length - 2]? = some z := ⟨_, List.getElem?_eq_getElem (by omega)⟩
      have := okT_bd h _ z hz
      rw [List.getD_eq_getElem?_getD, hz]
      simp only [Option.getD_some]
      omega
  · rw [short_no h1] at hx
    obtain ⟨j, hj⟩ := List.mem_iff_getElem?.1 hx
    have := okT_bd h j x hj
    omega

theorem isNan (x : Int) (w : World) : Calls Try.prog 73 #[.int .i64 x] w fun e w' => e = .returned (.bool false) ∧ w' = w := by
  have hxx : (x != x) = false := by simp
  go_enter Try.func73, Try.ntmps73
  go_wp2_with (fail)
  go_ret
  exact ⟨rfl, rfl⟩

theorem ord_lt {x y : Int} (h : x < y) : ord x y = -1 := if_pos h
theorem ord_gt {x y : Int} (h : ¬ x < y) (h2 : y < x) : ord x y = 1 := by unfold ord; rw [if_neg h, if_pos h2]
theorem ord_eq {x y : Int} (h : ¬ x < y) (h2 : ¬ y < x) : ord x y = 0 := by unfold ord; rw [if_neg h, if_neg h2]
theorem ord_bd (x y : Int) : -1 ≤ ord x y ∧ ord x y ≤ 1 := by unfold ord; split <;> (try split) <;> omega

theorem cmpInt (x y : Int) (w : World) : Calls Try.prog 53 #[.int .i64 x, .int .i64 y] w fun e w' => e = .returned (.int .i64 (ord x y)) ∧ w' = w := by
  have NX := hid (isNan x)
  have NY := hid (isNan y)
  by_cases h1 : x < y
  · rw [ord_lt h1]
    go_enter Try.func53, Try.ntmps53
    go_wp2_with (fail)
    refine (NX.out _).mono ?_
    rintro e w1 ⟨rfl, rfl⟩
    go_wp2_with (fail)
    refine (NY.out _).mono ?_
    rintro e w1 ⟨rfl, rfl⟩
    go_wp2_with (fail)
    go_ret
    exact ⟨rfl, rfl⟩
  · by_cases h2 : y < x
    · rw [ord_gt h1 h2]
      go_enter Try.func53, Try.ntmps53
      go_wp2_with (fail)
      refine (NX.out _).mono ?_
      rintro e w1 ⟨rfl, rfl⟩
      go_wp2_with (fail)
      refine (NY.out _).mono ?_
      rintro e w1 ⟨rfl, rfl⟩
      go_wp2_with (fail)
      go_ret
      exact ⟨rfl, rfl⟩
    · rw [ord_eq h1 h2]
      have h1 := hid h1
      go_enter Try.func53, Try.ntmps53
      go_wp2_with (fail)
      refine (NX.out _).mono ?_
      rintro e w1 ⟨rfl, rfl⟩
      go_wp2_with (fail)
      refine (NY.out _).mono ?_
      rintro e w1 ⟨rfl, rfl⟩
      have h1 := h1.out
      go_wp2_with (fail)
      go_ret
      exact ⟨rfl, rfl⟩

theorem atInf_in {xs : List Int} {k : Nat} {x : Int} (h : xs[k]? = some x) : atInf xs k = x := by unfold atInf; rw [List.getD_eq_getElem?_getD, h]; rfl
theorem atInf_out {xs : List Int} {k : Nat} (h : xs.length ≤ k) : atInf xs k = 9223372036854775807 := by unfold atInf; rw [List.getD_eq_getElem?_getD, List.getElem?_eq_none h]; rfl

theorem termInf (g c k : Nat) (xs : List Int) (w : World) (_hx : xs.length ≤ 2000000000) (hk : k ≤ 2000000000) (ha : Ints w g 0 xs) :
    Calls Try.prog 54 #[.slice (some ⟨g, 0, none⟩) xs.length c, .int .i64 k] w fun e w' => e = .returned (.int .i64 (atInf xs k)) ∧ w' = w := by
  by_cases h : k < xs.length
  · have h' : (k : Int) < (xs.length : Int) := by omega
    have hk0 : (0 : Int) ≤ (k : Int) := by omega
    obtain ⟨x, hxk⟩ : ∃ x, xs[k]? = some x := ⟨_, List.getElem?_eq_getElem h⟩
    have ca0 := ints_at ha hxk
    rw [atInf_in hxk]
    clear ha hxk
    go_enter Try.func54, Try.ntmps54
    go_wp2_with (fail)
    go_ret
    exact ⟨rfl, rfl⟩
  · have h' : ¬ (k : Int) < (xs.length : Int) := by omega
    rw [atInf_out (by omega)]
    clear ha
    go_enter Try.func54, Try.ntmps54
    go_wp2_with (fail)
    go_ret
    exact ⟨rfl, rfl⟩

theorem cmpL_drop {s : Int} {xs ys : List Int} {k : Nat} {x y : Int} (hx : xs[k]? = some x) (hy : ys[k]? = some y) : cmpL s (xs.drop k) (ys.drop k) = if x < y then -s else if y < x then s else cmpL (-s) (xs.drop (k + 1)) (ys.drop (k + 1)) := by
  obtain ⟨h1, h2⟩ := List.getElem?_eq_some_iff.1 hx
  obtain ⟨h3, h4⟩ := List.getElem?_eq_some_iff.1 hy
  rw [List.drop_eq_getElem_cons h1, List.drop_eq_getElem_cons h3, h2, h4]
  rfl

set_option maxHeartbeats 800000 in
/-- The model's comparison of short terms. -/
theorem specCompareL (ga ca gb cb : Nat) (xs ys : List Int) (w : World) (hx : xs.length ≤ 2000000000) (hy : ys.length ≤ 2000000000) (ha : Ints w ga 0 xs) (hb : Ints w gb 0 ys) :
    Calls Try.prog 63 #[.slice (some ⟨ga, 0, none⟩) xs.length ca, .slice (some ⟨gb, 0, none⟩) ys.length cb] w fun e w' => e = .returned (.int .i64 (cmpL 1 xs ys)) ∧ Below w.heap.size w w' := by
  have HA := hid ha
  have HB := hid hb
  clear ha hb
  go_enter Try.func63, Try.ntmps63
  go_wp2_with (fail)
  go_loopw [5, 6] (fun sg i wr => ∃ (k : Nat) (s : Int), k ≤ xs.length ∧ k ≤ ys.length ∧ i = .int .i64 k ∧ sg = .int .i64 s ∧ -1 ≤ s ∧ s ≤ 1 ∧ Hid (cmpL 1 xs ys = cmpL s (xs.drop k) (ys.drop k)) ∧ Below w.heap.size w wr) (fun _ i _ => xs.length - (RowKit.intOf i).toNat)
  case atStart => exact ⟨0, 1, by omega, by omega, rfl, rfl, by omega, by omega, hid rfl, Below.refl _ _⟩
  case round =>
    obtain ⟨k, s, hk, hk2, rfl, rfl, hs0, hs1, hst, hbel⟩ := hrel
    have HBEL := hid hbel
    have hk0 : (0 : Int) ≤ (k : Int) := by omega
    by_cases hlt : k < xs.length
    · have hlt' : (k : Int) < (xs.length : Int) := by omega
      have hge' : ¬ (xs.length : Int) ≤ (k : Int) := by omega
      by_cases hlt2 : k < ys.length
      · have hlt2' : (k : Int) < (ys.length : Int) := by omega
        have hge2' : ¬ (ys.length : Int) ≤ (k : Int) := by omega
        obtain ⟨x, hxk⟩ : ∃ x, xs[k]? = some x := ⟨_, List.getElem?_eq_getElem hlt⟩
        obtain ⟨y, hyk⟩ : ∃ y, ys[k]? = some y := ⟨_, List.getElem?_eq_getElem hlt2⟩
        have ca1 := ints_at HA.out hxk
        have cb1 := ints_at HB.out hyk
        have ca0 := (hbel.cell (p := ⟨ga, k, none⟩) (World.block_lt_of_cell? _ _ ca1)).trans ca1
        have cb0 := (hbel.cell (p := ⟨gb, k, none⟩) (World.block_lt_of_cell? _ _ cb1)).trans cb1
        have HST := hid (hst.out.trans (cmpL_drop hxk hyk))
        clear ca1 cb1 hbel hxk hyk hst
        by_cases h1 : x < y
        · have HR := hid (HST.out.trans (if_pos h1))
          go_wp2_with (fail)
          go_quiet (fail)
          go_wp2_with (fail)
          go_ret
          exact ⟨by rw [HR.out]; rfl, below_drewN HBEL.out _⟩
        · by_cases h2 : y < x
          · have HR := hid ((HST.out.trans (if_neg h1)).trans (if_pos h2))
            go_wp2_with (fail)
            go_quiet (fail)
            go_wp2_with (fail)
            go_quiet (fail)
            go_wp2_with (fail)
            go_ret
            exact ⟨by rw [HR.out]; rfl, below_drewN (below_drewN HBEL.out _) _⟩
          · have HR := hid ((HST.out.trans (if_neg h1)).trans (if_neg h2))
            go_wp2_with (fail)
            go_quiet (fail)
            go_wp2_with (fail)
            go_quiet (fail)
            go_wp2_with (fail)
            go_roundw
            case rel => exact ⟨k + 1, -s, by omega, by omega, by go_num, by go_num, by omega, by omega, HR, below_drewN HBEL.out _⟩
            case measure => simp [RowKit.intOf]; omega
      · have hlt2' : ¬ (k : Int) < (ys.length : Int) := by omega
        have hge2' : (ys.length : Int) ≤ (k : Int) := by omega
        have HR := hid (show cmpL 1 xs ys = -s by
          rw [hst.out, List.drop_eq_nil_of_le (show ys.length ≤ k by omega), List.drop_eq_getElem_cons hlt]; rfl)
        clear hst hbel
        go_wp2_with (fail)
        go_ret
        exact ⟨by rw [HR.out]; rfl, HBEL.out⟩
    · have hlt' : ¬ (k : Int) < (xs.length : Int) := by omega
      have hge' : (xs.length : Int) ≤ (k : Int) := by omega
      by_cases hlt2 : k < ys.length
      · have hlt2' : (k : Int) < (ys.length : Int) := by omega
        have HR := hid (show cmpL 1 xs ys = s by
          rw [hst.out, List.drop_eq_nil_of_le (show xs.length ≤ k by omega), List.drop_eq_getElem_cons hlt2]; rfl)
        clear hst hbel
        go_wp2_with (fail)
        go_ret
        exact ⟨by rw [HR.out]; rfl, HBEL.out⟩
      · have hlt2' : ¬ (k : Int) < (ys.length : Int) := by omega
        have HR := hid (show cmpL 1 xs ys = 0 by
          rw [hst.out, List.drop_eq_nil_of_le (show xs.length ≤ k by omega), List.drop_eq_nil_of_le (show ys.length ≤ k by omega)]; rfl)
        clear hst hbel
        go_wp2_with (fail)
        go_ret
        exact ⟨by rw [HR.out]; rfl, HBEL.out⟩

theorem specCmpT (ga ca gb cb : Nat) (xs ys : List Int) (w : World) (hx : xs.length ≤ 2000000000) (hy : ys.length ≤ 2000000000) (ha : Ints w ga 0 xs) (hb : Ints w gb 0 ys) :
    Calls Try.prog 40 #[.slice (some ⟨ga, 0, none⟩) xs.length ca, .slice (some ⟨gb, 0, none⟩) ys.length cb] w fun e w' => e = .returned (.tuple #[.int .i64 (cmpTT xs ys).1, .int .i64 (cmpTT xs ys).2]) ∧ Below w.heap.size w w' := by
  have HA := hid ha
  have HB := hid hb
  have V1 := hid (specOkT ga ca xs w hx ha)
  have V2 := hid (fun w1 (h : Below w.heap.size w w1) => specOkT gb cb ys w1 hy (ints_below hb h))
  clear ha hb
  cases ho1 : okT xs
  · rw [cmpTT_bad (by rw [ho1]; rfl)]
    rw [ho1] at V1
    go_enter Try.func40, Try.ntmps40
    go_wp2_with (fail)
    refine V1.out.mono ?_
    rintro e w1 ⟨rfl, b1⟩
    have E1 := hid b1
    clear b1
    go_wp2_with (fail)
    go_ret2
    exact ⟨rfl, E1.out⟩
  · cases ho2 : okT ys
    · rw [cmpTT_bad (by rw [ho2, ho1]; rfl)]
      rw [ho1] at V1
      rw [ho2] at V2
      go_enter Try.func40, Try.ntmps40
      go_wp2_with (fail)
      refine V1.out.mono ?_
      rintro e w1 ⟨rfl, b1⟩
      have E1 := hid b1
      clear b1
      go_wp2_with (fail)
      refine (V2.out _ E1.out).mono ?_
      rintro e w2 ⟨rfl, b2⟩
      have E2 := hid (E1.out.trans (b2.mono E1.out.size))
      clear b2
      go_wp2_with (fail)
      go_ret2
      exact ⟨rfl, E2.out⟩
    · rw [cmpTT_ok ho1 ho2]
      rw [ho1] at V1
      rw [ho2] at V2
      have hl1 := okT_len ho1
      have hl2 := okT_len ho2
      have S1 := hid (fun w1 (h : Below w.heap.size w w1) => specShort ga ca xs w1 (by omega) hl1.2 (okT_bd ho1) (ints_below HA.out h))
      have S2 := hid (fun w1 (h : Below w.heap.size w w1) => specShort gb cb ys w1 (by omega) hl2.2 (okT_bd ho2) (ints_below HB.out h))
      have HL1 := hid (short_length (xs := xs))
      have HL2 := hid (short_length (xs := ys))
      go_enter Try.func40, Try.ntmps40
      go_wp2_with (fail)
      refine V1.out.mono ?_
      rintro e w1 ⟨rfl, b1⟩
      have E1 := hid b1
      clear b1
      go_wp2_with (fail)
      refine (V2.out _ E1.out).mono ?_
      rintro e w2 ⟨rfl, b2⟩
      have E2 := hid (E1.out.trans (b2.mono E1.out.size))
      clear b2
      go_wp2_with (fail)
      refine (S1.out _ E2.out).mono ?_
      rintro e w3 ⟨g3, c3, rfl, o3, b3⟩
      have O3 := hid o3
      have E3 := hid (E2.out.trans (b3.mono E2.out.size))
      clear b3 o3
      go_wp2_with (fail)
      refine (S2.out _ E3.out).mono ?_
      rintro e w4 ⟨g4, c4, rfl, o4, b4⟩
      have O4 := hid o4
      have O34 := hid (own_below O3.out b4)
      have E4 := hid (E3.out.trans (b4.mono E3.out.size))
      clear b4 o4
      have HC := hid (specCompareL g3 c3 g4 c4 (short xs) (short ys) w4 (by have := HL1.out; omega) (by have := HL2.out; omega) (own_ints O34.out) (own_ints O4.out))
      go_wp2_with (fail)
      refine HC.out.mono ?_
      rintro e w5 ⟨rfl, b5⟩
      have E5 := hid (E4.out.trans (b5.mono E4.out.size))
      clear b5
      go_wp2_with (fail)
      go_ret2
      exact ⟨rfl, E5.out⟩

set_option maxHeartbeats 800000 in
theorem implCmpT (ga ca gb cb : Nat) (xs ys : List Int) (w : World) (hx : xs.length ≤ 2000000000) (hy : ys.length ≤ 2000000000) (hca : xs.length ≤ ca) (hcb : ys.length ≤ cb) (ha : Ints w ga 0 xs) (hb : Ints w gb 0 ys) :
    Calls Try.prog 18 #[.slice (some ⟨ga, 0, none⟩) xs.length ca, .slice (some ⟨gb, 0, none⟩) ys.length cb] w fun e w' => e = .returned (.tuple #[.int .i64 (cmpTT xs ys).1, .int .i64 (cmpTT xs ys).2]) ∧ Below w.heap.size w w' := by
  have HA := hid ha
  have HB := hid hb
  have V1 := hid (implValidTerms ga ca xs w hx hca ha)
  have V2 := hid (fun w1 (h : Below w.heap.size w w1) => implValidTerms gb cb ys w1 hy hcb (ints_below hb h))
  clear ha hb
  cases ho1 : okT xs
  · rw [cmpTT_bad (by rw [ho1]; rfl)]
    rw [ho1] at V1
    go_enter Try.func18, Try.ntmps18
    go_wp2_with (fail)
    refine V1.out.mono ?_
    rintro e w1 ⟨rfl, b1⟩
    have E1 := hid b1
    clear b1
    go_wp2_with (fail)
    go_ret2
    exact ⟨rfl, E1.out⟩
  · cases ho2 : okT ys
    · rw [cmpTT_bad (by rw [ho2, ho1]; rfl)]
      rw [ho1] at V1
      rw [ho2] at V2
      go_enter Try.func18, Try.ntmps18
      go_wp2_with (fail)
      refine V1.out.mono ?_
      rintro e w1 ⟨rfl, b1⟩
      have E1 := hid b1
      clear b1
      go_wp2_with (fail)
      refine (V2.out _ E1.out).mono ?_
      rintro e w2 ⟨rfl, b2⟩
      have E2 := hid (E1.out.trans (b2.mono E1.out.size))
      clear b2
      go_wp2_with (fail)
      go_ret2
      exact ⟨rfl, E2.out⟩
    · rw [cmpTT_ok ho1 ho2]
      have HCC := hid (cmpL_common 1 (short xs) (short ys) (fun x hx => by have := short_bd ho1 x hx; omega) (fun x hx => by have := short_bd ho2 x hx; omega))
      rw [ho1] at V1
      rw [ho2] at V2
      have hl1 := okT_len ho1
      have hl2 := okT_len ho2
      have S1 := hid (fun w1 (h : Below w.heap.size w w1) => implShort ga ca xs w1 (by omega) hl1.2 (okT_bd ho1) (ints_below HA.out h))
      have S2 := hid (fun w1 (h : Below w.heap.size w w1) => implShort gb cb ys w1 (by omega) hl2.2 (okT_bd ho2) (ints_below HB.out h))
      have HL1 := hid (show (short xs).length ≤ 60 by have := short_length (xs := xs); omega)
      have HL2 := hid (show (short ys).length ≤ 60 by have := short_length (xs := ys); omega)
      have HK := hid (show comm (short xs) (short ys) ≤ 60 by have := comm_le_left (short xs) (short ys); have := HL1.out; omega)
      clear ho1 ho2
      generalize short xs = us at *
      generalize short ys = vs at *
      go_enter Try.func18, Try.ntmps18
      go_wp2_with (fail)
      refine V1.out.mono ?_
      rintro e w1 ⟨rfl, b1⟩
      have E1 := hid b1
      clear b1
      go_wp2_with (fail)
      refine (V2.out _ E1.out).mono ?_
      rintro e w2 ⟨rfl, b2⟩
      have E2 := hid (E1.out.trans (b2.mono E1.out.size))
      clear b2
      go_wp2_with (fail)
      refine (S1.out _ E2.out).mono ?_
      rintro e w3 ⟨g3, c3, rfl, o3, b3⟩
      have O3 := hid o3
      have E3 := hid (E2.out.trans (b3.mono E2.out.size))
      clear b3 o3
      go_wp2_with (fail)
      refine (S2.out _ E3.out).mono ?_
      rintro e w4 ⟨g4, c4, rfl, o4, b4⟩
      have O4 := hid o4
      have O34 := hid (own_below O3.out b4)
      have E4 := hid (E3.out.trans (b4.mono E3.out.size))
      clear b4 o4
      have HC := hid (implCommonLen g3 0 c3 g4 0 c4 us vs w4 (by have := HL1.out; omega) (by have := HL2.out; omega) (own_ints O34.out) (own_ints O4.out))
      go_wp2_with (fail)
      refine HC.out.mono ?_
      rintro e w5 ⟨rfl, b5⟩
      have E5 := hid (E4.out.trans (b5.mono E4.out.size))
      have O35 := hid (own_below O34.out b5)
      have O45 := hid (own_below O4.out b5)
      clear b5 HC
      generalize comm us vs = k at *
      have hk := HK.out
      have T1 := hid (termInf g3 c3 k us w5 (by have := HL1.out; omega) (by omega) (own_ints O35.out))
      have T2 := hid (termInf g4 c4 k vs w5 (by have := HL2.out; omega) (by omega) (own_ints O45.out))
      go_wp2_with (fail)
      refine T1.out.mono ?_
      rintro e w6 ⟨rfl, rfl⟩
      go_wp2_with (fail)
      refine T2.out.mono ?_
      rintro e w7 ⟨rfl, rfl⟩
      go_wp2_with (fail)
      refine (cmpInt _ _ _).mono ?_
      rintro e w8 ⟨rfl, rfl⟩
      have HOB := hid (ord_bd (atInf us k) (atInf vs k))
      generalize ord (atInf us k) (atInf vs k) = o at *
      have ho : -1 ≤ o ∧ o ≤ 1 := HOB.out
      have ho1 := ho.1
      have ho2 := ho.2
      by_cases hodd : k % 2 = 1
      · have hr : ((k : Int).tmod 2) = 1 := by rw [Int.tmod_eq_emod_of_nonneg (by omega)]; omega
        have hrr : (((k : Int).tmod 2) == 1) = true := by rw [hr]; rfl
        have HR := hid (HCC.out.trans (if_pos hodd))
        clear ho
        go_wp2_with (fail)
        go_ret2
        exact ⟨by rw [HR.out, Int.one_mul]; rfl, E5.out⟩
      · have hr : ¬ ((k : Int).tmod 2) = 1 := by rw [Int.tmod_eq_emod_of_nonneg (by omega)]; omega
        have hrr : (((k : Int).tmod 2) == 1) = false := by simpa using hr
        have HR := hid (HCC.out.trans (if_neg hodd))
        clear ho
        go_wp2_with (fail)
        go_ret2
        exact ⟨by rw [HR.out, Int.one_mul]; rfl, E5.out⟩

end Go.Proofs.Ytbbgkflkabkoeaa
