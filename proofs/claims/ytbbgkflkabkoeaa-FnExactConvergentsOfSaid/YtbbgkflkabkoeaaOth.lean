/- Contracts: the other terms with the same value, by the program and by the model. -/
import Derived.Test.YtbbgkflkabkoeaaSh
import Derived.Test.YtbbgkflkabkoeaaCmt
namespace Go.Proofs.Ytbbgkflkabkoeaa
open Go.RowKit

def otherT (xs : List Int) : List Int × Int := if okT xs = true then (if okT (other xs) = true then (other xs, 0) else ([], 5)) else ([], 1)
theorem otherT_bad {xs : List Int} (h : okT xs = false) : otherT xs = ([], 1) := by unfold otherT; rw [h]; rfl
theorem otherT_full {xs : List Int} (h : okT xs = true) (h2 : okT (other xs) = false) : otherT xs = ([], 5) := by unfold otherT; rw [h, h2]; rfl
theorem otherT_ok {xs : List Int} (h : okT xs = true) (h2 : okT (other xs) = true) : otherT xs = (other xs, 0) := by unfold otherT; rw [h, h2]; rfl
theorem short_same {xs : List Int} (h : (short xs).length = xs.length) : short xs = xs := by
  by_cases h1 : 1 < xs.length ∧ xs[xs.length - 1]? = some 1
  · have := short_yes_len h1.1 h1.2
    omega
  · exact short_no h1
theorem other_short {xs : List Int} (h : ¬ (short xs).length = xs.length) : other xs = short xs := if_neg h
theorem own_mono {A B : Nat} {w : World} {g c : Nat} {xs : List Int} (h : Own B w g c xs) (hA : A ≤ B) : Own A w g c xs := by
  refine ⟨Nat.le_trans hA h.1, h.2.1, ?_⟩
  rcases h.2.2 with h3 | ⟨a, b, d, h3, h4, h5⟩
  · exact .inl h3
  · exact .inr ⟨a, b, d, h3, Nat.le_trans hA h4, h5⟩
theorem news1 (w : World) (x : Value) (t : TypeId) : ∀ (j : Nat) (u : Value), [x][j]? = some u → (w.alloc (.cells #[x] t)).cell? ((⟨w.heap.size, 0, none⟩ : Addr).add j) = some u :=
  (World.ownsRow_lit (base := 0) (e := t) (size := 1) w #[x] 1 (Nat.zero_le _) (by decide) rfl).cells rfl
theorem otherT_len {xs : List Int} : (otherT xs).1.length ≤ 1000000000 := by
  unfold otherT
  split
  · split
    · rename_i h
      have := okT_len h
      show (other xs).length ≤ _
      omega
    · exact Nat.zero_le _
  · exact Nat.zero_le _
def ListR (B : Nat) (r : List Int × Int) (e : Ending) (w' : World) : Prop := ∃ v, e = .returned (.tuple #[v, .int .i64 r.2]) ∧ Back B w' v r.1
theorem backNil {B : Nat} {w : World} : Back B w (.slice none 0 0) [] := .inl ⟨rfl, rfl⟩

/-- By the program. -/
theorem implOther (g c : Nat) (xs : List Int) (w : World) (hx : xs.length ≤ 2000000000) (hc : xs.length ≤ c) (ha : Ints w g 0 xs) :
    Calls Try.prog 39 #[.slice (some ⟨g, 0, none⟩) xs.length c] w fun e w' => ListR w.heap.size (otherT xs) e w' ∧ Below w.heap.size w w' := by
  obtain ⟨i0, hi, hz0, hz1, hz2⟩ := info_parts infoI
  have HA := hid ha
  have V1 := hid (implValidTerms g c xs w hx hc ha)
  clear ha
  cases ho1 : okT xs
  · rw [otherT_bad ho1]
    rw [ho1] at V1
    go_enter Try.func39, Try.ntmps39
    go_wp2_with (fail)
    refine V1.out.mono ?_
    rintro e w1 ⟨rfl, b1⟩
    have E1 := hid b1
    clear b1
    go_wp2_with (fail)
    go_ret2
    exact ⟨⟨_, rfl, backNil⟩, E1.out⟩
  · have HOK := hid ho1
    rw [ho1] at V1
    have hl1 := okT_len ho1
    have S1 := hid (fun w1 (h : Below w.heap.size w w1) => implShort g c xs w1 (by omega) hl1.2 (okT_bd ho1) (ints_below HA.out h))
    clear ho1
    by_cases hsl : (short xs).length = xs.length
    · have HXS := hid (short_same hsl)
      rw [HXS.out] at S1
      obtain ⟨y, hy⟩ : ∃ y, xs[xs.length - 1]? = some y := ⟨_, List.getElem?_eq_getElem (by omega)⟩
      have hyb := okT_bd HOK.out _ _ hy
      have hyb1 := hyb.1
      have hyb2 := hyb.2
      have HY := hid hy
      have HOE := hid (show other xs = xs.set (xs.length - 1) (y - 1) ++ [1] by
        rw [other_of_short HXS.out, List.getD_eq_getElem?_getD, hy]; rfl)
      have t1 : ((xs.length : Int) - 1).toNat = xs.length - 1 := by omega
      have p2 : (0 : Int) ≤ (xs.length : Int) - 1 := by omega
      clear hsl hy hyb
      go_enter Try.func39, Try.ntmps39
      go_wp2_with (fail)
      refine V1.out.mono ?_
      rintro e w1 ⟨rfl, b1⟩
      have E1 := hid b1
      clear b1
      go_wp2_with (fail)
      refine (S1.out _ E1.out).mono ?_
      rintro e w3 ⟨g3, c3, rfl, o3, b3⟩
      have E3 := hid (E1.out.trans (b3.mono E1.out.size))
      have cy := ints_at (own_ints o3) HY.out
      have f1 := own_frozen o3 (xs.length - 1)
      have hg3 : w.heap.size ≤ g3 := Nat.le_trans E1.out.size o3.1
      have hlt3 := own_lt o3
      have hcap := own_cap o3
      have OS := hid (show Own w.heap.size (w3.setCell ⟨g3, xs.length - 1, none⟩ (.int .i64 (y - 1))) g3 c3 (xs.set (xs.length - 1) (y - 1)) by
        refine ⟨hg3, ?_⟩
        have h2 := ((own_mono o3 E1.out.size).2.stored (xs.length - 1) (.int .i64 (y - 1))).1
        rw [← intCells_set] at h2
        rw [List.length_set]
        exact h2)
      have E4 := hid (E3.out.setCell (p := ⟨g3, xs.length - 1, none⟩) hg3 (.int .i64 (y - 1)))
      have LS := hid (show (xs.set (xs.length - 1) (y - 1)).length = xs.length by rw [List.length_set])
      clear o3 b3
      obtain ⟨zs, hzs⟩ : ∃ zs, zs = xs.set (xs.length - 1) (y - 1) := ⟨_, rfl⟩
      rw [← hzs] at OS HOE LS
      clear hzs
      go_wp2_with (at_builtin; refine wpList_append_own _ rfl _ _ 28 rfl w.heap.size 2 i0 (.int .i64 0) 1 8 Try.underlying28 hi hz0 hz1 hz2 rfl (by decide) _ xs.length (intCells zs) (by rfl) ?c0 ⟨w3.heap.size, 0, none⟩ 1 1 [.int .i64 1] (by rfl) ?c1 ?c2 ?c3 ?c4 ?c5 ?c6 ?c7)
      case c0 =>
        have h := OS.out.2
        rw [LS.out] at h
        exact h.alloc _
      case c1 => rfl
      case c2 =>
        have h := news1 (w3.setCell ⟨g3, xs.length - 1, none⟩ (.int .i64 (y - 1))) (.int .i64 1) 2
        simp only [World.size_setCell] at h
        exact h
      case c3 => intro u hu; obtain rfl := List.mem_singleton.1 hu; rfl
      case c4 => unfold maxLen; omega
      case c5 => omega
      case c6 => have h := E4.out.size; (first | omega | (simp <;> omega) | (simp at h ⊢; omega))
      intro v2 w5 hown2 hgrow2 _
      obtain ⟨g5, c5, rfl, hown5⟩ := own_more (xs := zs ++ [1]) hown2 (by rw [List.length_append, LS.out]; rfl) (intCells_more _ _) (by simp)
      have O := hid hown5
      have E5 := hid ((E4.out.alloc E4.out.size _).grown hgrow2 (by have h := E4.out.size; (first | omega | (simp <;> omega) | (simp at h ⊢; omega))) (fun k hk => by have h' : g3 = k := Option.some.inj hk; omega))
      have L5 := hid (show (zs ++ [1]).length ≤ 61 by rw [List.length_append, LS.out]; simp; omega)
      clear hown2 hown5 hgrow2
      obtain ⟨us, hus⟩ : ∃ us, us = zs ++ [1] := ⟨_, rfl⟩
      rw [← hus] at O L5 HOE ⊢
      clear hus
      have V3 := hid (implValidTerms g5 c5 us w5 (by have := L5.out; omega) (own_cap O.out) (own_ints O.out))
      go_wp2_with (fail)
      refine V3.out.mono ?_
      rintro e w6 ⟨rfl, b6⟩
      have O6 := hid (own_below O.out b6)
      have E6 := hid (E5.out.trans (b6.mono E5.out.size))
      clear b6
      cases ho2 : okT us
      · have HR := hid (otherT_full HOK.out (by rw [HOE.out]; exact ho2))
        go_wp2_with (fail)
        go_ret2
        exact ⟨⟨_, by rw [HR.out]; rfl, by rw [HR.out]; exact backNil⟩, E6.out⟩
      · have HR := hid (otherT_ok HOK.out (by rw [HOE.out]; exact ho2))
        go_wp2_with (fail)
        go_ret2
        exact ⟨⟨_, by rw [HR.out]; rfl, by rw [HR.out, HOE.out]; exact .inr ⟨_, _, rfl, O6.out⟩⟩, E6.out⟩
    · have hsl' : ¬ (((short xs).length : Nat) : Int) = (xs.length : Int) := by omega
      have HOE := hid (other_short hsl)
      have L5 := hid (show (short xs).length ≤ 61 by have := short_length (xs := xs); omega)
      clear hsl
      generalize short xs = us at *
      go_enter Try.func39, Try.ntmps39
      go_wp2_with (fail)
      refine V1.out.mono ?_
      rintro e w1 ⟨rfl, b1⟩
      have E1 := hid b1
      clear b1
      go_wp2_with (fail)
      refine (S1.out _ E1.out).mono ?_
      rintro e w5 ⟨g5, c5, rfl, o5, b5⟩
      have E5 := hid (E1.out.trans (b5.mono E1.out.size))
      have O := hid (own_mono o5 E1.out.size)
      clear o5 b5
      have V3 := hid (implValidTerms g5 c5 us w5 (by have := L5.out; omega) (own_cap O.out) (own_ints O.out))
      go_wp2_with (fail)
      refine V3.out.mono ?_
      rintro e w6 ⟨rfl, b6⟩
      have O6 := hid (own_below O.out b6)
      have E6 := hid (E5.out.trans (b6.mono E5.out.size))
      clear b6
      cases ho2 : okT us
      · have HR := hid (otherT_full HOK.out (by rw [HOE.out]; exact ho2))
        go_wp2_with (fail)
        go_ret2
        exact ⟨⟨_, by rw [HR.out]; rfl, by rw [HR.out]; exact backNil⟩, E6.out⟩
      · have HR := hid (otherT_ok HOK.out (by rw [HOE.out]; exact ho2))
        go_wp2_with (fail)
        go_ret2
        exact ⟨⟨_, by rw [HR.out]; rfl, by rw [HR.out, HOE.out]; exact .inr ⟨_, _, rfl, O6.out⟩⟩, E6.out⟩

/-- By the model. -/
theorem specOther (g c : Nat) (xs : List Int) (w : World) (hx : xs.length ≤ 2000000000) (ha : Ints w g 0 xs) :
    Calls Try.prog 17 #[.slice (some ⟨g, 0, none⟩) xs.length c] w fun e w' => ListR w.heap.size (otherT xs) e w' ∧ Below w.heap.size w w' := by
  obtain ⟨i0, hi, hz0, hz1, hz2⟩ := info_parts infoI
  have HA := hid ha
  have V1 := hid (specOkT g c xs w hx ha)
  clear ha
  cases ho1 : okT xs
  · rw [otherT_bad ho1]
    rw [ho1] at V1
    go_enter Try.func17, Try.ntmps17
    go_wp2_with (fail)
    refine V1.out.mono ?_
    rintro e w1 ⟨rfl, b1⟩
    have E1 := hid b1
    clear b1
    go_wp2_with (fail)
    go_ret2
    exact ⟨⟨_, rfl, backNil⟩, E1.out⟩
  · have HOK := hid ho1
    rw [ho1] at V1
    have hl1 := okT_len ho1
    have S1 := hid (fun w1 (h : Below w.heap.size w w1) => specShort g c xs w1 (by omega) hl1.2 (okT_bd ho1) (ints_below HA.out h))
    clear ho1
    by_cases hsl : (short xs).length = xs.length
    · have HXS := hid (short_same hsl)
      rw [HXS.out] at S1
      obtain ⟨y, hy⟩ : ∃ y, xs[xs.length - 1]? = some y := ⟨_, List.getElem?_eq_getElem (by omega)⟩
      have hyb := okT_bd HOK.out _ _ hy
      have hyb1 := hyb.1
      have hyb2 := hyb.2
      have HY := hid hy
      have HOE := hid (show other xs = xs.set (xs.length - 1) (y - 1) ++ [1] by
        rw [other_of_short HXS.out, List.getD_eq_getElem?_getD, hy]; rfl)
      have t1 : ((xs.length : Int) - 1).toNat = xs.length - 1 := by omega
      have p2 : (0 : Int) ≤ (xs.length : Int) - 1 := by omega
      clear hsl hy hyb
      go_enter Try.func17, Try.ntmps17
      go_wp2_with (fail)
      refine V1.out.mono ?_
      rintro e w1 ⟨rfl, b1⟩
      have E1 := hid b1
      clear b1
      go_wp2_with (fail)
      refine (S1.out _ E1.out).mono ?_
      rintro e w3 ⟨g3, c3, rfl, o3, b3⟩
      have E3 := hid (E1.out.trans (b3.mono E1.out.size))
      have cy := ints_at (own_ints o3) HY.out
      have f1 := own_frozen o3 (xs.length - 1)
      have hg3 : w.heap.size ≤ g3 := Nat.le_trans E1.out.size o3.1
      have hlt3 := own_lt o3
      have hcap := own_cap o3
      have OS := hid (show Own w.heap.size (w3.setCell ⟨g3, xs.length - 1, none⟩ (.int .i64 (y - 1))) g3 c3 (xs.set (xs.length - 1) (y - 1)) by
        refine ⟨hg3, ?_⟩
        have h2 := ((own_mono o3 E1.out.size).2.stored (xs.length - 1) (.int .i64 (y - 1))).1
        rw [← intCells_set] at h2
        rw [List.length_set]
        exact h2)
      have E4 := hid (E3.out.setCell (p := ⟨g3, xs.length - 1, none⟩) hg3 (.int .i64 (y - 1)))
      have LS := hid (show (xs.set (xs.length - 1) (y - 1)).length = xs.length by rw [List.length_set])
      clear o3 b3
      obtain ⟨zs, hzs⟩ : ∃ zs, zs = xs.set (xs.length - 1) (y - 1) := ⟨_, rfl⟩
      rw [← hzs] at OS HOE LS
      clear hzs
      go_wp2_with (at_builtin; refine wpList_append_own _ rfl _ _ 28 rfl w.heap.size 2 i0 (.int .i64 0) 1 8 Try.underlying28 hi hz0 hz1 hz2 rfl (by decide) _ xs.length (intCells zs) (by rfl) ?c0 ⟨w3.heap.size, 0, none⟩ 1 1 [.int .i64 1] (by rfl) ?c1 ?c2 ?c3 ?c4 ?c5 ?c6 ?c7)
      case c0 =>
        have h := OS.out.2
        rw [LS.out] at h
        exact h.alloc _
      case c1 => rfl
      case c2 =>
        have h := news1 (w3.setCell ⟨g3, xs.length - 1, none⟩ (.int .i64 (y - 1))) (.int .i64 1) 2
        simp only [World.size_setCell] at h
        exact h
      case c3 => intro u hu; obtain rfl := List.mem_singleton.1 hu; rfl
      case c4 => unfold maxLen; omega
      case c5 => omega
      case c6 => have h := E4.out.size; (first | omega | (simp <;> omega) | (simp at h ⊢; omega))
      intro v2 w5 hown2 hgrow2 _
      obtain ⟨g5, c5, rfl, hown5⟩ := own_more (xs := zs ++ [1]) hown2 (by rw [List.length_append, LS.out]; rfl) (intCells_more _ _) (by simp)
      have O := hid hown5
      have E5 := hid ((E4.out.alloc E4.out.size _).grown hgrow2 (by have h := E4.out.size; (first | omega | (simp <;> omega) | (simp at h ⊢; omega))) (fun k hk => by have h' : g3 = k := Option.some.inj hk; omega))
      have L5 := hid (show (zs ++ [1]).length ≤ 61 by rw [List.length_append, LS.out]; simp; omega)
      clear hown2 hown5 hgrow2
      obtain ⟨us, hus⟩ : ∃ us, us = zs ++ [1] := ⟨_, rfl⟩
      rw [← hus] at O L5 HOE ⊢
      clear hus
      have V3 := hid (specOkT g5 c5 us w5 (by have := L5.out; omega) (own_ints O.out))
      go_wp2_with (fail)
      refine V3.out.mono ?_
      rintro e w6 ⟨rfl, b6⟩
      have O6 := hid (own_below O.out b6)
      have E6 := hid (E5.out.trans (b6.mono E5.out.size))
      clear b6
      cases ho2 : okT us
      · have HR := hid (otherT_full HOK.out (by rw [HOE.out]; exact ho2))
        go_wp2_with (fail)
        go_ret2
        exact ⟨⟨_, by rw [HR.out]; rfl, by rw [HR.out]; exact backNil⟩, E6.out⟩
      · have HR := hid (otherT_ok HOK.out (by rw [HOE.out]; exact ho2))
        go_wp2_with (fail)
        go_ret2
        exact ⟨⟨_, by rw [HR.out]; rfl, by rw [HR.out, HOE.out]; exact .inr ⟨_, _, rfl, O6.out⟩⟩, E6.out⟩
    · have hsl' : ¬ (((short xs).length : Nat) : Int) = (xs.length : Int) := by omega
      have HOE := hid (other_short hsl)
      have L5 := hid (show (short xs).length ≤ 61 by have := short_length (xs := xs); omega)
      clear hsl
      generalize short xs = us at *
      go_enter Try.func17, Try.ntmps17
      go_wp2_with (fail)
      refine V1.out.mono ?_
      rintro e w1 ⟨rfl, b1⟩
      have E1 := hid b1
      clear b1
      go_wp2_with (fail)
      refine (S1.out _ E1.out).mono ?_
      rintro e w5 ⟨g5, c5, rfl, o5, b5⟩
      have E5 := hid (E1.out.trans (b5.mono E1.out.size))
      have O := hid (own_mono o5 E1.out.size)
      clear o5 b5
      have V3 := hid (specOkT g5 c5 us w5 (by have := L5.out; omega) (own_ints O.out))
      go_wp2_with (fail)
      refine V3.out.mono ?_
      rintro e w6 ⟨rfl, b6⟩
      have O6 := hid (own_below O.out b6)
      have E6 := hid (E5.out.trans (b6.mono E5.out.size))
      clear b6
      cases ho2 : okT us
      · have HR := hid (otherT_full HOK.out (by rw [HOE.out]; exact ho2))
        go_wp2_with (fail)
        go_ret2
        exact ⟨⟨_, by rw [HR.out]; rfl, by rw [HR.out]; exact backNil⟩, E6.out⟩
      · have HR := hid (otherT_ok HOK.out (by rw [HOE.out]; exact ho2))
        go_wp2_with (fail)
        go_ret2
        exact ⟨⟨_, by rw [HR.out]; rfl, by rw [HR.out, HOE.out]; exact .inr ⟨_, _, rfl, O6.out⟩⟩, E6.out⟩

end Go.Proofs.Ytbbgkflkabkoeaa
