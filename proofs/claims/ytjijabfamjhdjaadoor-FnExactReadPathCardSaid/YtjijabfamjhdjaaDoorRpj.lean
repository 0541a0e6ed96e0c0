/- Contract: ReadPath, by the program. -/
import Derived.Test.YtjijabfamjhdjaaDoorRpi
namespace Go.Proofs.YtjijabfamjhdjaaDoor
open Go.RowKit Go.Lib

theorem top_is {s : ByteArray} (h : s.data.toList = [116, 111, 112]) : s = ⟨#[116, 111, 112]⟩ := bytes_of h
theorem bytes_same (s : ByteArray) : (s.toList == s.toList) = true := by simp
theorem bytes_not {u s : ByteArray} (h : ¬ u = s) : (u.toList == s.toList) = false := bytes_ne h

theorem rpS_len : ∀ (ps : List (List UInt8)) (acc ys : List Int), rpS acc ps = some ys → ys.length = acc.length + ps.length
  | [], acc, ys, h => by simp [rpS] at h; simp [h]
  | [] :: r, acc, ys, h => by simp [rpS] at h
  | (c :: t) :: r, acc, ys, h => by
    rw [rpS_cons] at h
    by_cases hc : c = ltr acc.length ∧ (numS t).2 = true
    · rw [if_pos hc] at h
      have := rpS_len r _ _ h
      simp at this ⊢
      omega
    · rw [if_neg hc] at h; cases h
theorem rp_count {l : List UInt8} {ys : List Int} (h : rpS (st0 l) (splitB 32 l) = some ys) : ys.length ≤ l.length + 2 := by
  have h1 := rpS_len _ _ _ h
  have h2 := splitB_len 32 l
  have h3 : (st0 l).length ≤ 1 := by unfold st0; split <;> simp
  omega

set_option maxRecDepth 100000 in
set_option maxHeartbeats 8000000 in
theorem implRP (s : ByteArray) (w : World) (hs : s.size ≤ 1048576) (hw : Wg w) :
    Calls Tryd.prog 33 #[.string s] w fun e w' => BoolP w.heap.size (rdPath s.data.toList) e w' ∧ Below w.heap.size w w' := by
  by_cases ht : s.data.toList = [116, 111, 112]
  · have hst := top_is ht
    subst hst
    go_enter Tryd.func33, Tryd.ntmps33
    go_wp2_with (fail)
    go_ret2
    exact ⟨⟨_, rfl, .inl ⟨rfl, rfl⟩⟩, Below.refl _ _⟩
  have htop : (s.toList == (⟨#[116, 111, 112]⟩ : ByteArray).toList) = false := bytes_not (fun e => ht (by rw [e]))
  have htop2 : (s.toList == [116, 111, 112]) = false := by
    rw [beq_eq_false_iff_ne]
    intro e
    exact ht (by rw [← Lib.toList_data]; exact e)
  have R := hid (implRuns s w hs hw)
  have HW := hid hw
  have HT := hid ht
  have HNO := hid (fun h => rp_no (l := s.data.toList) ht h)
  have HYES := hid (fun ys h1 h2 h3 => rp_yes (l := s.data.toList) (ys := ys) ht h1 h2 h3)
  clear hw ht
  cases ho : rpS (st0 s.data.toList) (splitB 32 s.data.toList) with
  | none =>
    have HR := hid (HNO.out (fun ys h => by rw [ho] at h; cases h))
    rw [rpV_none ho] at R
    clear HNO HYES ho
    go_enter Tryd.func33, Tryd.ntmps33
    go_wp2_with (fail)
    refine R.out.mono ?_
    rintro e w1 ⟨⟨v, rfl, rb⟩, b1⟩
    have E1 := hid b1
    clear rb b1
    go_wp2_with (fail)
    go_ret2
    exact ⟨⟨_, by rw [HR.out]; rfl, by rw [HR.out]; exact .inl ⟨rfl, rfl⟩⟩, E1.out⟩
  | some ys =>
    rw [rpV_some ho] at R
    have hne := rpS_ne ho
    have HO := hid ho
    have HNE := hid (List.length_pos_iff.2 hne)
    clear hne
    go_enter Tryd.func33, Tryd.ntmps33
    go_wp2_with (fail)
    refine R.out.mono ?_
    rintro e w1 ⟨⟨v, rfl, rb⟩, b1⟩
    obtain ⟨g, c, rfl, O⟩ : ∃ g c, v = .slice (some ⟨g, 0, none⟩) ys.length c ∧ Own w.heap.size w1 g c ys := by
      rcases rb with ⟨_, h0⟩ | h
      · have := HNE.out; rw [show ys = [] from h0] at this; simp at this
      · exact h
    have E1 := hid b1
    have OW := hid O
    have hcp := own_cap O
    have hbig : ys.length ≤ 2000000000 := by
      have h1 := rp_count HO.out
      rw [show s.data.toList.length = s.size from Array.length_toList] at h1
      omega
    have V := hid (implValidPath g c ys w1 hbig hcp (own_ints O))
    have T := hid (fun w2 (b : Below w1.heap.size w1 w2) => implTextP g c ys w2 hbig hcp (ints_below (own_ints O) b) (powp_below (wg_below HW.out E1.out).1 b))
    clear rb b1 O R
    cases hok : okP ys
    · have HR := hid (HNO.out (fun zs h k _ => by
        have e1 := HO.out
        rw [h] at e1
        injection e1 with e1
        subst e1
        rw [hok] at k
        cases k))
      rw [hok] at V
      clear HNO HYES ho hok
      go_wp2_with (fail)
      refine V.out.mono ?_
      rintro e w2 ⟨rfl, b2⟩
      have E2 := hid (E1.out.trans (b2.mono E1.out.size))
      clear b2
      go_wp2_with (fail)
      go_ret2
      exact ⟨⟨_, by rw [HR.out]; rfl, by rw [HR.out]; exact .inl ⟨rfl, rfl⟩⟩, E2.out⟩
    · rw [hok] at V
      rw [ptO_ok hok] at T
      by_cases he : ptT ys = s.data.toList
      · have HR := hid (HYES.out ys HO.out hok he)
        have hst : (⟨(ptT ys).toArray⟩ : ByteArray) = s := by rw [he]
        rw [hst] at T
        have hsame := bytes_same s
        clear HNO HYES ho hok he hst
        go_wp2_with (fail)
        refine V.out.mono ?_
        rintro e w2 ⟨rfl, b2⟩
        have E2 := hid (E1.out.trans (b2.mono E1.out.size))
        have C := hid (T.out w2 b2)
        have O2 := hid (own_below OW.out b2)
        clear b2
        go_wp2_with (fail)
        refine C.out.mono ?_
        rintro e w3 ⟨rfl, b3⟩
        have E3 := hid (E2.out.trans (b3.mono E2.out.size))
        have O3 := hid (own_below O2.out b3)
        clear b3
        go_wp2_with (fail)
        go_ret2
        exact ⟨⟨_, by rw [HR.out]; rfl, by rw [HR.out]; exact .inr ⟨g, c, rfl, O3.out⟩⟩, E3.out⟩
      · have HR := hid (HNO.out (fun zs h _ k => by
          have e1 := HO.out
          rw [h] at e1
          injection e1 with e1
          subst e1
          exact he k))
        have hdiff : (((⟨(ptT ys).toArray⟩ : ByteArray)).toList == s.toList) = false := bytes_not (fun e => he (by rw [← e]))
        generalize (⟨(ptT ys).toArray⟩ : ByteArray) = PT at *
        clear HNO HYES ho hok he
        go_wp2_with (fail)
        refine V.out.mono ?_
        rintro e w2 ⟨rfl, b2⟩
        have E2 := hid (E1.out.trans (b2.mono E1.out.size))
        have C := hid (T.out w2 b2)
        clear b2
        go_wp2_with (fail)
        refine C.out.mono ?_
        rintro e w3 ⟨rfl, b3⟩
        have E3 := hid (E2.out.trans (b3.mono E2.out.size))
        clear b3
        go_wp2_with (fail)
        go_ret2
        exact ⟨⟨_, by rw [HR.out]; rfl, by rw [HR.out]; exact .inl ⟨rfl, rfl⟩⟩, E3.out⟩

end Go.Proofs.YtjijabfamjhdjaaDoor
