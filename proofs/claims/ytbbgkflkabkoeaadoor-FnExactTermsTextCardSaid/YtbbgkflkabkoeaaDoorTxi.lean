/- Contract: the text of terms, as the program writes it. -/
import Derived.Test.YtbbgkflkabkoeaaDoorJn
namespace Go.Proofs.YtbbgkflkabkoeaaDoor
open Go.RowKit Go.Lib

def txO3 (xs : List Int) : List UInt8 := if okT xs then txT xs else []
theorem txO3_no {xs : List Int} (h : okT xs = false) : txO3 xs = [] := by unfold txO3; rw [h]; rfl
theorem txO3_ok {xs : List Int} (h : okT xs = true) : txO3 xs = txT xs := by unfold txO3; rw [h]; rfl

theorem specTextO (g c : Nat) (xs : List Int) (w : World) (hx : xs.length ≤ 2000000000) (ha : Ints w g 0 xs) :
    Calls Tryd.prog 5 #[.slice (some ⟨g, 0, none⟩) xs.length c] w fun e w' => e = .returned (.string ⟨(txO3 xs).toArray⟩) ∧ Below w.heap.size w w' := specTextT g c xs w hx ha

set_option maxHeartbeats 1600000 in
theorem implTextT (g c : Nat) (xs : List Int) (w : World) (hx : xs.length ≤ 2000000000) (hc : xs.length ≤ c) (ha : Ints w g 0 xs) (hp : Pow w) :
    Calls Tryd.prog 7 #[.slice (some ⟨g, 0, none⟩) xs.length c] w fun e w' => e = .returned (.string ⟨(txO3 xs).toArray⟩) ∧ Below w.heap.size w w' := by
  have HA := hid ha
  have V1 := hid (implValidTerms g c xs w hx hc ha)
  have HP := hid hp
  clear hp
  cases ho1 : okT xs
  · rw [ho1] at V1
    rw [txO3_no ho1]
    clear ha ho1
    go_enter Tryd.func7, Tryd.ntmps7
    go_wp2_with (fail)
    refine V1.out.mono ?_
    rintro e w1 ⟨rfl, b1⟩
    have E1 := hid b1
    clear b1
    go_wp2_with (fail)
    go_ret
    exact ⟨rfl, E1.out⟩
  · rw [ho1] at V1
    rw [txO3_ok ho1]
    have hl := okT_len ho1
    have hl1 := hl.1
    have hl2 := hl.2
    have hbd := okT_bdT ho1
    obtain ⟨x, hx0⟩ : ∃ x, xs[0]? = some x := ⟨_, List.getElem?_eq_getElem (by omega)⟩
    have hxb := hbd _ _ hx0
    have D0 := hid (fun (w2 : World) (h : Below w.heap.size w w2) => implDec x w2 (by omega) (by omega) (pow_below HP.out h))
    have hs0 : (itoa x).length ≤ 20 := itoa_len20 (by omega)
    have HT := hid (show txT xs = 91 :: (itoa x ++ (tl (xs.drop 1) ++ [93])) by unfold txT; rw [List.getD_eq_getElem?_getD, hx0]; rfl)
    have hn0 : (0 : Int) < (xs.length : Int) := by omega
    have hq0 : ¬ 9223372036854775807 < 1 + (itoa x).length := by omega
    have hq0' : ¬ 9223372036854775807 < (itoa x).length + 1 := by omega
    have HX0 := hid hx0
    have HBD := hid hbd
    clear ho1 hl hxb hbd hx0 ha
    generalize itoa x = sx at *
    by_cases h1 : 1 < xs.length
    · have h1' : (1 : Int) < (xs.length : Int) := by omega
      have h2' : (1 : Int) ≤ (xs.length : Int) := by omega
      have h3' : (xs.length : Int) ≤ (c : Int) := by omega
      have hne : xs.drop 1 ≠ [] := by intro e; have := congrArg List.length e; rw [List.length_drop] at this; simp at this; omega
      have HJ := hid (tl_join hne)
      have hjl : (join ((xs.drop 1).map itoa) [44, 32]).length ≤ 22 * 60 := by
        have := join_len ((xs.drop 1).map itoa) (fun y hy => by
          obtain ⟨z, hz, rfl⟩ := List.mem_map.1 hy
          obtain ⟨j, hj⟩ := List.mem_iff_getElem?.1 (List.mem_of_mem_drop hz)
          have := HBD.out j z hj
          exact itoa_len20 (by omega))
        rw [List.length_map, List.length_drop] at this
        omega
      have JD := hid (fun (w2 : World) (h : Below w.heap.size w w2) => joinDec g 1 (xs.length - 1) (c - 1) (xs.drop 1) w2 (by rw [List.length_drop]) (by rw [List.length_drop]; omega) (by rw [List.length_drop]; omega) (fun j y hj => by rw [List.getElem?_drop] at hj; exact HBD.out _ _ hj) (ints_drop (ints_below HA.out h) 1) (pow_below HP.out h))
      have hc1 : ¬ c = 1 := by omega
      generalize join ((xs.drop 1).map itoa) [44, 32] = J at *
      clear hne
      go_enter Tryd.func7, Tryd.ntmps7
      go_wp2_with (fail)
      refine V1.out.mono ?_
      rintro e w1 ⟨rfl, b1⟩
      have E1 := hid b1
      have cx1 := ints_at (ints_below HA.out b1) HX0.out
      clear b1
      go_wp2_with (fail)
      refine (D0.out _ E1.out).mono ?_
      rintro e w2 ⟨rfl, b2⟩
      have E2 := hid (E1.out.trans (b2.mono E1.out.size))
      clear b2
      go_wp2_with (fail)
      refine (JD.out _ E2.out).mono ?_
      rintro e w3 ⟨rfl, b3⟩
      have E3 := hid (E2.out.trans (b3.mono E2.out.size))
      clear b3
      obtain ⟨T, hT⟩ : ∃ T : ByteArray, T = ⟨#[91]⟩ ++ ⟨sx.toArray⟩ := ⟨_, rfl⟩
      have hTl : T.data.toList = 91 :: sx := by rw [hT, bytes_more _ _ sx rfl]; rfl
      have hTs : T.size = 1 + sx.length := by rw [bytes_size hTl]; simp; omega
      have HR := hid (show (T ++ (⟨#[59, 32]⟩ ++ ⟨J.toArray⟩) ++ ⟨#[93]⟩ : ByteArray) = ⟨(txT xs).toArray⟩ from bytes_of (by
        rw [HT.out, HJ.out, bytes_more _ _ [93] rfl, ByteArray.data_append, Array.toList_append, hTl, bytes_more _ _ J rfl]
        simp))
      rw [← hT]
      have hq2 : ¬ 9223372036854775807 < 2 + J.length := by omega
      have hq2' : ¬ 9223372036854775807 < J.length + 2 := by omega
      have hq3 : ¬ 9223372036854775807 < T.size + (2 + J.length) := by omega
      have hq3' : ¬ 9223372036854775807 < T.size + (J.length + 2) := by omega
      have hq4 : ¬ 9223372036854775807 < T.size + (2 + J.length) + 1 := by omega
      have hq4' : ¬ 9223372036854775807 < T.size + (J.length + 2) + 1 := by omega
      clear hT hTl hTs
      go_wp2_with (fail)
      go_ret
      exact ⟨by rw [← HR.out]; rfl, E3.out⟩
    · have h1' : ¬ (1 : Int) < (xs.length : Int) := by omega
      have HR := hid (show (⟨#[91]⟩ ++ ⟨sx.toArray⟩ ++ ⟨#[93]⟩ : ByteArray) = ⟨(txT xs).toArray⟩ from bytes_of (by
        rw [HT.out, List.drop_eq_nil_of_le (by omega), bytes_more _ _ [93] rfl, bytes_more _ _ sx rfl]
        simp [tl]))
      have hq2 : ¬ 9223372036854775807 < 1 + sx.length + 1 := by omega
      have hq2' : ¬ 9223372036854775807 < sx.length + 1 + 1 := by omega
      have hq3 : ¬ 9223372036854775807 < 1 + (sx.length + 1) := by omega
      go_enter Tryd.func7, Tryd.ntmps7
      go_wp2_with (fail)
      refine V1.out.mono ?_
      rintro e w1 ⟨rfl, b1⟩
      have E1 := hid b1
      have cx1 := ints_at (ints_below HA.out b1) HX0.out
      clear b1
      go_wp2_with (fail)
      refine (D0.out _ E1.out).mono ?_
      rintro e w2 ⟨rfl, b2⟩
      have E2 := hid (E1.out.trans (b2.mono E1.out.size))
      clear b2
      go_wp2_with (fail)
      go_ret
      exact ⟨by rw [← HR.out]; rfl, E2.out⟩

end Go.Proofs.YtbbgkflkabkoeaaDoor
