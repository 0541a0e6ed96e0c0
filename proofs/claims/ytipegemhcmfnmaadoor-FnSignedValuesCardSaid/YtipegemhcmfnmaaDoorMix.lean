/- Contracts: the regular terms of terms with signs, by the program and by the model. -/
import Derived.Test.YtipegemhcmfnmaaDoorVas
import Derived.Test.YtipegemhcmfnmaaDoorTm2
namespace Go.Proofs.YtipegemhcmfnmaaDoor
open Go.RowKit

/-- The short terms with the value of terms with signs, and a code. -/
def termsS (xs : List (Int × Int)) : List Int × Int := if (valS xs).2.2 = 0 then expT (valS xs).1 (valS xs).2.1 else ([], (valS xs).2.2)
theorem termsS_len (xs : List (Int × Int)) : (termsS xs).1.length ≤ 64 := by
  unfold termsS
  split
  · rename_i h
    have hok := valS_ok h
    rw [expT_ok hok]
    have hb := ok_bounds hok
    have h2 := eu_length 30 (valS xs).1 (valS xs).2.1 (by
      have : (2 : Int) ^ 30 = 1073741824 := by decide
      omega)
    show (eu _ _).length ≤ _
    omega
  · exact Nat.zero_le _

theorem implTermsS (g c : Nat) (xs : List (Int × Int)) (a0 a1 a2 a3 : Addr) (w : World) (hs : Errs a0 a1 a2 a3 w) (hx : xs.length ≤ 2000000000) (hc : xs.length ≤ c) (ha : Sgs w g 0 xs) :
    Calls Tryd.prog 19 #[.slice (some ⟨g, 0, none⟩) xs.length c] w fun e w' => ListR w.heap.size (termsS xs) e w' ∧ Below w.heap.size w w' := by
  have V := hid (implValS g c xs a0 a1 a2 a3 w hs hx hc ha)
  clear hs ha
  unfold termsS
  generalize valS xs = r at *
  obtain ⟨n, d, s⟩ := r
  by_cases h0 : s = 0
  · subst h0
    rw [if_pos rfl]
    have X := hid (fun w => implExpand n d w)
    dsimp only
    go_enter Tryd.func19, Tryd.ntmps19
    go_wp2_with (fail)
    refine V.out.mono ?_
    rintro e w1 ⟨rfl, b1⟩
    have E1 := hid (b1.alloc b1.size (.cells #[.int .i64 n, .int .i64 d] 30))
    clear b1
    dsimp only [valV]
    go_wp2_with (fail)
    refine (X.out _).mono ?_
    rintro e w2 ⟨⟨v, rfl, r⟩, b2⟩
    have R2 := hid (back_mono r E1.out.size)
    have E2 := hid (E1.out.trans (b2.mono E1.out.size))
    clear r b2
    dsimp only
    go_wp2_with (fail)
    go_ret2
    exact ⟨⟨_, rfl, R2.out⟩, E2.out⟩
  · rw [if_neg h0]
    have hs2 : (s != 0) = true := by simpa using h0
    clear h0
    go_enter Tryd.func19, Tryd.ntmps19
    go_wp2_with (fail)
    refine V.out.mono ?_
    rintro e w1 ⟨rfl, b1⟩
    have E1 := hid (b1.alloc b1.size (.cells #[.int .i64 n, .int .i64 d] 30))
    clear b1
    dsimp only [valV]
    go_wp2_with (fail)
    go_ret2
    exact ⟨⟨_, rfl, backNil⟩, E1.out⟩

theorem specTermsS (g c : Nat) (xs : List (Int × Int)) (w : World) (hx : xs.length ≤ 2000000000) (ha : Sgs w g 0 xs) :
    Calls Tryd.prog 20 #[.slice (some ⟨g, 0, none⟩) xs.length c] w fun e w' => ListR w.heap.size (termsS xs) e w' ∧ Below w.heap.size w w' := by
  have V := hid (specValS g c xs w hx ha)
  have HK := hid (valS_ok (xs := xs))
  clear ha
  unfold termsS
  generalize valS xs = r at *
  obtain ⟨n, d, s⟩ := r
  by_cases h0 : s = 0
  · subst h0
    rw [if_pos rfl]
    have hok := HK.out rfl
    dsimp only at hok
    dsimp only
    rw [expT_ok hok]
    obtain ⟨d1, d2, d3, d4⟩ := ok_bounds hok
    have X := hid (fun w => specTerms n d w d1 d2 d3 d4)
    clear HK hok
    go_enter Tryd.func20, Tryd.ntmps20
    go_wp2_with (fail)
    refine V.out.mono ?_
    rintro e w1 ⟨rfl, b1⟩
    have E1 := hid (b1.alloc b1.size (.cells #[.int .i64 n, .int .i64 d] 30))
    clear b1
    dsimp only [valV]
    go_wp2_with (fail)
    refine (X.out _).mono ?_
    rintro e w2 ⟨v, rfl, r, b2⟩
    have R2 := hid (back_mono r E1.out.size)
    have E2 := hid (E1.out.trans (b2.mono E1.out.size))
    clear r b2
    dsimp only
    go_wp2_with (fail)
    go_ret2
    exact ⟨⟨_, rfl, R2.out⟩, E2.out⟩
  · rw [if_neg h0]
    have hs2 : (s != 0) = true := by simpa using h0
    clear h0 HK
    go_enter Tryd.func20, Tryd.ntmps20
    go_wp2_with (fail)
    refine V.out.mono ?_
    rintro e w1 ⟨rfl, b1⟩
    have E1 := hid (b1.alloc b1.size (.cells #[.int .i64 n, .int .i64 d] 30))
    clear b1
    dsimp only [valV]
    go_wp2_with (fail)
    go_ret2
    exact ⟨⟨_, rfl, backNil⟩, E1.out⟩

end Go.Proofs.YtipegemhcmfnmaaDoor
