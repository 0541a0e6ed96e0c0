/- Contracts: the terms of a kind with the value of terms, by the program and by the model. -/
import Derived.Test.YtipegemhcmfnmaaDoorExm
import Derived.Test.YtipegemhcmfnmaaDoorCvv
namespace Go.Proofs.YtipegemhcmfnmaaDoor
open Go.RowKit

theorem fromS_len (v : Int × Int × Int) (k : Int) : (fromS v k).1.length ≤ 60 := by
  unfold fromS
  split
  · exact expS_len _ _ _
  · exact Nat.zero_le _
theorem implFromS (g c : Nat) (xs : List Int) (kd : Int) (a0 a1 a2 a3 : Addr) (w : World) (hs : Errs a0 a1 a2 a3 w) (hx : xs.length ≤ 2000000000) (hc : xs.length ≤ c) (ha : Ints w g 0 xs) :
    Calls Tryd.prog 25 #[.slice (some ⟨g, 0, none⟩) xs.length c, .int .i64 kd] w fun e w' => SListR w.heap.size (fromS (valT xs) kd) e w' ∧ Below w.heap.size w w' := by
  have V := hid (implVal g c xs w hx hc ha)
  have HS := hid hs
  clear ha
  generalize valT xs = r at *
  obtain ⟨n, d, s⟩ := r
  unfold fromS
  by_cases h0 : s = 0
  · subst h0
    rw [if_pos rfl]
    have X := hid (fun w (h : Errs a0 a1 a2 a3 w) => implExpandS n d kd a0 a1 a2 a3 w h)
    dsimp only
    go_enter Tryd.func25, Tryd.ntmps25
    go_wp2_with (fail)
    refine V.out.mono ?_
    rintro e w1 ⟨rfl, b1⟩
    have E1 := hid (b1.alloc b1.size (.cells #[.int .i64 n, .int .i64 d] 30))
    clear b1
    dsimp only [valV]
    go_wp2_with (fail)
    refine (X.out _ (errs_below HS.out E1.out)).mono ?_
    rintro e w2 ⟨⟨v, rfl, r⟩, b2⟩
    have R2 := hid (sback_mono r E1.out.size)
    have E2 := hid (E1.out.trans (b2.mono E1.out.size))
    clear r b2
    dsimp only
    go_wp2_with (fail)
    go_ret2
    exact ⟨⟨_, rfl, R2.out⟩, E2.out⟩
  · rw [if_neg h0]
    have hs2 : (s != 0) = true := by simpa using h0
    clear h0
    go_enter Tryd.func25, Tryd.ntmps25
    go_wp2_with (fail)
    refine V.out.mono ?_
    rintro e w1 ⟨rfl, b1⟩
    have E1 := hid (b1.alloc b1.size (.cells #[.int .i64 n, .int .i64 d] 30))
    clear b1
    dsimp only [valV]
    go_wp2_with (fail)
    go_ret2
    exact ⟨⟨_, rfl, sback_nil⟩, E1.out⟩

theorem specFromS (g c : Nat) (xs : List Int) (kd : Int) (w : World) (hx : xs.length ≤ 2000000000) (ha : Ints w g 0 xs) :
    Calls Tryd.prog 26 #[.slice (some ⟨g, 0, none⟩) xs.length c, .int .i64 kd] w fun e w' => SListR w.heap.size (fromS (valT xs) kd) e w' ∧ Below w.heap.size w w' := by
  have V := hid (specVal g c xs w hx ha)
  clear ha
  generalize valT xs = r at *
  obtain ⟨n, d, s⟩ := r
  unfold fromS
  by_cases h0 : s = 0
  · subst h0
    rw [if_pos rfl]
    have X := hid (fun w => specExpandS n d kd w)
    dsimp only
    go_enter Tryd.func26, Tryd.ntmps26
    go_wp2_with (fail)
    refine V.out.mono ?_
    rintro e w1 ⟨rfl, b1⟩
    have E1 := hid (b1.alloc b1.size (.cells #[.int .i64 n, .int .i64 d] 30))
    clear b1
    dsimp only [valV]
    go_wp2_with (fail)
    refine (X.out _).mono ?_
    rintro e w2 ⟨⟨v, rfl, r⟩, b2⟩
    have R2 := hid (sback_mono r E1.out.size)
    have E2 := hid (E1.out.trans (b2.mono E1.out.size))
    clear r b2
    dsimp only
    go_wp2_with (fail)
    go_ret2
    exact ⟨⟨_, rfl, R2.out⟩, E2.out⟩
  · rw [if_neg h0]
    have hs2 : (s != 0) = true := by simpa using h0
    clear h0
    go_enter Tryd.func26, Tryd.ntmps26
    go_wp2_with (fail)
    refine V.out.mono ?_
    rintro e w1 ⟨rfl, b1⟩
    have E1 := hid (b1.alloc b1.size (.cells #[.int .i64 n, .int .i64 d] 30))
    clear b1
    dsimp only [valV]
    go_wp2_with (fail)
    go_ret2
    exact ⟨⟨_, rfl, sback_nil⟩, E1.out⟩

end Go.Proofs.YtipegemhcmfnmaaDoor
