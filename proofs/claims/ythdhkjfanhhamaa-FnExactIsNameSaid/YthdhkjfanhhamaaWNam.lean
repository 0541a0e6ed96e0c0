/- The law on IsName, walked. -/
import Derived.Test.YthdhkjfanhhamaaNam
namespace Go.Proofs.Ythdhkjfanhhamaa.pExactIsName
open Go.RowKit

theorem walk (s : ByteArray) (w : World) (hm : s.size ≤ maxLen) :
    Calls Try.prog 4 #[.string s] w fun e w' => e = .returned (.bool true) ∧ Below w.heap.size w w' := by
  unfold maxLen at hm
  by_cases h : 1048576 < s.size
  · have h' : (1048576 : Int) < (s.size : Int) := by omega
    go_enter Try.func4, Try.ntmps4
    go_wp2_with (fail)
    go_ret
    exact ⟨rfl, Below.refl _ _⟩
  · have h' : ¬ (1048576 : Int) < (s.size : Int) := by omega
    have CS := fun w => specName s w (by omega)
    have CI := fun w => implName s w (by omega)
    generalize nmB s.data.toList = b at CS CI
    have HS := hid CS
    have HI := hid CI
    have hbb : (b != b) = false := by cases b <;> rfl
    clear CS CI
    go_enter Try.func4, Try.ntmps4
    go_wp2_with (fail)
    refine (HS.out _).mono ?_
    rintro e w0 ⟨rfl, rfl⟩
    go_wp2_with (fail)
    refine (HI.out _).mono ?_
    rintro e w1 ⟨rfl, hb1⟩
    go_wp2_with (fail)
    go_ret
    exact ⟨rfl, hb1⟩

end Go.Proofs.Ythdhkjfanhhamaa.pExactIsName
