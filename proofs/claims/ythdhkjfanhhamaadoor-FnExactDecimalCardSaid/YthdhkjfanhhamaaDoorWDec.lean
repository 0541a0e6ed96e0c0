/- The law on Decimal, walked. -/
import Derived.Test.YthdhkjfanhhamaaDoorFmt
namespace Go.Proofs.YthdhkjfanhhamaaDoor.pExactDecimal
open Go.RowKit Go.Lib

theorem specDecimal (n : Int) (w : World) (h1 : -9223372036854775808 ≤ n) (h2 : n ≤ 9223372036854775807) :
    Calls Tryd.prog 23 #[.int .i64 n] w fun e w' => e = .returned (.string ⟨(itoa n).toArray⟩) ∧ Below w.heap.size w w' := by
  have C := fun w => specDec n w h1 h2
  have HC := hid C
  clear C h1 h2
  go_enter Tryd.func23, Tryd.ntmps23
  go_wp2_with (fail)
  refine (HC.out _).mono ?_
  rintro e w1 ⟨rfl, hb⟩
  go_wp2_with (fail)
  go_ret
  exact ⟨rfl, hb⟩

theorem walk (n : Int) (w : World) (hl : laidMet Tryd.prog Rows.fnExactDecimalRow.laid w) (wn : (Lit.int .i64 n).wf = true) :
    Calls Tryd.prog 5 #[.int .i64 n] w fun e w' => e = .returned (.bool true) ∧ Below w.heap.size w w' := by
  have ht := pow10_of hl (by simp [Rows.fnExactDecimalRow])
  obtain ⟨h1, h2⟩ := bounds_i64 wn
  have CS := fun w => specDecimal n w h1 h2
  have CI := fun w h => implDec n w h1 h2 h
  generalize (⟨(itoa n).toArray⟩ : ByteArray) = s at CS CI
  have HS := hid CS
  have HI := hid CI
  have HT := hid ht
  clear CS CI ht hl wn h1 h2
  go_enter Tryd.func5, Tryd.ntmps5
  go_wp2_with (fail)
  refine (HS.out _).mono ?_
  rintro e w1 ⟨rfl, hb1⟩
  have HT1 := hid (tab_below HT.out hb1)
  go_wp2_with (fail)
  refine (HI.out _ HT1.out).mono ?_
  rintro e w2 ⟨rfl, hb2⟩
  go_wp2_with (fail)
  go_ret
  exact ⟨rfl, hb1.trans (hb2.mono hb1.size)⟩

end Go.Proofs.YthdhkjfanhhamaaDoor.pExactDecimal
