/- The law on ReadDecimal, walked. -/
import Derived.Test.YthdhkjfanhhamaaDoorRd2
namespace Go.Proofs.YthdhkjfanhhamaaDoor.pExactReadDecimal
open Go.RowKit Go.Lib

theorem specReadDecimal (s : ByteArray) (w : World) (hs : s.size ≤ 1048576) :
    Calls Tryd.prog 25 #[.string s] w fun e w' => e = .returned (numV s.data.toList) ∧ Below w.heap.size w w' := by
  have C := fun w => specNum s w hs
  unfold numV at C ⊢
  generalize numS s.data.toList = x at C ⊢
  have HC := hid C
  clear C hs
  go_enter Tryd.func25, Tryd.ntmps25
  go_wp2_with (fail)
  refine (HC.out _).mono ?_
  rintro e w1 ⟨rfl, hb⟩
  go_wp2_with (fail)
  go_ret2
  exact ⟨rfl, hb⟩

theorem walk (s : ByteArray) (w : World) (hl : laidMet Tryd.prog Rows.fnExactReadDecimalRow.laid w) (_ws : s.size ≤ maxLen) :
    Calls Tryd.prog 6 #[.string s] w fun e w' => e = .returned (.bool true) ∧ Below w.heap.size w w' := by
  by_cases hs : s.size ≤ 1048576
  · have ht := pow10_of hl (by simp [Rows.fnExactReadDecimalRow])
    have hy := sentS_of hl (by simp [Rows.fnExactReadDecimalRow])
    have hr := sentR_of hl (by simp [Rows.fnExactReadDecimalRow])
    have CS := fun w => specReadDecimal s w hs
    have CI := fun w h1 h2 h3 => implRead s w hs h1 h2 h3
    unfold numV at CS CI
    generalize numS s.data.toList = x at CS CI
    obtain ⟨n, b⟩ := x
    have HS := hid CS
    have HI := hid CI
    have HT := hid ht
    have HY := hid hy
    have HR := hid hr
    have hsz : ¬ (1048576 : Int) < (s.size : Int) := by omega
    have hxx : (n != n) = false := by simp
    have hbb : (b != b) = false := by simp
    clear CS CI ht hy hr hl _ws hs
    go_enter Tryd.func6, Tryd.ntmps6
    go_wp2_with (fail)
    refine (HS.out _).mono ?_
    rintro e w1 ⟨rfl, hb1⟩
    have HT1 := hid (tab_below HT.out hb1)
    have HY1 := hid (sentS_below HY.out hb1)
    have HR1 := hid (sentR_below HR.out hb1)
    go_wp2_with (fail)
    refine (HI.out _ HT1.out HY1.out HR1.out).mono ?_
    rintro e w2 ⟨rfl, hb2⟩
    go_wp2_with (fail)
    go_ret
    exact ⟨rfl, hb1.trans (hb2.mono hb1.size)⟩
  · have hsz : (1048576 : Int) < (s.size : Int) := by omega
    clear hl _ws hs
    go_enter Tryd.func6, Tryd.ntmps6
    go_wp2_with (fail)
    go_ret
    exact ⟨rfl, Below.refl _ _⟩

end Go.Proofs.YthdhkjfanhhamaaDoor.pExactReadDecimal
