/- The law on FractionText, walked. -/
import Derived.Test.YthdhkjfanhhamaaDoorFrt
import Derived.Test.YthdhkjfanhhamaaDoorLv
namespace Go.Proofs.YthdhkjfanhhamaaDoor.pExactFractionText
open Go.RowKit Go.Lib

theorem walk (n d : Int) (w : World) (hl : laidMet Tryd.prog Rows.fnExactFractionTextRow.laid w) (_wn : (Lit.int .i64 n).wf = true) (_wd : (Lit.int .i64 d).wf = true) :
    Calls Tryd.prog 7 #[.agg #[.int .i64 n, .int .i64 d]] w fun e w' => e = .returned (.bool true) ∧ Below w.heap.size w w' := by
  have ht := pow10_of hl (by simp [Rows.fnExactFractionTextRow])
  have CS := fun w => specTextO n d w
  have CI := fun w h => implText n d w h
  generalize (⟨(txO n d).toArray⟩ : ByteArray) = s at CS CI
  have HS := hid CS
  have HI := hid CI
  have HT := hid ht
  clear CS CI ht hl _wn _wd
  go_enter Tryd.func7, Tryd.ntmps7
  go_wp2_with (fail)
  refine (toFr _ _ _).mono ?_
  rintro e w1 ⟨rfl, hb1⟩
  obtain ⟨hc1, hf1⟩ := bcell hb1
  go_wp2_with (fail)
  refine (HS.out _).mono ?_
  rintro e w2 ⟨rfl, hb2⟩
  have hB2 := hb1.trans (hb2.mono hb1.size)
  clear hc1 hf1
  obtain ⟨hc2, hf2⟩ := bcell hB2
  go_wp2_with (fail)
  refine (toFr _ _ _).mono ?_
  rintro e w3 ⟨rfl, hb3⟩
  have hB3 := hB2.trans (hb3.mono hB2.size)
  have hD3 : Below w.heap.size w w3 := ((Below.refl _ _).alloc (Nat.le_refl _) _).trans (hB3.mono (by simp))
  have HT3 := hid (tab_below HT.out hD3)
  go_wp2_with (fail)
  refine (HI.out _ HT3.out).mono ?_
  rintro e w4 ⟨rfl, hb4⟩
  go_wp2_with (fail)
  go_ret
  exact ⟨rfl, hD3.trans (hb4.mono hD3.size)⟩

end Go.Proofs.YthdhkjfanhhamaaDoor.pExactFractionText
