/- The law on ReadFraction, walked. -/
import Derived.Test.YthdhkjfanhhamaaDoorRfc
import Derived.Test.YthdhkjfanhhamaaDoorLv
namespace Go.Proofs.YthdhkjfanhhamaaDoor.pExactReadFraction
open Go.RowKit Go.Lib

theorem walk (s : ByteArray) (w : World) (hl : laidMet Tryd.prog Rows.fnExactReadFractionRow.laid w) (hsh : w.ShapedOpen Tryd.prog) (_ws : s.size ≤ maxLen) :
    Calls Tryd.prog 8 #[.string s] w fun e w' => e = .returned (.bool true) ∧ Below w.heap.size w w' := by
  by_cases hs : s.size ≤ 1048576
  · have ht := pow10_of hl (by simp [Rows.fnExactReadFractionRow])
    have hy := sentS_of hl (by simp [Rows.fnExactReadFractionRow])
    have hr := sentR_of hl (by simp [Rows.fnExactReadFractionRow])
    have hw : Wants w := ⟨ht, hy, hr, max_of hsh⟩
    have CS := fun w => specRF s w hs
    have CI := fun w h => implRF s w hs h
    unfold resV at CS CI
    generalize rfR s.data.toList = x at CS CI
    obtain ⟨n, d, b⟩ := x
    have HS := hid CS
    have HI := hid CI
    have HW := hid hw
    have hsz : ¬ (1048576 : Int) < (s.size : Int) := by omega
    have hbb : (b != b) = false := by simp
    clear CS CI ht hy hr hl _ws hs hsh hw
    go_enter Tryd.func8, Tryd.ntmps8
    go_wp2_with (fail)
    refine (HS.out _).mono ?_
    rintro e w1 ⟨rfl, hb1⟩
    have hA1 : Below w.heap.size w (w1.alloc (.cells #[.int .i64 n, .int .i64 d] 25)) := hb1.alloc hb1.size _
    have HW1 := hid (wants_below HW.out hA1)
    go_wp2_with (fail)
    refine (HI.out _ HW1.out).mono ?_
    rintro e w2 ⟨rfl, hb2⟩
    have hB2 := hA1.trans (hb2.mono hA1.size)
    have hs2 := hb2.size
    simp at hs2
    have n3 : w1.heap.size < w2.heap.size := by omega
    have k0 : w2.cell? ⟨w1.heap.size, 0, none⟩ = some (.int .i64 n) := (hb2.cell (p := ⟨w1.heap.size, 0, none⟩) (by simp)).trans (by go_simp)
    have k1 : w2.cell? ⟨w1.heap.size, 1, none⟩ = some (.int .i64 d) := (hb2.cell (p := ⟨w1.heap.size, 1, none⟩) (by simp)).trans (by go_simp)
    go_wp2_with (fail)
    refine (eqFr _ _ _).mono ?_
    rintro e w3 ⟨rfl, hb3⟩
    have hA2 : Below w.heap.size w (w2.alloc (.cells #[.int .i64 n, .int .i64 d] 25)) := hB2.alloc hB2.size _
    have hB3 := hA2.trans (hb3.mono hA2.size)
    go_wp2_with (fail)
    go_ret
    exact ⟨rfl, hB3⟩
  · have hsz : (1048576 : Int) < (s.size : Int) := by omega
    clear hl _ws hs hsh
    go_enter Tryd.func8, Tryd.ntmps8
    go_wp2_with (fail)
    go_ret
    exact ⟨rfl, Below.refl _ _⟩

end Go.Proofs.YthdhkjfanhhamaaDoor.pExactReadFraction
