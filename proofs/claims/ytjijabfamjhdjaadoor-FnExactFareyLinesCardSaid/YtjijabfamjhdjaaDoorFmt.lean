/- Contract: the program's decimal form of a number. -/
import Derived.Test.YtjijabfamjhdjaaDoorDec
import Derived.Test.YtjijabfamjhdjaaDoorLaid
import Derived.Test.YtjijabfamjhdjaaDoorShelfA
import Derived.Lib.SmallJoins
namespace Go.Proofs.YtjijabfamjhdjaaDoor
open Go.RowKit Go.Lib Go.Joins

/-- The table of powers of ten is as it was. -/
theorem tab_below {w w' : World} (h : TabIs Tryd.prog w "internal/strconv.uint64pow10" .u64 pow10Tab) (hb : Below w.heap.size w w') : TabIs Tryd.prog w' "internal/strconv.uint64pow10" .u64 pow10Tab :=
  tab_stays (g := 0) (by kernel_rfl) h hb (Nat.le_refl _)

theorem implDec (n : Int) (w : World) (h1 : -9223372036854775808 ≤ n) (h2 : n ≤ 9223372036854775807) (ht : TabIs Tryd.prog w "internal/strconv.uint64pow10" .u64 pow10Tab) :
    Calls Tryd.prog 63 #[.int .i64 n] w fun e w' => e = .returned (.string ⟨(itoa n).toArray⟩) ∧ Below w.heap.size w w' := by
  have C := fun w h => Tryd.strconv_FormatInt_10 n h1 h2 w h
  have HC := hid C
  have HT := hid ht
  clear C ht h1 h2
  go_enter Tryd.func63, Tryd.ntmps63
  go_wp2_with (fail)
  refine (HC.out _ HT.out).mono ?_
  rintro e w1 ⟨rfl, k, os, rfl⟩
  go_wp2_with (fail)
  go_ret
  exact ⟨rfl, ⟨rfl, rfl, rfl, by simp [Go.Sort.grow], fun i hi => by show (w.heap ++ os)[i]? = w.heap[i]?; exact Array.getElem?_append_left hi⟩⟩

end Go.Proofs.YtjijabfamjhdjaaDoor
