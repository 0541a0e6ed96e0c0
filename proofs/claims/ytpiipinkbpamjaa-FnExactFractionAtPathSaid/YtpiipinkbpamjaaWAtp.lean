/- The law on FractionAtPath, walked. -/
import Derived.Test.YtpiipinkbpamjaaAtp
import Derived.Test.YtpiipinkbpamjaaLv
import Derived.BigQuiet
import Derived.Deep.QuietTactic
namespace Go.Proofs.Ytpiipinkbpamjaa.pExactFractionAtPath
open Go.RowKit

def ItB (w : World) (b : Nat) (p q : Int) : Prop := w.heap[b]? = some (.cells #[.int .i64 p, .int .i64 q] 25 (0, 0))
theorem itb_cells {w : World} {b : Nat} {p q : Int} (h : ItB w b p q) : w.cell? ⟨b, 0, none⟩ = some (.int .i64 p) ∧ w.cell? ⟨b, 1, none⟩ = some (.int .i64 q) ∧ w.frozen? ⟨b, 0, none⟩ = false ∧ w.frozen? ⟨b, 1, none⟩ = false ∧ b < w.heap.size := blk2 h

set_option maxHeartbeats 1600000 in
theorem walk (a0 : Option Addr) (n0 c0 : Nat) (xs0 : List Int) (w : World) (hn0 : n0 = xs0.length) (ha0 : Arg w (.slice a0 n0 c0) xs0) :
    Calls Try.prog 7 #[.slice a0 n0 c0] w fun e w' => e = .returned (.bool true) ∧ Below w.heap.size w w' := by
  subst hn0
  by_cases hx0 : xs0.length ≤ 1048576
  · have hs0 : ¬ (1048576 : Int) < (xs0.length : Int) := by omega
    have HC0 := hid (fun w' (h : Below w.heap.size w w') => copyAny (.slice a0 xs0.length c0) xs0 w' hx0 (arg_below ha0 h))
    have HVS := hid (fun (B g c : Nat) (w' : World) (o : Own B w' g c xs0) => specFractionAt g c xs0 w' (by omega) (own_ints o))
    have HVI := hid (fun (B g c : Nat) (w' : World) (o : Own B w' g c xs0) => implAt g c xs0 w' (by omega) (own_cap o) (own_ints o))
    clear ha0
    obtain ⟨n, d, k, hr⟩ : ∃ n d k, atP xs0 = (n, d, k) := ⟨_, _, _, rfl⟩
    rw [hr] at HVS HVI
    clear hr
    have hne : ∀ r : Int, (r != r) = false := fun r => by simp
    go_enter Try.func7, Try.ntmps7
    go_wp2_with (fail)
    refine (HC0.out _ (Below.refl _ _)).mono ?_
    rintro e w1 ⟨g1, d1, rfl, o1, b1⟩
    have E1 := hid (b1)
    clear b1
    have Os0 := hid o1
    clear o1
    go_wp2_with (fail)
    refine (HVS.out _ g1 d1 w1 Os0.out).mono ?_
    rintro e w2 ⟨rfl, b2⟩
    have E2 := hid ((E1.out).trans (b2.mono (E1.out).size))
    clear b2 Os0
    dsimp only [tv]
    go_wp2_with (fail)
    have E2a := hid (E2.out.alloc E2.out.size (.cells #[.int .i64 n, .int .i64 d] 25))
    have f1 := two_new w2 25 (.int .i64 n) (.int .i64 d)
    have F1 := hid (show ItB (w2.alloc (.cells #[.int .i64 n, .int .i64 d] 25)) w2.heap.size n d from new_at w2 _)
    refine (HC0.out _ (E2a.out)).mono ?_
    rintro e w3 ⟨g3, d3, rfl, o3, b3⟩
    have E3 := hid ((E2a.out).trans (b3.mono (E2a.out).size))
    have F3 := hid (show ItB w3 w2.heap.size n d from (b3.block _ (by simp)).trans F1.out)
    clear b3
    have Oi0 := hid o3
    clear o3
    go_wp2_with (fail)
    refine (HVI.out _ g3 d3 w3 Oi0.out).mono ?_
    rintro e w4 ⟨rfl, b4⟩
    have E4 := hid (E3.out.trans (b4.mono E3.out.size))
    have F4 := hid (show ItB w4 w2.heap.size n d from (b4.block _ (itb_cells F3.out).2.2.2.2).trans F3.out)
    have Oi4 := hid (own_below Oi0.out b4)
    clear b4 Oi0 F3
    dsimp only [tv]
    have E4a := hid (E4.out.alloc E4.out.size (.cells #[.int .i64 n, .int .i64 d] 25))
    have G4 := hid (show ItB (w4.alloc (.cells #[.int .i64 n, .int .i64 d] 25)) w4.heap.size n d from new_at w4 _)
    have F5 := hid (show ItB (w4.alloc (.cells #[.int .i64 n, .int .i64 d] 25)) w2.heap.size n d from (((Below.refl w4.heap.size w4).alloc (Nat.le_refl _) (.cells #[.int .i64 n, .int .i64 d] 25)).block _ (itb_cells F4.out).2.2.2.2).trans F4.out)
    have Oi5 := hid (own_below Oi4.out ((Below.refl w4.heap.size w4).alloc (Nat.le_refl _) (.cells #[.int .i64 n, .int .i64 d] 25)))
    obtain ⟨c0, c1, _, _, _⟩ := itb_cells F5.out
    obtain ⟨c2, c3, _, _, _⟩ := itb_cells G4.out
    go_wp2_with (fail)
    refine (eqFr n d _).mono ?_
    rintro e w5 ⟨rfl, b5⟩
    have E5 := hid (E4a.out.trans (b5.mono E4a.out.size))
    have Oi6 := hid (own_below Oi5.out b5)
    clear b5 c0 c1 c2 c3 F5 F4 G4 Oi4 Oi5
    go_wp2_with (fail)
    refine (HC0.out _ (E5.out)).mono ?_
    rintro e w6 ⟨g6, d6, rfl, o6, b6⟩
    have E6 := hid ((E5.out).trans (b6.mono (E5.out).size))
    have Oi7 := hid (own_below Oi6.out b6)
    clear b6
    have O6 := hid o6
    clear o6
    go_wp2_with (fail)
    refine (eqInts _ _ xs0 _ (by omega) (own_arg Oi7.out) (own_arg O6.out)).mono ?_
    rintro e w7 ⟨rfl, b7⟩
    have E7 := hid ((E6.out).trans (b7.mono (E6.out).size))
    clear b7
    go_wp2_with (fail)
    go_ret
    exact ⟨rfl, E7.out⟩
  · have hs0 : (1048576 : Int) < (xs0.length : Int) := by omega
    clear ha0
    go_enter Try.func7, Try.ntmps7
    go_wp2_with (fail)
    go_ret
    exact ⟨rfl, Below.refl _ _⟩

end Go.Proofs.Ytpiipinkbpamjaa.pExactFractionAtPath
