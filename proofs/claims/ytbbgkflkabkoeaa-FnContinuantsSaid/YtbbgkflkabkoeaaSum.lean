/- Contracts: the sum of the terms behind the first one. -/
import Derived.Test.YtbbgkflkabkoeaaVt
namespace Go.Proofs.Ytbbgkflkabkoeaa
open Go.RowKit

def rsum (xs : List Int) : Int := (xs.drop 1).sum
def sumT (xs : List Int) : Int × Int := if okT xs then (rsum xs, 0) else (0, 1)
theorem sum_take {ys : List Int} {k : Nat} {x : Int} (h : ys[k]? = some x) : (ys.take (k + 1)).sum = (ys.take k).sum + x := by
  rw [List.take_add_one, h]
  simp
theorem two_ret {a b c d : Int} (h : (a, b) = (c, d)) : Ending.returned (.tuple #[.int .i64 a, .int .i64 b]) = .returned (.tuple #[.int .i64 c, .int .i64 d]) := by
  obtain ⟨rfl, rfl⟩ := Prod.mk.injEq .. ▸ h
  rfl

theorem implSum (g c : Nat) (xs : List Int) (w : World) (hx : xs.length ≤ 2000000000) (hc : xs.length ≤ c) (ha : Ints w g 0 xs) :
    Calls Try.prog 22 #[.slice (some ⟨g, 0, none⟩) xs.length c] w fun e w' => e = .returned (.tuple #[.int .i64 (sumT xs).1, .int .i64 (sumT xs).2]) ∧ Below w.heap.size w w' := by
  have HA := hid ha
  have V := hid (implValidTerms g c xs w hx hc ha)
  clear ha
  cases ho : okT xs
  · have hr : sumT xs = (0, 1) := by unfold sumT; rw [ho]; rfl
    rw [hr]
    rw [ho] at V
    clear ho hr HA
    go_enter Try.func22, Try.ntmps22
    go_wp2_with (fail)
    refine V.out.mono ?_
    rintro e w1 ⟨rfl, hb1⟩
    have HB := hid hb1
    clear hb1
    go_wp2_with (fail)
    go_ret2
    exact ⟨rfl, HB.out⟩
  · have hr : sumT xs = (rsum xs, 0) := by unfold sumT; rw [ho]; rfl
    rw [hr]
    rw [ho] at V
    have hlen := okT_len ho
    have HT := hid (fun (j : Nat) (x : Int) (hj : 1 ≤ j) (h : xs[j]? = some x) => okT_at ho hj h)
    have h3' : (1 : Int) ≤ (xs.length : Int) := by omega
    have h4 : (xs.length : Int) ≤ (c : Int) := by omega
    clear ho hr
    by_cases hc1 : c = 1
    · have hl1 : xs.length = 1 := by omega
      have HZ := hid (show xs.drop 1 = [] from List.drop_eq_nil_of_le (by omega))
      have hl0 : ¬ (0 : Int) < ((xs.length - 1 : Nat) : Int) := by omega
      subst hc1
      clear hl1
      go_enter Try.func22, Try.ntmps22
      go_wp2_with (fail)
      refine V.out.mono ?_
      rintro e w1 ⟨rfl, hb1⟩
      have HB := hid hb1
      clear hb1
      go_wp2_with (fail)
      go_loopw [4, 6, 13] (fun s u i wr => s = .int .i64 0 ∧ i = .int .i64 0 ∧ Below w.heap.size w wr) (fun _ _ _ _ => 0)
      case atStart => exact ⟨rfl, rfl, HB.out⟩
      case round =>
        obtain ⟨rfl, rfl, hbel⟩ := hrel
        have HBEL := hid hbel
        clear hbel
        go_wp2_with (fail)
        go_ret2
        exact ⟨by rw [show rsum xs = 0 by unfold rsum; rw [HZ.out]; rfl]; rfl, HBEL.out⟩
    · go_enter Try.func22, Try.ntmps22
      go_wp2_with (fail)
      refine V.out.mono ?_
      rintro e w1 ⟨rfl, hb1⟩
      have HB := hid hb1
      clear hb1
      go_wp2_with (fail)
      go_loopw [4, 6, 13] (fun s u i wr => ∃ (k : Nat) (t : Int), k ≤ xs.length - 1 ∧ i = .int .i64 k ∧ s = .int .i64 t ∧ 0 ≤ t ∧ t ≤ 1000000000 * (k : Int) ∧ Hid (t = ((xs.drop 1).take k).sum) ∧ Below w.heap.size w wr) (fun _ _ i _ => xs.length - (RowKit.intOf i).toNat)
      case atStart => exact ⟨0, 0, by omega, rfl, rfl, by omega, by omega, hid rfl, HB.out⟩
      case round =>
        obtain ⟨k, t, hk, rfl, rfl, ht0, ht1, hsum, hbel⟩ := hrel
        have HBEL := hid hbel
        have hk0 : (0 : Int) ≤ (k : Int) := by omega
        by_cases hlt : k < xs.length - 1
        · have hlt' : (k : Int) < ((xs.length - 1 : Nat) : Int) := by omega
          obtain ⟨x, hxk⟩ : ∃ x, xs[1 + k]? = some x := ⟨_, List.getElem?_eq_getElem (by omega)⟩
          have ca1 := ints_at HA.out hxk
          have ca0 := (hbel.cell (p := ⟨g, 1 + k, none⟩) (World.block_lt_of_cell? _ _ ca1)).trans ca1
          obtain ⟨hx1, hx2⟩ := HT.out _ _ (by omega) hxk
          have HS := hid (show t + x = ((xs.drop 1).take (k + 1)).sum by
            rw [sum_take (x := x) (by rw [List.getElem?_drop]; exact hxk), ← hsum.out])
          clear ca1 hbel hxk hsum
          go_wp2_with (fail)
          go_roundw
          case rel => exact ⟨k + 1, t + x, by omega, by go_num, by go_num, by omega, by omega, HS, HBEL.out⟩
          case measure => simp [RowKit.intOf]; omega
        · have hlt' : ¬ (k : Int) < ((xs.length - 1 : Nat) : Int) := by omega
          have HR := hid (show t = rsum xs by
            unfold rsum
            rw [hsum.out, List.take_of_length_le (by rw [List.length_drop]; omega)])
          clear hbel hsum
          go_wp2_with (fail)
          go_ret2
          exact ⟨by rw [← HR.out]; rfl, HBEL.out⟩

theorem specSum (g c : Nat) (xs : List Int) (w : World) (hx : xs.length ≤ 2000000000) (_hc : xs.length ≤ c) (ha : Ints w g 0 xs) :
    Calls Try.prog 44 #[.slice (some ⟨g, 0, none⟩) xs.length c] w fun e w' => e = .returned (.tuple #[.int .i64 (sumT xs).1, .int .i64 (sumT xs).2]) ∧ Below w.heap.size w w' := by
  have HA := hid ha
  have V := hid (specOkT g c xs w hx ha)
  clear ha
  cases ho : okT xs
  · have hr : sumT xs = (0, 1) := by unfold sumT; rw [ho]; rfl
    rw [hr]
    rw [ho] at V
    clear ho hr HA
    go_enter Try.func44, Try.ntmps44
    go_wp2_with (fail)
    refine V.out.mono ?_
    rintro e w1 ⟨rfl, hb1⟩
    have HB := hid hb1
    clear hb1
    go_wp2_with (fail)
    go_ret2
    exact ⟨rfl, HB.out⟩
  · have hr : sumT xs = (rsum xs, 0) := by unfold sumT; rw [ho]; rfl
    rw [hr]
    rw [ho] at V
    have hlen := okT_len ho
    have HT := hid (fun (j : Nat) (x : Int) (hj : 1 ≤ j) (h : xs[j]? = some x) => okT_at ho hj h)
    clear ho hr
    go_enter Try.func44, Try.ntmps44
    go_wp2_with (fail)
    refine V.out.mono ?_
    rintro e w1 ⟨rfl, hb1⟩
    have HB := hid hb1
    clear hb1
    go_wp2_with (fail)
    go_loopw [4, 5] (fun s i wr => ∃ (k : Nat) (t : Int), k + 1 ≤ xs.length ∧ i = .int .i64 ((k : Int) + 1) ∧ s = .int .i64 t ∧ 0 ≤ t ∧ t ≤ 1000000000 * (k : Int) ∧ Hid (t = ((xs.drop 1).take k).sum) ∧ Below w.heap.size w wr) (fun _ i _ => xs.length - (RowKit.intOf i).toNat)
    case atStart => exact ⟨0, 0, by omega, rfl, rfl, by omega, by omega, hid rfl, HB.out⟩
    case round =>
      obtain ⟨k, t, hk, rfl, rfl, ht0, ht1, hsum, hbel⟩ := hrel
      have HBEL := hid hbel
      have hk0 : (0 : Int) ≤ (k : Int) + 1 := by omega
      by_cases hlt : k + 1 < xs.length
      · have hlt' : (k : Int) + 1 < (xs.length : Int) := by omega
        obtain ⟨x, hxk⟩ : ∃ x, xs[k + 1]? = some x := ⟨_, List.getElem?_eq_getElem (by omega)⟩
        have ca1 := ints_at HA.out hxk
        have ca0 := (hbel.cell (p := ⟨g, k + 1, none⟩) (World.block_lt_of_cell? _ _ ca1)).trans ca1
        obtain ⟨hx1, hx2⟩ := HT.out _ _ (by omega) hxk
        have HS := hid (show t + x = ((xs.drop 1).take (k + 1)).sum by
          rw [sum_take (x := x) (by rw [List.getElem?_drop, Nat.add_comm 1 k]; exact hxk), ← hsum.out])
        have ht : ((k : Int) + 1).toNat = k + 1 := by omega
        clear ca1 hbel hxk hsum
        go_wp2_with (fail)
        go_roundw
        case rel => exact ⟨k + 1, t + x, by omega, by go_num, by go_num, by omega, by omega, HS, HBEL.out⟩
        case measure => simp [RowKit.intOf]; omega
      · have hlt' : ¬ (k : Int) + 1 < (xs.length : Int) := by omega
        have HR := hid (show t = rsum xs by
          unfold rsum
          rw [hsum.out, List.take_of_length_le (by rw [List.length_drop]; omega)])
        clear hbel hsum
        go_wp2_with (fail)
        go_ret2
        exact ⟨by rw [← HR.out]; rfl, HBEL.out⟩

end Go.Proofs.Ytbbgkflkabkoeaa
