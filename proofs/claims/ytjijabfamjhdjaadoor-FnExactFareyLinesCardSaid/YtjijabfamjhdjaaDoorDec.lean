/- Contract: the model's decimal form of a number. -/
import Derived.Test.YtjijabfamjhdjaaDoorCd
import Derived.Lib.ItoaNum
import Derived.Lib.UnsafeStr
import Derived.Laws.IdiomStrings
import Derived.Lib.Strings
namespace Go.Proofs.YtjijabfamjhdjaaDoor
open Go.RowKit Go.Lib

/-- The digits of a number, none for 0. -/
def digs (u : Nat) : List UInt8 := if u = 0 then [] else decDigits u
theorem digs_zero : digs 0 = [] := rfl
theorem digs_pos {u : Nat} (h : u ≠ 0) : digs u = decDigits u := if_neg h
theorem digs_step {u : Nat} (h : u ≠ 0) : digs u = digs (u / 10) ++ [UInt8.ofNat (48 + u % 10)] := by
  rw [digs_pos h, decDigits]
  by_cases h10 : u < 10
  · rw [dif_pos h10, show u / 10 = 0 by omega, digs_zero, show u % 10 = u by omega]; rfl
  · rw [dif_neg h10, digs_pos (show u / 10 ≠ 0 by omega)]
theorem digs_length : ∀ (k u : Nat), u < 10 ^ k → (digs u).length ≤ k
  | 0, u, h => by
    have : u = 0 := by simpa using h
    subst this; simp [digs_zero]
  | k + 1, u, h => by
    by_cases h0 : u = 0
    · subst h0; simp [digs_zero]
    · rw [digs_step h0, List.length_append]
      have := digs_length k (u / 10) (by rw [Nat.pow_succ] at h; omega)
      simp
      omega

theorem ofNat_digit {d : Nat} (h : d < 10) : ((UInt8.ofNat (48 + d)).toNat : Int) = 48 + (d : Int) := by
  rw [UInt8.toNat_ofNat']
  omega

theorem step_pos {m : Int} (h : 0 < m) : digs m.natAbs = digs (m / 10).natAbs ++ [UInt8.ofNat (48 + (m % 10).toNat)] := by
  rw [digs_step (show m.natAbs ≠ 0 by omega)]
  congr 2
  · omega
  · congr 2; omega
theorem step_neg {m : Int} (h : m < 0) : digs m.natAbs = digs (m.tdiv 10).natAbs ++ [UInt8.ofNat (48 + (-(m.tmod 10)).toNat)] := by
  have h1 : (m.tdiv 10).natAbs = m.natAbs / 10 := by rw [Int.natAbs_tdiv]; rfl
  have h2 : (m.tmod 10).natAbs = m.natAbs % 10 := by rw [Int.natAbs_tmod]; rfl
  have h3 : m.tmod 10 ≤ 0 := by
    have : 0 ≤ (-m).tmod 10 := Int.tmod_nonneg _ (by omega)
    rw [Int.neg_tmod] at this; omega
  rw [digs_step (show m.natAbs ≠ 0 by omega), h1]
  congr 2
  congr 2
  omega

theorem itoa_zero : itoa 0 = [48] := by
  unfold itoa; rw [if_neg (by omega)]
  exact decDigits_one (i := 0) (by omega)
theorem itoa_pos {n : Int} (h : 0 < n) : itoa n = digs n.natAbs := by
  unfold itoa; rw [if_neg (by omega), digs_pos (by omega), show n.toNat = n.natAbs by omega]
theorem itoa_neg {n : Int} (h : n < 0) : itoa n = 45 :: digs n.natAbs := by
  unfold itoa; rw [if_pos h, digs_pos (by omega)]

theorem info8 : (Tryd.prog.info? 5).map (fun i => (i.zero, i.size, i.bytes)) = some (some (.int .u8 0), 1, 1) := by kernel_rfl

/-- A slice of bytes that the call made. -/
def OwnB (w : World) (B : Nat) (v : Value) (l : List UInt8) : Prop :=
  ∃ g cap, v = .slice (some ⟨g, 0, none⟩) l.length cap ∧ w.ownsRow B 5 1 v l.length (byteCells l)

theorem bytes_one (l : List UInt8) : ∀ u ∈ byteCells l, u.oneCell' = true := by
  intro u hu
  simp only [byteCells, List.mem_map] at hu
  obtain ⟨b, _, rfl⟩ := hu
  rfl

theorem add_zero_off (g j : Nat) : Addr.add ⟨g, 0, none⟩ j = ⟨g, j, none⟩ := by
  unfold Addr.add; split <;> simp_all
theorem row_cells {w : World} {B g n cap : Nat} {e : TypeId} {size : Nat} {xs : List Value} (h : w.ownsRow B e size (.slice (some ⟨g, 0, none⟩) n cap) n xs) : ∀ (j : Nat) (u : Value), xs[j]? = some u → w.cell? ⟨g, j, none⟩ = some u := by
  intro j u hj
  have := h.cells (g := g) rfl j u hj
  rw [add_zero_off] at this
  exact this

theorem slice_len (a : Option Addr) (x : UInt8) (l : List UInt8) (c : Nat) : Value.slice a (1 + l.length) c = Value.slice a (x :: l).length c := by
  rw [List.length_cons, Nat.add_comm]

theorem own_cons {w : World} {B : Nat} {e : TypeId} {v : Value} {l : List UInt8} {D : Int} (h : w.ownsRow B e 1 v (1 + l.length) ([.int .u8 (48 + D)] ++ byteCells l)) (h0 : 0 ≤ D) (h9 : D ≤ 9) :
    ∃ g cap, v = .slice (some ⟨g, 0, none⟩) (1 + l.length) cap ∧ w.ownsRow B e 1 (.slice (some ⟨g, 0, none⟩) (UInt8.ofNat (48 + D.toNat) :: l).length cap) (UInt8.ofNat (48 + D.toNat) :: l).length (byteCells (UInt8.ofNat (48 + D.toNat) :: l)) := by
  have e1 : ([.int .u8 (48 + D)] ++ byteCells l : List Value) = byteCells (UInt8.ofNat (48 + D.toNat) :: l) := by
    have := ofNat_digit (d := D.toNat) (by omega)
    simp only [byteCells, List.map_cons, this, List.singleton_append]
    congr 2
    omega
  have e2 : (UInt8.ofNat (48 + D.toNat) :: l).length = 1 + l.length := by simp; omega
  rcases h.2 with ⟨_, hn⟩ | ⟨g, cap, cur, rfl, _⟩
  · omega
  · exact ⟨g, cap, rfl, by rw [e2, ← e1]; exact h⟩

set_option maxRecDepth 100000 in
set_option maxHeartbeats 1600000 in
theorem specDec (n : Int) (w : World) (h1 : -9223372036854775808 ≤ n) (h2 : n ≤ 9223372036854775807) :
    Calls Tryd.prog 73 #[.int .i64 n] w fun e w' => e = .returned (.string ⟨(itoa n).toArray⟩) ∧ Below w.heap.size w w' := by
  obtain ⟨i0, hi, hz0, hz1, hz2⟩ := info_parts info8
  go_enter Tryd.func73, Tryd.ntmps73
  go_wp2
  go_loopw [3, 4] (fun v k wr => ∃ (m : Int) (l : List UInt8) (g cap : Nat), k = .int .i64 m ∧ -9223372036854775808 ≤ m ∧ m ≤ 9223372036854775807 ∧ v = .slice (some ⟨g, 0, none⟩) l.length cap ∧ wr.ownsRow w.heap.size 5 1 (.slice (some ⟨g, 0, none⟩) l.length cap) l.length (byteCells l) ∧ Hid (digs n.natAbs = digs m.natAbs ++ l) ∧ Below w.heap.size w wr) (fun _ k _ => (intOf k).natAbs)
  case atStart =>
    refine ⟨n, [], w.heap.size, 0, rfl, h1, h2, rfl, ?_, hid (by simp), (Below.refl _ _).alloc (Nat.le_refl _) _⟩
    exact World.ownsRow_lit w #[] 0 (Nat.le_refl _) (by decide) rfl
  case round =>
    obtain ⟨m, l, g, cap, rfl, hm1, hm2, rfl, hown, hd, hbel⟩ := hrel
    have hlen : l.length ≤ 20 := by
      have := digs_length 20 n.natAbs (by omega)
      rw [hd.out, List.length_append] at this
      omega
    have HOWN := hid hown
    have HBEL := hid hbel
    have hb : w.heap.size ≤ wr.heap.size := hbel.size
    clear hown hbel
    by_cases h0 : m = 0
    · subst h0
      have hl : digs n.natAbs = l := by rw [hd.out]; rfl
      have hconv : (convert 22 9 (.slice (some ⟨g, 0, none⟩) l.length cap)).run Tryd.prog wr = .ok (.string ⟨l.toArray⟩) wr :=
        run_convert_bytes_back wr 22 9 5 ⟨g, 0, none⟩ cap l Tryd.underlying22 Tryd.underlying5 Tryd.underlying9 (fun j hj => HOWN.out.cells (g := g) rfl j _ (by simp [byteCells, hj]))
      by_cases hn0 : n = 0
      · have hl0 : l = [] := by rw [← hl, hn0]; rfl
        subst hl0
        have HE := hid (show itoa n = [48] by rw [hn0, itoa_zero])
        clear hl hconv hn0
        go_wp2_with (fail)
        go_ret
        exact ⟨by rw [HE.out]; rfl, HBEL.out⟩
      · have hl0 : ((l.length : Int) == 0) = false := by
          have : l ≠ [] := by
            intro e
            rw [e, digs_step (show n.natAbs ≠ 0 by omega)] at hl
            simp at hl
          have := List.length_pos_iff.2 this
          simp; omega
        by_cases hneg : n < 0
        · have HE := hid (show itoa n = 45 :: l by rw [itoa_neg hneg, hl])
          clear hl hn0
          go_wp2_with (fail)
          go_ret
          exact ⟨by rw [HE.out]; rfl, HBEL.out⟩
        · have HE := hid (show itoa n = l by rw [itoa_pos (by omega), hl])
          clear hl hn0
          go_wp2_with (fail)
          go_ret
          exact ⟨by rw [HE.out]; rfl, HBEL.out⟩
    · have hne : (m != 0) = true := by simpa using h0
      by_cases hp : 0 < m
      · have hq : ¬ m % 10 < 0 := by omega
        have hq2 : 0 ≤ m % 10 ∧ m % 10 ≤ 9 := by omega
        obtain ⟨hq3, hq4⟩ := hq2
        have hst := step_pos hp
        have HD2 := hid (show digs n.natAbs = digs (m / 10).natAbs ++ (UInt8.ofNat (48 + (m % 10).toNat) :: l) by rw [hd.out, hst, List.append_assoc]; rfl)
        clear h0 hst
        go_wp2_with (at_builtin; refine wpList_append_own _ rfl _ _ 22 rfl w.heap.size 5 i0 (.int .u8 0) 1 1 Tryd.underlying22 hi hz0 hz1 hz2 rfl (by decide) _ 1 [.int .u8 (48 + m % 10)] (by rfl) ?c0 ⟨g, 0, none⟩ l.length cap (byteCells l) (by rfl) ?c1 ?c2 ?c3 ?c4 ?c5 ?c6 ?c7)
        case c0 => exact World.ownsRow_lit wr #[.int .u8 (48 + m % 10)] 1 hb (by decide) rfl
        case c1 => simp [byteCells]
        case c2 => exact row_cells (HOWN.out.alloc _)
        case c3 => exact bytes_one l
        case c4 => unfold maxLen; omega
        case c5 => omega
        case c6 => (first | omega | (simp; omega))
        intro v2 w2 hown2 hgrow2 _
        obtain ⟨g2, cap2, rfl, hown3⟩ := own_cons hown2 (by omega) (by omega)
        have HOWN3 := hid hown3
        have HBEL2 := hid ((HBEL.out.alloc hb _).grown hgrow2 (by first | omega | (simp; omega)) (fun k hk => by have h' : wr.heap.size = k := Option.some.inj hk; omega))
        clear hown2 hown3 hgrow2
        go_wp2_with (fail)
        go_roundw
        case rel => exact ⟨_, _, g2, cap2, rfl, by omega, by omega, slice_len _ _ _ _, HOWN3.out, HD2, HBEL2.out⟩
        case measure => simp only [intOf]; omega
      · have hq : m < 0 := by omega
        have hst := step_neg hq
        have htd : (m.tdiv 10).natAbs = m.natAbs / 10 := by rw [Int.natAbs_tdiv]; rfl
        have htm : (m.tmod 10).natAbs = m.natAbs % 10 := by rw [Int.natAbs_tmod]; rfl
        have ht0 : m.tmod 10 ≤ 0 := by
          have : 0 ≤ (-m).tmod 10 := Int.tmod_nonneg _ (by omega)
          rw [Int.neg_tmod] at this; omega
        have ht9 : -9 ≤ m.tmod 10 := by omega
        have hk1 : -9223372036854775808 ≤ m.tdiv 10 := by omega
        have hk2 : m.tdiv 10 ≤ 9223372036854775807 := by omega
        have hk3 : (m.tdiv 10).natAbs < m.natAbs := by omega
        clear htd htm
        by_cases hd0 : m.tmod 10 < 0
        · have HD2 := hid (show digs n.natAbs = digs (m.tdiv 10).natAbs ++ (UInt8.ofNat (48 + (-(m.tmod 10)).toNat) :: l) by rw [hd.out, hst, List.append_assoc]; rfl)
          clear h0 hst
          go_wp2_with (at_builtin; refine wpList_append_own _ rfl _ _ 22 rfl w.heap.size 5 i0 (.int .u8 0) 1 1 Tryd.underlying22 hi hz0 hz1 hz2 rfl (by decide) _ 1 [.int .u8 (48 + -(m.tmod 10))] (by rfl) ?c0n ⟨g, 0, none⟩ l.length cap (byteCells l) (by rfl) ?c1n ?c2n ?c3n ?c4n ?c5n ?c6n ?c7n)
          case c0n => exact World.ownsRow_lit wr #[.int .u8 (48 + -(m.tmod 10))] 1 hb (by decide) rfl
          case c1n => simp [byteCells]
          case c2n => exact row_cells (HOWN.out.alloc _)
          case c3n => exact bytes_one l
          case c4n => unfold maxLen; omega
          case c5n => omega
          case c6n => (first | omega | (simp; omega))
          intro v2 w2 hown2 hgrow2 _
          obtain ⟨g2, cap2, rfl, hown3⟩ := own_cons hown2 (by omega) (by omega)
          have HOWN3 := hid hown3
          have HBEL2 := hid ((HBEL.out.alloc hb _).grown hgrow2 (by first | omega | (simp; omega)) (fun k hk => by have h' : wr.heap.size = k := Option.some.inj hk; omega))
          clear hown2 hown3 hgrow2
          go_wp2_with (fail)
          go_roundw
          case rel => exact ⟨_, _, g2, cap2, rfl, by omega, by omega, slice_len _ _ _ _, HOWN3.out, HD2, HBEL2.out⟩
          case measure => simp only [intOf]; exact hk3
        · have HD2 := hid (show digs n.natAbs = digs (m.tdiv 10).natAbs ++ (UInt8.ofNat (48 + (m.tmod 10).toNat) :: l) by
            rw [hd.out, hst, List.append_assoc, show (-(m.tmod 10)).toNat = (m.tmod 10).toNat by omega]; rfl)
          have hd1 : 0 ≤ m.tmod 10 := by omega
          clear h0 hst
          go_wp2_with (at_builtin; refine wpList_append_own _ rfl _ _ 22 rfl w.heap.size 5 i0 (.int .u8 0) 1 1 Tryd.underlying22 hi hz0 hz1 hz2 rfl (by decide) _ 1 [.int .u8 (48 + m.tmod 10)] (by rfl) ?c0z ⟨g, 0, none⟩ l.length cap (byteCells l) (by rfl) ?c1z ?c2z ?c3z ?c4z ?c5z ?c6z ?c7z)
          case c0z => exact World.ownsRow_lit wr #[.int .u8 (48 + m.tmod 10)] 1 hb (by decide) rfl
          case c1z => simp [byteCells]
          case c2z => exact row_cells (HOWN.out.alloc _)
          case c3z => exact bytes_one l
          case c4z => unfold maxLen; omega
          case c5z => omega
          case c6z => (first | omega | (simp; omega))
          intro v2 w2 hown2 hgrow2 _
          obtain ⟨g2, cap2, rfl, hown3⟩ := own_cons hown2 (by omega) (by omega)
          have HOWN3 := hid hown3
          have HBEL2 := hid ((HBEL.out.alloc hb _).grown hgrow2 (by first | omega | (simp; omega)) (fun k hk => by have h' : wr.heap.size = k := Option.some.inj hk; omega))
          clear hown2 hown3 hgrow2
          go_wp2_with (fail)
          go_roundw
          case rel => exact ⟨_, _, g2, cap2, rfl, by omega, by omega, slice_len _ _ _ _, HOWN3.out, HD2, HBEL2.out⟩
          case measure => simp only [intOf]; exact hk3

end Go.Proofs.YtjijabfamjhdjaaDoor
