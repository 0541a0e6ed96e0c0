/- Contract: the model's decimal form of a number. -/
import Derived.Test.YthdhkjfanhhamaaCd
import Derived.Lib.ItoaNum
import Derived.Lib.UnsafeStr
import Derived.Laws.IdiomStrings
import Derived.Lib.Strings
namespace Go.Proofs.Ythdhkjfanhhamaa
open Go.RowKit Go.Lib

/-- The digits of a number, none for 0. -/
def digs (u : Nat) : List UInt8 := if u = 0 then [] else decDigits u
theorem digs_zero : digs 0 = [] := rfl
theorem digs_pos {u : Nat} (h : u ≠ 0) : digs u = decDigits u := if_neg h
theorem digs_step {u : Nat} (h : u ≠ 0) : digs u = digs (u / 10) ++ [UInt8.ofNat (48 + u % 10)] := by
  rw [digs_pos h, decDigits]
  by_cases h10 : u < 10
  · rw [dif_pos h10, show u / 10 = 0 by omega, digs_zero, show u % 10 = u by omega]; rfl
  · rw [dif_neg h10, digs_pos (show u / 10 ≠ 0 by omega)]
theorem digs_length : ∀ (k u : Nat), u < 10 ^ k → (digs u).length ≤ k
  | 0, u, h => by
    have : u = 0 := by simpa using h
    subst this; simp [digs_zero]
  | k + 1, u, h => by
    by_cases h0 : u = 0
    · subst h0; simp [digs_zero]
    · rw [digs_step h0, List.length_append]
      have := digs_length k (u / 10) (by rw [Nat.pow_succ] at h; omega)
      simp
      omega

theorem ofNat_digit {d : Nat} (h : d < 10) : ((UInt8.ofNat (48 + d)).toNat : Int) = 48 + (d : Int) := by
  rw [UInt8.toNat_ofNat']
  omega

theorem step_pos {m : Int} (h : 0 < m) : digs m.natAbs = digs (m / 10).natAbs ++ [UInt8.ofNat (48 + (m % 10).toNat)] := by
  rw [digs_step (show m.natAbs ≠ 0 by omega)]
  congr 2
  · omega
  · congr 2; omega
theorem step_neg {m : Int} (h : m < 0) : digs m.natAbs = digs (m.tdiv 10).natAbs ++ [UInt8.ofNat (48 + (-(m.tmod 10)).toNat)] := by
  have h1 : (m.tdiv 10).natAbs = m.natAbs / 10 := by rw [Int.natAbs_tdiv]; rfl
  have h2 : (m.tmod 10).natAbs = m.natAbs % 10 := by rw [Int.natAbs_tmod]; rfl
  have h3 : m.tmod 10 ≤ 0 := by
    have : 0 ≤ (-m).tmod 10 := Int.tmod_nonneg _ (by omega)
    rw [Int.neg_tmod] at this; omega
  rw [digs_step (show m.natAbs ≠ 0 by omega), h1]
  congr 2
  congr 2
  omega

theorem itoa_zero : itoa 0 = [48] := by
  unfold itoa; rw [if_neg (by omega)]
  exact decDigits_one (i := 0) (by omega)
theorem itoa_pos {n : Int} (h : 0 < n) : itoa n = digs n.natAbs := by
  unfold itoa; rw [if_neg (by omega), digs_pos (by omega), show n.toNat = n.natAbs by omega]
theorem itoa_neg {n : Int} (h : n < 0) : itoa n = 45 :: digs n.natAbs := by
  unfold itoa; rw [if_pos h, digs_pos (by omega)]

theorem info8 : (Try.prog.info? 5).map (fun i => (i.zero, i.size, i.bytes)) = some (some (.int .u8 0), 1, 1) := by kernel_rfl

/-- A slice of bytes that the call made. -/
def OwnB (w : World) (B : Nat) (v : Value) (l : List UInt8) : Prop :=
  ∃ g cap, v = .slice (some ⟨g, 0, none⟩) l.length cap ∧ w.ownsRow B 5 1 v l.length (byteCells l)

theorem bytes_one (l : List UInt8) : ∀ u ∈ byteCells l, u.oneCell' = true := by
  intro u hu
  simp only [byteCells, List.mem_map] at hu
  obtain ⟨b, _, rfl⟩ := hu
  rfl

theorem add_zero_off (g j : Nat) : Addr.add ⟨g, 0, none⟩ j = ⟨g, j, none⟩ := by
  unfold Addr.add; split <;> simp_all
theorem row_cells {w : World} {B g n cap : Nat} {e : TypeId} {size : Nat} {xs : List Value} (h : w.ownsRow B e size (.slice (some ⟨g, 0, none⟩) n cap) n xs) : ∀ (j : Nat) (u : Value), xs[j]? = some u → w.cell? ⟨g, j, none⟩ = some u := by
  intro j u hj
  have := h.cells (g := g) rfl j u hj
  rw [add_zero_off] at this
  exact this

theorem slice_len (a : Option Addr) (x : UInt8) (l : List UInt8) (c : Nat) : Value.slice a (1 + l.length) c = Value.slice a (x :: l).length c := by
  rw [List.length_cons, Nat.add_comm]

theorem own_cons {w : World} {B : Nat} {e : TypeId} {v : Value} {l : List UInt8} {D : Int} (h : w.ownsRow B e 1 v (1 + l.length) ([.int .u8 (48 + D)] ++ byteCells l)) (h0 : 0 ≤ D) (h9 : D ≤ 9) :
    ∃ g cap, v = .slice (some ⟨g, 0, none⟩) (1 + l.length) cap ∧ w.ownsRow B e 1 (.slice (some ⟨g, 0, none⟩) (UInt8.ofNat (48 + D.toNat) :: l).length cap) (UInt8.ofNat (48 + D.toNat) :: l).length (byteCells (UInt8.ofNat (48 + D.toNat) :: l)) := by
  have e1 : ([.int .u8 (48 + D)] ++ byteCells l : List Value) = byteCells (UInt8.ofNat (48 + D.toNat) :: l) := by
    have := ofNat_digit (d := D.toNat) (by omega)
    simp only [byteCells, List.map_cons, this, List.singleton_append]
    congr 2
    omega
  have e2 : (UInt8.ofNat (48 + D.toNat) :: l).length = 1 + l.length := by simp; omega
  rcases h.2 with ⟨_, hn⟩ | ⟨g, cap, cur, rfl, _⟩
  · omega
  · exact ⟨g, cap, rfl, by rw [e2, ← e1]; exact h⟩

end Go.Proofs.Ythdhkjfanhhamaa
