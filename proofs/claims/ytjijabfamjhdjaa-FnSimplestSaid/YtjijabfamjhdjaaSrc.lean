/- Contracts of the source of drawn numbers: whatever is drawn lies within its bounds, and only the source's own block is written. -/
import Derived.Test.YtjijabfamjhdjaaFull
namespace Go.Proofs.Ytjijabfamjhdjaa
open Go.RowKit

/-- The source in block b: its bytes, where it stands, its seed. -/
def Src (w : World) (b : Nat) (ca : Option Addr) (len cap k : Nat) (z : Int) : Prop :=
  w.cell? ⟨b, 0, none⟩ = some (.slice ca len cap) ∧ w.cell? ⟨b, 1, none⟩ = some (.int .i64 k) ∧ w.cell? ⟨b, 2, none⟩ = some (.int .u64 z) ∧
  w.frozen? ⟨b, 0, none⟩ = false ∧ w.frozen? ⟨b, 1, none⟩ = false ∧ w.frozen? ⟨b, 2, none⟩ = false

/-- The bytes that a source reads: cells of a block other than the source's own. -/
def Bys (w : World) (b : Nat) (ca : Option Addr) (len : Nat) : Prop :=
  len = 0 ∨ ∃ (c off : Nat) (zs : Nat → Int), ca = some ⟨c, off, none⟩ ∧ c ≠ b ∧ ∀ i, i < len → w.cell? ⟨c, off + i, none⟩ = some (.int .u8 (zs i)) ∧ 0 ≤ zs i ∧ zs i ≤ 255

theorem u64_wrap_bd (y : Int) : 0 ≤ IntKind.u64.wrap y ∧ IntKind.u64.wrap y < 18446744073709551616 := by
  have e : IntKind.u64.wrap y = y % 18446744073709551616 := by simp [IntKind.wrap, IntKind.bits, IntKind.signed]
  rw [e]; omega

/-- A byte that is taken out of the seed. -/
theorem seedByte (y : Int) : 0 ≤ wrap64 (bits BinOp.and IntKind.u64 (IntKind.u64.wrap y / 1099511627776) 255) ∧ wrap64 (bits BinOp.and IntKind.u64 (IntKind.u64.wrap y / 1099511627776) 255) ≤ 255 := by
  have h := u64_wrap_bd y
  generalize IntKind.u64.wrap y = x at h
  rw [u64_and _ _ (by omega) (by omega) (by decide) (by decide)]
  have h2 : (x / 1099511627776).toNat &&& (255 : Int).toNat ≤ 255 := by
    rw [show (255 : Int).toNat = 255 from rfl]; exact Nat.and_le_right
  rw [IntWalk.wrap64_in _ ⟨by omega, by omega⟩]
  omega

def NextPost (w : World) (b : Nat) (ca : Option Addr) (len cap k : Nat) (e : Ending) (w' : World) : Prop :=
  ∃ r z' : Int, e = .returned (.int .i64 r) ∧ 0 ≤ r ∧ r ≤ 255 ∧ Src w' b ca len cap (k + 1) z' ∧ w.grownBy w' (some b)

theorem nextEnd {w : World} {b : Nat} {ca : Option Addr} {len cap k : Nat} {z r z' : Int} (m n : Nat) (hs : Src w b ca len cap k z) (h0 : 0 ≤ r) (h1 : r ≤ 255) :
    NextPost w b ca len cap k (.returned (.int .i64 r)) ((((w.drewN m).setCell ⟨b, 1, none⟩ (.int .i64 ((k : Int) + 1))).setCell ⟨b, 2, none⟩ (.int .u64 z')).drewN n) := by
  obtain ⟨s1, s2, s3, s4, s5, s6⟩ := hs
  refine ⟨r, z', rfl, h0, h1, ⟨?_, ?_, ?_, ?_, ?_, ?_⟩, ?_⟩
  · rw [World.cell?_drewN, World.cell?_setCell_other _ _ _ _ (by simp), World.cell?_setCell_other _ _ _ _ (by simp), World.cell?_drewN]; exact s1
  · rw [World.cell?_drewN, World.cell?_setCell_other _ _ _ _ (by simp), World.cell?_setCell_same _ _ _ (u := .int .i64 k) (by rw [World.cell?_drewN]; exact s2)]
    rfl
  · rw [World.cell?_drewN, World.cell?_setCell_same _ _ _ (u := .int .u64 z)]
    rw [World.cell?_setCell_other _ _ _ _ (by simp), World.cell?_drewN]; exact s3
  · simp [s4]
  · simp [s5]
  · simp [s6]
  · exact ⟨rfl, rfl, rfl, by simp [World.setCell], fun i hi hn => by
      show (((w.drewN m).setCell ⟨b, 1, none⟩ _).setCell ⟨b, 2, none⟩ _).heap[i]? = w.heap[i]?
      rw [Below.heap_setCell _ _ _ _ (by simp; intro e; exact hn (by rw [e])), Below.heap_setCell _ _ _ _ (by simp; intro e; exact hn (by rw [e]))]
      rfl⟩

set_option maxHeartbeats 400000 in
theorem srcNext (b : Nat) (ca : Option Addr) (len cap k : Nat) (z : Int) (w : World) (hs : Src w b ca len cap k z) (hb : Bys w b ca len) (hk : k ≤ 1000000) (_hl : len ≤ 5000) :
    Calls Try.prog 100 #[.pointer (some ⟨b, 0, none⟩)] w (NextPost w b ca len cap k) := by
  have HS := hid hs
  obtain ⟨s1, s2, s3, s4, s5, s6⟩ := hs
  by_cases h : k < len
  · rcases hb with hb | ⟨c, off, zs, rfl, hcb, hb⟩
    · omega
    obtain ⟨hv, v1, v2⟩ := hb k h
    generalize zs k = v at hv v1 v2
    have h1 : (k : Int) < (len : Int) := by omega
    have h0 : (0 : Int) ≤ (k : Int) := by omega
    clear hb
    go_enter Try.func100, Try.ntmps100
    go_wp2
    go_quiet (fail)
    go_wp2
    go_quiet (fail)
    go_wp2
    go_quiet (fail)
    go_wp2
    go_ret
    exact nextEnd _ _ HS.out v1 v2
  · have h1 : ¬ (k : Int) < (len : Int) := by omega
    have h2 : decide ((k : Int) < (len : Int)) = false := by simpa using h1
    clear hb
    go_enter Try.func100, Try.ntmps100
    go_wp2
    go_quiet (fail)
    go_wp2
    go_quiet (fail)
    go_wp2
    go_ret
    exact nextEnd _ _ HS.out (seedByte _).1 (seedByte _).2

theorem only_trans {a b c : World} {g : Nat} (h : a.grownBy b (some g)) (k : b.grownBy c (some g)) : a.grownBy c (some g) :=
  ⟨k.os.trans h.os, k.tape.trans h.tape, k.output.trans h.output, Nat.le_trans h.size k.size, fun i hi hn => (k.block i (Nat.lt_of_lt_of_le hi h.size) hn).trans (h.block i hi hn)⟩
theorem only_below {a w : World} (h : Below a.heap.size a w) (g : Nat) : a.grownBy w (some g) := ⟨h.os, h.tape, h.output, h.size, fun i hi _ => h.block i hi⟩
theorem only_cell {a w : World} {g : Nat} (h : a.grownBy w (some g)) {p o : Nat} (hp : p < a.heap.size) (hn : p ≠ g) : w.cell? ⟨p, o, none⟩ = a.cell? ⟨p, o, none⟩ :=
  World.cell?_of_block (h.block p hp (fun e => hn (by injection e)))
theorem only_frozen {a w : World} {g : Nat} (h : a.grownBy w (some g)) {p o : Nat} (hp : p < a.heap.size) (hn : p ≠ g) : w.frozen? ⟨p, o, none⟩ = a.frozen? ⟨p, o, none⟩ :=
  World.frozen?_of_block (h.block p hp (fun e => hn (by injection e)))

theorem bys_only {a w : World} {b : Nat} {ca : Option Addr} {len : Nat} (h : a.grownBy w (some b)) (hb : Bys a b ca len) : Bys w b ca len := by
  rcases hb with hb | ⟨c, off, zs, hc, hcb, hz⟩
  · exact .inl hb
  · refine .inr ⟨c, off, zs, hc, hcb, fun i hi => ?_⟩
    obtain ⟨h1, h2, h3⟩ := hz i hi
    have hlt := World.block_lt_of_cell? _ _ h1
    exact ⟨by rw [only_cell h hlt hcb]; exact h1, h2, h3⟩

def PickPost (w : World) (b : Nat) (ca : Option Addr) (len cap k : Nat) (n : Int) (e : Ending) (w' : World) : Prop :=
  ∃ (r z' : Int) (k' : Nat), e = .returned (.int .i64 r) ∧ 0 ≤ r ∧ (r < n ∨ r = 0) ∧ k ≤ k' ∧ k' ≤ k + 2 ∧ Src w' b ca len cap k' z' ∧ w.grownBy w' (some b)

set_option maxHeartbeats 400000 in
theorem srcPick (b : Nat) (ca : Option Addr) (len cap k : Nat) (z n : Int) (w : World) (hs : Src w b ca len cap k z) (hb : Bys w b ca len) (hk : k < 1000000) (hl : len ≤ 5000) (h1 : -1000000000000 ≤ n) (h2 : n ≤ 1000000000000) :
    Calls Try.prog 81 #[.pointer (some ⟨b, 0, none⟩), .int .i64 n] w (PickPost w b ca len cap k n) := by
  by_cases c1 : n ≤ 1
  · go_enter Try.func81, Try.ntmps81
    go_wp2_with (fail)
    go_ret
    exact ⟨0, z, k, rfl, by omega, .inr rfl, by omega, by omega, hs, ⟨rfl, rfl, rfl, Nat.le_refl _, fun _ _ _ => rfl⟩⟩
  · have HS := hid hs
    have HB := hid hb
    clear hs hb
    by_cases c2 : 200 < n
    · go_enter Try.func81, Try.ntmps81
      go_wp2_with (fail)
      refine (srcNext b ca len cap k z _ HS.out HB.out (by omega) hl).mono ?_
      rintro e w1 ⟨r1, z1, rfl, p1, p2, S1, g1⟩
      have HS1 := hid S1
      have HG1 := hid g1
      have HB1 := hid (bys_only g1 HB.out)
      clear S1 g1
      go_wp2_with (fail)
      refine (srcNext b ca len cap (k + 1) z1 _ HS1.out HB1.out (by omega) hl).mono ?_
      rintro e w2 ⟨r2, z2, rfl, q1, q2, S2, g2⟩
      have HS2 := hid S2
      have HG2 := hid g2
      clear S2 g2
      go_wp2_with (fail)
      go_ret
      exact ⟨_, z2, k + 1 + 1, rfl, Int.emod_nonneg _ (by omega), .inl (Int.emod_lt_of_pos _ (by omega)), by omega, by omega, HS2.out, only_trans HG1.out HG2.out⟩
    · go_enter Try.func81, Try.ntmps81
      go_wp2_with (fail)
      refine (srcNext b ca len cap k z _ HS.out HB.out (by omega) hl).mono ?_
      rintro e w1 ⟨r1, z1, rfl, p1, p2, S1, g1⟩
      have HS1 := hid S1
      have HG1 := hid g1
      clear S1 g1
      go_wp2_with (fail)
      go_ret
      exact ⟨_, z1, k + 1, rfl, Int.emod_nonneg _ (by omega), .inl (Int.emod_lt_of_pos _ (by omega)), by omega, by omega, HS1.out, HG1.out⟩

def OnePost (w : World) (b : Nat) (ca : Option Addr) (len cap k : Nat) (e : Ending) (w' : World) : Prop :=
  ∃ (r : Bool) (z' : Int) (k' : Nat), e = .returned (.bool r) ∧ k ≤ k' ∧ k' ≤ k + 2 ∧ Src w' b ca len cap k' z' ∧ w.grownBy w' (some b)

set_option maxHeartbeats 400000 in
theorem srcOne (b : Nat) (ca : Option Addr) (len cap k : Nat) (z n : Int) (w : World) (hs : Src w b ca len cap k z) (hb : Bys w b ca len) (hk : k < 1000000) (hl : len ≤ 5000) (h1 : -1000000000000 ≤ n) (h2 : n ≤ 1000000000000) :
    Calls Try.prog 59 #[.pointer (some ⟨b, 0, none⟩), .int .i64 n] w (OnePost w b ca len cap k) := by
  have HS := hid hs
  have HB := hid hb
  clear hs hb
  go_enter Try.func59, Try.ntmps59
  go_wp2_with (fail)
  refine (srcPick b ca len cap k z n _ HS.out HB.out hk hl h1 h2).mono ?_
  rintro e w1 ⟨r1, z1, k1, rfl, p1, p2, p3, p4, S1, g1⟩
  have HS1 := hid S1
  have HG1 := hid g1
  clear S1 g1
  go_wp2_with (fail)
  go_ret
  exact ⟨_, z1, k1, rfl, p3, p4, HS1.out, HG1.out⟩

end Go.Proofs.Ytjijabfamjhdjaa
