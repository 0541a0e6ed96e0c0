/- Merged: Math2, Src, Drw, A2f, Drs, Bnt, Ldr, Lbt, Ldc. -/
import Derived.Test.YtipegemhcmfnmaaDoorMath
import Derived.Test.YtipegemhcmfnmaaDoorFull
import Derived.Test.YtipegemhcmfnmaaDoorLv
import Derived.Test.YtipegemhcmfnmaaDoorAr6
import Derived.OpenShut
import Derived.Test.YtipegemhcmfnmaaDoorVt
import Derived.Test.YtipegemhcmfnmaaDoorFb
import Derived.Test.YtipegemhcmfnmaaDoorCvt
import Derived.Test.YtipegemhcmfnmaaDoorExm
import Derived.Test.YtipegemhcmfnmaaDoorExp
import Derived.Test.YtipegemhcmfnmaaDoorTm2
/-! The numbers in lowest terms are those of a plain fraction. -/
namespace Go.Proofs.YtipegemhcmfnmaaDoor

theorem low_plain {n d : Int} (hd : 1 ≤ d) (h2 : d ≤ 1000000000) (h3 : -1000000000 ≤ n) (h4 : n ≤ 1000000000) :
    okF (lowN n d) (lowD n d) = true ∧ lowD n d ≤ d ∧ (lowN n d).natAbs ≤ n.natAbs := by
  have hg : lowG n d = gc n d := by unfold lowG; rw [if_neg (by omega)]
  have hp := gc_pos n d (by omega)
  have hN : lowN n d = n.tdiv (gc n d) := by unfold lowN; rw [hg]
  have hD : lowD n d = d.tdiv (gc n d) := by unfold lowD; rw [hg]
  have b1 := tdiv_bd n (gc n d)
  have b2 := tdiv_bd d (gc n d)
  have hd1 : 1 ≤ lowD n d := by
    rw [hD, Int.tdiv_eq_ediv_of_nonneg (by omega)]
    have := gc_le_right n d (by omega)
    exact (Int.le_ediv_iff_mul_le (by omega)).2 (by omega)
  have hc : gc (lowN n d) (lowD n d) = 1 := by
    rw [hN, hD]
    unfold gc Int.gcd
    rw [Int.natAbs_tdiv, Int.natAbs_tdiv]
    have e : ((n.natAbs.gcd d.natAbs : Nat) : Int).natAbs = n.natAbs.gcd d.natAbs := rfl
    rw [e]
    have := Nat.gcd_div_gcd_div_gcd_of_pos_right (n := n.natAbs) (m := d.natAbs) (by omega)
    exact congrArg _ this
  rw [← hN] at b1
  rw [← hD] at b2
  refine ⟨okF_iff.2 ⟨hd1, by omega, by omega, by omega, hc⟩, by omega, b1⟩

/-- What is multiplied by a positive number has the same lowest terms. -/
theorem low_mul {n d k : Int} (hk : 1 ≤ k) (hd : 1 ≤ d) (hg : gc n d = 1) : lowN (-k * n) (-k * d) = n ∧ lowD (-k * n) (-k * d) = d := by
  have e : gc (-k * n) (-k * d) = k := by
    have h1 : gc (-k * n) (-k * d) = (k.natAbs * Int.gcd n d : Nat) := by
      unfold gc
      rw [Int.neg_mul, Int.neg_mul, Int.neg_gcd, Int.gcd_neg, Int.gcd_mul_left]
    have h2 : Int.gcd n d = 1 := by unfold gc at hg; omega
    rw [h1, h2]; omega
  have hneg : -k * d < 0 := by
    have : 0 < k * d := Int.mul_pos (by omega) (by omega)
    rw [Int.neg_mul]; omega
  have hG : lowG (-k * n) (-k * d) = -k := by unfold lowG; rw [if_pos hneg, e]
  unfold lowN lowD
  rw [hG]
  exact ⟨Int.mul_tdiv_cancel_left _ (by omega), Int.mul_tdiv_cancel_left _ (by omega)⟩

theorem floor_le {n d : Int} (hd : 1 ≤ d) : n / d * d ≤ n ∧ n < (n / d + 1) * d := by
  have h1 := Int.mul_ediv_add_emod n d
  have h2 := Int.emod_nonneg n (show d ≠ 0 by omega)
  have h3 := Int.emod_lt_of_pos n (show 0 < d by omega)
  rw [Int.add_mul, Int.one_mul, Int.mul_comm (n / d) d]
  omega

theorem floor_bd {n d M : Int} (hd : 1 ≤ d) (h1 : -M ≤ n) (h2 : n ≤ M) (hM : 0 ≤ M) : -M ≤ n / d ∧ n / d ≤ M := by
  have h := floor_le (n := n) hd
  constructor
  · rcases Int.lt_or_le (n / d) (-M) with hc | hc
    · have : (n / d + 1) * d ≤ -M * 1 := by
        have h3 : (n / d + 1) * d ≤ (n / d + 1) * 1 := Int.mul_le_mul_of_nonpos_left (by omega) (by omega)
        omega
      omega
    · exact hc
  · rcases Int.lt_or_le M (n / d) with hc | hc
    · have : n / d * 1 ≤ n / d * d := Int.mul_le_mul_of_nonneg_left (by omega) (by omega)
      omega
    · exact hc

end Go.Proofs.YtipegemhcmfnmaaDoor

/-! Contracts of the source of drawn numbers: whatever is drawn lies within its bounds, and only the source's own block is written. -/
namespace Go.Proofs.YtipegemhcmfnmaaDoor
open Go.RowKit

/-- The source in block b: its bytes, where it stands, its seed. -/
def Src (w : World) (b : Nat) (ca : Option Addr) (len cap k : Nat) (z : Int) : Prop :=
  w.cell? ⟨b, 0, none⟩ = some (.slice ca len cap) ∧ w.cell? ⟨b, 1, none⟩ = some (.int .i64 k) ∧ w.cell? ⟨b, 2, none⟩ = some (.int .u64 z) ∧
  w.frozen? ⟨b, 0, none⟩ = false ∧ w.frozen? ⟨b, 1, none⟩ = false ∧ w.frozen? ⟨b, 2, none⟩ = false

/-- The bytes that a source reads: cells of a block other than the source's own. -/
def Bys (w : World) (b : Nat) (ca : Option Addr) (len : Nat) : Prop :=
  len = 0 ∨ ∃ (c off : Nat) (zs : Nat → Int), ca = some ⟨c, off, none⟩ ∧ c ≠ b ∧ ∀ i, i < len → w.cell? ⟨c, off + i, none⟩ = some (.int .u8 (zs i)) ∧ 0 ≤ zs i ∧ zs i ≤ 255

theorem u64_wrap_bd (y : Int) : 0 ≤ IntKind.u64.wrap y ∧ IntKind.u64.wrap y < 18446744073709551616 := by
  have e : IntKind.u64.wrap y = y % 18446744073709551616 := by simp [IntKind.wrap, IntKind.bits, IntKind.signed]
  rw [e]; omega

/-- A byte that is taken out of the seed. -/
theorem seedByte (y : Int) : 0 ≤ wrap64 (bits BinOp.and IntKind.u64 (IntKind.u64.wrap y / 1099511627776) 255) ∧ wrap64 (bits BinOp.and IntKind.u64 (IntKind.u64.wrap y / 1099511627776) 255) ≤ 255 := by
  have h := u64_wrap_bd y
  generalize IntKind.u64.wrap y = x at h
  rw [u64_and _ _ (by omega) (by omega) (by decide) (by decide)]
  have h2 : (x / 1099511627776).toNat &&& (255 : Int).toNat ≤ 255 := by
    rw [show (255 : Int).toNat = 255 from rfl]; exact Nat.and_le_right
  rw [IntWalk.wrap64_in _ ⟨by omega, by omega⟩]
  omega

def NextPost (w : World) (b : Nat) (ca : Option Addr) (len cap k : Nat) (e : Ending) (w' : World) : Prop :=
  ∃ r z' : Int, e = .returned (.int .i64 r) ∧ 0 ≤ r ∧ r ≤ 255 ∧ Src w' b ca len cap (k + 1) z' ∧ w.grownBy w' (some b)

theorem nextEnd {w : World} {b : Nat} {ca : Option Addr} {len cap k : Nat} {z r z' : Int} (m n : Nat) (hs : Src w b ca len cap k z) (h0 : 0 ≤ r) (h1 : r ≤ 255) :
    NextPost w b ca len cap k (.returned (.int .i64 r)) ((((w.drewN m).setCell ⟨b, 1, none⟩ (.int .i64 ((k : Int) + 1))).setCell ⟨b, 2, none⟩ (.int .u64 z')).drewN n) := by
  obtain ⟨s1, s2, s3, s4, s5, s6⟩ := hs
  refine ⟨r, z', rfl, h0, h1, ⟨?_, ?_, ?_, ?_, ?_, ?_⟩, ?_⟩
  · rw [World.cell?_drewN, World.cell?_setCell_other _ _ _ _ (by simp), World.cell?_setCell_other _ _ _ _ (by simp), World.cell?_drewN]; exact s1
  · rw [World.cell?_drewN, World.cell?_setCell_other _ _ _ _ (by simp), World.cell?_setCell_same _ _ _ (u := .int .i64 k) (by rw [World.cell?_drewN]; exact s2)]
    rfl
  · rw [World.cell?_drewN, World.cell?_setCell_same _ _ _ (u := .int .u64 z)]
    rw [World.cell?_setCell_other _ _ _ _ (by simp), World.cell?_drewN]; exact s3
  · simp [s4]
  · simp [s5]
  · simp [s6]
  · exact ⟨rfl, rfl, rfl, by simp [World.setCell], fun i hi hn => by
      show (((w.drewN m).setCell ⟨b, 1, none⟩ _).setCell ⟨b, 2, none⟩ _).heap[i]? = w.heap[i]?
      rw [Below.heap_setCell _ _ _ _ (by simp; intro e; exact hn (by rw [e])), Below.heap_setCell _ _ _ _ (by simp; intro e; exact hn (by rw [e]))]
      rfl⟩

set_option maxHeartbeats 400000 in
theorem srcNext (b : Nat) (ca : Option Addr) (len cap k : Nat) (z : Int) (w : World) (hs : Src w b ca len cap k z) (hb : Bys w b ca len) (hk : k ≤ 1000000) (_hl : len ≤ 5000) :
    Calls Tryd.prog 105 #[.pointer (some ⟨b, 0, none⟩)] w (NextPost w b ca len cap k) := by
  have HS := hid hs
  obtain ⟨s1, s2, s3, s4, s5, s6⟩ := hs
  by_cases h : k < len
  · rcases hb with hb | ⟨c, off, zs, rfl, hcb, hb⟩
    · omega
    obtain ⟨hv, v1, v2⟩ := hb k h
    generalize zs k = v at hv v1 v2
    have h1 : (k : Int) < (len : Int) := by omega
    have h0 : (0 : Int) ≤ (k : Int) := by omega
    clear hb
    go_enter Tryd.func105, Tryd.ntmps105
    go_wp2
    go_quiet (fail)
    go_wp2
    go_quiet (fail)
    go_wp2
    go_quiet (fail)
    go_wp2
    go_ret
    exact nextEnd _ _ HS.out v1 v2
  · have h1 : ¬ (k : Int) < (len : Int) := by omega
    have h2 : decide ((k : Int) < (len : Int)) = false := by simpa using h1
    clear hb
    go_enter Tryd.func105, Tryd.ntmps105
    go_wp2
    go_quiet (fail)
    go_wp2
    go_quiet (fail)
    go_wp2
    go_ret
    exact nextEnd _ _ HS.out (seedByte _).1 (seedByte _).2

theorem only_trans {a b c : World} {g : Nat} (h : a.grownBy b (some g)) (k : b.grownBy c (some g)) : a.grownBy c (some g) :=
  ⟨k.os.trans h.os, k.tape.trans h.tape, k.output.trans h.output, Nat.le_trans h.size k.size, fun i hi hn => (k.block i (Nat.lt_of_lt_of_le hi h.size) hn).trans (h.block i hi hn)⟩
theorem only_below {a w : World} (h : Below a.heap.size a w) (g : Nat) : a.grownBy w (some g) := ⟨h.os, h.tape, h.output, h.size, fun i hi _ => h.block i hi⟩
theorem only_cell {a w : World} {g : Nat} (h : a.grownBy w (some g)) {p o : Nat} (hp : p < a.heap.size) (hn : p ≠ g) : w.cell? ⟨p, o, none⟩ = a.cell? ⟨p, o, none⟩ :=
  World.cell?_of_block (h.block p hp (fun e => hn (by injection e)))
theorem only_frozen {a w : World} {g : Nat} (h : a.grownBy w (some g)) {p o : Nat} (hp : p < a.heap.size) (hn : p ≠ g) : w.frozen? ⟨p, o, none⟩ = a.frozen? ⟨p, o, none⟩ :=
  World.frozen?_of_block (h.block p hp (fun e => hn (by injection e)))

theorem bys_only {a w : World} {b : Nat} {ca : Option Addr} {len : Nat} (h : a.grownBy w (some b)) (hb : Bys a b ca len) : Bys w b ca len := by
  rcases hb with hb | ⟨c, off, zs, hc, hcb, hz⟩
  · exact .inl hb
  · refine .inr ⟨c, off, zs, hc, hcb, fun i hi => ?_⟩
    obtain ⟨h1, h2, h3⟩ := hz i hi
    have hlt := World.block_lt_of_cell? _ _ h1
    exact ⟨by rw [only_cell h hlt hcb]; exact h1, h2, h3⟩

def PickPost (w : World) (b : Nat) (ca : Option Addr) (len cap k : Nat) (n : Int) (e : Ending) (w' : World) : Prop :=
  ∃ (r z' : Int) (k' : Nat), e = .returned (.int .i64 r) ∧ 0 ≤ r ∧ (r < n ∨ r = 0) ∧ k ≤ k' ∧ k' ≤ k + 2 ∧ Src w' b ca len cap k' z' ∧ w.grownBy w' (some b)

set_option maxHeartbeats 400000 in
theorem srcPick (b : Nat) (ca : Option Addr) (len cap k : Nat) (z n : Int) (w : World) (hs : Src w b ca len cap k z) (hb : Bys w b ca len) (hk : k < 1000000) (hl : len ≤ 5000) (h1 : -1000000000000 ≤ n) (h2 : n ≤ 1000000000000) :
    Calls Tryd.prog 69 #[.pointer (some ⟨b, 0, none⟩), .int .i64 n] w (PickPost w b ca len cap k n) := by
  by_cases c1 : n ≤ 1
  · go_enter Tryd.func69, Tryd.ntmps69
    go_wp2_with (fail)
    go_ret
    exact ⟨0, z, k, rfl, by omega, .inr rfl, by omega, by omega, hs, ⟨rfl, rfl, rfl, Nat.le_refl _, fun _ _ _ => rfl⟩⟩
  · have HS := hid hs
    have HB := hid hb
    clear hs hb
    by_cases c2 : 200 < n
    · go_enter Tryd.func69, Tryd.ntmps69
      go_wp2_with (fail)
      refine (srcNext b ca len cap k z _ HS.out HB.out (by omega) hl).mono ?_
      rintro e w1 ⟨r1, z1, rfl, p1, p2, S1, g1⟩
      have HS1 := hid S1
      have HG1 := hid g1
      have HB1 := hid (bys_only g1 HB.out)
      clear S1 g1
      go_wp2_with (fail)
      refine (srcNext b ca len cap (k + 1) z1 _ HS1.out HB1.out (by omega) hl).mono ?_
      rintro e w2 ⟨r2, z2, rfl, q1, q2, S2, g2⟩
      have HS2 := hid S2
      have HG2 := hid g2
      clear S2 g2
      go_wp2_with (fail)
      go_ret
      exact ⟨_, z2, k + 1 + 1, rfl, Int.emod_nonneg _ (by omega), .inl (Int.emod_lt_of_pos _ (by omega)), by omega, by omega, HS2.out, only_trans HG1.out HG2.out⟩
    · go_enter Tryd.func69, Tryd.ntmps69
      go_wp2_with (fail)
      refine (srcNext b ca len cap k z _ HS.out HB.out (by omega) hl).mono ?_
      rintro e w1 ⟨r1, z1, rfl, p1, p2, S1, g1⟩
      have HS1 := hid S1
      have HG1 := hid g1
      clear S1 g1
      go_wp2_with (fail)
      go_ret
      exact ⟨_, z1, k + 1, rfl, Int.emod_nonneg _ (by omega), .inl (Int.emod_lt_of_pos _ (by omega)), by omega, by omega, HS1.out, HG1.out⟩

def OnePost (w : World) (b : Nat) (ca : Option Addr) (len cap k : Nat) (e : Ending) (w' : World) : Prop :=
  ∃ (r : Bool) (z' : Int) (k' : Nat), e = .returned (.bool r) ∧ k ≤ k' ∧ k' ≤ k + 2 ∧ Src w' b ca len cap k' z' ∧ w.grownBy w' (some b)

set_option maxHeartbeats 400000 in
theorem srcOne (b : Nat) (ca : Option Addr) (len cap k : Nat) (z n : Int) (w : World) (hs : Src w b ca len cap k z) (hb : Bys w b ca len) (hk : k < 1000000) (hl : len ≤ 5000) (h1 : -1000000000000 ≤ n) (h2 : n ≤ 1000000000000) :
    Calls Tryd.prog 104 #[.pointer (some ⟨b, 0, none⟩), .int .i64 n] w (OnePost w b ca len cap k) := by
  have HS := hid hs
  have HB := hid hb
  clear hs hb
  go_enter Tryd.func104, Tryd.ntmps104
  go_wp2_with (fail)
  refine (srcPick b ca len cap k z n _ HS.out HB.out hk hl h1 h2).mono ?_
  rintro e w1 ⟨r1, z1, k1, rfl, p1, p2, p3, p4, S1, g1⟩
  have HS1 := hid S1
  have HG1 := hid g1
  clear S1 g1
  go_wp2_with (fail)
  go_ret
  exact ⟨_, z1, k1, rfl, p3, p4, HS1.out, HG1.out⟩

end Go.Proofs.YtipegemhcmfnmaaDoor

/-! Contracts: drawn fractions are plain and not too great. -/
namespace Go.Proofs.YtipegemhcmfnmaaDoor
open Go.RowKit

/-- A plain fraction with numbers up to M. -/
def Sml (n d M : Int) : Prop := okF n d = true ∧ -M ≤ n ∧ n ≤ M ∧ d ≤ M

def DrawPost (w : World) (b : Nat) (ca : Option Addr) (len cap k : Nat) (M : Int) (e : Ending) (w' : World) : Prop :=
  ∃ (n d z' : Int) (k' : Nat), e = .returned (.agg #[.int .i64 n, .int .i64 d]) ∧ Sml n d M ∧ k ≤ k' ∧ k' ≤ k + 8 ∧ Src w' b ca len cap k' z' ∧ w.grownBy w' (some b)

theorem src_only {a w : World} {b : Nat} (hb : b < a.heap.size) {ca : Option Addr} {len cap k : Nat} {z : Int} (h : Below a.heap.size a w) (hs : Src a b ca len cap k z) : Src w b ca len cap k z := by
  obtain ⟨s1, s2, s3, s4, s5, s6⟩ := hs
  exact ⟨(h.cell (p := ⟨b, 0, none⟩) hb).trans s1, (h.cell (p := ⟨b, 1, none⟩) hb).trans s2, (h.cell (p := ⟨b, 2, none⟩) hb).trans s3, (h.frozen (p := ⟨b, 0, none⟩) hb).trans s4, (h.frozen (p := ⟨b, 1, none⟩) hb).trans s5, (h.frozen (p := ⟨b, 2, none⟩) hb).trans s6⟩
theorem src_lt {w : World} {b : Nat} {ca : Option Addr} {len cap k : Nat} {z : Int} (hs : Src w b ca len cap k z) : b < w.heap.size := World.block_lt_of_cell? _ _ hs.1

theorem only_set {a w : World} {g p o : Nat} (h : a.grownBy w (some g)) (hp : a.heap.size ≤ p) (u : Value) : a.grownBy (w.setCell ⟨p, o, none⟩ u) (some g) :=
  ⟨h.os, h.tape, h.output, by simpa [World.setCell] using h.size, fun i hi hn => (Below.heap_setCell _ _ _ _ (by simp; omega)).trans (h.block i hi hn)⟩
theorem src_set {w : World} {b p o : Nat} {ca : Option Addr} {len cap k : Nat} {z : Int} (hs : Src w b ca len cap k z) (hp : b ≠ p) (u : Value) : Src (w.setCell ⟨p, o, none⟩ u) b ca len cap k z := by
  obtain ⟨s1, s2, s3, s4, s5, s6⟩ := hs
  refine ⟨?_, ?_, ?_, ?_, ?_, ?_⟩
  · rw [World.cell?_setCell_other _ _ _ _ (by simp; try omega)]; exact s1
  · rw [World.cell?_setCell_other _ _ _ _ (by simp; try omega)]; exact s2
  · rw [World.cell?_setCell_other _ _ _ _ (by simp; try omega)]; exact s3
  · simp [s4]
  · simp [s5]
  · simp [s6]

set_option maxHeartbeats 400000 in
theorem specDraw (b : Nat) (ca : Option Addr) (len cap k : Nat) (z M : Int) (w : World) (hs : Src w b ca len cap k z) (hb : Bys w b ca len) (hk : k + 8 < 1000000) (hl : len ≤ 5000) (h1 : 1 ≤ M) (h2 : M ≤ 1000000) :
    Calls Tryd.prog 68 #[.pointer (some ⟨b, 0, none⟩), .int .i64 M] w (DrawPost w b ca len cap k M) := by
  have hlt := src_lt hs
  have e0 : Below w.heap.size w (w.alloc (.cells #[.int .i64 0, .int .i64 0] 30)) := (Below.refl _ _).alloc (Nat.le_refl _) _
  have HS := hid (src_only hlt e0 hs)
  have HB := hid (bys_only (only_below e0 b) hb)
  have HE := hid e0
  clear hs hb e0
  go_enter Tryd.func68, Tryd.ntmps68
  go_wp2_with (fail)
  refine (srcPick b ca len cap k z _ _ HS.out HB.out (by omega) hl (by omega) (by omega)).mono ?_
  rintro e w1 ⟨r1, z1, k1, rfl, p1, p2, p3, p4, S1, g1⟩
  have HS1 := hid S1
  have HG1 := hid g1
  have HB1 := hid (bys_only g1 HB.out)
  clear S1 g1
  have q1 : r1 ≤ 2 * M := by omega
  go_wp2_with (fail)
  refine (srcOne b ca len cap k1 z1 _ _ HS1.out HB1.out (by omega) hl (by omega) (by omega)).mono ?_
  rintro e w2 ⟨r2, z2, k2, rfl, p5, p6, S2, g2⟩
  have HS2 := hid S2
  have HG2 := hid (only_trans HG1.out g2)
  have HB2 := hid (bys_only g2 HB1.out)
  clear S2 g2
  cases r2
  · go_wp2_with (fail)
    refine (srcPick b ca len cap k2 z2 _ _ HS2.out HB2.out (by omega) hl (by omega) (by omega)).mono ?_
    rintro e w3 ⟨r3, z3, k3, rfl, p7, p8, p9, p10, S3, g3⟩
    have HS3 := hid S3
    have HG3 := hid (only_trans HG2.out g3)
    clear S3 g3
    have q3 : 0 ≤ r3 ∧ r3 + 1 ≤ M := by omega
    obtain ⟨q4, q5⟩ := q3
    go_wp2_with (fail)
    refine (specMake _ _ _ (by omega) (by omega) (by omega) (by omega)).mono ?_
    rintro e w4 ⟨rfl, hb4⟩
    obtain ⟨lp1, lp2, lp3⟩ := low_plain (n := r1 - M) (d := 1 + r3) (by omega) (by omega) (by omega) (by omega)
    have hsm : Sml (lowN (r1 - M) (1 + r3)) (lowD (r1 - M) (1 + r3)) M := ⟨lp1, by omega, by omega, by omega⟩
    generalize lowN (r1 - M) (1 + r3) = X at hsm ⊢
    generalize lowD (r1 - M) (1 + r3) = Y at hsm ⊢
    clear lp1 lp2 lp3
    have HSM := hid hsm
    have hg4 := only_trans (only_trans (only_below HE.out b) HG3.out) (only_below hb4 b)
    have hs4 := src_only (src_lt HS3.out) hb4 HS3.out
    have hlz : w.heap.size < w3.heap.size := by have := HG3.out.size; simp at this; omega
    have c0 : w4.cell? ⟨w.heap.size, 0, none⟩ = some (.int .i64 0) := by
      rw [hb4.cell (p := ⟨w.heap.size, 0, none⟩) hlz, only_cell HG3.out (by simp) (by omega)]; go_simp
    have c1 : w4.cell? ⟨w.heap.size, 1, none⟩ = some (.int .i64 0) := by
      rw [hb4.cell (p := ⟨w.heap.size, 1, none⟩) hlz, only_cell HG3.out (by simp) (by omega)]; go_simp
    have f0 : w4.frozen? ⟨w.heap.size, 0, none⟩ = false := by
      rw [hb4.frozen (p := ⟨w.heap.size, 0, none⟩) hlz, only_frozen HG3.out (by simp) (by omega)]; go_simp
    have f1 : w4.frozen? ⟨w.heap.size, 1, none⟩ = false := by
      rw [hb4.frozen (p := ⟨w.heap.size, 1, none⟩) hlz, only_frozen HG3.out (by simp) (by omega)]; go_simp
    have HG4 := hid hg4
    have HS4 := hid hs4
    clear hg4 hs4 hsm
    go_wp2
    refine bodyPost_ret (v := .agg #[.int .i64 X, .int .i64 Y]) (by simp [results, Tryd.results68, go_sem, c0, c1]) rfl ?_
    exact ⟨X, Y, _, _, rfl, HSM.out, by omega, by omega, src_set (src_set HS4.out (by omega) _) (by omega) _, only_set (only_set HG4.out (by omega) _) (by omega) _⟩
  · go_wp2_with (fail)
    refine (srcPick b ca len cap k2 z2 _ _ HS2.out HB2.out (by omega) hl (by omega) (by omega)).mono ?_
    rintro e w2b ⟨r2b, z2b, k2b, rfl, p5b, p6b, p7b, p8b, S2b, g2b⟩
    have HS2b := hid S2b
    have HG2b := hid (only_trans HG2.out g2b)
    have HB2b := hid (bys_only g2b HB2.out)
    clear S2b g2b
    have q2b : r2b ≤ M := by omega
    go_wp2_with (fail)
    refine (srcPick b ca len cap k2b z2b _ _ HS2b.out HB2b.out (by omega) hl (by omega) (by omega)).mono ?_
    rintro e w3 ⟨r3, z3, k3, rfl, p7, p8, p9, p10, S3, g3⟩
    have HS3 := hid S3
    have HG3 := hid (only_trans HG2b.out g3)
    clear S3 g3
    have q3 : 0 ≤ r3 ∧ r3 + 1 ≤ M := by omega
    obtain ⟨q4, q5⟩ := q3
    go_wp2_with (fail)
    refine (specMake _ _ _ (by omega) (by omega) (by omega) (by omega)).mono ?_
    rintro e w4 ⟨rfl, hb4⟩
    obtain ⟨lp1, lp2, lp3⟩ := low_plain (n := r2b) (d := 1 + r3) (by omega) (by omega) (by omega) (by omega)
    have hsm : Sml (lowN (r2b) (1 + r3)) (lowD (r2b) (1 + r3)) M := ⟨lp1, by omega, by omega, by omega⟩
    generalize lowN (r2b) (1 + r3) = X at hsm ⊢
    generalize lowD (r2b) (1 + r3) = Y at hsm ⊢
    clear lp1 lp2 lp3
    have HSM := hid hsm
    have hg4 := only_trans (only_trans (only_below HE.out b) HG3.out) (only_below hb4 b)
    have hs4 := src_only (src_lt HS3.out) hb4 HS3.out
    have hlz : w.heap.size < w3.heap.size := by have := HG3.out.size; simp at this; omega
    have c0 : w4.cell? ⟨w.heap.size, 0, none⟩ = some (.int .i64 0) := by
      rw [hb4.cell (p := ⟨w.heap.size, 0, none⟩) hlz, only_cell HG3.out (by simp) (by omega)]; go_simp
    have c1 : w4.cell? ⟨w.heap.size, 1, none⟩ = some (.int .i64 0) := by
      rw [hb4.cell (p := ⟨w.heap.size, 1, none⟩) hlz, only_cell HG3.out (by simp) (by omega)]; go_simp
    have f0 : w4.frozen? ⟨w.heap.size, 0, none⟩ = false := by
      rw [hb4.frozen (p := ⟨w.heap.size, 0, none⟩) hlz, only_frozen HG3.out (by simp) (by omega)]; go_simp
    have f1 : w4.frozen? ⟨w.heap.size, 1, none⟩ = false := by
      rw [hb4.frozen (p := ⟨w.heap.size, 1, none⟩) hlz, only_frozen HG3.out (by simp) (by omega)]; go_simp
    have HG4 := hid hg4
    have HS4 := hid hs4
    clear hg4 hs4 hsm
    go_wp2
    refine bodyPost_ret (v := .agg #[.int .i64 X, .int .i64 Y]) (by simp [results, Tryd.results68, go_sem, c0, c1]) rfl ?_
    exact ⟨X, Y, _, _, rfl, HSM.out, by omega, by omega, src_set (src_set HS4.out (by omega) _) (by omega) _, only_set (only_set HG4.out (by omega) _) (by omega) _⟩

end Go.Proofs.YtipegemhcmfnmaaDoor

/-! Contract: three drawn fractions; the laws' own small helpers. -/
namespace Go.Proofs.YtipegemhcmfnmaaDoor
open Go.RowKit

/-- The bytes of an argument. -/
def ByI (w : World) (ca : Option Addr) (len : Nat) : Prop :=
  len = 0 ∨ ∃ (c off : Nat) (zs : Nat → Int), ca = some ⟨c, off, none⟩ ∧ ∀ i, i < len → w.cell? ⟨c, off + i, none⟩ = some (.int .u8 (zs i)) ∧ 0 ≤ zs i ∧ zs i ≤ 255

theorem byi_bys {a w : World} {ca : Option Addr} {len : Nat} (h : ByI a ca len) {b : Nat} (hB : a.heap.size ≤ b) (hb : Below a.heap.size a w) : Bys w b ca len := by
  rcases h with h | ⟨c, off, zs, hc, hz⟩
  · exact .inl h
  · by_cases h0 : len = 0
    · exact .inl h0
    · have hlt := World.block_lt_of_cell? _ _ (hz 0 (by omega)).1
      simp only at hlt
      refine .inr ⟨c, off, zs, hc, by omega, fun i hi => ?_⟩
      obtain ⟨h1, h2, h3⟩ := hz i hi
      exact ⟨(hb.cell (p := ⟨c, off + i, none⟩) hlt).trans h1, h2, h3⟩
theorem byi_below {a w : World} {ca : Option Addr} {len : Nat} (h : ByI a ca len) (hb : Below a.heap.size a w) : ByI w ca len := by
  rcases h with h | ⟨c, off, zs, hc, hz⟩
  · exact .inl h
  · refine .inr ⟨c, off, zs, hc, fun i hi => ?_⟩
    obtain ⟨h1, h2, h3⟩ := hz i hi
    have hlt := World.block_lt_of_cell? _ _ h1
    exact ⟨(hb.cell (p := ⟨c, off + i, none⟩) hlt).trans h1, h2, h3⟩

theorem specFrom (ca : Option Addr) (len cap : Nat) (w : World) :
    Calls Tryd.prog 57 #[.slice ca len cap] w fun e w' => e = .returned (.pointer (some ⟨w.heap.size, 0, none⟩)) ∧ w' = w.alloc (.cells #[.slice ca len cap, .int .i64 0, .int .u64 0] 109) := by
  go_enter Tryd.func57, Tryd.ntmps57
  go_wp2
  go_ret
  exact ⟨rfl, rfl⟩

theorem src_new (ca : Option Addr) (len cap : Nat) (w : World) (t : TypeId) : Src (w.alloc (.cells #[.slice ca len cap, .int .i64 0, .int .u64 0] t)) w.heap.size ca len cap 0 0 := by
  refine ⟨?_, ?_, ?_, ?_, ?_, ?_⟩ <;> go_simp

def Zr (w : World) (p : Nat) : Prop := w.cell? ⟨p, 0, none⟩ = some (.int .i64 0) ∧ w.cell? ⟨p, 1, none⟩ = some (.int .i64 0) ∧ w.frozen? ⟨p, 0, none⟩ = false ∧ w.frozen? ⟨p, 1, none⟩ = false
def Tw (w : World) (p : Nat) (x y : Int) : Prop := w.cell? ⟨p, 0, none⟩ = some (.int .i64 x) ∧ w.cell? ⟨p, 1, none⟩ = some (.int .i64 y)
theorem zr_only {a w : World} {g p : Nat} (h : a.grownBy w (some g)) (hp : p < a.heap.size) (hn : p ≠ g) (z : Zr a p) : Zr w p :=
  ⟨(only_cell h hp hn).trans z.1, (only_cell h hp hn).trans z.2.1, (only_frozen h hp hn).trans z.2.2.1, (only_frozen h hp hn).trans z.2.2.2⟩
theorem tw_only {a w : World} {g p : Nat} {x y : Int} (h : a.grownBy w (some g)) (hp : p < a.heap.size) (hn : p ≠ g) (z : Tw a p x y) : Tw w p x y :=
  ⟨(only_cell h hp hn).trans z.1, (only_cell h hp hn).trans z.2⟩
theorem four_of {w : World} {p q : Nat} {a b c d : Int} (h : Tw w p a b) (k : Tw w q c d) :
    w.cell? ⟨p, 0, none⟩ = some (.int .i64 a) ∧ w.cell? ⟨p, 1, none⟩ = some (.int .i64 b) ∧ w.cell? ⟨q, 0, none⟩ = some (.int .i64 c) ∧ w.cell? ⟨q, 1, none⟩ = some (.int .i64 d) := ⟨h.1, h.2, k.1, k.2⟩
theorem tw_new (w : World) (t : TypeId) (x y : Int) : Tw (w.alloc (.cells #[.int .i64 x, .int .i64 y] t)) w.heap.size x y := two_new w t _ _
theorem only_new (w : World) (o : Obj) (g : Nat) : w.grownBy (w.alloc o) (some g) := only_below ((Below.refl _ _).alloc (Nat.le_refl _) _) g
theorem src_on {a : World} {b : Nat} {ca : Option Addr} {len cap k : Nat} {z : Int} (o : Obj) (hs : Src a b ca len cap k z) : Src (a.alloc o) b ca len cap k z :=
  src_only (src_lt hs) ((Below.refl _ _).alloc (Nat.le_refl _) _) hs

def A2Post (w : World) (e : Ending) (w' : World) : Prop :=
  ∃ n1 d1 n2 d2 n3 d3 : Int, e = .returned (.tuple #[.agg #[.int .i64 n1, .int .i64 d1], .agg #[.int .i64 n2, .int .i64 d2], .agg #[.int .i64 n3, .int .i64 d3]]) ∧ Sml n1 d1 300 ∧ Sml n2 d2 300 ∧ Sml n3 d3 300 ∧ Below w.heap.size w w'

def AtPost (w : World) (n : Int) (e : Ending) (w' : World) : Prop := ∃ r : Int, e = .returned (.int .i64 r) ∧ 0 ≤ r ∧ (r < n ∨ r = 0) ∧ w = w'

theorem add_plain (b off i : Nat) : Addr.add ⟨b, off, none⟩ i = ⟨b, off + i, none⟩ := by
  unfold Addr.add; split <;> simp_all

/-- The bytes of an argument that was opened. -/
theorem byi_row {w : World} {x : Addr} {len : Nat} {zs : List Int} (hl : len ≤ zs.length) (hc : ∀ i, i < zs.length → w.cell? (x.add i) = some (.int .u8 (zs.getD i 0))) (hw : ∀ n ∈ zs, (Lit.int .u8 n).wf = true) : ByI w (some x) len := by
  by_cases h0 : len = 0
  · exact .inl h0
  · obtain ⟨b, off, spot⟩ := x
    have h1 := hc 0 (by omega)
    have hspot : spot = none := by simpa [Addr.add] using World.cell?_spot h1
    subst hspot
    refine .inr ⟨b, off, fun i => zs.getD i 0, rfl, fun i hi => ⟨by have h := hc i (by omega); rw [add_plain] at h; exact h, ?_⟩⟩
    have hlt : i < zs.length := by omega
    have hm : zs.getD i 0 ∈ zs := by
      rw [List.getD_eq_getElem?_getD, List.getElem?_eq_getElem hlt]; exact List.getElem_mem _
    exact bounds_u8 (hw _ hm)

end Go.Proofs.YtipegemhcmfnmaaDoor

/-! Contracts of draws: the source as one state; a choice among numbers, a kind, a fraction. -/
namespace Go.Proofs.YtipegemhcmfnmaaDoor
open Go.RowKit

/-- The source, at most K bytes read. -/
def St (w : World) (b : Nat) (ca : Option Addr) (len cap K : Nat) : Prop := ∃ (k : Nat) (z : Int), k ≤ K ∧ Src w b ca len cap k z ∧ Bys w b ca len
theorem st_lt {w : World} {b : Nat} {ca : Option Addr} {len cap K : Nat} (h : St w b ca len cap K) : b < w.heap.size := by obtain ⟨_, _, _, hs, _⟩ := h; exact src_lt hs
theorem st_below {a w : World} {b : Nat} {ca : Option Addr} {len cap K : Nat} (h : St a b ca len cap K) (hb : Below a.heap.size a w) : St w b ca len cap K := by
  obtain ⟨k, z, hk, hs, hy⟩ := h
  exact ⟨k, z, hk, src_only (src_lt hs) hb hs, bys_only (only_below hb b) hy⟩
theorem st_more {w : World} {b : Nat} {ca : Option Addr} {len cap K L : Nat} (h : St w b ca len cap K) (hl : K ≤ L) : St w b ca len cap L := by
  obtain ⟨k, z, hk, hs, hy⟩ := h
  exact ⟨k, z, by omega, hs, hy⟩
theorem st_set {w : World} {b p o : Nat} {ca : Option Addr} {len cap K : Nat} (h : St w b ca len cap K) (hp : b ≠ p) (hc : ∀ c off, ca = some ⟨c, off, none⟩ → 0 < len → c ≠ p) (u : Value) : St (w.setCell ⟨p, o, none⟩ u) b ca len cap K := by
  obtain ⟨k, z, hk, hs, hy⟩ := h
  refine ⟨k, z, hk, src_set hs hp u, ?_⟩
  rcases hy with hy | ⟨c, off, zs, h1, h2, h3⟩
  · exact .inl hy
  · by_cases h0 : len = 0
    · exact .inl h0
    · refine .inr ⟨c, off, zs, h1, h2, fun i hi => ?_⟩
      obtain ⟨h4, h5⟩ := h3 i hi
      have hcp := hc c off h1 (by omega)
      exact ⟨by rw [World.cell?_setCell_other _ _ _ _ (by simp)]; exact h4, h5⟩
/-- The source of the bytes of an argument, new. -/
theorem st_new {w : World} {ca : Option Addr} {len cap : Nat} (hb : ByI w ca len) : St (w.alloc (.cells #[.slice ca len cap, .int .i64 0, .int .u64 0] 109)) w.heap.size ca len cap 0 :=
  ⟨0, 0, Nat.le_refl _, src_new ca len cap w _, byi_bys hb (Nat.le_refl _) ((Below.refl _ _).alloc (Nat.le_refl _) _)⟩

theorem pickS (b : Nat) (ca : Option Addr) (len cap K : Nat) (n : Int) (w : World) (hs : St w b ca len cap K) (hk : K < 1000000) (hl : len ≤ 5000) (h1 : -1000000000000 ≤ n) (h2 : n ≤ 1000000000000) :
    Calls Tryd.prog 69 #[.pointer (some ⟨b, 0, none⟩), .int .i64 n] w fun e w' => ∃ r : Int, e = .returned (.int .i64 r) ∧ 0 ≤ r ∧ (r < n ∨ r = 0) ∧ St w' b ca len cap (K + 2) ∧ w.grownBy w' (some b) := by
  obtain ⟨k, z, hkk, hs, hy⟩ := hs
  refine (srcPick b ca len cap k z n w hs hy (by omega) hl h1 h2).mono ?_
  rintro e w' ⟨r, z', k', rfl, a1, a2, a3, a4, S, g⟩
  exact ⟨r, rfl, a1, a2, ⟨k', z', by omega, S, bys_only g hy⟩, g⟩
theorem oneS (b : Nat) (ca : Option Addr) (len cap K : Nat) (n : Int) (w : World) (hs : St w b ca len cap K) (hk : K < 1000000) (hl : len ≤ 5000) (h1 : -1000000000000 ≤ n) (h2 : n ≤ 1000000000000) :
    Calls Tryd.prog 104 #[.pointer (some ⟨b, 0, none⟩), .int .i64 n] w fun e w' => ∃ r : Bool, e = .returned (.bool r) ∧ St w' b ca len cap (K + 2) ∧ w.grownBy w' (some b) := by
  obtain ⟨k, z, hkk, hs, hy⟩ := hs
  refine (srcOne b ca len cap k z n w hs hy (by omega) hl h1 h2).mono ?_
  rintro e w' ⟨r, z', k', rfl, a3, a4, S, g⟩
  exact ⟨r, rfl, ⟨k', z', by omega, S, bys_only g hy⟩, g⟩
theorem drawS (b : Nat) (ca : Option Addr) (len cap K : Nat) (M : Int) (w : World) (hs : St w b ca len cap K) (hk : K + 8 < 1000000) (hl : len ≤ 5000) (h1 : 1 ≤ M) (h2 : M ≤ 1000000) :
    Calls Tryd.prog 68 #[.pointer (some ⟨b, 0, none⟩), .int .i64 M] w fun e w' => ∃ n d : Int, e = .returned (.agg #[.int .i64 n, .int .i64 d]) ∧ Sml n d M ∧ St w' b ca len cap (K + 8) ∧ w.grownBy w' (some b) := by
  obtain ⟨k, z, hkk, hs, hy⟩ := hs
  refine (specDraw b ca len cap k z M w hs hy (by omega) hl h1 h2).mono ?_
  rintro e w' ⟨n, d, z', k', rfl, a2, a3, a4, S, g⟩
  exact ⟨n, d, rfl, a2, ⟨k', z', by omega, S, bys_only g hy⟩, g⟩

theorem amongS (b : Nat) (ca : Option Addr) (len cap K g n c : Nat) (xs : List Int) (w : World) (hn : n = xs.length) (hs : St w b ca len cap K) (ha : Ints w g 0 xs) (hg : g ≠ b) (h1 : 1 ≤ xs.length) (h9 : xs.length ≤ 1000) (hk : K < 1000000) (hl : len ≤ 5000) :
    Calls Tryd.prog 70 #[.pointer (some ⟨b, 0, none⟩), .slice (some ⟨g, 0, none⟩) n c] w fun e w' => ∃ v : Int, e = .returned (.int .i64 v) ∧ St w' b ca len cap (K + 2) ∧ w.grownBy w' (some b) := by
  subst hn
  have P := hid (pickS b ca len cap K xs.length w hs hk hl (by omega) (by omega))
  have HA := hid ha
  clear hs ha
  go_enter Tryd.func70, Tryd.ntmps70
  go_wp2_with (fail)
  refine P.out.mono ?_
  rintro e w1 ⟨r, rfl, p1, p2, S1, g1⟩
  have p3 : r < (xs.length : Int) := by omega
  obtain ⟨j, rfl⟩ := Int.eq_ofNat_of_zero_le p1
  obtain ⟨v, hv⟩ : ∃ v, xs[j]? = some v := ⟨_, List.getElem?_eq_getElem (by omega)⟩
  have hc := HA.out j v hv
  rw [Nat.zero_add] at hc
  have hlt : g < w.heap.size := World.block_lt_of_cell? _ _ hc
  have hc1 := (only_cell g1 hlt hg).trans hc
  have HS1 := hid S1
  have HG1 := hid g1
  clear S1 g1 hc hv p2 P HA
  go_wp2_with (fail)
  go_ret
  exact ⟨v, rfl, HS1.out, HG1.out⟩

theorem ints_lit (w : World) (xs : List Int) (t : TypeId) : Ints (w.alloc (.cells (xs.map (Value.int .i64)).toArray t)) w.heap.size 0 xs := fun j x hj => by
  unfold World.cell?
  rw [World.alloc_heap_new]
  simp [hj]
/-- A choice among numbers that are laid for it. -/
theorem amongL (b : Nat) (ca : Option Addr) (len cap K n : Nat) (xs : List Int) (t : TypeId) (w : World) (hn : n = xs.length) (hs : St w b ca len cap K) (h1 : 1 ≤ xs.length) (h9 : xs.length ≤ 1000) (hk : K < 1000000) (hl : len ≤ 5000) :
    Calls Tryd.prog 70 #[.pointer (some ⟨b, 0, none⟩), .slice (some ⟨w.heap.size, 0, none⟩) n n] (w.alloc (.cells (xs.map (Value.int .i64)).toArray t)) fun e w' => ∃ v : Int, e = .returned (.int .i64 v) ∧ St w' b ca len cap (K + 2) ∧ w.grownBy w' (some b) := by
  have hb := st_lt hs
  have A : Below w.heap.size w (w.alloc (.cells (xs.map (Value.int .i64)).toArray t)) := (Below.refl _ _).alloc (Nat.le_refl _) _
  refine (amongS b ca len cap K w.heap.size n n xs _ hn (st_below hs A) (ints_lit w xs t) (by omega) h1 h9 hk hl).mono ?_
  rintro e w' ⟨v, rfl, S, g⟩
  exact ⟨v, rfl, S, only_trans (only_below A b) g⟩

theorem kindD (b : Nat) (ca : Option Addr) (len cap K : Nat) (w : World) (hs : St w b ca len cap K) (hk : K < 900000) (hl : len ≤ 5000) :
    Calls Tryd.prog 71 #[.pointer (some ⟨b, 0, none⟩)] w fun e w' => ∃ v : Int, e = .returned (.int .i64 v) ∧ St w' b ca len cap (K + 4) ∧ w.grownBy w' (some b) := by
  have P := hid (oneS b ca len cap K 12 w hs (by omega) hl (by omega) (by omega))
  clear hs
  go_enter Tryd.func71, Tryd.ntmps71
  go_wp2_with (fail)
  refine P.out.mono ?_
  rintro e w1 ⟨r, rfl, S1, g1⟩
  have HG1 := hid g1
  cases r
  · have Q := hid (pickS b ca len cap (K + 2) 4 w1 S1 (by omega) hl (by omega) (by omega))
    clear S1 g1 P
    go_wp2_with (fail)
    refine Q.out.mono ?_
    rintro e w2 ⟨r, rfl, p1, p2, S2, g2⟩
    have HS2 := hid (st_more S2 (Nat.le_refl _))
    have HG2 := hid (only_trans HG1.out g2)
    clear S2 g2
    go_wp2_with (fail)
    go_ret
    exact ⟨_, rfl, HS2.out, HG2.out⟩
  · have Q := hid (amongL b ca len cap (K + 2) 3 [0, 5, -9223372036854775808] 2 w1 rfl S1 (by decide) (by decide) (by omega) hl)
    clear S1 g1 P
    go_wp2_with (fail)
    refine Q.out.mono ?_
    rintro e w2 ⟨r, rfl, S2, g2⟩
    have HS2 := hid S2
    have HG2 := hid (only_trans HG1.out g2)
    clear S2 g2
    go_wp2_with (fail)
    go_ret
    exact ⟨_, rfl, HS2.out, HG2.out⟩

end Go.Proofs.YtipegemhcmfnmaaDoor

/-! Contract: the draw of a fraction that is seldom not plain. -/
namespace Go.Proofs.YtipegemhcmfnmaaDoor
open Go.RowKit

theorem st_blk {w : World} {b : Nat} {ca : Option Addr} {len cap K : Nat} (h : St w b ca len cap K) : ∀ c off, ca = some ⟨c, off, none⟩ → 0 < len → c < w.heap.size := by
  rintro c off rfl h0
  obtain ⟨_, _, _, _, hy⟩ := h
  rcases hy with hy | ⟨c', off', zs, h1, h2, h3⟩
  · omega
  · obtain ⟨h4, _⟩ := h3 0 h0
    have := World.block_lt_of_cell? _ _ h4
    simp only [Option.some.injEq, Addr.mk.injEq] at h1
    rw [h1.1]; exact this
theorem st_fset {a w : World} {b : Nat} {ca : Option Addr} {len cap K L : Nat} (h0 : St a b ca len cap L) (h : St w b ca len cap K) {p : Nat} (hp : a.heap.size ≤ p) (o : Nat) (u : Value) : St (w.setCell ⟨p, o, none⟩ u) b ca len cap K :=
  st_set h (by have := st_lt h0; omega) (fun c off e hl => by have := st_blk h0 c off e hl; omega) u
theorem fb_only {a w : World} {g p : Nat} {x y : Int} (h : a.grownBy w (some g)) (hn : p ≠ g) (z : FB a p x y) : FB w p x y :=
  (h.block p (fb_lt z) (fun e => hn (by injection e))).trans z
theorem beq_no {a c : Int} (h : ¬ a = c) : (a == c) = false := by simpa using h
/-- Two cells of another block are as they were. -/
theorem other_set {w : World} {p q o : Nat} (h : p ≠ q) (u : Value) (i : Nat) : (w.setCell ⟨p, o, none⟩ u).cell? ⟨q, i, none⟩ = w.cell? ⟨q, i, none⟩ := World.cell?_setCell_other _ _ _ _ (by first | (simp; done) | (simp; intro e; exact absurd e.symm h))

set_option maxRecDepth 100000 in
set_option maxHeartbeats 3200000 in
theorem bentF (b : Nat) (ca : Option Addr) (len cap K : Nat) (w : World) (hs : St w b ca len cap K) (hk : K < 900000) (hl : len ≤ 5000) :
    Calls Tryd.prog 65 #[.pointer (some ⟨b, 0, none⟩)] w fun e w' => ∃ n d : Int, e = .returned (.agg #[.int .i64 n, .int .i64 d]) ∧ St w' b ca len cap (K + 20) ∧ w.grownBy w' (some b) := by
  have HS := hid hs
  have hbl := st_lt hs
  obtain ⟨W0, hW0⟩ : ∃ W0, W0 = w.alloc (.cells #[.int .i64 0, .int .i64 0] 30) := ⟨_, rfl⟩
  have A0 : Below w.heap.size w W0 := by rw [hW0]; exact (Below.refl _ _).alloc (Nat.le_refl _) _
  have F0 := hid (show FB W0 w.heap.size 0 0 by rw [hW0]; exact fb_new w 0 0)
  have hz0 : w.heap.size < W0.heap.size := by rw [hW0]; simp
  have S0 := hid (st_below hs A0)
  have G0 := hid (only_below A0 b)
  have D := hid (drawS b ca len cap K 300 W0 S0.out (by omega) hl (by omega) (by omega))
  clear hs A0
  go_enter Tryd.func65, Tryd.ntmps65
  go_wp2_with (fail)
  try rw [← hW0]
  clear hW0
  refine D.out.mono ?_
  rintro e w1 ⟨n, d, rfl, _, s1, g1⟩
  have hz1 := g1.size
  have A2 : Below w1.heap.size w1 (w1.alloc (.cells #[.int .i64 n, .int .i64 d] 30)) := (Below.refl _ _).alloc (Nat.le_refl _) _
  have G2 := hid (only_trans (only_trans G0.out g1) (only_below A2 b))
  have F2 := hid (fb_below (fb_only g1 (by omega) F0.out) A2)
  have E2 := hid (fb_new w1 n d)
  have P2 := hid (pickS b ca len cap (K + 8) 20 _ (st_below s1 A2) (by omega) hl (by omega) (by omega))
  have hzf : (w1.alloc (.cells #[.int .i64 n, .int .i64 d] 30)).heap.size = w1.heap.size + 1 := by simp
  clear s1 g1 A2 D S0 F0 G0
  go_wp2_with (fail)
  refine P2.out.mono ?_
  rintro e w3 ⟨r, rfl, p1, p2, s3, g3⟩
  have hz3 := g3.size
  rw [hzf] at hz3
  have F3 := hid (fb_only g3 (by omega) F2.out)
  have E3 := hid (fb_only g3 (by omega) E2.out)
  have G3 := hid (only_trans G2.out g3)
  have S3 := hid s3
  clear s3 g3 P2 F2 E2 G2 hzf
  obtain ⟨res, hres⟩ : ∃ res, res = w.heap.size := ⟨_, rfl⟩
  obtain ⟨fb, hfb⟩ : ∃ fb, fb = w1.heap.size := ⟨_, rfl⟩
  try rw [← hfb]
  try rw [← hfb] at E3
  have HF := hid (show w.heap.size < fb ∧ fb < w3.heap.size ∧ b < w.heap.size by omega)
  clear hfb hz0 hz1 hz3 hres res hbl
  by_cases c0 : r = 0
  · have d0 : (r == 0) = true := by simpa using c0
    have Q := hid (amongL b ca len cap (K + 10) 5 [-1000000001, -1000000000, 1000000000, 1000000001, -9223372036854775808] 2 w3 rfl S3.out (by decide) (by decide) (by omega) hl)
    clear c0
    go_wp2_with (fail)
    refine Q.out.mono ?_
    rintro e w4 ⟨v, rfl, s4, g4⟩
    have F4 := hid (fb_only g4 (by have := HF.out; omega) F3.out)
    have E4 := hid (fb_only g4 (by have := HF.out; omega) E3.out)
    have G4 := hid (only_trans G3.out g4)
    have S4 := hid (st_more s4 (show K + 10 + 2 ≤ K + 20 by omega))
    clear s4 g4 Q
    obtain ⟨q0, q1, q2, q3, q4⟩ := fb_cells F4.out
    obtain ⟨k0, k1, k2, k3, k4⟩ := fb_cells E4.out
    have hne : w.heap.size ≠ fb := by have := HF.out; omega
    have hnf : fb ≠ w.heap.size := by have := HF.out; omega
    go_wp2_with (fail)
    obtain ⟨r0, r1⟩ := set_read (x := .int .i64 v) (y := .int .i64 d) ((other_set (o := 0) hnf (.int .i64 v) 0).trans q0) ((other_set (o := 0) hnf (.int .i64 v) 1).trans q1)
    refine bodyPost_ret (v := .agg #[.int .i64 v, .int .i64 d]) (by simp [results, Tryd.results65, go_sem, r0, r1]) rfl ⟨_, _, rfl, st_fset HS.out (st_fset HS.out (st_fset HS.out S4.out (Nat.le_of_lt HF.out.1) _ _) (Nat.le_refl _) _ _) (Nat.le_refl _) _ _, only_set (only_set (only_set G4.out (Nat.le_of_lt HF.out.1) _) (Nat.le_refl _) _) (Nat.le_refl _) _⟩
  have d0 : (r == 0) = false := beq_no c0
  clear c0
  by_cases c1 : r = 1
  · have d1 : (r == 1) = true := by simpa using c1
    have Q := hid (amongL b ca len cap (K + 10) 6 [-1, 0, 1, 1000000000, 1000000001, 9223372036854775807] 2 w3 rfl S3.out (by decide) (by decide) (by omega) hl)
    clear c1
    go_wp2_with (fail)
    refine Q.out.mono ?_
    rintro e w4 ⟨v, rfl, s4, g4⟩
    have F4 := hid (fb_only g4 (by have := HF.out; omega) F3.out)
    have E4 := hid (fb_only g4 (by have := HF.out; omega) E3.out)
    have G4 := hid (only_trans G3.out g4)
    have S4 := hid (st_more s4 (show K + 10 + 2 ≤ K + 20 by omega))
    clear s4 g4 Q
    obtain ⟨q0, q1, q2, q3, q4⟩ := fb_cells F4.out
    obtain ⟨k0, k1, k2, k3, k4⟩ := fb_cells E4.out
    have hne : w.heap.size ≠ fb := by have := HF.out; omega
    have hnf : fb ≠ w.heap.size := by have := HF.out; omega
    go_wp2_with (fail)
    obtain ⟨r0, r1⟩ := set_read (x := .int .i64 n) (y := .int .i64 v) ((other_set (o := 1) hnf (.int .i64 v) 0).trans q0) ((other_set (o := 1) hnf (.int .i64 v) 1).trans q1)
    refine bodyPost_ret (v := .agg #[.int .i64 n, .int .i64 v]) (by simp [results, Tryd.results65, go_sem, r0, r1]) rfl ⟨_, _, rfl, st_fset HS.out (st_fset HS.out (st_fset HS.out S4.out (Nat.le_of_lt HF.out.1) _ _) (Nat.le_refl _) _ _) (Nat.le_refl _) _ _, only_set (only_set (only_set G4.out (Nat.le_of_lt HF.out.1) _) (Nat.le_refl _) _) (Nat.le_refl _) _⟩
  have d1 : (r == 1) = false := beq_no c1
  clear c1
  by_cases c2 : r = 2
  · have d2 : (r == 2) = true := by simpa using c2
    clear c2
    obtain ⟨q0, q1, q2, q3, q4⟩ := fb_cells F3.out
    obtain ⟨k0, k1, k2, k3, k4⟩ := fb_cells E3.out
    have hne : w.heap.size ≠ fb := by have := HF.out; omega
    have hnf : fb ≠ w.heap.size := by have := HF.out; omega
    go_wp2_with (fail)
    obtain ⟨r0, r1⟩ := set_read (x := .int .i64 2) (y := .int .i64 4) q0 q1
    refine bodyPost_ret (v := .agg #[.int .i64 2, .int .i64 4]) (by simp [results, Tryd.results65, go_sem, r0, r1]) rfl ⟨_, _, rfl, st_fset HS.out (st_fset HS.out (st_more S3.out (show K + 10 ≤ K + 20 by omega)) (Nat.le_refl _) _ _) (Nat.le_refl _) _ _, only_set (only_set (G3.out) (Nat.le_refl _) _) (Nat.le_refl _) _⟩
  have d2 : (r == 2) = false := beq_no c2
  clear c2
  by_cases c3 : r = 3
  · have d3 : (r == 3) = true := by simpa using c3
    have Q := hid (pickS b ca len cap (K + 10) 5 w3 S3.out (by omega) hl (by omega) (by omega))
    clear c3
    go_wp2_with (fail)
    refine Q.out.mono ?_
    rintro e w4 ⟨u, rfl, u1, u2, s4, g4⟩
    have u3 : u < 5 := by omega
    have F4 := hid (fb_only g4 (by have := HF.out; omega) F3.out)
    have E4 := hid (fb_only g4 (by have := HF.out; omega) E3.out)
    have G4 := hid (only_trans G3.out g4)
    have Q2 := hid (pickS b ca len cap (K + 12) 5 w4 s4 (by omega) hl (by omega) (by omega))
    clear s4 g4 Q u2
    go_wp2_with (fail)
    refine Q2.out.mono ?_
    rintro e w5 ⟨t, rfl, t1, t2, s5, g5⟩
    have t3 : t < 5 := by omega
    have F5 := hid (fb_only g5 (by have := HF.out; omega) F4.out)
    have E5 := hid (fb_only g5 (by have := HF.out; omega) E4.out)
    have G5 := hid (only_trans G4.out g5)
    have S5 := hid s5
    clear s5 g5 Q2 t2
    go_wp2_with (fail)
    refine (specMake _ _ _ (by omega) (by omega) (by omega) (by omega)).mono ?_
    rintro e w6 ⟨rfl, b6⟩
    have F6 := hid (fb_below F5.out b6)
    have E6 := hid (fb_below E5.out b6)
    have G6 := hid (only_trans G5.out (only_below b6 b))
    have S6 := hid (st_more (st_below S5.out b6) (show K + 14 ≤ K + 20 by omega))
    clear b6
    generalize lowN (1000000000 - u) (1000000000 - t) = X at *
    generalize lowD (1000000000 - u) (1000000000 - t) = Y at *
    obtain ⟨q0, q1, q2, q3, q4⟩ := fb_cells F6.out
    obtain ⟨k0, k1, k2, k3, k4⟩ := fb_cells E6.out
    have hne : w.heap.size ≠ fb := by have := HF.out; omega
    have hnf : fb ≠ w.heap.size := by have := HF.out; omega
    go_wp2_with (fail)
    obtain ⟨r0, r1⟩ := set_read (x := .int .i64 X) (y := .int .i64 Y) ((other_set (o := 1) hnf (.int .i64 Y) 0).trans ((other_set (o := 0) hnf (.int .i64 X) 0).trans q0)) ((other_set (o := 1) hnf (.int .i64 Y) 1).trans ((other_set (o := 0) hnf (.int .i64 X) 1).trans q1))
    refine bodyPost_ret (v := .agg #[.int .i64 X, .int .i64 Y]) (by simp [results, Tryd.results65, go_sem, r0, r1]) rfl ⟨_, _, rfl, st_fset HS.out (st_fset HS.out (st_fset HS.out (st_fset HS.out S6.out (Nat.le_of_lt HF.out.1) _ _) (Nat.le_of_lt HF.out.1) _ _) (Nat.le_refl _) _ _) (Nat.le_refl _) _ _, only_set (only_set (only_set (only_set G6.out (Nat.le_of_lt HF.out.1) _) (Nat.le_of_lt HF.out.1) _) (Nat.le_refl _) _) (Nat.le_refl _) _⟩
  have d3 : (r == 3) = false := beq_no c3
  clear c3
  obtain ⟨q0, q1, q2, q3, q4⟩ := fb_cells F3.out
  obtain ⟨k0, k1, k2, k3, k4⟩ := fb_cells E3.out
  have hne : w.heap.size ≠ fb := by have := HF.out; omega
  have hnf : fb ≠ w.heap.size := by have := HF.out; omega
  go_wp2_with (fail)
  obtain ⟨r0, r1⟩ := set_read (x := .int .i64 n) (y := .int .i64 d) q0 q1
  refine bodyPost_ret (v := .agg #[.int .i64 n, .int .i64 d]) (by simp [results, Tryd.results65, go_sem, r0, r1]) rfl ⟨_, _, rfl, st_fset HS.out (st_fset HS.out (st_more S3.out (show K + 10 ≤ K + 20 by omega)) (Nat.le_refl _) _ _) (Nat.le_refl _) _ _, only_set (only_set (G3.out) (Nat.le_refl _) _) (Nat.le_refl _) _⟩

end Go.Proofs.YtipegemhcmfnmaaDoor

/-! Contract: the draw of a list of terms with signs. -/
namespace Go.Proofs.YtipegemhcmfnmaaDoor
open Go.RowKit

theorem expS_some {n d k : Int} (h : (expS n d k).2 = 0) : 1 ≤ (expS n d k).1.length := by
  unfold expS at h ⊢
  by_cases h0 : codeS n d k = 0
  · rw [if_pos h0] at h ⊢
    rcases sxc_cases k [] 1 n d with h1 | ⟨m, h1, h2⟩
    · rw [h1] at h; cases h
    · rw [h1]; exact (okS_len h2).1
  · rw [if_neg h0] at h; exact absurd h h0
/-- A block of a term with a sign. -/
def GD (w : World) (b : Nat) (p q : Int) : Prop := w.heap[b]? = some (.cells #[.int .i64 p, .int .i64 q] 94 (0, 0))
theorem gd_cells {w : World} {b : Nat} {p q : Int} (h : GD w b p q) : w.cell? ⟨b, 0, none⟩ = some (.int .i64 p) ∧ w.cell? ⟨b, 1, none⟩ = some (.int .i64 q) ∧ w.frozen? ⟨b, 0, none⟩ = false ∧ w.frozen? ⟨b, 1, none⟩ = false ∧ b < w.heap.size := by
  unfold GD at h
  refine ⟨?_, ?_, ?_, ?_, (Array.getElem?_eq_some_iff.1 h).1⟩
  · simp [World.cell?, h]
  · simp [World.cell?, h]
  · simp [World.frozen?, h]
  · simp [World.frozen?, h]
theorem gd_new (w : World) (p q : Int) : GD (w.alloc (.cells #[.int .i64 p, .int .i64 q] 94)) w.heap.size p q := World.alloc_heap_new w _
theorem gd_only {a w : World} {g p : Nat} {x y : Int} (h : a.grownBy w (some g)) (hn : p ≠ g) (z : GD a p x y) : GD w p x y :=
  (h.block p (gd_cells z).2.2.2.2 (fun e => hn (by injection e))).trans z
theorem sown_only {a w : World} {b B g c : Nat} {xs : List (Int × Int)} (h : a.grownBy w (some b)) (hb : b < B) (z : SOwn B a g c xs) : SOwn B w g c xs :=
  ⟨z.1, z.2.kept h (.inr (by simp [Value.ownBlock]; have := z.1; omega))⟩
theorem gset_grown (w : World) (b i : Nat) (x : Value) : w.grownBy (w.setCell ⟨b, i, none⟩ x) (some b) :=
  ⟨rfl, rfl, rfl, by simp, fun k _ hk => by
    have hne : k ≠ b := fun e => hk (by rw [e])
    rw [heap_setCell_other _ ⟨b, i, none⟩ k x hne]⟩
theorem sown_set {w : World} {B g c p i : Nat} {xs : List (Int × Int)} (z : SOwn B w g c xs) (hp : g ≠ p) (x : Value) : SOwn B (w.setCell ⟨p, i, none⟩ x) g c xs :=
  ⟨z.1, z.2.kept (gset_grown w p i x) (.inr (by simp [Value.ownBlock]; omega))⟩
theorem sown_on {w : World} {B g c : Nat} {xs : List (Int × Int)} (z : SOwn B w g c xs) (o : Obj) : SOwn B (w.alloc o) g c xs := ⟨z.1, z.2.alloc o⟩
/-- A list of one element. -/
theorem sown_one {w : World} {B : Nat} (hB : B ≤ w.heap.size) (x : Int × Int) : SOwn B (w.alloc (.cells #[.int .i64 x.1, .int .i64 x.2] 94)) w.heap.size 1 [x] :=
  ⟨hB, World.ownsRow_lit w #[.int .i64 x.1, .int .i64 x.2] 1 hB (by decide) rfl⟩
theorem sown_form {B : Nat} {w : World} {v : Value} {n : Nat} {cs : List Value} {xs : List (Int × Int)} (h : w.ownsRow B 94 2 v n cs) (hn : n = xs.length) (hc : cs = sgCells xs) (h0 : 0 < xs.length) : ∃ g c, v = .slice (some ⟨g, 0, none⟩) xs.length c ∧ SOwn B w g c xs := by
  subst hn hc
  obtain ⟨g, cap, rfl, hg, _⟩ := h.form h0
  exact ⟨g, cap, rfl, hg, h⟩
theorem sg_two (x y : Int) : ∀ u ∈ [Value.int .i64 x, Value.int .i64 y], u.oneCell' = true := by
  intro u hu
  rcases List.mem_cons.1 hu with rfl | hu
  · rfl
  · obtain rfl := List.mem_singleton.1 hu; rfl
theorem nblk_set (w : World) (a : Addr) (v : Value) : (w.setCell a v).heap.size = w.heap.size := by simp [World.setCell]
theorem row_grown {w X Y : World} {b g : Nat} (_hb : b < w.heap.size) (h : w.grownBy X (some b)) (h2 : X.grownBy Y (some g)) (hg : w.heap.size ≤ g) : w.grownBy Y (some b) :=
  ⟨h2.os.trans h.os, h2.tape.trans h.tape, h2.output.trans h.output, Nat.le_trans h.size h2.size, fun i hi hn => (h2.block i (Nat.lt_of_lt_of_le hi h.size) (fun e => by have e2 := Option.some.inj e; omega)).trans (h.block i hi hn)⟩
theorem st_row {w X Y : World} {b g : Nat} {ca : Option Addr} {len cap K L : Nat} (h0 : St w b ca len cap L) (h : St X b ca len cap K) (h2 : X.grownBy Y (some g)) (hg : w.heap.size ≤ g) : St Y b ca len cap K := by
  have hb := st_lt h0
  obtain ⟨k, z, hk, hs, hy⟩ := h
  have hX := src_lt hs
  obtain ⟨s1, s2, s3, s4, s5, s6⟩ := hs
  refine ⟨k, z, hk, ⟨(only_cell h2 hX (by omega)).trans s1, (only_cell h2 hX (by omega)).trans s2, (only_cell h2 hX (by omega)).trans s3, (only_frozen h2 hX (by omega)).trans s4, (only_frozen h2 hX (by omega)).trans s5, (only_frozen h2 hX (by omega)).trans s6⟩, ?_⟩
  rcases hy with hy | ⟨c, off, zs, h3, h4, h5⟩
  · exact .inl hy
  · by_cases hl0 : len = 0
    · exact .inl hl0
    · have hc := st_blk h0 c off h3 (by omega)
      refine .inr ⟨c, off, zs, h3, h4, fun i hi => ?_⟩
      obtain ⟨h6, h7⟩ := h5 i hi
      exact ⟨(only_cell (p := c) h2 (World.block_lt_of_cell? _ _ h6) (Nat.ne_of_lt (Nat.lt_of_lt_of_le hc hg))).trans h6, h7⟩
def LPost (w : World) (b : Nat) (ca : Option Addr) (len cap K : Nat) (e : Ending) (w' : World) : Prop :=
  ∃ (g c : Nat) (xs : List (Int × Int)), e = .returned (.slice (some ⟨g, 0, none⟩) xs.length c) ∧ SOwn w.heap.size w' g c xs ∧ 1 ≤ xs.length ∧ xs.length ≤ 60 ∧ St w' b ca len cap (K + 100) ∧ w.grownBy w' (some b)

set_option maxRecDepth 100000 in
set_option maxHeartbeats 3200000 in
theorem drawL (b : Nat) (ca : Option Addr) (len cap K : Nat) (w : World) (hs : St w b ca len cap K) (hk : K < 900000) (hl : len ≤ 5000) :
    Calls Tryd.prog 91 #[.pointer (some ⟨b, 0, none⟩)] w (LPost w b ca len cap K) := by
  obtain ⟨i0, hi, hz0, hz1, hz2⟩ := info_parts infoG
  have HS := hid hs
  have hbl := st_lt hs
  have P := hid (oneS b ca len cap K 2 w hs (by omega) hl (by omega) (by omega))
  clear hs
  go_enter Tryd.func91, Tryd.ntmps91
  go_wp2_with (fail)
  refine P.out.mono ?_
  rintro e w1 ⟨r, rfl, s1, g1⟩
  clear P
  cases r
  · have SX := hid s1
    have GX := hid g1
    clear s1 g1
    have P1 := hid (pickS b ca len cap (K + 2) 9 _ SX.out (by omega) hl (by omega) (by omega))
    clear SX
    go_wp2_with (fail)
    refine P1.out.mono ?_
    rintro e v1 ⟨r1, rfl, a1, a2, s2, g2⟩
    have a3 : r1 < 9 := by omega
    have A2 : Below v1.heap.size v1 (v1.alloc (.cells #[.int .i64 1, .int .i64 (r1 - 4)] 94)) := (Below.refl _ _).alloc (Nat.le_refl _) _
    have G2 := hid (only_trans (only_trans GX.out g2) (only_below A2 b))
    have hv1 : w.heap.size ≤ v1.heap.size := (only_trans GX.out g2).size
    have O2 := hid (sown_one (B := w.heap.size) hv1 (1, r1 - 4))
    have P2 := hid (pickS b ca len cap (K + 2 + 2) 7 _ (st_below s2 A2) (by omega) hl (by omega) (by omega))
    clear s2 g2 A2 GX P1 a2
    go_wp2_with (fail)
    refine P2.out.mono ?_
    rintro e v2 ⟨r2, rfl, b1, b2, s3, g3⟩
    obtain ⟨k0, rfl⟩ := Int.eq_ofNat_of_zero_le b1
    have hk0 : k0 ≤ 6 := by omega
    have O3 := hid (sown_only g3 hbl O2.out)
    have G3 := hid (only_trans G2.out g3)
    have S3 := hid (st_more s3 (show K + 2 + 2 + 2 ≤ K + 60 - 4 * k0 by omega))
    clear s3 g3 O2 G2 P2 b1 b2
    go_wp2_with (fail)
    go_loopw [7, 8, 9] (fun v u8 _ wr => ∃ (k g c : Nat) (xs : List (Int × Int)), u8 = .int .i64 k ∧ k ≤ 6 ∧ v = .slice (some ⟨g, 0, none⟩) xs.length c ∧ 1 ≤ xs.length ∧ xs.length + k ≤ 7 ∧ Hid (SOwn w.heap.size wr g c xs) ∧ Hid (St wr b ca len cap (K + 60 - 4 * k)) ∧ Hid (w.grownBy wr (some b))) (fun _ u8 _ _ => (RowKit.intOf u8).toNat)
    case atStart => exact ⟨k0, _, _, [(1, r1 - 4)], rfl, hk0, rfl, by simp, by simp; omega, O3, S3, G3⟩
    case round =>
      obtain ⟨k, g, c, xs, rfl, hk6, rfl, hx1, hx2, O4, S4, G4⟩ := hrel
      clear O3 S3 G3
      by_cases hlt : 0 < k
      · have hlt' : (0 : Int) < (k : Int) := by omega
        have hxl : xs.length ≤ 7 := by omega
        have P4 := hid (pickS b ca len cap (K + 60 - 4 * k) 5 _ S4.out (by omega) hl (by omega) (by omega))
        clear S4
        go_wp2_with (fail)
        refine P4.out.mono ?_
        rintro e v4 ⟨r4, rfl, c1, c2, s5, g5⟩
        have c3 : r4 < 5 := by omega
        have A5 : Below v4.heap.size v4 (v4.alloc (.cells #[.int .i64 1, .int .i64 (1 + r4)] 94)) := (Below.refl _ _).alloc (Nat.le_refl _) _
        have O5 := hid (sown_on (sown_only g5 hbl O4.out) (.cells #[.int .i64 1, .int .i64 (1 + r4)] 94))
        have HG := hid (show g < v4.heap.size from sown_lt (sown_only g5 hbl O4.out))
        have G5 := hid (only_trans (only_trans G4.out g5) (only_below A5 b))
        have hv4 : w.heap.size ≤ v4.heap.size := (only_trans G4.out g5).size
        have D5 := hid (gd_new v4 1 (1 + r4))
        have P5 := hid (oneS b ca len cap (K + 60 - 4 * k + 2) 3 _ (st_below s5 A5) (by omega) hl (by omega) (by omega))
        clear s5 g5 A5 O4 G4 P4 c2
        go_wp2_with (fail)
        refine P5.out.mono ?_
        rintro e v5 ⟨q, rfl, s6, g6⟩
        have O6 := hid (sown_only g6 hbl O5.out)
        have G6 := hid (only_trans G5.out g6)
        have D6 := hid (gd_only g6 (by omega) D5.out)
        have hv5 : v4.heap.size < v5.heap.size := (gd_cells D6.out).2.2.2.2
        have S6 := hid (st_more s6 (show K + 60 - 4 * k + 2 + 2 ≤ K + 60 - 4 * (k - 1) by omega))
        have hkk : ((k : Int) - 1) = ((k - 1 : Nat) : Int) := by omega
        have HKK := hid hkk
        clear s6 g6 O5 G5 D5 P5 hkk
        cases q
        · skip
          obtain ⟨e0, e1, e2, e3, e4⟩ := gd_cells D6.out
          have OX := hid (O6.out)
          have SX := hid (S6.out)
          have GX := hid (G6.out)
          clear O6 G6 S6 D6
          go_wp2_with (at_builtin; refine wpList_append_own _ rfl _ _ 24 rfl w.heap.size 94 i0 (.agg #[.int .i64 0, .int .i64 0]) 2 16 Tryd.underlying24 hi hz0 hz1 hz2 rfl (by decide) _ xs.length (sgCells xs) (by rfl) ?c0fa ⟨v5.heap.size, 0, none⟩ 1 1 [.int .i64 1, .int .i64 (1 + r4)] (by rfl) ?c1fa ?c2fa ?c3fa ?c4fa ?c5fa ?c6fa ?c7fa)
          case c0fa => exact OX.out.2.alloc _
          case c1fa => rfl
          case c2fa =>
            have h := snews2 v5 (.int .i64 1) (.int .i64 (1 + r4)) 94
            try rw [nblk_set] at h
            exact h
          case c3fa => exact sg_two _ _
          case c4fa => unfold maxLen; omega
          case c5fa => omega
          case c6fa => (first | omega | (simp <;> omega))
          intro vv w6 hown2 hgrow2 _
          obtain ⟨gg, gc, rfl, O7⟩ := sown_form (xs := xs ++ [(1, 1 + r4)]) hown2 (by simp) (sgCells_more xs (1, 1 + r4)) (by simp)
          have HO7 := hid O7
          have AX : Below (v5).heap.size (v5) ((v5).alloc (.cells #[.int .i64 1, .int .i64 (1 + r4)] 94)) := (Below.refl _ _).alloc (Nat.le_refl _) _
          have G7 := hid (row_grown hbl (only_trans GX.out (only_below AX b)) hgrow2 OX.out.1)
          have S7 := hid (st_row HS.out (st_below SX.out AX) hgrow2 OX.out.1)
          have HL7 := hid (show (xs ++ [(1, 1 + r4)]).length = xs.length + 1 by simp)
          obtain ⟨zs, hzs⟩ : ∃ zs, zs = xs ++ [(1, 1 + r4)] := ⟨_, rfl⟩
          rw [← hzs] at HO7 HL7 ⊢
          clear hown2 hgrow2 O7 hzs AX OX SX GX
          go_wp2_with (fail)
          go_roundw
          case rel => exact ⟨k - 1, gg, gc, zs, by first | (rw [← HKK.out]; done) | (rw [← HKK.out]; go_num), by omega, rfl, by have := HL7.out; omega, by have := HL7.out; omega, HO7, S7, G7⟩
          case measure => simp [RowKit.intOf]; omega
        · skip
          obtain ⟨e0, e1, e2, e3, e4⟩ := gd_cells D6.out
          have OX := hid (sown_set (i := 0) O6.out (Nat.ne_of_lt HG.out) (.int .i64 (-1)))
          have SX := hid (st_fset HS.out S6.out hv4 0 (.int .i64 (-1)))
          have GX := hid (only_set (o := 0) G6.out hv4 (.int .i64 (-1)))
          clear O6 G6 S6 D6
          go_wp2_with (at_builtin; refine wpList_append_own _ rfl _ _ 24 rfl w.heap.size 94 i0 (.agg #[.int .i64 0, .int .i64 0]) 2 16 Tryd.underlying24 hi hz0 hz1 hz2 rfl (by decide) _ xs.length (sgCells xs) (by rfl) ?c0ta ⟨v5.heap.size, 0, none⟩ 1 1 [.int .i64 (-1), .int .i64 (1 + r4)] (by rfl) ?c1ta ?c2ta ?c3ta ?c4ta ?c5ta ?c6ta ?c7ta)
          case c0ta => exact OX.out.2.alloc _
          case c1ta => rfl
          case c2ta =>
            have h := snews2 (v5.setCell ⟨v4.heap.size, 0, none⟩ (.int .i64 (-1))) (.int .i64 (-1)) (.int .i64 (1 + r4)) 94
            try rw [nblk_set] at h
            exact h
          case c3ta => exact sg_two _ _
          case c4ta => unfold maxLen; omega
          case c5ta => omega
          case c6ta => (first | omega | (simp <;> omega))
          intro vv w6 hown2 hgrow2 _
          obtain ⟨gg, gc, rfl, O7⟩ := sown_form (xs := xs ++ [((-1), 1 + r4)]) hown2 (by simp) (sgCells_more xs ((-1), 1 + r4)) (by simp)
          have HO7 := hid O7
          have AX : Below ((v5.setCell ⟨v4.heap.size, 0, none⟩ (.int .i64 (-1)))).heap.size ((v5.setCell ⟨v4.heap.size, 0, none⟩ (.int .i64 (-1)))) (((v5.setCell ⟨v4.heap.size, 0, none⟩ (.int .i64 (-1)))).alloc (.cells #[.int .i64 (-1), .int .i64 (1 + r4)] 94)) := (Below.refl _ _).alloc (Nat.le_refl _) _
          have G7 := hid (row_grown hbl (only_trans GX.out (only_below AX b)) hgrow2 OX.out.1)
          have S7 := hid (st_row HS.out (st_below SX.out AX) hgrow2 OX.out.1)
          have HL7 := hid (show (xs ++ [((-1), 1 + r4)]).length = xs.length + 1 by simp)
          obtain ⟨zs, hzs⟩ : ∃ zs, zs = xs ++ [((-1), 1 + r4)] := ⟨_, rfl⟩
          rw [← hzs] at HO7 HL7 ⊢
          clear hown2 hgrow2 O7 hzs AX OX SX GX
          go_wp2_with (fail)
          go_roundw
          case rel => exact ⟨k - 1, gg, gc, zs, by first | (rw [← HKK.out]; done) | (rw [← HKK.out]; go_num), by omega, rfl, by have := HL7.out; omega, by have := HL7.out; omega, HO7, S7, G7⟩
          case measure => simp [RowKit.intOf]; omega
      · have hlt' : ¬ (0 : Int) < (k : Int) := by omega
        have S8 := hid (st_more S4.out (show K + 60 - 4 * k ≤ K + 100 by omega))
        go_wp2_with (fail)
        go_ret
        exact ⟨g, c, xs, rfl, O4.out, hx1, by omega, S8.out, G4.out⟩
  · have D := hid (drawS b ca len cap (K + 2) 200 w1 s1 (by omega) hl (by omega) (by omega))
    have G1 := hid g1
    clear s1 g1
    go_wp2_with (fail)
    refine D.out.mono ?_
    rintro e w2 ⟨n, d, rfl, _, s2, g2⟩
    have A3 : Below w2.heap.size w2 (w2.alloc (.cells #[.int .i64 n, .int .i64 d] 30)) := (Below.refl _ _).alloc (Nat.le_refl _) _
    have G3 := hid (only_trans (only_trans G1.out g2) (only_below A3 b))
    have F3 := hid (fb_new w2 n d)
    have hbw2 : b < w2.heap.size := st_lt s2
    have P3 := hid (pickS b ca len cap (K + 2 + 8) 4 _ (st_below s2 A3) (by omega) hl (by omega) (by omega))
    clear s2 g2 A3 D G1
    go_wp2_with (fail)
    refine P3.out.mono ?_
    rintro e w3 ⟨r3, rfl, a1, a2, s4, g4⟩
    have a3 : r3 < 4 := by omega
    have F4 := hid (fb_only g4 (by omega) F3.out)
    have G4 := hid (only_trans G3.out g4)
    have X := hid (specExpandS n d (1 + r3) w3)
    have HN := hid (expS_some (n := n) (d := d) (k := 1 + r3))
    have HM := hid (expS_len n d (1 + r3))
    have S4 := hid s4
    obtain ⟨q0, q1, q2, q3, q4⟩ := fb_cells F4.out
    clear s4 g4 P3 a2 G3 F3 F4
    generalize expS n d (1 + r3) = rr at *
    obtain ⟨ys, cd⟩ := rr
    go_wp2_with (fail)
    refine X.out.mono ?_
    rintro e w4 ⟨⟨v, rfl, rb⟩, b4⟩
    have RB := hid rb
    have GX := hid (only_trans G4.out (only_below b4 b))
    have SX := hid (st_more (st_below S4.out b4) (show K + 2 + 8 + 2 ≤ K + 12 by omega))
    have hw3 : w.heap.size ≤ w3.heap.size := G4.out.size
    clear rb b4 X G4 S4 q0 q1 q2 q3 q4
    try dsimp only
    by_cases hcd : cd = 0
    · have hc1 : (cd == 0) = true := by simpa using hcd
      have hy1 := HN.out hcd
      try dsimp only at hy1
      obtain ⟨g, c, rfl, O⟩ : ∃ g c, v = .slice (some ⟨g, 0, none⟩) ys.length c ∧ SOwn w3.heap.size w4 g c ys := by
        rcases RB.out with ⟨_, h0⟩ | h
        · dsimp only at h0; rw [h0] at hy1; simp at hy1
        · exact h
      have HO := hid (sown_mono O hw3)
      have S9 := hid (st_more SX.out (show K + 12 ≤ K + 100 by omega))
      clear hcd O RB
      go_wp2_with (fail)
      go_ret
      exact ⟨g, c, ys, rfl, HO.out, hy1, HM.out, S9.out, GX.out⟩
    · have hc1 : (cd == 0) = false := by simpa using hcd
      clear hcd RB HN HM
      have P1 := hid (pickS b ca len cap (K + 12) 9 _ SX.out (by omega) hl (by omega) (by omega))
      clear SX
      go_wp2_with (fail)
      refine P1.out.mono ?_
      rintro e v1 ⟨r1, rfl, a1, a2, s2, g2⟩
      have a3 : r1 < 9 := by omega
      have A2 : Below v1.heap.size v1 (v1.alloc (.cells #[.int .i64 1, .int .i64 (r1 - 4)] 94)) := (Below.refl _ _).alloc (Nat.le_refl _) _
      have G2 := hid (only_trans (only_trans GX.out g2) (only_below A2 b))
      have hv1 : w.heap.size ≤ v1.heap.size := (only_trans GX.out g2).size
      have O2 := hid (sown_one (B := w.heap.size) hv1 (1, r1 - 4))
      have P2 := hid (pickS b ca len cap (K + 12 + 2) 7 _ (st_below s2 A2) (by omega) hl (by omega) (by omega))
      clear s2 g2 A2 GX P1 a2
      go_wp2_with (fail)
      refine P2.out.mono ?_
      rintro e v2 ⟨r2, rfl, b1, b2, s3, g3⟩
      obtain ⟨k0, rfl⟩ := Int.eq_ofNat_of_zero_le b1
      have hk0 : k0 ≤ 6 := by omega
      have O3 := hid (sown_only g3 hbl O2.out)
      have G3 := hid (only_trans G2.out g3)
      have S3 := hid (st_more s3 (show K + 12 + 2 + 2 ≤ K + 60 - 4 * k0 by omega))
      clear s3 g3 O2 G2 P2 b1 b2
      go_wp2_with (fail)
      go_loopw [7, 8, 9] (fun v u8 _ wr => ∃ (k g c : Nat) (xs : List (Int × Int)), u8 = .int .i64 k ∧ k ≤ 6 ∧ v = .slice (some ⟨g, 0, none⟩) xs.length c ∧ 1 ≤ xs.length ∧ xs.length + k ≤ 7 ∧ Hid (SOwn w.heap.size wr g c xs) ∧ Hid (St wr b ca len cap (K + 60 - 4 * k)) ∧ Hid (w.grownBy wr (some b))) (fun _ u8 _ _ => (RowKit.intOf u8).toNat)
      case atStart => exact ⟨k0, _, _, [(1, r1 - 4)], rfl, hk0, rfl, by simp, by simp; omega, O3, S3, G3⟩
      case round =>
        obtain ⟨k, g, c, xs, rfl, hk6, rfl, hx1, hx2, O4, S4, G4⟩ := hrel
        clear O3 S3 G3
        by_cases hlt : 0 < k
        · have hlt' : (0 : Int) < (k : Int) := by omega
          have hxl : xs.length ≤ 7 := by omega
          have P4 := hid (pickS b ca len cap (K + 60 - 4 * k) 5 _ S4.out (by omega) hl (by omega) (by omega))
          clear S4
          go_wp2_with (fail)
          refine P4.out.mono ?_
          rintro e v4 ⟨r4, rfl, c1, c2, s5, g5⟩
          have c3 : r4 < 5 := by omega
          have A5 : Below v4.heap.size v4 (v4.alloc (.cells #[.int .i64 1, .int .i64 (1 + r4)] 94)) := (Below.refl _ _).alloc (Nat.le_refl _) _
          have O5 := hid (sown_on (sown_only g5 hbl O4.out) (.cells #[.int .i64 1, .int .i64 (1 + r4)] 94))
          have HG := hid (show g < v4.heap.size from sown_lt (sown_only g5 hbl O4.out))
          have G5 := hid (only_trans (only_trans G4.out g5) (only_below A5 b))
          have hv4 : w.heap.size ≤ v4.heap.size := (only_trans G4.out g5).size
          have D5 := hid (gd_new v4 1 (1 + r4))
          have P5 := hid (oneS b ca len cap (K + 60 - 4 * k + 2) 3 _ (st_below s5 A5) (by omega) hl (by omega) (by omega))
          clear s5 g5 A5 O4 G4 P4 c2
          go_wp2_with (fail)
          refine P5.out.mono ?_
          rintro e v5 ⟨q, rfl, s6, g6⟩
          have O6 := hid (sown_only g6 hbl O5.out)
          have G6 := hid (only_trans G5.out g6)
          have D6 := hid (gd_only g6 (by omega) D5.out)
          have hv5 : v4.heap.size < v5.heap.size := (gd_cells D6.out).2.2.2.2
          have S6 := hid (st_more s6 (show K + 60 - 4 * k + 2 + 2 ≤ K + 60 - 4 * (k - 1) by omega))
          have hkk : ((k : Int) - 1) = ((k - 1 : Nat) : Int) := by omega
          have HKK := hid hkk
          clear s6 g6 O5 G5 D5 P5 hkk
          cases q
          · skip
            obtain ⟨e0, e1, e2, e3, e4⟩ := gd_cells D6.out
            have OX := hid (O6.out)
            have SX := hid (S6.out)
            have GX := hid (G6.out)
            clear O6 G6 S6 D6
            go_wp2_with (at_builtin; refine wpList_append_own _ rfl _ _ 24 rfl w.heap.size 94 i0 (.agg #[.int .i64 0, .int .i64 0]) 2 16 Tryd.underlying24 hi hz0 hz1 hz2 rfl (by decide) _ xs.length (sgCells xs) (by rfl) ?c0fb ⟨v5.heap.size, 0, none⟩ 1 1 [.int .i64 1, .int .i64 (1 + r4)] (by rfl) ?c1fb ?c2fb ?c3fb ?c4fb ?c5fb ?c6fb ?c7fb)
            case c0fb => exact OX.out.2.alloc _
            case c1fb => rfl
            case c2fb =>
              have h := snews2 v5 (.int .i64 1) (.int .i64 (1 + r4)) 94
              try rw [nblk_set] at h
              exact h
            case c3fb => exact sg_two _ _
            case c4fb => unfold maxLen; omega
            case c5fb => omega
            case c6fb => (first | omega | (simp <;> omega))
            intro vv w6 hown2 hgrow2 _
            obtain ⟨gg, gc, rfl, O7⟩ := sown_form (xs := xs ++ [(1, 1 + r4)]) hown2 (by simp) (sgCells_more xs (1, 1 + r4)) (by simp)
            have HO7 := hid O7
            have AX : Below (v5).heap.size (v5) ((v5).alloc (.cells #[.int .i64 1, .int .i64 (1 + r4)] 94)) := (Below.refl _ _).alloc (Nat.le_refl _) _
            have G7 := hid (row_grown hbl (only_trans GX.out (only_below AX b)) hgrow2 OX.out.1)
            have S7 := hid (st_row HS.out (st_below SX.out AX) hgrow2 OX.out.1)
            have HL7 := hid (show (xs ++ [(1, 1 + r4)]).length = xs.length + 1 by simp)
            obtain ⟨zs, hzs⟩ : ∃ zs, zs = xs ++ [(1, 1 + r4)] := ⟨_, rfl⟩
            rw [← hzs] at HO7 HL7 ⊢
            clear hown2 hgrow2 O7 hzs AX OX SX GX
            go_wp2_with (fail)
            go_roundw
            case rel => exact ⟨k - 1, gg, gc, zs, by first | (rw [← HKK.out]; done) | (rw [← HKK.out]; go_num), by omega, rfl, by have := HL7.out; omega, by have := HL7.out; omega, HO7, S7, G7⟩
            case measure => simp [RowKit.intOf]; omega
          · skip
            obtain ⟨e0, e1, e2, e3, e4⟩ := gd_cells D6.out
            have OX := hid (sown_set (i := 0) O6.out (Nat.ne_of_lt HG.out) (.int .i64 (-1)))
            have SX := hid (st_fset HS.out S6.out hv4 0 (.int .i64 (-1)))
            have GX := hid (only_set (o := 0) G6.out hv4 (.int .i64 (-1)))
            clear O6 G6 S6 D6
            go_wp2_with (at_builtin; refine wpList_append_own _ rfl _ _ 24 rfl w.heap.size 94 i0 (.agg #[.int .i64 0, .int .i64 0]) 2 16 Tryd.underlying24 hi hz0 hz1 hz2 rfl (by decide) _ xs.length (sgCells xs) (by rfl) ?c0tb ⟨v5.heap.size, 0, none⟩ 1 1 [.int .i64 (-1), .int .i64 (1 + r4)] (by rfl) ?c1tb ?c2tb ?c3tb ?c4tb ?c5tb ?c6tb ?c7tb)
            case c0tb => exact OX.out.2.alloc _
            case c1tb => rfl
            case c2tb =>
              have h := snews2 (v5.setCell ⟨v4.heap.size, 0, none⟩ (.int .i64 (-1))) (.int .i64 (-1)) (.int .i64 (1 + r4)) 94
              try rw [nblk_set] at h
              exact h
            case c3tb => exact sg_two _ _
            case c4tb => unfold maxLen; omega
            case c5tb => omega
            case c6tb => (first | omega | (simp <;> omega))
            intro vv w6 hown2 hgrow2 _
            obtain ⟨gg, gc, rfl, O7⟩ := sown_form (xs := xs ++ [((-1), 1 + r4)]) hown2 (by simp) (sgCells_more xs ((-1), 1 + r4)) (by simp)
            have HO7 := hid O7
            have AX : Below ((v5.setCell ⟨v4.heap.size, 0, none⟩ (.int .i64 (-1)))).heap.size ((v5.setCell ⟨v4.heap.size, 0, none⟩ (.int .i64 (-1)))) (((v5.setCell ⟨v4.heap.size, 0, none⟩ (.int .i64 (-1)))).alloc (.cells #[.int .i64 (-1), .int .i64 (1 + r4)] 94)) := (Below.refl _ _).alloc (Nat.le_refl _) _
            have G7 := hid (row_grown hbl (only_trans GX.out (only_below AX b)) hgrow2 OX.out.1)
            have S7 := hid (st_row HS.out (st_below SX.out AX) hgrow2 OX.out.1)
            have HL7 := hid (show (xs ++ [((-1), 1 + r4)]).length = xs.length + 1 by simp)
            obtain ⟨zs, hzs⟩ : ∃ zs, zs = xs ++ [((-1), 1 + r4)] := ⟨_, rfl⟩
            rw [← hzs] at HO7 HL7 ⊢
            clear hown2 hgrow2 O7 hzs AX OX SX GX
            go_wp2_with (fail)
            go_roundw
            case rel => exact ⟨k - 1, gg, gc, zs, by first | (rw [← HKK.out]; done) | (rw [← HKK.out]; go_num), by omega, rfl, by have := HL7.out; omega, by have := HL7.out; omega, HO7, S7, G7⟩
            case measure => simp [RowKit.intOf]; omega
        · have hlt' : ¬ (0 : Int) < (k : Int) := by omega
          have S8 := hid (st_more S4.out (show K + 60 - 4 * k ≤ K + 100 by omega))
          go_wp2_with (fail)
          go_ret
          exact ⟨g, c, xs, rfl, O4.out, hx1, by omega, S8.out, G4.out⟩

end Go.Proofs.YtipegemhcmfnmaaDoor

/-! Contract: the draw of a list of terms with signs that is seldom not valid. -/
namespace Go.Proofs.YtipegemhcmfnmaaDoor
open Go.RowKit

theorem set_same {α : Type} (l : List α) (i : Nat) (a : α) (h : l[i]? = some a) : l.set i a = l := by
  refine List.ext_getElem? fun j => ?_
  by_cases hj : j = i
  · subst hj
    have hl : j < l.length := (List.getElem?_eq_some_iff.1 h).1
    rw [List.getElem?_set_self hl, h]
  · rw [List.getElem?_set_ne (fun e => hj e.symm)]
theorem sg_set0 {xs : List (Int × Int)} {j : Nat} {p q : Int} (h : xs[j]? = some (p, q)) (v : Int) : (sgCells xs).set (j * 2) (.int .i64 v) = sgCells (xs.set j (v, q)) := by
  rw [sgCells_set]
  refine (set_same _ (j * 2 + 1) _ ?_).symm
  rw [List.getElem?_set_ne (by omega)]
  exact (sgCells_at h).2
theorem sg_set1 {xs : List (Int × Int)} {j : Nat} {p q : Int} (h : xs[j]? = some (p, q)) (v : Int) : (sgCells xs).set (j * 2 + 1) (.int .i64 v) = sgCells (xs.set j (p, v)) := by
  rw [sgCells_set, set_same (sgCells xs) (j * 2) _ (sgCells_at h).1]
theorem sown_put {w : World} {B g c : Nat} {xs ys : List (Int × Int)} (z : SOwn B w g c xs) (i : Nat) (v : Value) (hl : ys.length = xs.length) (h : (sgCells xs).set i v = sgCells ys) (_hv : v.oneCell' = true) : SOwn B (w.setCell ⟨g, i, none⟩ v) g c ys := by
  have h1 := (z.2.stored i v).1
  rw [h, ← hl] at h1
  exact ⟨z.1, h1⟩
/-- The list's own block takes a store: the source stands. -/
theorem st_put {w X : World} {b : Nat} {ca : Option Addr} {len cap K L : Nat} (h0 : St w b ca len cap L) (h : St X b ca len cap K) {g : Nat} (hg : w.heap.size ≤ g) (i : Nat) (v : Value) : St (X.setCell ⟨g, i, none⟩ v) b ca len cap K := st_fset h0 h hg i v
def BPost (w : World) (b : Nat) (ca : Option Addr) (len cap K : Nat) (e : Ending) (w' : World) : Prop :=
  ∃ (g c : Nat) (xs : List (Int × Int)), e = .returned (.slice (some ⟨g, 0, none⟩) xs.length c) ∧ SOwn w.heap.size w' g c xs ∧ xs.length ≤ 61 ∧ St w' b ca len cap (K + 200) ∧ w.grownBy w' (some b)

set_option maxRecDepth 100000 in
set_option maxHeartbeats 3200000 in
theorem bentL (b : Nat) (ca : Option Addr) (len cap K : Nat) (w : World) (hs : St w b ca len cap K) (hk : K < 900000) (hl : len ≤ 5000) :
    Calls Tryd.prog 56 #[.pointer (some ⟨b, 0, none⟩)] w (BPost w b ca len cap K) := by
  obtain ⟨i0, hi, hz0, hz1, hz2⟩ := info_parts infoG
  have HS := hid hs
  have hbl := st_lt hs
  have D := hid (drawL b ca len cap K w hs hk hl)
  clear hs
  go_enter Tryd.func56, Tryd.ntmps56
  go_wp2_with (fail)
  refine D.out.mono ?_
  rintro e w1 ⟨g, c, xs, rfl, O1, hx1, hx2, s1, g1⟩
  have HO1 := hid O1
  have G1 := hid g1
  have P1 := hid (pickS b ca len cap (K + 100) xs.length w1 s1 (by omega) hl (by omega) (by omega))
  clear O1 s1 g1 D
  go_wp2_with (fail)
  refine P1.out.mono ?_
  rintro e w2 ⟨r, rfl, a1, a2, s2, g2⟩
  have a3 : r < (xs.length : Int) := by omega
  obtain ⟨j, rfl⟩ := Int.eq_ofNat_of_zero_le a1
  obtain ⟨⟨p, q⟩, hxj⟩ : ∃ x, xs[j]? = some x := ⟨_, List.getElem?_eq_getElem (by omega)⟩
  have HXJ := hid hxj
  have O2 := hid (sown_only g2 hbl HO1.out)
  have G2 := hid (only_trans G1.out g2)
  have P2 := hid (pickS b ca len cap (K + 100 + 2) 24 w2 s2 (by omega) hl (by omega) (by omega))
  clear s2 g2 hxj HO1 G1 P1 a2
  go_wp2_with (fail)
  refine P2.out.mono ?_
  rintro e w3 ⟨t, rfl, b1, b2, s3, g3⟩
  have O3 := hid (sown_only g3 hbl O2.out)
  have G3 := hid (only_trans G2.out g3)
  have S3 := hid (st_more s3 (show K + 100 + 2 + 2 ≤ K + 104 by omega))
  have hj : j < xs.length := by omega
  have HG := hid (show w.heap.size ≤ g from O3.out.1)
  clear s3 g3 O2 G2 P2
  by_cases c0 : t = 0
  · have d0 : (t == 0) = true := by simpa using c0
    have Q := hid (amongL b ca len cap (K + 104) 4 [0, 2, -1, -9223372036854775808] 2 w3 rfl S3.out (by decide) (by decide) (by omega) hl)
    clear c0 S3
    go_wp2_with (fail)
    refine Q.out.mono ?_
    rintro e w4 ⟨v, rfl, s4, g4⟩
    have O4 := hid (sown_only g4 hbl O3.out)
    have G4 := hid (only_trans G3.out g4)
    have S4 := hid (st_more s4 (show K + 104 + 2 ≤ K + 200 by omega))
    have hf0 : w4.frozen? ⟨g, j * 2, none⟩ = false := O4.out.2.frozenAt (j * 2)
    obtain ⟨k0, k1⟩ := sown_cells O4.out HXJ.out
    dsimp only at k0 k1
    clear s4 g4 Q O3 G3
    have O5 := hid (sown_put (ys := xs.set j (v, q)) O4.out (j * 2) (.int .i64 v) (List.length_set ..) (sg_set0 HXJ.out v) rfl)
    have S5 := hid (st_fset HS.out S4.out HG.out (j * 2) (.int .i64 v))
    have G5 := hid (only_set (o := j * 2) G4.out HG.out (.int .i64 v))
    have HL := hid (show (xs.set j (v, q)).length = xs.length from List.length_set ..)
    obtain ⟨zs, hzs⟩ : ∃ zs, zs = xs.set j (v, q) := ⟨_, rfl⟩
    rw [← hzs] at O5 HL
    clear hzs
    go_wp2_with (fail)
    go_ret
    exact ⟨g, c, zs, by rw [HL.out]; rfl, O5.out, by rw [HL.out]; omega, S5.out, G5.out⟩
  have d0 : (t == 0) = false := beq_no c0
  clear c0
  by_cases c1 : t = 1
  · have d1 : (t == 1) = true := by simpa using c1
    have Q := hid (amongL b ca len cap (K + 104) 6 [-1000000001, -1000000000, 0, 1000000000, 1000000001, -9223372036854775808] 2 w3 rfl S3.out (by decide) (by decide) (by omega) hl)
    clear c1 S3
    go_wp2_with (fail)
    refine Q.out.mono ?_
    rintro e w4 ⟨v, rfl, s4, g4⟩
    have O4 := hid (sown_only g4 hbl O3.out)
    have G4 := hid (only_trans G3.out g4)
    have S4 := hid (st_more s4 (show K + 104 + 2 ≤ K + 200 by omega))
    have hf0 : w4.frozen? ⟨g, j * 2 + 1, none⟩ = false := O4.out.2.frozenAt (j * 2 + 1)
    obtain ⟨k0, k1⟩ := sown_cells O4.out HXJ.out
    dsimp only at k0 k1
    clear s4 g4 Q O3 G3
    have O5 := hid (sown_put (ys := xs.set j (p, v)) O4.out (j * 2 + 1) (.int .i64 v) (List.length_set ..) (sg_set1 HXJ.out v) rfl)
    have S5 := hid (st_fset HS.out S4.out HG.out (j * 2 + 1) (.int .i64 v))
    have G5 := hid (only_set (o := j * 2 + 1) G4.out HG.out (.int .i64 v))
    have HL := hid (show (xs.set j (p, v)).length = xs.length from List.length_set ..)
    obtain ⟨zs, hzs⟩ : ∃ zs, zs = xs.set j (p, v) := ⟨_, rfl⟩
    rw [← hzs] at O5 HL
    clear hzs
    go_wp2_with (fail)
    go_ret
    exact ⟨g, c, zs, by rw [HL.out]; rfl, O5.out, by rw [HL.out]; omega, S5.out, G5.out⟩
  have d1 : (t == 1) = false := beq_no c1
  clear c1
  have A3 : Below w3.heap.size w3 (w3.alloc (.cells #[] 94)) := (Below.refl _ _).alloc (Nat.le_refl _) _
  have hw3 : w.heap.size ≤ w3.heap.size := G3.out.size
  have ON := hid (show SOwn w.heap.size (w3.alloc (.cells #[] 94)) w3.heap.size 0 [] from ⟨hw3, World.ownsRow_lit w3 #[] 0 hw3 (by decide) rfl⟩)
  have GN := hid (only_trans G3.out (only_below A3 b))
  have SN := hid (st_below S3.out A3)
  clear A3
  by_cases c2 : t = 2
  · have d2 : (t == 2) = true := by simpa using c2
    have S9 := hid (st_more SN.out (show K + 104 ≤ K + 200 by omega))
    clear c2
    go_wp2_with (fail)
    go_ret
    exact ⟨_, _, [], rfl, ON.out, by simp, S9.out, GN.out⟩
  have d2 : (t == 2) = false := beq_no c2
  clear c2
  by_cases c3 : t = 3
  · have d3 : (t == 3) = true := by simpa using c3
    have P4 := hid (pickS b ca len cap (K + 104) 2 _ SN.out (by omega) hl (by omega) (by omega))
    clear c3 S3 G3 O3
    go_wp2_with (fail)
    refine P4.out.mono ?_
    rintro e w4 ⟨u, rfl, u1, u2, s4, g4⟩
    obtain ⟨k0, hk0⟩ := Int.eq_ofNat_of_zero_le (show 0 ≤ 60 + u by omega)
    have hk1 : k0 ≤ 61 := by omega
    have O4 := hid (sown_only g4 hbl ON.out)
    have G4 := hid (only_trans GN.out g4)
    have S4 := hid (st_more s4 (show K + 104 + 2 ≤ K + 200 by omega))
    clear s4 g4 P4 ON GN SN
    go_wp2_with (fail)
    try rw [hk0]
    clear hk0
    go_loopw [5, 6] (fun v u6 wr => ∃ (k g c : Nat) (ys : List (Int × Int)), u6 = .int .i64 k ∧ v = .slice (some ⟨g, 0, none⟩) ys.length c ∧ ys.length + k ≤ 61 ∧ Hid (SOwn w.heap.size wr g c ys) ∧ Hid (St wr b ca len cap (K + 200)) ∧ Hid (w.grownBy wr (some b))) (fun _ u6 _ => (RowKit.intOf u6).toNat)
    case atStart => exact ⟨k0, _, _, [], by first | rfl | (simp; omega), rfl, by simpa using hk1, O4, S4, G4⟩
    case round =>
      obtain ⟨k, g, c, ys, rfl, rfl, hx9, O5, S5, G5⟩ := hrel
      clear O4 S4 G4
      have hwr : w.heap.size ≤ wr.heap.size := G5.out.size
      by_cases hlt : 0 < k
      · have hlt' : (0 : Int) < (k : Int) := by omega
        have hxl : ys.length ≤ 61 := by omega
        have HKK := hid (show ((k : Int) - 1) = ((k - 1 : Nat) : Int) by omega)
        go_wp2_with (at_builtin; refine wpList_append_own _ rfl _ _ 24 rfl w.heap.size 94 i0 (.agg #[.int .i64 0, .int .i64 0]) 2 16 Tryd.underlying24 hi hz0 hz1 hz2 rfl (by decide) _ ys.length (sgCells ys) (by rfl) ?c0 ⟨wr.heap.size, 0, none⟩ 1 1 [.int .i64 1, .int .i64 1] (by rfl) ?c1 ?c2 ?c3 ?c4 ?c5 ?c6 ?c7)
        case c0 => exact O5.out.2.alloc _
        case c1 => rfl
        case c2 => exact snews2 _ _ _ _
        case c3 => exact sg_two _ _
        case c4 => unfold maxLen; omega
        case c5 => omega
        case c6 => (first | omega | (simp <;> omega))
        intro vv w6 hown2 hgrow2 _
        obtain ⟨gg, gc, rfl, O7⟩ := sown_form (xs := ys ++ [(1, 1)]) hown2 (by simp) (sgCells_more ys (1, 1)) (by simp)
        have HO7 := hid O7
        have AX : Below wr.heap.size wr (wr.alloc (.cells #[.int .i64 1, .int .i64 1] 94)) := (Below.refl _ _).alloc (Nat.le_refl _) _
        have G7 := hid (row_grown hbl (only_trans G5.out (only_below AX b)) hgrow2 O5.out.1)
        have S7 := hid (st_row HS.out (st_below S5.out AX) hgrow2 O5.out.1)
        have HL7 := hid (show (ys ++ [(1, 1)]).length = ys.length + 1 by simp)
        obtain ⟨zs, hzs⟩ : ∃ zs : List (Int × Int), zs = ys ++ [(1, 1)] := ⟨_, rfl⟩
        rw [← hzs] at HO7 HL7 ⊢
        clear hown2 hgrow2 O7 hzs AX O5 S5 G5
        go_wp2_with (fail)
        go_roundw
        case rel => exact ⟨k - 1, gg, gc, zs, by first | (rw [← HKK.out]; done) | (rw [← HKK.out]; go_num), rfl, by have := HL7.out; omega, HO7, S7, G7⟩
        case measure => simp [RowKit.intOf]; omega
      · have hlt' : ¬ (0 : Int) < (k : Int) := by omega
        go_wp2_with (fail)
        go_ret
        exact ⟨g, c, ys, rfl, O5.out, by omega, S5.out, G5.out⟩
  have d3 : (t == 3) = false := beq_no c3
  clear c3
  have S9 := hid (st_more S3.out (show K + 104 ≤ K + 200 by omega))
  go_wp2_with (fail)
  go_ret
  exact ⟨g, c, xs, rfl, O3.out, by omega, S9.out, G3.out⟩

end Go.Proofs.YtipegemhcmfnmaaDoor

/-! Contracts: what the laws of chapter 4 draw out of bytes. -/
namespace Go.Proofs.YtipegemhcmfnmaaDoor
open Go.RowKit

theorem below_from {w W0 w' : World} {b : Nat} (h : Below w.heap.size w W0) (g : W0.grownBy w' (some b)) (hb : w.heap.size ≤ b) : Below w.heap.size w w' :=
  h.grown g h.size (fun k hk => by have e := Option.some.inj hk; omega)
theorem own_only {a w : World} {b B g c : Nat} {xs : List Int} (h : a.grownBy w (some b)) (hb : b < B) (z : Own B a g c xs) : Own B w g c xs :=
  ⟨z.1, z.2.kept h (.inr (by simp [Value.ownBlock]; have := z.1; omega))⟩
theorem own_form {B : Nat} {w : World} {v : Value} {n : Nat} {cs : List Value} {xs : List Int} (h : w.ownsRow B 2 1 v n cs) (hn : n = xs.length) (hc : cs = intCells xs) (h0 : 0 < xs.length) : ∃ g c, v = .slice (some ⟨g, 0, none⟩) xs.length c ∧ Own B w g c xs := by
  subst hn hc
  obtain ⟨g, cap, rfl, hg, _⟩ := h.form h0
  exact ⟨g, cap, rfl, hg, h⟩
theorem own_less {A B : Nat} {w : World} {g c : Nat} {xs : List Int} (h : Own B w g c xs) (hA : A ≤ B) : Own A w g c xs := ⟨Nat.le_trans hA h.1, by
  obtain ⟨h1, h2⟩ := h.2
  refine ⟨h1, ?_⟩
  rcases h2 with ⟨e, _⟩ | ⟨g', cap', cur, e, hB, hr⟩
  · cases e
  · exact .inr ⟨g', cap', cur, e, Nat.le_trans hA hB, hr⟩⟩

def LiPost (w : World) (e : Ending) (w' : World) : Prop := ∃ (g c : Nat) (xs : List (Int × Int)), e = .returned (.slice (some ⟨g, 0, none⟩) xs.length c) ∧ SOwn w.heap.size w' g c xs ∧ xs.length ≤ 61 ∧ Below w.heap.size w w'
set_option maxRecDepth 100000 in
theorem drawCv (ca : Option Addr) (len cap : Nat) (w : World) (hb : ByI w ca len) (hl : len ≤ 5000) :
    Calls Tryd.prog 15 #[.slice ca len cap] w (LiPost w) := by
  have F := hid (specFrom ca len cap w)
  have HB := hid hb
  clear hb
  go_enter Tryd.func15, Tryd.ntmps15
  go_wp2_with (fail)
  refine F.out.mono ?_
  rintro e W ⟨rfl, hW⟩
  have A0 := hid (show Below w.heap.size w W by rw [hW]; exact (Below.refl _ _).alloc (Nat.le_refl _) _)
  have S0 := hid (show St W w.heap.size ca len cap 0 by rw [hW]; exact st_new HB.out)
  have Q := hid (bentL w.heap.size ca len cap 0 W S0.out (by omega) hl)
  clear hW F HB
  go_wp2_with (fail)
  refine Q.out.mono ?_
  rintro e w1 ⟨g, c, xs, rfl, O1, hx, s1, g1⟩
  have HO := hid (sown_mono O1 A0.out.size)
  have HG := hid (below_from A0.out g1 (Nat.le_refl _))
  clear O1 s1 g1
  go_wp2_with (fail)
  go_ret
  exact ⟨g, c, xs, rfl, HO.out, hx, HG.out⟩

set_option maxRecDepth 100000 in
set_option maxHeartbeats 3200000 in
theorem drawLe (ca : Option Addr) (len cap : Nat) (w : World) (hb : ByI w ca len) (hl : len ≤ 5000) :
    Calls Tryd.prog 21 #[.slice ca len cap] w fun e w' => ∃ n d : Int, e = .returned (.agg #[.int .i64 n, .int .i64 d]) ∧ Below w.heap.size w w' := by
  obtain ⟨V, hV⟩ : ∃ V, V = w.alloc (.cells #[.int .i64 0, .int .i64 0] 30) := ⟨_, rfl⟩
  have AV := hid (show Below w.heap.size w V by rw [hV]; exact (Below.refl _ _).alloc (Nat.le_refl _) _)
  have FV := hid (show FB V w.heap.size 0 0 by rw [hV]; exact fb_new w 0 0)
  have hVs : w.heap.size < V.heap.size := by rw [hV]; simp
  have F := hid (specFrom ca len cap V)
  have HB := hid (byi_below hb AV.out)
  clear hb
  go_enter Tryd.func21, Tryd.ntmps21
  go_wp2_with (fail)
  try rw [← hV]
  clear hV
  refine F.out.mono ?_
  rintro e W ⟨rfl, hW⟩
  have A0 := hid (show Below V.heap.size V W by rw [hW]; exact (Below.refl _ _).alloc (Nat.le_refl _) _)
  have S0 := hid (show St W V.heap.size ca len cap 0 by rw [hW]; exact st_new HB.out)
  have Q := hid (bentF V.heap.size ca len cap 0 W S0.out (by omega) hl)
  clear hW F HB
  go_wp2_with (fail)
  refine Q.out.mono ?_
  rintro e w1 ⟨n, d, rfl, s1, g1⟩
  have F1 := hid (fb_only g1 (by omega) (fb_below FV.out A0.out))
  have HG := hid (AV.out.trans ((below_from A0.out g1 (Nat.le_refl _)).mono (by omega)))
  obtain ⟨q0, q1, q2, q3, q4⟩ := fb_cells F1.out
  clear s1 g1
  go_wp2_with (fail)
  obtain ⟨r0, r1⟩ := set_read (x := .int .i64 n) (y := .int .i64 d) q0 q1
  refine bodyPost_ret (v := .agg #[.int .i64 n, .int .i64 d]) (by simp [results, Tryd.results21, go_sem, r0, r1]) rfl ⟨_, _, rfl, ?_⟩
  exact (HG.out.setCell (p := ⟨w.heap.size, 0, none⟩) (Nat.le_refl _) _).setCell (p := ⟨w.heap.size, 1, none⟩) (Nat.le_refl _) _

set_option maxRecDepth 100000 in
set_option maxHeartbeats 3200000 in
theorem drawFt (ca : Option Addr) (len cap : Nat) (w : World) (hb : ByI w ca len) (hl : len ≤ 5000) :
    Calls Tryd.prog 24 #[.slice ca len cap] w fun e w' => ∃ (g c : Nat) (xs : List Int) (k : Int), e = .returned (.tuple #[.slice (some ⟨g, 0, none⟩) xs.length c, .int .i64 k]) ∧ Own w.heap.size w' g c xs ∧ xs.length ≤ 61 ∧ Below w.heap.size w w' := by
  obtain ⟨i0, hi, hz0, hz1, hz2⟩ := info_parts infoI
  have F := hid (specFrom ca len cap w)
  have HB := hid hb
  clear hb
  go_enter Tryd.func24, Tryd.ntmps24
  go_wp2_with (fail)
  refine F.out.mono ?_
  rintro e W ⟨rfl, hW⟩
  have A0 := hid (show Below w.heap.size w W by rw [hW]; exact (Below.refl _ _).alloc (Nat.le_refl _) _)
  have S0 := hid (show St W w.heap.size ca len cap 0 by rw [hW]; exact st_new HB.out)
  have hWs : W.heap.size = w.heap.size + 1 := by rw [hW]; simp
  have hbl : w.heap.size < W.heap.size := by omega
  have D := hid (drawS w.heap.size ca len cap 0 400 W S0.out (by omega) hl (by omega) (by omega))
  clear hW F HB hWs
  go_wp2_with (fail)
  refine D.out.mono ?_
  rintro e w1 ⟨n, d, rfl, ⟨z1, z2, z3, z4⟩, s1, g1⟩
  have HG1 := hid g1
  have S1 := hid s1
  obtain ⟨y1, y2, y3, y4, _⟩ := okF_iff.1 z1
  have T := hid (specTerms n d w1 y1 y2 y3 y4)
  have h9 : d < (2 : Int) ^ 9 := by
    have : (2 : Int) ^ 9 = 512 := by decide
    omega
  have HT1 := hid (show (eu n d).length ≤ 18 from eu_length 9 n d h9)
  have HT2 := hid (show 1 ≤ (eu n d).length by rw [eu_step (by omega)]; simp)
  clear z1 z2 z3 z4 y1 y2 y3 y4 s1 g1 D h9
  generalize eu n d = xs at *
  go_wp2_with (fail)
  refine T.out.mono ?_
  rintro e w2 ⟨v, rfl, rb, b2⟩
  have hx1 := HT1.out
  have hx2 := HT2.out
  obtain ⟨g, c, rfl, O⟩ : ∃ g c, v = .slice (some ⟨g, 0, none⟩) xs.length c ∧ Own w1.heap.size w2 g c xs := by
    rcases rb with ⟨_, h0⟩ | h
    · rw [h0] at hx2; simp at hx2
    · exact h
  have O2 := hid (own_less O HG1.out.size)
  have G2 := hid (only_trans HG1.out (only_below b2 w.heap.size))
  have P := hid (pickS w.heap.size ca len cap 8 16 w2 (st_below (st_more S1.out (by omega)) b2) (by omega) hl (by omega) (by omega))
  clear rb b2 O T HG1 S1
  go_wp2_with (fail)
  refine P.out.mono ?_
  rintro e w3 ⟨r, rfl, p1, p2, s3, g3⟩
  have O3 := hid (own_only g3 hbl O2.out)
  have G3 := hid (only_trans G2.out g3)
  have S3 := hid s3
  clear s3 g3 O2 G2 P p2
  by_cases c0 : r = 0
  · have d0 : (r == 0) = true := by simpa using c0
    have Q := hid (amongL w.heap.size ca len cap 10 3 [0, 1, 1000000000] 2 w3 rfl S3.out (by decide) (by decide) (by omega) hl)
    clear c0 S3
    go_wp2_with (fail)
    refine Q.out.mono ?_
    rintro e w4 ⟨v, rfl, s4, g4⟩
    have O4 := hid (own_only g4 hbl O3.out)
    have G4 := hid (only_trans G3.out g4)
    have S4 := hid s4
    have hw4 : W.heap.size ≤ w4.heap.size := G4.out.size
    clear s4 g4 Q O3 G3
    go_wp2_with (at_builtin; refine wpList_append_own _ rfl _ _ 33 rfl W.heap.size 2 i0 (.int .i64 0) 1 8 Tryd.underlying33 hi hz0 hz1 hz2 rfl (by decide) _ xs.length (intCells xs) (by rfl) ?c0 ⟨w4.heap.size, 0, none⟩ 1 1 [.int .i64 v] (by rfl) ?c1 ?c2 ?c3 ?c4 ?c5 ?c6 ?c7)
    case c0 => exact O4.out.2.alloc _
    case c1 => rfl
    case c2 => exact news1 _ _ _
    case c3 => intro u hu; obtain rfl := List.mem_singleton.1 hu; rfl
    case c4 => unfold maxLen; omega
    case c5 => omega
    case c6 => (first | omega | (simp <;> omega))
    intro vv w6 hown2 hgrow2 _
    obtain ⟨gg, gc, rfl, O7⟩ := own_form (xs := xs ++ [v]) hown2 (by simp) (intCells_more xs v) (by simp)
    have HO7 := hid O7
    have AX : Below w4.heap.size w4 (w4.alloc (.cells #[.int .i64 v] 2)) := (Below.refl _ _).alloc (Nat.le_refl _) _
    have G7 := hid (row_grown hbl (only_trans G4.out (only_below AX w.heap.size)) hgrow2 O4.out.1)
    have S7 := hid (st_row S0.out (st_below S4.out AX) hgrow2 O4.out.1)
    have HL7 := hid (show (xs ++ [v]).length = xs.length + 1 by simp)
    obtain ⟨zs, hzs⟩ : ∃ zs : List Int, zs = xs ++ [v] := ⟨_, rfl⟩
    rw [← hzs] at HO7 HL7 ⊢
    have KD := hid (kindD w.heap.size ca len cap 12 w6 S7.out (by omega) hl)
    clear hown2 hgrow2 O7 hzs AX O4 S4 G4 S7
    go_wp2_with (fail)
    refine KD.out.mono ?_
    rintro e w7 ⟨k, rfl, s8, g8⟩
    have O8 := hid (own_less (own_only g8 hbl HO7.out) A0.out.size)
    have G8 := hid (below_from A0.out (only_trans G7.out g8) (Nat.le_refl _))
    clear s8 g8 KD
    go_wp2_with (fail)
    go_ret2
    exact ⟨gg, gc, zs, k, rfl, O8.out, by have := HL7.out; omega, G8.out⟩
  have d0 : (r == 0) = false := beq_no c0
  by_cases c1 : r = 1
  · have d1 : (r == 1) = true := by simpa using c1
    have A3 : Below w3.heap.size w3 (w3.alloc (.cells #[] 2)) := (Below.refl _ _).alloc (Nat.le_refl _) _
    have hw3 : W.heap.size ≤ w3.heap.size := G3.out.size
    have ON := hid (show Own W.heap.size (w3.alloc (.cells #[] 2)) w3.heap.size 0 [] from ⟨hw3, World.ownsRow_lit w3 #[] 0 hw3 (by decide) rfl⟩)
    have GN := hid (only_trans G3.out (only_below A3 w.heap.size))
    have KD := hid (kindD w.heap.size ca len cap 10 _ (st_below S3.out A3) (by omega) hl)
    clear c0 c1 A3
    go_wp2_with (fail)
    refine KD.out.mono ?_
    rintro e w7 ⟨k, rfl, s8, g8⟩
    have O8 := hid (own_less (own_only g8 hbl ON.out) A0.out.size)
    have G8 := hid (below_from A0.out (only_trans GN.out g8) (Nat.le_refl _))
    clear s8 g8 KD
    go_wp2_with (fail)
    go_ret2
    exact ⟨_, _, [], k, rfl, O8.out, by simp, G8.out⟩
  have d1 : (r == 1) = false := beq_no c1
  have KD := hid (kindD w.heap.size ca len cap 10 w3 S3.out (by omega) hl)
  clear c0 c1
  go_wp2_with (fail)
  refine KD.out.mono ?_
  rintro e w7 ⟨k, rfl, s8, g8⟩
  have O8 := hid (own_less (own_only g8 hbl O3.out) A0.out.size)
  have G8 := hid (below_from A0.out (only_trans G3.out g8) (Nat.le_refl _))
  clear s8 g8 KD
  go_wp2_with (fail)
  go_ret2
  exact ⟨g, c, xs, k, rfl, O8.out, by omega, G8.out⟩

end Go.Proofs.YtipegemhcmfnmaaDoor
