/- Contract: three drawn fractions; the laws' own small helpers. -/
import Derived.Test.YtjijabfamjhdjaaDrw
import Derived.Test.YtjijabfamjhdjaaLv
import Derived.Test.YtjijabfamjhdjaaAr6
import Derived.OpenShut
namespace Go.Proofs.Ytjijabfamjhdjaa
open Go.RowKit

/-- The bytes of an argument. -/
def ByI (w : World) (ca : Option Addr) (len : Nat) : Prop :=
  len = 0 ∨ ∃ (c off : Nat) (zs : Nat → Int), ca = some ⟨c, off, none⟩ ∧ ∀ i, i < len → w.cell? ⟨c, off + i, none⟩ = some (.int .u8 (zs i)) ∧ 0 ≤ zs i ∧ zs i ≤ 255

theorem byi_bys {a w : World} {ca : Option Addr} {len : Nat} (h : ByI a ca len) {b : Nat} (hB : a.heap.size ≤ b) (hb : Below a.heap.size a w) : Bys w b ca len := by
  rcases h with h | ⟨c, off, zs, hc, hz⟩
  · exact .inl h
  · by_cases h0 : len = 0
    · exact .inl h0
    · have hlt := World.block_lt_of_cell? _ _ (hz 0 (by omega)).1
      simp only at hlt
      refine .inr ⟨c, off, zs, hc, by omega, fun i hi => ?_⟩
      obtain ⟨h1, h2, h3⟩ := hz i hi
      exact ⟨(hb.cell (p := ⟨c, off + i, none⟩) hlt).trans h1, h2, h3⟩
theorem byi_below {a w : World} {ca : Option Addr} {len : Nat} (h : ByI a ca len) (hb : Below a.heap.size a w) : ByI w ca len := by
  rcases h with h | ⟨c, off, zs, hc, hz⟩
  · exact .inl h
  · refine .inr ⟨c, off, zs, hc, fun i hi => ?_⟩
    obtain ⟨h1, h2, h3⟩ := hz i hi
    have hlt := World.block_lt_of_cell? _ _ h1
    exact ⟨(hb.cell (p := ⟨c, off + i, none⟩) hlt).trans h1, h2, h3⟩

theorem specFrom (ca : Option Addr) (len cap : Nat) (w : World) :
    Calls Try.prog 46 #[.slice ca len cap] w fun e w' => e = .returned (.pointer (some ⟨w.heap.size, 0, none⟩)) ∧ w' = w.alloc (.cells #[.slice ca len cap, .int .i64 0, .int .u64 0] 100) := by
  go_enter Try.func46, Try.ntmps46
  go_wp2
  go_ret
  exact ⟨rfl, rfl⟩

theorem src_new (ca : Option Addr) (len cap : Nat) (w : World) (t : TypeId) : Src (w.alloc (.cells #[.slice ca len cap, .int .i64 0, .int .u64 0] t)) w.heap.size ca len cap 0 0 := by
  refine ⟨?_, ?_, ?_, ?_, ?_, ?_⟩ <;> go_simp

def Zr (w : World) (p : Nat) : Prop := w.cell? ⟨p, 0, none⟩ = some (.int .i64 0) ∧ w.cell? ⟨p, 1, none⟩ = some (.int .i64 0) ∧ w.frozen? ⟨p, 0, none⟩ = false ∧ w.frozen? ⟨p, 1, none⟩ = false
def Tw (w : World) (p : Nat) (x y : Int) : Prop := w.cell? ⟨p, 0, none⟩ = some (.int .i64 x) ∧ w.cell? ⟨p, 1, none⟩ = some (.int .i64 y)
theorem zr_only {a w : World} {g p : Nat} (h : a.grownBy w (some g)) (hp : p < a.heap.size) (hn : p ≠ g) (z : Zr a p) : Zr w p :=
  ⟨(only_cell h hp hn).trans z.1, (only_cell h hp hn).trans z.2.1, (only_frozen h hp hn).trans z.2.2.1, (only_frozen h hp hn).trans z.2.2.2⟩
theorem tw_only {a w : World} {g p : Nat} {x y : Int} (h : a.grownBy w (some g)) (hp : p < a.heap.size) (hn : p ≠ g) (z : Tw a p x y) : Tw w p x y :=
  ⟨(only_cell h hp hn).trans z.1, (only_cell h hp hn).trans z.2⟩
theorem four_of {w : World} {p q : Nat} {a b c d : Int} (h : Tw w p a b) (k : Tw w q c d) :
    w.cell? ⟨p, 0, none⟩ = some (.int .i64 a) ∧ w.cell? ⟨p, 1, none⟩ = some (.int .i64 b) ∧ w.cell? ⟨q, 0, none⟩ = some (.int .i64 c) ∧ w.cell? ⟨q, 1, none⟩ = some (.int .i64 d) := ⟨h.1, h.2, k.1, k.2⟩
theorem tw_new (w : World) (t : TypeId) (x y : Int) : Tw (w.alloc (.cells #[.int .i64 x, .int .i64 y] t)) w.heap.size x y := two_new w t _ _
theorem only_new (w : World) (o : Obj) (g : Nat) : w.grownBy (w.alloc o) (some g) := only_below ((Below.refl _ _).alloc (Nat.le_refl _) _) g
theorem src_on {a : World} {b : Nat} {ca : Option Addr} {len cap k : Nat} {z : Int} (o : Obj) (hs : Src a b ca len cap k z) : Src (a.alloc o) b ca len cap k z :=
  src_only (src_lt hs) ((Below.refl _ _).alloc (Nat.le_refl _) _) hs

def A2Post (w : World) (e : Ending) (w' : World) : Prop :=
  ∃ n1 d1 n2 d2 n3 d3 : Int, e = .returned (.tuple #[.agg #[.int .i64 n1, .int .i64 d1], .agg #[.int .i64 n2, .int .i64 d2], .agg #[.int .i64 n3, .int .i64 d3]]) ∧ Sml n1 d1 300 ∧ Sml n2 d2 300 ∧ Sml n3 d3 300 ∧ Below w.heap.size w w'

def AtPost (w : World) (n : Int) (e : Ending) (w' : World) : Prop := ∃ r : Int, e = .returned (.int .i64 r) ∧ 0 ≤ r ∧ (r < n ∨ r = 0) ∧ w = w'

theorem add_plain (b off i : Nat) : Addr.add ⟨b, off, none⟩ i = ⟨b, off + i, none⟩ := by
  unfold Addr.add; split <;> simp_all

/-- The bytes of an argument that was opened. -/
theorem byi_row {w : World} {x : Addr} {len : Nat} {zs : List Int} (hl : len ≤ zs.length) (hc : ∀ i, i < zs.length → w.cell? (x.add i) = some (.int .u8 (zs.getD i 0))) (hw : ∀ n ∈ zs, (Lit.int .u8 n).wf = true) : ByI w (some x) len := by
  by_cases h0 : len = 0
  · exact .inl h0
  · obtain ⟨b, off, spot⟩ := x
    have h1 := hc 0 (by omega)
    have hspot : spot = none := by simpa [Addr.add] using World.cell?_spot h1
    subst hspot
    refine .inr ⟨b, off, fun i => zs.getD i 0, rfl, fun i hi => ⟨by have h := hc i (by omega); rw [add_plain] at h; exact h, ?_⟩⟩
    have hlt : i < zs.length := by omega
    have hm : zs.getD i 0 ∈ zs := by
      rw [List.getD_eq_getElem?_getD, List.getElem?_eq_getElem hlt]; exact List.getElem_mem _
    exact bounds_u8 (hw _ hm)

end Go.Proofs.Ytjijabfamjhdjaa
