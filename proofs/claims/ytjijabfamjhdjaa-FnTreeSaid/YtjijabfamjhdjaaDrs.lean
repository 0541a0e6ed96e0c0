/- Contracts of draws: the source as one state; a choice among numbers, a kind, a fraction. -/
import Derived.Test.YtjijabfamjhdjaaA2f
import Derived.Test.YtjijabfamjhdjaaVt
import Derived.Test.YtjijabfamjhdjaaFbf
namespace Go.Proofs.Ytjijabfamjhdjaa
open Go.RowKit

/-- The source, at most K bytes read. -/
def St (w : World) (b : Nat) (ca : Option Addr) (len cap K : Nat) : Prop := ∃ (k : Nat) (z : Int), k ≤ K ∧ Src w b ca len cap k z ∧ Bys w b ca len
theorem st_lt {w : World} {b : Nat} {ca : Option Addr} {len cap K : Nat} (h : St w b ca len cap K) : b < w.heap.size := by obtain ⟨_, _, _, hs, _⟩ := h; exact src_lt hs
theorem st_below {a w : World} {b : Nat} {ca : Option Addr} {len cap K : Nat} (h : St a b ca len cap K) (hb : Below a.heap.size a w) : St w b ca len cap K := by
  obtain ⟨k, z, hk, hs, hy⟩ := h
  exact ⟨k, z, hk, src_only (src_lt hs) hb hs, bys_only (only_below hb b) hy⟩
theorem st_more {w : World} {b : Nat} {ca : Option Addr} {len cap K L : Nat} (h : St w b ca len cap K) (hl : K ≤ L) : St w b ca len cap L := by
  obtain ⟨k, z, hk, hs, hy⟩ := h
  exact ⟨k, z, by omega, hs, hy⟩
theorem st_set {w : World} {b p o : Nat} {ca : Option Addr} {len cap K : Nat} (h : St w b ca len cap K) (hp : b ≠ p) (hc : ∀ c off, ca = some ⟨c, off, none⟩ → 0 < len → c ≠ p) (u : Value) : St (w.setCell ⟨p, o, none⟩ u) b ca len cap K := by
  obtain ⟨k, z, hk, hs, hy⟩ := h
  refine ⟨k, z, hk, src_set hs hp u, ?_⟩
  rcases hy with hy | ⟨c, off, zs, h1, h2, h3⟩
  · exact .inl hy
  · by_cases h0 : len = 0
    · exact .inl h0
    · refine .inr ⟨c, off, zs, h1, h2, fun i hi => ?_⟩
      obtain ⟨h4, h5⟩ := h3 i hi
      have hcp := hc c off h1 (by omega)
      exact ⟨by rw [World.cell?_setCell_other _ _ _ _ (by simp)]; exact h4, h5⟩
/-- The source of the bytes of an argument, new. -/
theorem st_new {w : World} {ca : Option Addr} {len cap : Nat} (hb : ByI w ca len) : St (w.alloc (.cells #[.slice ca len cap, .int .i64 0, .int .u64 0] 100)) w.heap.size ca len cap 0 :=
  ⟨0, 0, Nat.le_refl _, src_new ca len cap w _, byi_bys hb (Nat.le_refl _) ((Below.refl _ _).alloc (Nat.le_refl _) _)⟩

theorem pickS (b : Nat) (ca : Option Addr) (len cap K : Nat) (n : Int) (w : World) (hs : St w b ca len cap K) (hk : K < 1000000) (hl : len ≤ 5000) (h1 : -1000000000000 ≤ n) (h2 : n ≤ 1000000000000) :
    Calls Try.prog 81 #[.pointer (some ⟨b, 0, none⟩), .int .i64 n] w fun e w' => ∃ r : Int, e = .returned (.int .i64 r) ∧ 0 ≤ r ∧ (r < n ∨ r = 0) ∧ St w' b ca len cap (K + 2) ∧ w.grownBy w' (some b) := by
  obtain ⟨k, z, hkk, hs, hy⟩ := hs
  refine (srcPick b ca len cap k z n w hs hy (by omega) hl h1 h2).mono ?_
  rintro e w' ⟨r, z', k', rfl, a1, a2, a3, a4, S, g⟩
  exact ⟨r, rfl, a1, a2, ⟨k', z', by omega, S, bys_only g hy⟩, g⟩
theorem oneS (b : Nat) (ca : Option Addr) (len cap K : Nat) (n : Int) (w : World) (hs : St w b ca len cap K) (hk : K < 1000000) (hl : len ≤ 5000) (h1 : -1000000000000 ≤ n) (h2 : n ≤ 1000000000000) :
    Calls Try.prog 59 #[.pointer (some ⟨b, 0, none⟩), .int .i64 n] w fun e w' => ∃ r : Bool, e = .returned (.bool r) ∧ St w' b ca len cap (K + 2) ∧ w.grownBy w' (some b) := by
  obtain ⟨k, z, hkk, hs, hy⟩ := hs
  refine (srcOne b ca len cap k z n w hs hy (by omega) hl h1 h2).mono ?_
  rintro e w' ⟨r, z', k', rfl, a3, a4, S, g⟩
  exact ⟨r, rfl, ⟨k', z', by omega, S, bys_only g hy⟩, g⟩
theorem drawS (b : Nat) (ca : Option Addr) (len cap K : Nat) (M : Int) (w : World) (hs : St w b ca len cap K) (hk : K + 8 < 1000000) (hl : len ≤ 5000) (h1 : 1 ≤ M) (h2 : M ≤ 1000000) :
    Calls Try.prog 99 #[.pointer (some ⟨b, 0, none⟩), .int .i64 M] w fun e w' => ∃ n d : Int, e = .returned (.agg #[.int .i64 n, .int .i64 d]) ∧ Sml n d M ∧ St w' b ca len cap (K + 8) ∧ w.grownBy w' (some b) := by
  obtain ⟨k, z, hkk, hs, hy⟩ := hs
  refine (specDraw b ca len cap k z M w hs hy (by omega) hl h1 h2).mono ?_
  rintro e w' ⟨n, d, z', k', rfl, a2, a3, a4, S, g⟩
  exact ⟨n, d, rfl, a2, ⟨k', z', by omega, S, bys_only g hy⟩, g⟩

theorem amongS (b : Nat) (ca : Option Addr) (len cap K g n c : Nat) (xs : List Int) (w : World) (hn : n = xs.length) (hs : St w b ca len cap K) (ha : Ints w g 0 xs) (hg : g ≠ b) (h1 : 1 ≤ xs.length) (h9 : xs.length ≤ 1000) (hk : K < 1000000) (hl : len ≤ 5000) :
    Calls Try.prog 90 #[.pointer (some ⟨b, 0, none⟩), .slice (some ⟨g, 0, none⟩) n c] w fun e w' => ∃ v : Int, e = .returned (.int .i64 v) ∧ St w' b ca len cap (K + 2) ∧ w.grownBy w' (some b) := by
  subst hn
  have P := hid (pickS b ca len cap K xs.length w hs hk hl (by omega) (by omega))
  have HA := hid ha
  clear hs ha
  go_enter Try.func90, Try.ntmps90
  go_wp2_with (fail)
  refine P.out.mono ?_
  rintro e w1 ⟨r, rfl, p1, p2, S1, g1⟩
  have p3 : r < (xs.length : Int) := by omega
  obtain ⟨j, rfl⟩ := Int.eq_ofNat_of_zero_le p1
  obtain ⟨v, hv⟩ : ∃ v, xs[j]? = some v := ⟨_, List.getElem?_eq_getElem (by omega)⟩
  have hc := HA.out j v hv
  rw [Nat.zero_add] at hc
  have hlt : g < w.heap.size := World.block_lt_of_cell? _ _ hc
  have hc1 := (only_cell g1 hlt hg).trans hc
  have HS1 := hid S1
  have HG1 := hid g1
  clear S1 g1 hc hv p2 P HA
  go_wp2_with (fail)
  go_ret
  exact ⟨v, rfl, HS1.out, HG1.out⟩

theorem ints_lit (w : World) (xs : List Int) (t : TypeId) : Ints (w.alloc (.cells (xs.map (Value.int .i64)).toArray t)) w.heap.size 0 xs := fun j x hj => by
  unfold World.cell?
  rw [World.alloc_heap_new]
  simp [hj]
/-- A choice among numbers that are laid for it. -/
theorem amongL (b : Nat) (ca : Option Addr) (len cap K n : Nat) (xs : List Int) (t : TypeId) (w : World) (hn : n = xs.length) (hs : St w b ca len cap K) (h1 : 1 ≤ xs.length) (h9 : xs.length ≤ 1000) (hk : K < 1000000) (hl : len ≤ 5000) :
    Calls Try.prog 90 #[.pointer (some ⟨b, 0, none⟩), .slice (some ⟨w.heap.size, 0, none⟩) n n] (w.alloc (.cells (xs.map (Value.int .i64)).toArray t)) fun e w' => ∃ v : Int, e = .returned (.int .i64 v) ∧ St w' b ca len cap (K + 2) ∧ w.grownBy w' (some b) := by
  have hb := st_lt hs
  have A : Below w.heap.size w (w.alloc (.cells (xs.map (Value.int .i64)).toArray t)) := (Below.refl _ _).alloc (Nat.le_refl _) _
  refine (amongS b ca len cap K w.heap.size n n xs _ hn (st_below hs A) (ints_lit w xs t) (by omega) h1 h9 hk hl).mono ?_
  rintro e w' ⟨v, rfl, S, g⟩
  exact ⟨v, rfl, S, only_trans (only_below A b) g⟩

end Go.Proofs.Ytjijabfamjhdjaa
