/- Contracts: the value of terms and all convergents, as the model tells them. -/
import Derived.Test.YthfogmaefhfkoaaCvl
import Derived.Test.YthfogmaefhfkoaaExp
namespace Go.Proofs.Ythfogmaefhfkoaa
open Go.RowKit

/-- All convergents, and a code. -/
def convT (xs : List Int) : List (Int × Int) × Int := if okT xs = true then (match cv 1 0 0 1 xs with | some l => (l, 0) | none => ([], 5)) else ([], 1)
theorem convT_bad {xs : List Int} (h : okT xs = false) : convT xs = ([], 1) := by unfold convT; rw [h]; rfl
theorem convT_full {xs : List Int} (h : okT xs = true) (h2 : cv 1 0 0 1 xs = none) : convT xs = ([], 5) := by unfold convT; rw [h, h2]; rfl
theorem convT_ok {xs : List Int} {l : List (Int × Int)} (h : okT xs = true) (h2 : cv 1 0 0 1 xs = some l) : convT xs = (l, 0) := by unfold convT; rw [h, h2]; rfl
theorem convT_len {xs : List Int} : (convT xs).1.length ≤ 60 := by
  cases h : okT xs
  · rw [convT_bad h]; exact Nat.zero_le _
  · cases h2 : cv 1 0 0 1 xs with
    | none => rw [convT_full h h2]; exact Nat.zero_le _
    | some l => rw [convT_ok h h2]; have := cv_length h2; have := okT_len h; show l.length ≤ 60; omega
/-- The value, and a code. -/
def valT (xs : List Int) : Int × Int × Int := if okT xs = true then (match cv 1 0 0 1 xs with | some l => ((l.getD (l.length - 1) (0, 0)).1, (l.getD (l.length - 1) (0, 0)).2, 0) | none => (0, 0, 5)) else (0, 0, 1)
theorem valT_bad {xs : List Int} (h : okT xs = false) : valT xs = (0, 0, 1) := by unfold valT; rw [h]; rfl
theorem valT_full {xs : List Int} (h : okT xs = true) (h2 : cv 1 0 0 1 xs = none) : valT xs = (0, 0, 5) := by unfold valT; rw [h, h2]; rfl
theorem valT_ok {xs : List Int} {l : List (Int × Int)} (h : okT xs = true) (h2 : cv 1 0 0 1 xs = some l) : valT xs = ((l.getD (l.length - 1) (0, 0)).1, (l.getD (l.length - 1) (0, 0)).2, 0) := by unfold valT; rw [h, h2]; rfl

def FListR (B : Nat) (r : List (Int × Int) × Int) (e : Ending) (w' : World) : Prop := ∃ v, e = .returned (.tuple #[v, .int .i64 r.2]) ∧ FBack B w' v r.1
theorem fown_mono {A B : Nat} {w : World} {g c : Nat} {xs : List (Int × Int)} (h : FOwn B w g c xs) (hA : A ≤ B) : FOwn A w g c xs := by
  refine ⟨Nat.le_trans hA h.1, h.2.1, ?_⟩
  rcases h.2.2 with h3 | ⟨a, b, d, h3, h4, h5⟩
  · exact .inl h3
  · exact .inr ⟨a, b, d, h3, Nat.le_trans hA h4, h5⟩
theorem fback_mono {A B : Nat} {w : World} {v : Value} {xs : List (Int × Int)} (h : FBack B w v xs) (hA : A ≤ B) : FBack A w v xs := by
  rcases h with h | ⟨g, c, rfl, h⟩
  · exact .inl h
  · exact .inr ⟨g, c, rfl, fown_mono h hA⟩

def valV (r : Int × Int × Int) : Value := .tuple #[.agg #[.int .i64 r.1, .int .i64 r.2.1], .int .i64 r.2.2]
theorem res_facts {w w1 : World} (t : TypeId) (b1 : Below (w.alloc (.cells #[.int .i64 0, .int .i64 0] t)).heap.size (w.alloc (.cells #[.int .i64 0, .int .i64 0] t)) w1) :
    w1.cell? ⟨w.heap.size, 0, none⟩ = some (.int .i64 0) ∧ w1.cell? ⟨w.heap.size, 1, none⟩ = some (.int .i64 0) ∧ w1.frozen? ⟨w.heap.size, 0, none⟩ = false ∧ w1.frozen? ⟨w.heap.size, 1, none⟩ = false ∧ w.heap.size < w1.heap.size := by
  obtain ⟨h1, h2⟩ := two_new w t (.int .i64 0) (.int .i64 0)
  obtain ⟨hc, hf⟩ := bcell b1
  refine ⟨(hc _ _ (by simp)).trans h1, (hc _ _ (by simp)).trans h2, (hf _ _ (by simp)).trans (by go_simp), (hf _ _ (by simp)).trans (by go_simp), ?_⟩
  have := b1.size
  simp at this
  omega
theorem set_read {w : World} {b : Nat} {x y a d : Value} (h0 : w.cell? ⟨b, 0, none⟩ = some a) (h1 : w.cell? ⟨b, 1, none⟩ = some d) : ((w.setCell ⟨b, 0, none⟩ x).setCell ⟨b, 1, none⟩ y).cell? ⟨b, 0, none⟩ = some x ∧ ((w.setCell ⟨b, 0, none⟩ x).setCell ⟨b, 1, none⟩ y).cell? ⟨b, 1, none⟩ = some y := two_set h0 h1

theorem specVal (g c : Nat) (xs : List Int) (w : World) (hx : xs.length ≤ 2000000000) (ha : Ints w g 0 xs) :
    Calls Try.prog 133 #[.slice (some ⟨g, 0, none⟩) xs.length c] w fun e w' => e = .returned (valV (valT xs)) ∧ Below w.heap.size w w' := by
  have HA := hid ha
  have HA1 := hid (ints_below ha ((Below.refl w.heap.size w).alloc (Nat.le_refl _) (.cells #[.int .i64 0, .int .i64 0] 25)))
  have HV0 := hid ((Below.refl w.heap.size w).alloc (Nat.le_refl _) (.cells #[.int .i64 0, .int .i64 0] 25))
  have V1 := hid (specOkT g c xs _ hx HA1.out)
  clear ha
  cases ho1 : okT xs
  · rw [valT_bad ho1]
    rw [ho1] at V1
    go_enter Try.func133, Try.ntmps133
    go_wp2_with (fail)
    refine V1.out.mono ?_
    rintro e w1 ⟨rfl, b1⟩
    obtain ⟨q0, q1, q2, q3, q4⟩ := res_facts 25 b1
    have E1 := hid (HV0.out.trans (b1.mono HV0.out.size))
    clear b1
    go_wp2_with (fail)
    obtain ⟨r0, r1⟩ := set_read (x := .int .i64 0) (y := .int .i64 0) q0 q1
    refine bodyPost_ret (v := valV (0, 0, 1)) (by simp [results, Try.results133, go_sem, r0, r1, valV]) rfl ⟨rfl, ?_⟩
    exact (E1.out.setCell (p := ⟨w.heap.size, 0, none⟩) (Nat.le_refl _) _).setCell (p := ⟨w.heap.size, 1, none⟩) (Nat.le_refl _) _
  · rw [ho1] at V1
    have HL := hid (okT_len ho1)
    have C := hid (fun w1 (h : Below w.heap.size w w1) => specConvL g c xs w1 HL.out.2 (okT_bd ho1) (ints_below HA.out h))
    cases hc : cv 1 0 0 1 xs with
    | none =>
      rw [valT_full ho1 hc]
      rw [hc] at C
      clear ho1 hc
      go_enter Try.func133, Try.ntmps133
      go_wp2_with (fail)
      refine V1.out.mono ?_
      rintro e w1 ⟨rfl, b1⟩
      have E1 := hid (HV0.out.trans (b1.mono HV0.out.size))
      have B1 := hid b1
      clear b1
      go_wp2_with (fail)
      refine (C.out _ E1.out).mono ?_
      rintro e w2 ⟨v, rfl, r, b2⟩
      obtain ⟨q0, q1, q2, q3, q4⟩ := res_facts 25 (B1.out.trans (b2.mono B1.out.size))
      have E2 := hid (E1.out.trans (b2.mono E1.out.size))
      clear r b2
      dsimp only [convV]
      go_wp2_with (fail)
      obtain ⟨r0, r1⟩ := set_read (x := .int .i64 0) (y := .int .i64 0) q0 q1
      refine bodyPost_ret (v := valV (0, 0, 5)) (by simp [results, Try.results133, go_sem, r0, r1, valV]) rfl ⟨rfl, ?_⟩
      exact (E2.out.setCell (p := ⟨w.heap.size, 0, none⟩) (Nat.le_refl _) _).setCell (p := ⟨w.heap.size, 1, none⟩) (Nat.le_refl _) _
    | some l =>
      rw [valT_ok ho1 hc]
      rw [hc] at C
      have hll := cv_length hc
      have hl1 : 1 ≤ l.length := by have := HL.out; omega
      have hl60 : l.length ≤ 60 := by have := HL.out; omega
      clear ho1 hc
      obtain ⟨⟨y0, y1⟩, hy⟩ : ∃ y, l[l.length - 1]? = some y := ⟨_, List.getElem?_eq_getElem (by omega)⟩
      have hyd : l.getD (l.length - 1) (0, 0) = (y0, y1) := by rw [List.getD_eq_getElem?_getD, hy]; rfl
      rw [hyd]
      dsimp only
      have HY := hid hy
      have t1 : ((l.length : Int) - 1).toNat = l.length - 1 := by omega
      have t2 : (0 : Int) ≤ (l.length : Int) - 1 := by omega
      clear hyd hy hll
      go_enter Try.func133, Try.ntmps133
      go_wp2_with (fail)
      refine V1.out.mono ?_
      rintro e w1 ⟨rfl, b1⟩
      have E1 := hid (HV0.out.trans (b1.mono HV0.out.size))
      have B1 := hid b1
      clear b1
      go_wp2_with (fail)
      refine (C.out _ E1.out).mono ?_
      rintro e w2 ⟨v, rfl, r, b2⟩
      obtain ⟨q0, q1, q2, q3, q4⟩ := res_facts 25 (B1.out.trans (b2.mono B1.out.size))
      have E2 := hid (E1.out.trans (b2.mono E1.out.size))
      obtain ⟨g2, c2, rfl, o2⟩ : ∃ g2 c2, v = .slice (some ⟨g2, 0, none⟩) l.length c2 ∧ FOwn w1.heap.size w2 g2 c2 l := by
        rcases r with ⟨_, h0⟩ | h
        · dsimp only [convV] at h0; rw [h0] at hl1; simp at hl1
        · exact h
      obtain ⟨x0, x1⟩ := fown_cells o2 HY.out
      dsimp only at x0 x1
      clear r b2 o2
      dsimp only [convV]
      go_wp2_with (fail)
      obtain ⟨r0, r1⟩ := set_read (x := .int .i64 y0) (y := .int .i64 y1) q0 q1
      refine bodyPost_ret (v := valV (y0, y1, 0)) (by simp [results, Try.results133, go_sem, r0, r1, valV]) rfl ⟨rfl, ?_⟩
      exact (E2.out.setCell (p := ⟨w.heap.size, 0, none⟩) (Nat.le_refl _) _).setCell (p := ⟨w.heap.size, 1, none⟩) (Nat.le_refl _) _

end Go.Proofs.Ythfogmaefhfkoaa
