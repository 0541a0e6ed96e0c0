/- Contracts: convergents of terms with signs, by the program. -/
import Derived.Test.YtipegemhcmfnmaaDoorFb
import Derived.Test.YtipegemhcmfnmaaDoorVs
import Derived.Test.YtipegemhcmfnmaaDoorLow
import Derived.Test.YtipegemhcmfnmaaDoorEis
import Derived.Test.YtipegemhcmfnmaaDoorCvt
import Derived.BigQuiet
import Derived.Deep.RegionWith
namespace Go.Proofs.YtipegemhcmfnmaaDoor
open Go.RowKit

theorem sg_mul {s x : Int} (hs : s = 1 ∨ s = -1) (h : Bd x) : Bd (s * x) := by
  obtain ⟨h1, h2⟩ := h
  rcases hs with rfl | rfl
  · rw [Int.one_mul]; exact ⟨h1, h2⟩
  · constructor <;> omega

theorem implCvg (s t p q pp qq : Int) (w : World) (hs : s = 1 ∨ s = -1) (ht : Bd t) (hp : Bd p) (hq : Bd q) (hpp : Bd pp) (hqq : Bd qq) :
    Calls Tryd.prog 93 #[.agg #[.int .i64 s, .int .i64 t], .agg #[.int .i64 p, .int .i64 q], .agg #[.int .i64 pp, .int .i64 qq]] w fun e w' => e = .returned (.agg #[.int .i64 (t * p + s * pp), .int .i64 (t * q + s * qq)]) ∧ Below w.heap.size w w' := by
  obtain ⟨b1, b2⟩ := bd_mul ht hp
  obtain ⟨b3, b4⟩ := bd_mul ht hq
  obtain ⟨b5, b6⟩ := sg_mul hs hpp
  obtain ⟨b7, b8⟩ := sg_mul hs hqq
  clear hp hq ht hpp hqq hs
  generalize h1 : t * p = x1 at *
  generalize h2 : t * q = x2 at *
  generalize h3 : s * pp = x3 at *
  generalize h4 : s * qq = x4 at *
  go_enter Tryd.func93, Tryd.ntmps93
  go_wp2_with (fail)
  refine bodyPost_ret (v := .agg #[.int .i64 (x1 + x3), .int .i64 (x2 + x4)]) (by simp [results, Tryd.results93, go_sem]) rfl ⟨rfl, ?_⟩
  exact ((((Below.refl _ _).alloc (Nat.le_refl _) _).alloc (by simp) _).alloc (by simp; omega) _).alloc (by simp; omega) _

theorem implPlain0 (n : Int) (a : Addr) (w : World) (hc : w.cell? ⟨3, 0, none⟩ = some (ErrV a)) (hg : 3 < w.heap.size) :
    Calls Tryd.prog 94 #[.agg #[.int .i64 n, .int .i64 0]] w fun e w' => e = .returned (.tuple #[.agg #[.int .i64 0, .int .i64 0], ErrV a]) ∧ Below w.heap.size w w' := by
  have W0 := ((Below.refl w.heap.size w).alloc (Nat.le_refl _) (.cells #[.int .i64 n, .int .i64 0] 30)).alloc (by simp) (.cells #[.int .i64 0, .int .i64 0] 30)
  have EW := hid W0
  have c1 := (W0.cell (p := ⟨3, 0, none⟩) hg).trans hc
  unfold ErrV at c1
  clear W0 hc
  go_enter Tryd.func94, Tryd.ntmps94
  go_wp2_with (fail)
  go_region
  go_wp2_with (fail)
  refine bodyPost_ret (v := .tuple #[.agg #[.int .i64 0, .int .i64 0], ErrV a]) (by simp [results, Tryd.results94, go_sem, ErrV]) rfl ⟨rfl, ?_⟩
  exact EW.out.drew

theorem implPlain (n d : Int) (a : Addr) (w : World) (hc : w.cell? ⟨4, 0, none⟩ = some (ErrV a)) (hg : 4 < w.heap.size) (hd : d ≠ 0)
    (h1 : -2000000000000000000 ≤ n) (h2 : n ≤ 2000000000000000000) (h3 : -2000000000000000000 ≤ d) (h4 : d ≤ 2000000000000000000) (hgc : gc n d = 1) :
    Calls Tryd.prog 94 #[.agg #[.int .i64 n, .int .i64 d]] w fun e w' => e = .returned (.tuple (if (bdN n && bdN d) = true then #[.agg #[.int .i64 (nrm n d).1, .int .i64 (nrm n d).2], .nilIface] else #[.agg #[.int .i64 0, .int .i64 0], ErrV a])) ∧ Below w.heap.size w w' := by
  obtain ⟨W, hW⟩ : ∃ W, W = (w.alloc (.cells #[.int .i64 n, .int .i64 d] 30)).alloc (.cells #[.int .i64 0, .int .i64 0] 30) := ⟨_, rfl⟩
  have W0 : Below w.heap.size w W := by rw [hW]; exact ((Below.refl w.heap.size w).alloc (Nat.le_refl _) _).alloc (by simp) _
  have EW := hid W0
  have G0 := hid ((W0.cell (p := ⟨4, 0, none⟩) hg).trans hc)
  have P1 := hid (show FB W w.heap.size n d by
    rw [hW]; exact fb_below (fb_new w n d) ((Below.refl _ _).alloc (Nat.le_refl _) _))
  have P2 := hid (show FB W (w.heap.size + 1) 0 0 by
    rw [hW]
    have := fb_new (w.alloc (.cells #[.int .i64 n, .int .i64 d] 30)) 0 0
    rwa [World.size_alloc] at this)
  have HL := hid (implLow n d W h1 h2 h3 h4 hd)
  have hWl : w.heap.size + 1 < W.heap.size := by rw [hW]; simp
  have e1 := low_nbr hgc
  have e2 := ok_nbr hgc hd
  have HR := hid (show lowR n d = fullR (nrm n d).1 (nrm n d).2 (okF (nrm n d).1 (nrm n d).2) by rw [← e1]; rfl)
  rw [HR.out, e2] at HL
  have hd0 : (d == 0) = false := by simpa using hd
  clear W0 hc h1 h2 h3 h4 hgc e1 e2 HR hd
  generalize nrm n d = z at *
  obtain ⟨z0, z1⟩ := z
  cases hb : (bdN n && bdN d)
  · rw [hb, fullR_no] at HL
    rw [if_neg (by decide)]
    clear hb
    go_enter Tryd.func94, Tryd.ntmps94
    go_wp2_with (fail)
    rw [← hW]
    refine HL.out.mono ?_
    rintro e w1 ⟨rfl, b1⟩
    have E1 := hid (EW.out.trans (b1.mono EW.out.size))
    have Q2 := hid (fb_below P2.out b1)
    have g1 := (b1.cell (p := ⟨4, 0, none⟩) (by show 4 < W.heap.size; omega)).trans G0.out
    unfold ErrV at g1
    clear b1 HL
    go_wp2_with (fail)
    obtain ⟨W1, hW1⟩ : ∃ W1, W1 = w1.alloc (.cells #[.int .i64 0, .int .i64 0] 30) := ⟨_, rfl⟩
    have AW : Below w1.heap.size w1 W1 := by rw [hW1]; exact (Below.refl _ _).alloc (Nat.le_refl _) _
    have E2 := hid (E1.out.trans (AW.mono E1.out.size))
    obtain ⟨y0, y1, y2, y3, y4⟩ := fb_cells (fb_below Q2.out AW)
    have g2 := (AW.cell (p := ⟨4, 0, none⟩) (by have := E1.out.size; show 4 < w1.heap.size; omega)).trans g1
    rw [← hW1]
    have hx := fb_set (fb_below Q2.out AW) 0 0
    obtain ⟨z0, z1, _, _, _⟩ := fb_cells hx
    clear hW1 AW g1 hx
    go_region
    go_wp2_with (fail)
    refine bodyPost_ret (v := .tuple #[.agg #[.int .i64 0, .int .i64 0], ErrV a]) (by simp [results, Tryd.results94, go_sem, ErrV, z0, z1]) rfl ⟨rfl, ?_⟩
    exact fset_below E2.out.drew (b := w.heap.size + 1) (by omega) _ _
  · rw [hb, fullR_yes] at HL
    rw [if_pos rfl]
    clear hb
    go_enter Tryd.func94, Tryd.ntmps94
    go_wp2_with (fail)
    rw [← hW]
    refine HL.out.mono ?_
    rintro e w1 ⟨rfl, b1⟩
    have E1 := hid (EW.out.trans (b1.mono EW.out.size))
    have Q2 := hid (fb_below P2.out b1)
    clear b1 HL
    dsimp only
    have E2 := hid (E1.out.alloc E1.out.size (.cells #[.int .i64 z0, .int .i64 z1] 30))
    have QW := fb_below Q2.out ((Below.refl _ _).alloc (Nat.le_refl _) (.cells #[.int .i64 z0, .int .i64 z1] 30))
    obtain ⟨y0, y1, y2, y3, y4⟩ := fb_cells QW
    have hx := fb_set QW z0 z1
    obtain ⟨x0, x1, _, _, _⟩ := fb_cells hx
    clear QW hx
    go_wp2_with (fail)
    refine bodyPost_ret (v := .tuple #[.agg #[.int .i64 z0, .int .i64 z1], .nilIface]) (by simp [results, Tryd.results94, go_sem, x0, x1]) rfl ⟨rfl, ?_⟩
    exact fset_below E2.out (b := w.heap.size + 1) (by omega) _ _

end Go.Proofs.YtipegemhcmfnmaaDoor
