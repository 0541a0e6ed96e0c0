/- Contract: a Farey sequence, as the model lists it. -/
import Derived.Test.YtjijabfamjhdjaaDoorFam
import Derived.Test.YtjijabfamjhdjaaDoorCvt
import Derived.Test.YtjijabfamjhdjaaDoorFyc
namespace Go.Proofs.YtjijabfamjhdjaaDoor
open Go.RowKit

/-- A block of a fraction. -/
def ItF (w : World) (b : Nat) (e : Int × Int) : Prop := w.heap[b]? = some (.cells #[.int .i64 e.1, .int .i64 e.2] 32 (0, 0))
theorem itf_set {w : World} {b : Nat} {e : Int × Int} (h : ItF w b e) (x : Int × Int) : ItF ((w.setCell ⟨b, 0, none⟩ (.int .i64 x.1)).setCell ⟨b, 1, none⟩ (.int .i64 x.2)) b x :=
  heap_setCell_same _ b 1 _ _ (.int .i64 x.2) (heap_setCell_same w b 0 _ _ (.int .i64 x.1) h)
theorem itf_other {w : World} {b : Nat} {e : Int × Int} (h : ItF w b e) {c : Nat} (hc : c ≠ b) (x y : Value) : ItF ((w.setCell ⟨c, 0, none⟩ x).setCell ⟨c, 1, none⟩ y) b e := by
  unfold ItF
  rw [heap_setCell_other _ ⟨c, 1, none⟩ b y (fun e => hc e.symm), heap_setCell_other _ ⟨c, 0, none⟩ b x (fun e => hc e.symm)]
  exact h
theorem itf_grown {w w' : World} {b : Nat} {e : Int × Int} {row : Option Nat} (h : ItF w b e) (hg : w.grownBy w' row) (hr : some b ≠ row) : ItF w' b e := (hg.block b (Array.getElem?_eq_some_iff.1 h).1 hr).trans h
theorem set2_gr (w : World) (b : Nat) (x y : Value) : w.grownBy ((w.setCell ⟨b, 0, none⟩ x).setCell ⟨b, 1, none⟩ y) (some b) :=
  ⟨rfl, rfl, rfl, by simp, fun k _ hk => by
    have hne : k ≠ b := fun e => hk (by rw [e])
    rw [heap_setCell_other _ ⟨b, 1, none⟩ k y hne, heap_setCell_other _ ⟨b, 0, none⟩ k x hne]⟩
/-- A number in a cell. -/
def ceI (w : World) (b k : Nat) : Int := match w.cell? ⟨b, k, none⟩ with | some (.int .i64 x) => x | _ => 0
theorem ceI_itf {w : World} {b : Nat} {e : Int × Int} (h : ItF w b e) : ceI w b 0 = e.1 ∧ ceI w b 1 = e.2 := by
  obtain ⟨h0, h1, _⟩ := bk2 h
  unfold ceI
  rw [h0, h1]
  exact ⟨rfl, rfl⟩
/-- Where the list stands. -/
def FySt (o : Int) (l : List (Int × Int)) (e x : Int × Int) (j : Nat) : Prop := FyS o e x ∧ fyGood j o x (fyN o e x) = true ∧ far o = l ++ fyL j o x (fyN o e x)
theorem fySt_start {o : Int} (h : 1 ≤ o) (h1 : o ≤ 40) : ∃ j, FySt o [(0, 1)] (0, 1) (1, o) j := by
  obtain ⟨j, _, e, hs, hg⟩ := good_step (fy_start h h1) (by decide)
  exact ⟨j, fyS_of hs, hg, e⟩
theorem fySt_next {o : Int} {l : List (Int × Int)} {e x : Int × Int} {j : Nat} (h : FySt o l e x j) (hle : x.1 ≤ x.2) : ∃ j', FySt o (l ++ [x]) x (fyN o e x) j' := by
  obtain ⟨hs, hg, he⟩ := h
  obtain ⟨j', _, e', hs', hg'⟩ := good_step hg hle
  exact ⟨j', fyS_of hs', hg', by rw [he, e']; simp⟩
theorem fySt_end {o : Int} {l : List (Int × Int)} {e x : Int × Int} {j : Nat} (h : FySt o l e x j) (hgt : ¬ x.1 ≤ x.2) : far o = l := by
  obtain ⟨_, _, he⟩ := h
  rw [he, good_end hgt, List.append_nil]
theorem fySt_len {o : Int} {l : List (Int × Int)} {e x : Int × Int} {j : Nat} (h : FySt o l e x j) : l.length ≤ 600 := by
  have := far_len o
  rw [h.2.2] at this
  simp at this
  omega
theorem fySt_nums {o : Int} {l : List (Int × Int)} {e x : Int × Int} {j : Nat} (h : FySt o l e x j) : (0 ≤ e.1 ∧ e.1 ≤ 1000000000 ∧ 1 ≤ e.2 ∧ e.2 ≤ 1000000000) ∧ (0 ≤ x.1 ∧ x.1 ≤ 1000 ∧ 1 ≤ x.2 ∧ x.2 ≤ 1000) ∧ (0 ≤ (fyN o e x).1 ∧ (fyN o e x).1 ≤ 1000 ∧ 1 ≤ (fyN o e x).2 ∧ (fyN o e x).2 ≤ 1000) ∧
    (0 ≤ fyT o e x ∧ fyT o e x ≤ 1000) ∧ (0 ≤ fyT o e x * x.1 ∧ fyT o e x * x.1 ≤ 1000000) ∧ (0 ≤ fyT o e x * x.2 ∧ fyT o e x * x.2 ≤ 1000000) := by
  obtain ⟨hs, hg, _⟩ := h
  obtain ⟨h1, h2⟩ := good_in hg
  obtain ⟨a1, a2, a3, a4⟩ := ok_bounds hs.ok
  have b0 := hs.pos
  have t0 := hs.t0
  have t1 := hs.t1
  have m1 : fyT o e x * x.1 ≤ 1000 * 1000 := Int.mul_le_mul t1 h1.2.1 h1.1 (by omega)
  have m2 : fyT o e x * x.2 ≤ 1000 * 1000 := Int.mul_le_mul t1 h1.2.2.2 (by omega) (by omega)
  have m3 : 0 ≤ fyT o e x * x.1 := Int.mul_nonneg t0 h1.1
  have m4 : 0 ≤ fyT o e x * x.2 := Int.mul_nonneg t0 (by omega)
  exact ⟨⟨b0, a4, a1, a2⟩, h1, h2, ⟨t0, t1⟩, ⟨m3, by omega⟩, ⟨m4, by omega⟩⟩

set_option maxRecDepth 100000 in
set_option maxHeartbeats 3200000 in
theorem specAll (o : Int) (w : World) (ho : 1 ≤ o) (ho1 : o ≤ 40) :
    Calls Tryd.prog 45 #[.int .i64 o] w fun e w' => ∃ v, e = .returned v ∧ FBack w.heap.size w' v (far o) ∧ Below w.heap.size w w' := by
  obtain ⟨i0, hi, hz0, hz1, hz2⟩ := info_parts infoF
  obtain ⟨j0, hj0⟩ := fySt_start ho ho1
  have HST := hid hj0
  clear hj0
  have E0 := hid ((((Below.refl w.heap.size w).alloc (Nat.le_refl _) (.cells #[.int .i64 0, .int .i64 1] 32)).alloc (by simp) (.cells #[.int .i64 1, .int .i64 o] 32)).alloc (by simp; omega) (.cells #[.int .i64 0, .int .i64 1] 32))
  have A0 := hid (show ItF (((w.alloc (.cells #[.int .i64 0, .int .i64 1] 32)).alloc (.cells #[.int .i64 1, .int .i64 o] 32)).alloc (.cells #[.int .i64 0, .int .i64 1] 32)) w.heap.size (0, 1) from od_at (od_at (nw_at _ _) _) _)
  have B0 := hid (show ItF (((w.alloc (.cells #[.int .i64 0, .int .i64 1] 32)).alloc (.cells #[.int .i64 1, .int .i64 o] 32)).alloc (.cells #[.int .i64 0, .int .i64 1] 32)) (w.heap.size + 1) (1, o) from od_at (by have := nw_at (w.alloc (.cells #[.int .i64 0, .int .i64 1] 32)) (.cells #[.int .i64 1, .int .i64 o] 32); rwa [World.size_alloc] at this) _)
  have R0 := hid (World.ownsRow_lit (base := w.heap.size + 1 + 1) (e := 32) (size := 2) ((w.alloc (.cells #[.int .i64 0, .int .i64 1] 32)).alloc (.cells #[.int .i64 1, .int .i64 o] 32)) #[.int .i64 0, .int .i64 1] 1 (by simp) (by decide) rfl)
  have c0 := (two_new w 32 (.int .i64 0) (.int .i64 1)).1
  have c1 := (two_new w 32 (.int .i64 0) (.int .i64 1)).2
  go_enter Tryd.func45, Tryd.ntmps45
  go_wp2_with (fail)
  clear c0 c1
  go_loopw [5, 6, 7] (fun v _ _ wr => ∃ (l : List (Int × Int)) (e x : Int × Int) (j : Nat), Hid (FySt o l e x j) ∧ ItF wr w.heap.size e ∧ ItF wr (w.heap.size + 1) x ∧ wr.ownsRow (w.heap.size + 1 + 1) 32 2 v l.length (frCells l) ∧ Below w.heap.size w wr) (fun _ _ _ wr => meaF (ceI wr (w.heap.size + 1) 0) (ceI wr (w.heap.size + 1) 1))
  case atStart =>
    refine ⟨[(0, 1)], (0, 1), (1, o), j0, HST, A0.out, B0.out, ?_, E0.out⟩
    have := R0.out
    simp only [World.size_alloc] at this
    exact this
  case round =>
    obtain ⟨l, ⟨p, q⟩, ⟨r, s⟩, j, hst, ha, hb, hown, hbel⟩ := hrel
    have hll := fySt_len hst.out
    obtain ⟨⟨e1, e2, e3, e4⟩, ⟨x1, x2, x3, x4⟩, ⟨n1, n2, n3, n4⟩, ⟨t1, t2⟩, ⟨p1, p2⟩, ⟨q1, q2⟩⟩ := fySt_nums hst.out
    dsimp only [fyN, fyT] at e1 e2 e3 e4 x1 x2 x3 x4 n1 n2 n3 n4 t1 t2 p1 p2 q1 q2
    obtain ⟨a0, a1, fa0, fa1, la⟩ := bk2 ha
    obtain ⟨b0, b1, fb0, fb1, lb⟩ := bk2 hb
    have HA := hid ha
    have HB := hid hb
    have HO := hid hown
    have HE := hid hbel
    have HST := hid hst.out
    have HCI := hid (ceI_itf hb)
    clear hst ha hb hown hbel
    by_cases hle : r ≤ s
    · obtain ⟨j', hj'⟩ := fySt_next HST.out hle
      have hme := hj'.1.mea
      have HN := hid hj'
      dsimp only [fyN, fyT] at hme
      have HME := hid hme
      have y0 := (two_new wr 32 (.int .i64 r) (.int .i64 s)).1
      have y1 := (two_new wr 32 (.int .i64 r) (.int .i64 s)).2
      have hsz := HE.out.size
      clear hj' hme
      go_wp2_with (at_builtin; refine wpList_append_own _ rfl _ _ 25 rfl (w.heap.size + 1 + 1) 32 i0 (.agg #[.int .i64 0, .int .i64 0]) 2 16 Tryd.underlying25 hi hz0 hz1 hz2 rfl (by decide) _ l.length (frCells l) (by rfl) ?_ ⟨wr.heap.size, 0, none⟩ 1 1 [.int .i64 r, .int .i64 s] (by rfl) ?_ ?_ ?_ ?_ ?_ ?_ ?_)
      · exact HO.out.alloc _
      · exact ⟨rfl, rfl⟩
      · unfold maxLen; omega
      · omega
      · (first | omega | (simp <;> omega))
      · intro v2 w5 hown2 hgrow2 _
        have HO2 := hid (show w5.ownsRow (w.heap.size + 1 + 1) 32 2 v2 (l ++ [(r, s)]).length (frCells (l ++ [(r, s)])) by
          rw [← frCells_more, List.length_append]; exact hown2)
        have HE2 := hid ((HE.out.alloc HE.out.size (.cells #[.int .i64 r, .int .i64 s] 32)).grown hgrow2 (by first | omega | (simp <;> omega)) (fun k hk => by have := (HO.out.lt k hk).1; omega))
        have A5 := hid (itf_grown (od_at HA.out (.cells #[.int .i64 r, .int .i64 s] 32)) hgrow2 (fun e => by have := (HO.out.lt _ e.symm).1; omega))
        have B5 := hid (itf_grown (od_at HB.out (.cells #[.int .i64 r, .int .i64 s] 32)) hgrow2 (fun e => by have := (HO.out.lt _ e.symm).1; omega))
        have hl5 := HE2.out.size
        clear a0 a1 fa0 fa1 la b0 b1 fb0 fb1 lb y0 y1 hown2 hgrow2
        obtain ⟨a0, a1, fa0, fa1, la⟩ := bk2 A5.out
        obtain ⟨b0, b1, fb0, fb1, lb⟩ := bk2 B5.out
        have hne : ¬ w.heap.size = w.heap.size + 1 := by omega
        have hne2 : ¬ w.heap.size + 1 = w.heap.size := by omega
        have HAX := hid (itf_other (itf_set A5.out (r, s)) hne2 (.int .i64 ((o + q) / s * r - p)) (.int .i64 ((o + q) / s * s - q)))
        have HBX := hid (itf_set (itf_other B5.out hne (.int .i64 r) (.int .i64 s)) ((o + q) / s * r - p, (o + q) / s * s - q))
        go_wp2_with (fail)
        go_roundw
        case rel =>
          refine ⟨l ++ [(r, s)], (r, s), ((o + q) / s * r - p, (o + q) / s * s - q), j', HN, od_at HAX.out _, od_at HBX.out _, ?_, ?_⟩
          · exact ((HO2.out.kept (set2_gr _ _ _ _) (.inr (fun e => by have := (HO2.out.lt _ e).1; omega))).kept (set2_gr _ _ _ _) (.inr (fun e => by have := (HO2.out.lt _ e).1; omega))).alloc _
          · exact (below_set (below_set (below_set (below_set HE2.out (by omega) _) (by omega) _) (by omega) _) (by omega) _).alloc (by simp; omega) _
        case measure =>
          obtain ⟨u0, u1⟩ := ceI_itf (od_at HBX.out (.cells #[.int .i64 ((o + q) / s * r - p), .int .i64 ((o + q) / s * s - q)] 32))
          rw [u0, u1, HCI.out.1, HCI.out.2]
          exact HME.out
    · have HR := hid (fySt_end HST.out hle)
      go_wp2_with (fail)
      go_ret
      exact ⟨_, rfl, by rw [HR.out]; exact fback_mono (frow_back HO.out rfl) (by omega), HE.out⟩

end Go.Proofs.YtjijabfamjhdjaaDoor
