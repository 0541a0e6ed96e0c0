/- Contracts: the terms of a fraction by a kind, by the model. -/
import Derived.Test.YtipegemhcmfnmaaDoorExk
namespace Go.Proofs.YtipegemhcmfnmaaDoor
open Go.RowKit

/-- What the model's loop hands back. -/
def sxo (k n d : Int) : List (Int × Int) × Bool := match sx k 60 1 n d with | some r => (r, okS r) | none => ([], false)
theorem sxo_none {k n d : Int} (h : sx k 60 1 n d = none) : sxo k n d = ([], false) := by unfold sxo; rw [h]
theorem sxo_some {k n d : Int} {r : List (Int × Int)} (h : sx k 60 1 n d = some r) : sxo k n d = (r, okS r) := by unfold sxo; rw [h]
theorem sxo_no {k n d : Int} (h : (sxo k n d).2 = false) : sxc k [] 1 n d = ([], 5) := by
  unfold sxo at h
  unfold sxc
  show (match sx k 60 1 n d with | none => _ | some r => _) = _
  cases hs : sx k 60 1 n d with
  | none => rfl
  | some r =>
    rw [hs] at h
    show (if okS ([] ++ r) = true then _ else _) = _
    rw [List.nil_append, if_neg (by rw [show okS r = false from h]; decide)]
theorem sxo_yes {k n d : Int} (h : (sxo k n d).2 = true) : sxc k [] 1 n d = ((sxo k n d).1, 0) := by
  unfold sxo at h ⊢
  unfold sxc
  show (match sx k 60 1 n d with | none => _ | some r => _) = _
  cases hs : sx k 60 1 n d with
  | none => rw [hs] at h; cases h
  | some r =>
    rw [hs] at h
    show (if okS ([] ++ r) = true then ([] ++ r, (0 : Int)) else ([], 5)) = (r, 0)
    rw [List.nil_append, if_pos h]
theorem sx_end {k s n d : Int} {f : Nat} (h : n - kt k n d * d = 0) : sx k (f + 1) s n d = some [(s, kt k n d)] := by unfold sx; rw [if_pos h]
theorem sx_more {k s n d : Int} {f : Nat} (h : n - kt k n d * d ≠ 0) : sx k (f + 1) s n d = (sx k f (sg (n - kt k n d * d)) d (ab (n - kt k n d * d))).map ((s, kt k n d) :: ·) := by
  conv => lhs; unfold sx
  rw [if_neg h]
theorem specKindB2 (x : Int) (w : World) :
    Calls Tryd.prog 76 #[.int .i64 x] w fun e w' => e = .returned (.bool (okK x)) ∧ w' = w := by
  have S := hid (fun w => specIn x 1 4 w)
  have hb : inB 1 4 x = okK x := rfl
  rw [hb] at S
  clear hb
  go_enter Tryd.func76, Tryd.ntmps76
  go_wp2_with (fail)
  refine (S.out _).mono ?_
  rintro e w1 ⟨rfl, rfl⟩
  go_wp2_with (fail)
  go_ret
  exact ⟨rfl, rfl⟩
theorem ab_size (r : Int) : (r.natAbs : Int) = ab r := by unfold ab; split <;> omega

set_option maxRecDepth 100000 in
set_option maxHeartbeats 3200000 in
theorem specExpL (k n d : Int) (w : World) (hk : okK k = true) (h1 : -1000000000 ≤ n) (h2 : n ≤ 1000000000) (h3 : 1 ≤ d) (h4 : d ≤ 1000000000) :
    Calls Tryd.prog 78 #[.agg #[.int .i64 n, .int .i64 d], .int .i64 k] w fun e w' => ∃ v, e = .returned (.tuple #[v, .bool (sxo k n d).2]) ∧ SBack w.heap.size w' v (sxo k n d).1 ∧ Below w.heap.size w w' := by
  obtain ⟨i0, hi, hz0, hz1, hz2⟩ := info_parts infoG
  have hT2 := hid (fun n d w => specTerm k n d w hk)
  clear hk
  go_enter Tryd.func78, Tryd.ntmps78
  go_wp2_with (fail)
  obtain ⟨W, hW⟩ : ∃ W, W = (w.alloc (.cells #[.int .i64 n, .int .i64 d] 30)).alloc (.cells #[] 94) := ⟨_, rfl⟩
  have E0 := hid (show Below w.heap.size w W by rw [hW]; exact (((Below.refl w.heap.size w).alloc (Nat.le_refl _) _).alloc (by simp) _))
  have R0 := hid (show W.ownsRow w.heap.size 94 2 (.slice (some ⟨w.heap.size + 1, 0, none⟩) 0 0) 0 (sgCells []) by
    rw [hW]
    have h := World.ownsRow_lit (base := w.heap.size) (e := 94) (size := 2) (w.alloc (.cells #[.int .i64 n, .int .i64 d] 30)) #[] 0 (by simp) (by decide) rfl
    rw [World.size_alloc] at h
    exact h)
  try rw [← hW]
  clear hW
  go_loopw [6, 7, 8, 9, 10, 11] (fun v u7 u8 u9 u10 u11 wr => ∃ (l : List (Int × Int)) (s m e : Int) (a : Option Addr) (c : Nat), v = .slice a l.length c ∧ u7 = .int .i64 m ∧ u8 = .int .i64 e ∧ u9 = .int .i64 s ∧ -1000000000 ≤ m ∧ m ≤ 1000000000 ∧ 1 ≤ e ∧ e ≤ 1000000000 ∧ l.length ≤ 60 ∧ wr.ownsRow w.heap.size 94 2 v l.length (sgCells l) ∧ Hid (sx k 60 1 n d = (sx k (60 - l.length) s m e).map (l ++ ·)) ∧ Below w.heap.size w wr) (fun v _ _ _ _ _ _ => 60 - lenV v)
  case atStart => exact ⟨[], 1, n, d, _, _, rfl, rfl, rfl, rfl, h1, h2, h3, h4, by simp, R0.out, hid (by simp), E0.out⟩
  case round =>
    obtain ⟨l, s, m, e, a, c, rfl, rfl, rfl, rfl, hm1, hm2, he1, he2, hl, hown, hst, hbel⟩ := hrel
    have HBEL := hid hbel
    have HOWN := hid hown
    have hbw : w.heap.size ≤ wr.heap.size := hbel.size
    by_cases hlt : l.length < 60
    · have hlt' : (l.length : Int) < 60 := by omega
      have K1 := hid (kt_rest k m e he1)
      have K2 := hid (kt_bd k m e he1)
      have TT := hid (fun w => hT2.out m e w hm1 hm2 he1 he2)
      have hf : 60 - l.length = (59 - l.length) + 1 := by omega
      have hst2 := hst.out
      rw [hf] at hst2
      have SXE := hid (fun h => by have h5 := hst2; rw [sx_end (k := k) (s := s) (n := m) (d := e) h] at h5; exact h5)
      have SXM := hid (fun h => by have h5 := hst2; rw [sx_more (k := k) (s := s) (n := m) (d := e) h] at h5; exact h5)
      clear hbel hown hst hst2 hf
      generalize kt k m e = t at *
      go_wp2_with (fail)
      refine (TT.out _).mono ?_
      rintro e2 w1 ⟨rfl, rfl⟩
      go_wp2_with (at_builtin; refine wpList_append_own _ rfl _ _ 24 rfl w.heap.size 94 i0 (.agg #[.int .i64 0, .int .i64 0]) 2 16 Tryd.underlying24 hi hz0 hz1 hz2 rfl (by decide) _ l.length (sgCells l) (by rfl) ?c0 ⟨w1.heap.size, 0, none⟩ 1 1 [.int .i64 s, .int .i64 t] (by rfl) ?c1 ?c2 ?c3 ?c4 ?c5 ?c6 ?c7)
      case c0 => exact HOWN.out.alloc _
      case c1 => rfl
      case c2 => exact snews2 _ _ _ _
      case c3 => exact sg_one _ _
      case c4 => unfold maxLen; omega
      case c5 => omega
      case c6 => (first | omega | (simp <;> omega))
      intro v2 w3 hown2 hgrow2 _
      have HO2 := hid (show w3.ownsRow w.heap.size 94 2 v2 (l ++ [(s, t)]).length (sgCells (l ++ [(s, t)])) by
        rw [← sgCells_more, List.length_append]; exact hown2)
      have E3 := hid ((HBEL.out.alloc hbw (.cells #[.int .i64 s, .int .i64 t] 94)).grown hgrow2 (by first | omega | (simp <;> omega)) (fun k hk => (HOWN.out.lt k hk).1))
      have HL3 := hid (show (l ++ [(s, t)]).length = l.length + 1 by simp)
      have HAP := hid (show ∀ o : Option (List (Int × Int)), (o.map ((s, t) :: ·)).map (l ++ ·) = o.map ((l ++ [(s, t)]) ++ ·) from fun o => by cases o <;> simp)
      have HAE := hid (show (some [(s, t)]).map (l ++ ·) = some (l ++ [(s, t)]) from rfl)
      obtain ⟨zs, hzs⟩ : ∃ zs, zs = l ++ [(s, t)] := ⟨_, rfl⟩
      rw [← hzs] at HO2 HL3 HAP HAE
      obtain ⟨g3, c3, rfl, O3⟩ := srow_more HO2.out (by have := HL3.out; omega)
      have OW := hid O3
      clear hown2 hgrow2 hzs O3 HO2 HOWN HBEL
      have K1o := K1.out
      have K2o := K2.out
      have p1 : -2000000000 ≤ t * e := by omega
      have p2 : t * e ≤ 2000000000 := by omega
      have q1 : -1000000001 ≤ t := by omega
      have q2 : t ≤ 1000000001 := by omega
      have RD := hid (show -e ≤ m - t * e ∧ m - t * e ≤ e from K1o)
      have r1 : -1000000000 ≤ m - t * e := by omega
      have r2 : m - t * e ≤ 1000000000 := by omega
      clear K1 K2 K1o K2o TT
      generalize hy : t * e = y at *
      generalize hr : m - y = r at *
      by_cases h0 : r = 0
      · subst h0
        have HR := hid (show sx k 60 1 n d = some zs by rw [SXE.out rfl]; exact HAE.out)
        have HS2 := hid (sxo_some HR.out)
        have V3 := hid (specOkS g3 c3 zs w3 (by have := HL3.out; omega) (sown_sgs OW.out))
        clear SXE SXM HAP HAE HR
        generalize okS zs = b at *
        go_wp2_with (fail)
        refine V3.out.mono ?_
        rintro e2 w4 ⟨rfl, b4⟩
        have E4 := hid (E3.out.trans (b4.mono E3.out.size))
        have O4 := hid (sown_below OW.out b4)
        clear b4 V3
        go_wp2_with (fail)
        go_ret2
        exact ⟨_, by rw [HS2.out]; rfl, by rw [HS2.out]; exact .inr ⟨_, _, rfl, O4.out⟩, E4.out⟩
      have h0' : (r == 0) = false := by simpa using h0
      have SA := hid (sg_ab h0 RD.out.1 RD.out.2)
      have HM := hid (show sx k 60 1 n d = (sx k (60 - zs.length) (sg r) e (ab r)).map (zs ++ ·) by
        rw [SXM.out h0, HAP.out, show 60 - zs.length = 59 - l.length by have := HL3.out; omega])
      have SZ := hid (fun w => specSize r w (by omega) (by omega))
      rw [ab_size] at SZ
      clear SXE SXM HAP HAE
      by_cases hneg : r < 0
      · obtain ⟨sg1, ab1⟩ := sg_neg hneg
        rw [sg1, ab1] at HM
        rw [ab1] at SZ
        have hr0 := SA.out
        rw [sg1, ab1] at hr0
        obtain ⟨_, hr1, hr2⟩ := hr0
        clear sg1 ab1
        go_wp2_with (fail)
        refine (SZ.out _).mono ?_
        rintro e2 w4 ⟨rfl, rfl⟩
        go_wp2_with (fail)
        go_roundw
        case rel => exact ⟨zs, -1, e, -r, _, _, rfl, rfl, rfl, rfl, by omega, by omega, by omega, by omega, (by have := HL3.out; omega), OW.out.2, HM, E3.out⟩
        case measure =>
          have m2 := HL3.out
          show 60 - zs.length < 60 - l.length
          omega
      · obtain ⟨sg1, ab1⟩ := sg_pos' hneg
        rw [sg1, ab1] at HM
        rw [ab1] at SZ
        have hr0 := SA.out
        rw [sg1, ab1] at hr0
        obtain ⟨_, hr1, hr2⟩ := hr0
        clear sg1 ab1
        go_wp2_with (fail)
        refine (SZ.out _).mono ?_
        rintro e2 w4 ⟨rfl, rfl⟩
        go_wp2_with (fail)
        go_roundw
        case rel => exact ⟨zs, 1, e, r, _, _, rfl, rfl, rfl, rfl, by omega, by omega, by omega, by omega, (by have := HL3.out; omega), OW.out.2, HM, E3.out⟩
        case measure =>
          have m2 := HL3.out
          show 60 - zs.length < 60 - l.length
          omega
    · have hlt' : ¬ (l.length : Int) < 60 := by omega
      have HR := hid (show sx k 60 1 n d = none by
        rw [hst.out, show 60 - l.length = 0 by omega]; rfl)
      have HS2 := hid (sxo_none HR.out)
      clear hbel hown hst HR
      go_wp2_with (fail)
      go_ret2
      exact ⟨_, by rw [HS2.out]; rfl, by rw [HS2.out]; exact sback_nil, HBEL.out⟩

theorem specCodeS (n d k : Int) (w : World) :
    Calls Tryd.prog 77 #[.agg #[.int .i64 n, .int .i64 d], .int .i64 k] w fun e w' => e = .returned (.int .i64 (codeS n d k)) ∧ Below w.heap.size w w' := by
  obtain ⟨W, hW⟩ : ∃ W, W = w.alloc (.cells #[.int .i64 n, .int .i64 d] 30) := ⟨_, rfl⟩
  have A : Below w.heap.size w W := by rw [hW]; exact (Below.refl _ _).alloc (Nat.le_refl _) _
  have EA := hid A
  have FB0 := hid (show FB W w.heap.size n d by rw [hW]; exact fb_new w n d)
  have V := hid (specOk n d W)
  have KB := hid (fun w => specKindB2 k w)
  cases hok : okF n d
  · rw [codeS_bad hok]
    rw [hok] at V
    clear hok A
    go_enter Tryd.func77, Tryd.ntmps77
    go_wp2_with (fail)
    rw [← hW]
    refine V.out.mono ?_
    rintro e w1 ⟨rfl, b1⟩
    have E1 := hid (EA.out.trans (b1.mono EA.out.size))
    clear b1 V
    go_wp2_with (fail)
    go_ret
    exact ⟨rfl, E1.out⟩
  rw [hok] at V
  obtain ⟨d1, d2, d3, d4⟩ := ok_boundsS hok
  have KO := hid (fun h => codeS_kind (n := n) (d := d) (k := k) hok h)
  have KF := hid (fun h h2 => codeS_fine (n := n) (d := d) (k := k) hok h h2)
  have K6 := hid (fun h h2 => codeS_even (n := n) (d := d) hok h h2)
  have K7 := hid (fun h => codeS_even1 (n := n) (d := d) hok h)
  have K8 := hid (fun h => codeS_even2 (n := n) (d := d) hok h)
  have hdm : d.tmod 2 = d % 2 := Int.tmod_eq_emod_of_nonneg (by omega)
  have HDM := hid hdm
  clear hok A hdm
  cases hk : okK k
  · have HR := hid (KO.out hk)
    rw [hk] at KB
    rw [HR.out]
    go_enter Tryd.func77, Tryd.ntmps77
    go_wp2_with (fail)
    rw [← hW]
    refine V.out.mono ?_
    rintro e w1 ⟨rfl, b1⟩
    have E1 := hid (EA.out.trans (b1.mono EA.out.size))
    clear b1 V
    go_wp2_with (fail)
    refine (KB.out _).mono ?_
    rintro e u ⟨rfl, rfl⟩
    go_wp2_with (fail)
    go_ret
    exact ⟨rfl, E1.out⟩
  rw [hk] at KB
  by_cases hk2 : k = 2
  · subst hk2
    have kk : ((2 : Int) == 2) = true := by decide
    by_cases h1 : n.tmod 2 = 0
    · have HR := hid (K7.out h1)
      have z1 : (n.tmod 2 != 0) = false := by simp [h1]
      clear h1 K6 K7 K8 KF KO
      rw [HR.out]
      go_enter Tryd.func77, Tryd.ntmps77
      go_wp2_with (fail)
      rw [← hW]
      clear hW
      refine V.out.mono ?_
      rintro e w1 ⟨rfl, b1⟩
      have E1 := hid (EA.out.trans (b1.mono EA.out.size))
      obtain ⟨x0, x1, _, _, _⟩ := fb_cells (fb_below FB0.out b1)
      clear b1 V
      go_wp2_with (fail)
      refine (KB.out _).mono ?_
      rintro e u ⟨rfl, rfl⟩
      go_wp2_with (fail)
      go_ret
      exact ⟨rfl, E1.out⟩
    · have z1 : (n.tmod 2 != 0) = true := by simpa using h1
      by_cases h2 : d % 2 = 0
      · have HR := hid (K8.out (by rw [HDM.out]; exact h2))
        have z2 : (d % 2 != 0) = false := by simp [h2]
        clear h1 h2 K6 K7 K8 KF KO
        rw [HR.out]
        go_enter Tryd.func77, Tryd.ntmps77
        go_wp2_with (fail)
        rw [← hW]
        clear hW
        refine V.out.mono ?_
        rintro e w1 ⟨rfl, b1⟩
        have E1 := hid (EA.out.trans (b1.mono EA.out.size))
        obtain ⟨x0, x1, _, _, _⟩ := fb_cells (fb_below FB0.out b1)
        clear b1 V
        go_wp2_with (fail)
        refine (KB.out _).mono ?_
        rintro e u ⟨rfl, rfl⟩
        go_wp2_with (fail)
        go_ret
        exact ⟨rfl, E1.out⟩
      · have HR := hid (K6.out h1 (by rw [HDM.out]; exact h2))
        have z2 : (d % 2 != 0) = true := by simpa using h2
        clear h1 h2 K6 K7 K8 KF KO
        rw [HR.out]
        go_enter Tryd.func77, Tryd.ntmps77
        go_wp2_with (fail)
        rw [← hW]
        clear hW
        refine V.out.mono ?_
        rintro e w1 ⟨rfl, b1⟩
        have E1 := hid (EA.out.trans (b1.mono EA.out.size))
        obtain ⟨x0, x1, _, _, _⟩ := fb_cells (fb_below FB0.out b1)
        clear b1 V
        go_wp2_with (fail)
        refine (KB.out _).mono ?_
        rintro e u ⟨rfl, rfl⟩
        go_wp2_with (fail)
        go_ret
        exact ⟨rfl, E1.out⟩
  · have kk : (k == 2) = false := by simpa using hk2
    have HR := hid (KF.out hk hk2)
    clear hk2 K6 K7 K8 KF KO
    rw [HR.out]
    go_enter Tryd.func77, Tryd.ntmps77
    go_wp2_with (fail)
    rw [← hW]
    clear hW
    refine V.out.mono ?_
    rintro e w1 ⟨rfl, b1⟩
    have E1 := hid (EA.out.trans (b1.mono EA.out.size))
    obtain ⟨x0, x1, _, _, _⟩ := fb_cells (fb_below FB0.out b1)
    clear b1 V
    go_wp2_with (fail)
    refine (KB.out _).mono ?_
    rintro e u ⟨rfl, rfl⟩
    go_wp2_with (fail)
    go_ret
    exact ⟨rfl, E1.out⟩

theorem specExpandS (n d k : Int) (w : World) :
    Calls Tryd.prog 34 #[.agg #[.int .i64 n, .int .i64 d], .int .i64 k] w fun e w' => SListR w.heap.size (expS n d k) e w' ∧ Below w.heap.size w w' := by
  obtain ⟨W, hW⟩ : ∃ W, W = w.alloc (.cells #[.int .i64 n, .int .i64 d] 30) := ⟨_, rfl⟩
  have A : Below w.heap.size w W := by rw [hW]; exact (Below.refl _ _).alloc (Nat.le_refl _) _
  have EA := hid A
  have FB0 := hid (show FB W w.heap.size n d by rw [hW]; exact fb_new w n d)
  have V := hid (specCodeS n d k W)
  by_cases hc : codeS n d k = 0
  · have hok : okF n d = true := by
      cases h : okF n d
      · rw [codeS_bad h] at hc; simp at hc
      · rfl
    have hk : okK k = true := by
      cases h : okK k
      · rw [codeS_kind hok h] at hc; simp at hc
      · rfl
    obtain ⟨d1, d2, d3, d4⟩ := ok_boundsS hok
    have L := hid (fun w => specExpL k n d w hk d3 d4 d1 d2)
    have HN := hid (fun h => (expS_ok hc).trans (sxo_no (k := k) (n := n) (d := d) h))
    have HY := hid (fun h => (expS_ok hc).trans (sxo_yes (k := k) (n := n) (d := d) h))
    rw [hc] at V
    clear hc hok hk A
    generalize sxo k n d = r at *
    obtain ⟨l, b⟩ := r
    cases b
    · have HR := hid (HN.out rfl)
      clear HN HY
      go_enter Tryd.func34, Tryd.ntmps34
      go_wp2_with (fail)
      rw [← hW]
      clear hW
      refine V.out.mono ?_
      rintro e w1 ⟨rfl, b1⟩
      have E1 := hid (EA.out.trans (b1.mono EA.out.size))
      obtain ⟨x0, x1, _, _, _⟩ := fb_cells (fb_below FB0.out b1)
      clear b1 V
      go_wp2_with (fail)
      refine (L.out _).mono ?_
      rintro e w2 ⟨v, rfl, r2, b2⟩
      have E2 := hid (E1.out.trans (b2.mono E1.out.size))
      clear r2 b2
      dsimp only
      go_wp2_with (fail)
      go_ret2
      exact ⟨⟨_, by rw [HR.out]; rfl, by rw [HR.out]; exact sback_nil⟩, E2.out⟩
    · have HR := hid (HY.out rfl)
      clear HN HY
      go_enter Tryd.func34, Tryd.ntmps34
      go_wp2_with (fail)
      rw [← hW]
      clear hW
      refine V.out.mono ?_
      rintro e w1 ⟨rfl, b1⟩
      have E1 := hid (EA.out.trans (b1.mono EA.out.size))
      obtain ⟨x0, x1, _, _, _⟩ := fb_cells (fb_below FB0.out b1)
      clear b1 V
      go_wp2_with (fail)
      refine (L.out _).mono ?_
      rintro e w2 ⟨v, rfl, r2, b2⟩
      have R2 := hid (sback_mono r2 E1.out.size)
      have E2 := hid (E1.out.trans (b2.mono E1.out.size))
      clear r2 b2
      dsimp only
      go_wp2_with (fail)
      go_ret2
      exact ⟨⟨_, by rw [HR.out]; rfl, by rw [HR.out]; exact R2.out⟩, E2.out⟩
  · have HX := hid (expS_bad (n := n) (d := d) (k := k) rfl hc)
    have hc2 : (codeS n d k != 0) = true := by simpa using hc
    clear hc A
    generalize codeS n d k = c at *
    go_enter Tryd.func34, Tryd.ntmps34
    go_wp2_with (fail)
    rw [← hW]
    clear hW
    refine V.out.mono ?_
    rintro e w1 ⟨rfl, b1⟩
    have E1 := hid (EA.out.trans (b1.mono EA.out.size))
    clear b1 V
    go_wp2_with (fail)
    go_ret2
    exact ⟨⟨_, by rw [HX.out]; rfl, by rw [HX.out]; exact sback_nil⟩, E1.out⟩

end Go.Proofs.YtipegemhcmfnmaaDoor
