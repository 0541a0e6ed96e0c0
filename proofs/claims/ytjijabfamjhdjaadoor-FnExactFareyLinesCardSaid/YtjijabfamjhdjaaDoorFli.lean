/- Contract: FareyLines, by the program. -/
import Derived.Test.YtjijabfamjhdjaaDoorFln
namespace Go.Proofs.YtjijabfamjhdjaaDoor
open Go.RowKit Go.Lib

def PowL (w : World) : Prop := TabIs Tryd.prog w "internal/strconv.uint64pow10" .u64 pow10Tab
theorem powl_below {w w' : World} (h : PowL w) (hb : Below w.heap.size w w') : PowL w' := tab_below h hb
theorem txO_len (p q : Int) : (txO p q).length ≤ 100 := by
  unfold txO
  cases h : okF p q
  · show ([] : List UInt8).length ≤ 100; simp
  · have := txF_len h
    show (txF p q).length ≤ 100
    omega
theorem implLn (k : Nat) (w : World) (hk : k < 10) (hp : PowL w) :
    Calls Tryd.prog 52 #[.int .i64 ((k : Int) + 1)] w fun e w' => e = .returned (.string (lineB k)) ∧ Below w.heap.size w w' := by
  refine (callsIn_wide.1 (implLine ((k : Int) + 1) w (by omega) (by omega) txO PowL (fun _ _ h hb => powl_below h hb) hp (fun p q w h => implText p q w h) txO_len)).mono ?_
  rintro e w' ⟨rfl, hb⟩
  refine ⟨?_, hb⟩
  have h1 : (lnB txO (far ((k : Int) + 1))).map (·.data.toList) = lnT (far ((k : Int) + 1)) := by
    unfold lnB lnT
    rw [List.map_map]
    refine List.map_congr_left fun x hx => ?_
    show txO x.1 x.2 = txF x.1 x.2
    unfold txO
    rw [far_plain hk hx]
    rfl
  rw [h1]
  rfl

set_option maxRecDepth 100000 in
set_option maxHeartbeats 8000000 in
theorem implLines (o : Int) (w : World) (hp : PowL w) :
    Calls Tryd.prog 21 #[.int .i64 o] w fun e w' => LinR w.heap.size (linT o) e w' ∧ Below w.heap.size w w' := by
  obtain ⟨i0, hi, hz0, hz1, hz2⟩ := info_parts info9
  have A0 : Below w.heap.size w (w.alloc (.cells #[.int .i64 o] 2)) := (Below.refl _ _).alloc (Nat.le_refl _) _
  have IN := hid (allWithin 1 10 w.heap.size 0 1 1 [o] (w.alloc (.cells #[.int .i64 o] 2)) rfl (by simp) (lit_one w o))
  have EA := hid A0
  have HP := hid hp
  clear A0 hp
  by_cases ho : 1 ≤ o ∧ o ≤ 10
  case neg =>
    rw [linT_no ho]
    have hb : ([o].all (inB 1 10)) = false := by simp [inB]; omega
    rw [hb] at IN
    clear ho hb
    go_enter Tryd.func21, Tryd.ntmps21
    go_wp2_with (fail)
    refine IN.out.mono ?_
    rintro e u ⟨rfl, b1⟩
    have E1 := hid (EA.out.trans (b1.mono EA.out.size))
    clear b1
    go_wp2_with (fail)
    go_ret2
    exact ⟨⟨_, rfl, World.ownsRow_nil _ _ _ _⟩, E1.out⟩
  rw [linT_ok ho]
  obtain ⟨ho1, ho2⟩ := ho
  obtain ⟨N, rfl⟩ := Int.eq_ofNat_of_zero_le (show 0 ≤ o by omega)
  have hN : N ≤ 10 := by omega
  rw [show ((N : Int)).toNat = N from Int.toNat_natCast N]
  have hb : ([(N : Int)].all (inB 1 10)) = true := by simp [inB]; omega
  rw [hb] at IN
  clear hb
  go_enter Tryd.func21, Tryd.ntmps21
  go_wp2_with (fail)
  refine IN.out.mono ?_
  rintro e u ⟨rfl, b1⟩
  have E1 := hid (EA.out.trans (b1.mono EA.out.size))
  clear b1 IN
  go_wp2_with (fail)
  go_loopw [4, 5] (fun v i wr => ∃ k : Nat, i = .int .i64 ((k : Int) + 1) ∧ k ≤ N ∧ wr.ownsRow w.heap.size 9 1 v (linesB k).length (strCells (linesB k)) ∧ Below w.heap.size w wr) (fun _ i _ => N + 1 - (RowKit.intOf i).toNat)
  case atStart => exact ⟨0, by rfl, by omega, World.ownsRow_nil _ _ _ _, E1.out⟩
  case round =>
    obtain ⟨k, rfl, hk, hown, hbel⟩ := hrel
    have HBEL := hid hbel
    have HOWN := hid hown
    have hk0 : (0 : Int) ≤ (k : Int) := by omega
    have hbw : w.heap.size ≤ wr.heap.size := hbel.size
    obtain ⟨va, vc, rfl⟩ := line_shape hown
    clear hbel hown E1
    by_cases hlt : k < N
    case neg =>
      have hlt' : ¬ (k : Int) + 1 ≤ (N : Int) := by omega
      have hkn : k = N := by omega
      subst hkn
      go_wp2_with (fail)
      go_ret2
      exact ⟨⟨_, rfl, HOWN.out⟩, HBEL.out⟩
    have hlt' : (k : Int) + 1 ≤ (N : Int) := by omega
    have LN := hid (implLn k wr (by omega) (powl_below HP.out HBEL.out))
    have HLK := hid (linesB_len k)
    go_wp2_with (fail)
    refine LN.out.mono ?_
    rintro e w2 ⟨rfl, b2⟩
    have E2 := hid (HBEL.out.trans (b2.mono hbw))
    have OW := hid (HOWN.out.kept (below_grows b2) (Classical.em _))
    have hb2 : w.heap.size ≤ w2.heap.size := E2.out.size
    clear b2 LN
    go_wp2_with (at_builtin; refine wpList_append_own _ rfl _ _ 35 rfl w.heap.size 9 i0 (.string ByteArray.empty) 1 16 Tryd.underlying35 hi hz0 hz1 hz2 rfl (by decide) _ (linesB k).length (strCells (linesB k)) (by rfl) ?c0 ⟨w2.heap.size, 0, none⟩ 1 1 [.string (lineB k)] (by rfl) ?c1 ?c2 ?c3 ?c4 ?c5 ?c6 ?c7)
    case c0 => exact OW.out.alloc _
    try (case c1 => rfl)
    try (case c2 => exact news_one _ _ _)
    try (case c3 => first | rfl | (intro u hu; obtain rfl := List.mem_singleton.1 hu; rfl))
    try (case c4 => have := HLK.out; unfold maxLen; omega)
    try (case c5 => have := HLK.out; omega)
    try (case c6 => (first | omega | (simp <;> omega)))
    intro v2 w3 hown2 hgrow2 _
    have HO2 := hid (show w3.ownsRow w.heap.size 9 1 v2 (linesB (k + 1)).length (strCells (linesB (k + 1))) by
      rw [linesB_more, ← strCells_more, List.length_append]; exact hown2)
    have HE2 := hid ((E2.out.alloc hb2 (.cells #[.string (lineB k)] 9)).grown hgrow2 (by first | omega | (simp <;> omega)) (fun g hg => (OW.out.lt g hg).1))
    clear hown2 hgrow2
    go_wp2_with (fail)
    go_roundw
    case rel => exact ⟨k + 1, by go_num, by omega, HO2.out, HE2.out⟩
    case measure => simp [RowKit.intOf]; omega

end Go.Proofs.YtjijabfamjhdjaaDoor
