/- Contract: Farey sequences as lines, by the model. -/
import Derived.Test.YtjijabfamjhdjaaDoorFal
import Derived.Test.YtjijabfamjhdjaaDoorFrt
import Derived.Test.YtjijabfamjhdjaaDoorSp
import Derived.Test.YtjijabfamjhdjaaDoorPtm
namespace Go.Proofs.YtjijabfamjhdjaaDoor
open Go.RowKit Go.Lib

/-- The texts of fractions. -/
def lnT (xs : List (Int × Int)) : List (List UInt8) := xs.map fun x => txF x.1 x.2
/-- A line. -/
def lineB (i : Nat) : ByteArray := ⟨(join (lnT (far ((i : Int) + 1))) [32]).toArray⟩
def linesB (n : Nat) : List ByteArray := (List.range n).map lineB
theorem linesB_more (n : Nat) : linesB (n + 1) = linesB n ++ [lineB n] := by unfold linesB; rw [List.range_succ, List.map_append]; rfl
theorem linesB_len (n : Nat) : (linesB n).length = n := by unfold linesB; simp
theorem far10 : ((List.range 10).all fun i => (far ((i : Int) + 1)).all fun x => okF x.1 x.2) = true := by kernel_rfl
theorem far_plain {i : Nat} (h : i < 10) {x : Int × Int} (hx : x ∈ far ((i : Int) + 1)) : okF x.1 x.2 = true :=
  List.all_eq_true.1 (List.all_eq_true.1 far10 i (List.mem_range.2 h)) x hx
theorem txF_len {n d : Int} (h : okF n d = true) : (txF n d).length ≤ 41 := by
  obtain ⟨a, b, c, e⟩ := ok_bounds h
  have h1 := itoa_length (n := n) (by omega)
  have h2 := itoa_length (n := d) (by omega)
  unfold txF
  split
  · omega
  · rw [List.length_append, List.length_cons]; omega
theorem lnT_one {xs : List (Int × Int)} {x : Int × Int} (h : xs[0]? = some x) : join (lnT (xs.take 1)) [32] = txF x.1 x.2 := by
  have : xs.take 1 = [x] := by rw [show 1 = 0 + 1 from rfl, List.take_add_one, List.take_zero, h]; rfl
  rw [this]
  exact join_one _ _
theorem lnT_more {xs : List (Int × Int)} {k : Nat} {x : Int × Int} (hk : 1 ≤ k) (h : xs[k]? = some x) : join (lnT (xs.take (k + 1))) [32] = join (lnT (xs.take k)) [32] ++ ([32] ++ txF x.1 x.2) := by
  have hl := (List.getElem?_eq_some_iff.1 h).1
  have : lnT (xs.take (k + 1)) = lnT (xs.take k) ++ [txF x.1 x.2] := by unfold lnT; rw [List.take_add_one, h, List.map_append]; rfl
  rw [this, pjoin_snoc]
  intro e
  have h9 : (lnT (xs.take k)).length = 0 := by rw [e]; rfl
  unfold lnT at h9
  rw [List.length_map, List.length_take, Nat.min_eq_left (Nat.le_of_lt hl)] at h9
  omega
theorem line_shape {B : Nat} {w : World} {t : TypeId} {z : Nat} {v : Value} {n : Nat} {cs : List Value} (h : w.ownsRow B t z v n cs) : ∃ a c, v = .slice a n c := by
  rcases h.2 with ⟨rfl, rfl⟩ | ⟨g, cap, _, h1, _⟩
  · exact ⟨none, 0, rfl⟩
  · exact ⟨_, cap, h1⟩
/-- Lines and a code. -/
def linT (o : Int) : List ByteArray × Int := if 1 ≤ o ∧ o ≤ 10 then (linesB o.toNat, 0) else ([], 2)
theorem linT_no {o : Int} (h : ¬ (1 ≤ o ∧ o ≤ 10)) : linT o = ([], 2) := if_neg h
theorem linT_ok {o : Int} (h : 1 ≤ o ∧ o ≤ 10) : linT o = (linesB o.toNat, 0) := if_pos h
def LinR (B : Nat) (t : List ByteArray × Int) (e : Ending) (w' : World) : Prop := ∃ v, e = .returned (.tuple #[v, .int .i64 t.2]) ∧ w'.ownsRow B 9 1 v t.1.length (strCells t.1)

set_option maxRecDepth 100000 in
set_option maxHeartbeats 8000000 in
theorem specLines (o : Int) (w : World) :
    Calls Tryd.prog 22 #[.int .i64 o] w fun e w' => LinR w.heap.size (linT o) e w' ∧ Below w.heap.size w w' := by
  obtain ⟨i0, hi, hz0, hz1, hz2⟩ := info_parts info9
  by_cases ho : 1 ≤ o ∧ o ≤ 10
  case neg =>
    rw [linT_no ho]
    have IN := hid (specIn o 1 10 w)
    have hb : inB 1 10 o = false := by unfold inB; simp; omega
    rw [hb] at IN
    clear ho hb
    go_enter Tryd.func22, Tryd.ntmps22
    go_wp2_with (fail)
    refine IN.out.mono ?_
    rintro e u ⟨rfl, hu⟩
    rw [hu]
    clear hu
    go_wp2_with (fail)
    go_ret2
    exact ⟨⟨_, rfl, World.ownsRow_nil _ _ _ _⟩, Below.refl _ _⟩
  rw [linT_ok ho]
  obtain ⟨ho1, ho2⟩ := ho
  obtain ⟨N, rfl⟩ := Int.eq_ofNat_of_zero_le (show 0 ≤ o by omega)
  have hN : N ≤ 10 := by omega
  rw [show ((N : Int)).toNat = N from Int.toNat_natCast N]
  have IN := hid (specIn (N : Int) 1 10 w)
  have hb : inB 1 10 (N : Int) = true := by unfold inB; simp; omega
  rw [hb] at IN
  have R0 := hid (show (w.alloc (.cells #[] 9)).ownsRow w.heap.size 9 1 (.slice (some ⟨w.heap.size, 0, none⟩) 0 0) (linesB 0).length (strCells (linesB 0)) from World.ownsRow_lit w #[] 0 (Nat.le_refl _) (by decide) rfl)
  have E0 := hid (show Below w.heap.size w (w.alloc (.cells #[] 9)) from (Below.refl _ _).alloc (Nat.le_refl _) _)
  clear hb
  go_enter Tryd.func22, Tryd.ntmps22
  go_wp2_with (fail)
  refine IN.out.mono ?_
  rintro e u ⟨rfl, hu⟩
  rw [hu]
  clear hu IN
  go_wp2_with (fail)
  go_loopw [4, 5, 6, 7, 8] (fun v i _ _ _ wr => ∃ k : Nat, i = .int .i64 ((k : Int) + 1) ∧ k ≤ N ∧ wr.ownsRow w.heap.size 9 1 v (linesB k).length (strCells (linesB k)) ∧ Below w.heap.size w wr) (fun _ i _ _ _ _ => N + 1 - (RowKit.intOf i).toNat)
  case atStart => exact ⟨0, by rfl, by omega, R0.out, E0.out⟩
  case round =>
    obtain ⟨k, rfl, hk, hown, hbel⟩ := hrel
    have HBEL := hid hbel
    have HOWN := hid hown
    have hk0 : (0 : Int) ≤ (k : Int) := by omega
    have hbw : w.heap.size ≤ wr.heap.size := hbel.size
    obtain ⟨va, vc, rfl⟩ := line_shape hown
    clear hbel hown R0 E0
    by_cases hlt : k < N
    case neg =>
      have hlt' : ¬ (k : Int) + 1 ≤ (N : Int) := by omega
      have hkn : k = N := by omega
      subst hkn
      go_wp2_with (fail)
      go_ret2
      exact ⟨⟨_, rfl, HOWN.out⟩, HBEL.out⟩
    have hlt' : (k : Int) + 1 ≤ (N : Int) := by omega
    have AL := hid (specAll ((k : Int) + 1) wr (by omega) (by omega))
    have HFL := hid (far_len ((k : Int) + 1))
    have HPL := hid (fun (x : Int × Int) (h : x ∈ far ((k : Int) + 1)) => far_plain (show k < 10 by omega) h)
    have HLB := hid (show lineB k = ⟨(join (lnT (far ((k : Int) + 1))) [32]).toArray⟩ from rfl)
    have HNE := hid (show far ((k : Int) + 1) ≠ [] by obtain ⟨r, hr⟩ := far_first (o := (k : Int) + 1) (by omega) (by omega); rw [hr]; simp)
    generalize far ((k : Int) + 1) = xs at *
    go_wp2_with (fail)
    refine AL.out.mono ?_
    rintro e w1 ⟨v1, rfl, fb, b1⟩
    obtain ⟨g, c, rfl, O1⟩ : ∃ g c, v1 = .slice (some ⟨g, 0, none⟩) xs.length c ∧ FOwn wr.heap.size w1 g c xs := by
      rcases fb with ⟨_, h0⟩ | h
      · exact absurd h0 HNE.out
      · exact h
    have E1 := hid (HBEL.out.trans (b1.mono hbw))
    have OW := hid (HOWN.out.kept (below_grows b1) (Classical.em _))
    have FO := hid O1
    have hb1 : w.heap.size ≤ w1.heap.size := E1.out.size
    have hxl : xs.length ≤ 600 := HFL.out
    clear fb b1 O1 AL
    go_wp2_with (fail)
    go_loopw [7, 8] (fun s i ws => ∃ (j : Nat) (T : ByteArray), i = .int .i64 j ∧ j ≤ xs.length ∧ s = .string T ∧ T.size ≤ 50 * j ∧ Hid (T.data.toList = join (lnT (xs.take j)) [32]) ∧ Below w1.heap.size w1 ws) (fun _ i _ => xs.length - (RowKit.intOf i).toNat)
    case atStart => exact ⟨0, ⟨#[]⟩, rfl, by omega, rfl, by decide, hid rfl, Below.refl _ _⟩
    case round =>
      obtain ⟨j, T, rfl, hj, rfl, hT, hpre, hbl⟩ := hrel
      have HBL := hid hbl
      have hj0 : (0 : Int) ≤ (j : Int) := by omega
      by_cases hjl : j < xs.length
      case neg =>
        have hjl' : ¬ (j : Int) < (xs.length : Int) := by omega
        have hje : j = xs.length := by omega
        have HTL := hid (show T = lineB k from (bytes_of (by rw [hpre.out, hje, List.take_length])).trans HLB.out.symm)
        have EZ := hid (E1.out.trans (hbl.mono hb1))
        have OZ := hid (OW.out.kept (below_grows hbl) (Classical.em _))
        have hbz : w.heap.size ≤ wr.heap.size := EZ.out.size
        have HLK := hid (linesB_len k)
        clear hpre hbl HBL hT hje
        rw [HTL.out]
        go_wp2_with (at_builtin; refine wpList_append_own _ rfl _ _ 35 rfl w.heap.size 9 i0 (.string ByteArray.empty) 1 16 Tryd.underlying35 hi hz0 hz1 hz2 rfl (by decide) _ (linesB k).length (strCells (linesB k)) (by rfl) ?c0 ⟨wr.heap.size, 0, none⟩ 1 1 [.string (lineB k)] (by rfl) ?c1 ?c2 ?c3 ?c4 ?c5 ?c6 ?c7)
        case c0 => exact OZ.out.alloc _
        try (case c1 => rfl)
        try (case c2 => exact news_one _ _ _)
        try (case c3 => first | rfl | (intro u hu; obtain rfl := List.mem_singleton.1 hu; rfl))
        try (case c4 => have := HLK.out; unfold maxLen; omega)
        try (case c5 => have := HLK.out; omega)
        try (case c6 => (first | omega | (simp <;> omega)))
        intro v2 w3 hown2 hgrow2 _
        have HO2 := hid (show w3.ownsRow w.heap.size 9 1 v2 (linesB (k + 1)).length (strCells (linesB (k + 1))) by
          rw [linesB_more, ← strCells_more, List.length_append]; exact hown2)
        have HE2 := hid ((EZ.out.alloc hbz (.cells #[.string (lineB k)] 9)).grown hgrow2 (by first | omega | (simp <;> omega)) (fun g hg => (OZ.out.lt g hg).1))
        clear hown2 hgrow2
        go_wp2_with (fail)
        go_roundw
        case rel => exact ⟨k + 1, by go_num, by omega, HO2.out, HE2.out⟩
        case measure => simp [RowKit.intOf]; omega
      have hjl' : (j : Int) < (xs.length : Int) := by omega
      obtain ⟨⟨p, q⟩, hxj⟩ : ∃ t, xs[j]? = some t := ⟨_, List.getElem?_eq_getElem hjl⟩
      obtain ⟨c0, c1⟩ := fown_cells (fown_below FO.out hbl) hxj
      dsimp only at c0 c1
      have hok := HPL.out (p, q) (List.mem_of_getElem? hxj)
      have TX := hid (fun w => specText p q w hok)
      have HTXL := hid (txF_len hok)
      have HL1 := hid (fun h0 : j = 0 => show join (lnT (xs.take (j + 1))) [32] = txF p q by subst h0; exact lnT_one hxj)
      have HL2 := hid (fun h1 : 1 ≤ j => lnT_more h1 hxj)
      have HT0 := hid (fun h0 : j = 0 => show T = ⟨([] : List UInt8).toArray⟩ from bytes_of (by rw [hpre.out, h0]; rfl))
      have HPRE := hid hpre.out
      dsimp only at HL2
      generalize txF p q = tx at *
      have htl := HTXL.out
      clear hbl hpre hok hxj
      by_cases h0 : j = 0
      · have hgt : ¬ (0 : Int) < (j : Int) := by omega
        have hTT := HT0.out h0
        have HN := hid (show (⟨([] : List UInt8).toArray⟩ ++ ⟨tx.toArray⟩ : ByteArray).data.toList = join (lnT (xs.take (j + 1))) [32] by rw [HL1.out h0]; simp [ByteArray.data_append])
        have HNS := hid (show (⟨([] : List UInt8).toArray⟩ ++ ⟨tx.toArray⟩ : ByteArray).size ≤ 50 * (j + 1) by rw [bytes_size HN.out, HL1.out h0]; omega)
        subst hTT
        clear HL1 HL2 HT0 HPRE
        subst h0
        simp only [Nat.zero_mul, Nat.zero_add] at c0 c1
        go_wp2_with (fail)
        refine (TX.out _).mono ?_
        rintro e w5 ⟨rfl, b5⟩
        have E5 := hid (HBL.out.trans (b5.mono HBL.out.size))
        clear b5
        go_wp2_with (fail)
        go_roundw
        case rel => exact ⟨0 + 1, _, by go_num, by omega, rfl, HNS.out, HN, E5.out⟩
        case measure => simp [RowKit.intOf]; omega
      · have hgt : (0 : Int) < (j : Int) := by omega
        have hq1 : ¬ 9223372036854775807 < T.size + 1 := by omega
        have hq2 : ¬ 9223372036854775807 < T.size + 1 + tx.length := by omega
        have HN := hid (show (T ++ ⟨#[32]⟩ ++ ⟨tx.toArray⟩ : ByteArray).data.toList = join (lnT (xs.take (j + 1))) [32] by rw [HL2.out (by omega), ← HPRE.out]; simp [ByteArray.data_append])
        have HNS := hid (show (T ++ ⟨#[32]⟩ ++ ⟨tx.toArray⟩ : ByteArray).size ≤ 50 * (j + 1) by rw [bytes_size HN.out, HL2.out (by omega), List.length_append, ← bytes_size HPRE.out]; simp; omega)
        clear HL1 HL2 HT0 HPRE
        go_wp2_with (fail)
        refine (TX.out _).mono ?_
        rintro e w5 ⟨rfl, b5⟩
        have E5 := hid (HBL.out.trans (b5.mono HBL.out.size))
        clear b5
        go_wp2_with (fail)
        go_roundw
        case rel => exact ⟨j + 1, _, by go_num, by omega, rfl, HNS.out, HN, E5.out⟩
        case measure => simp [RowKit.intOf]; omega

end Go.Proofs.YtjijabfamjhdjaaDoor
