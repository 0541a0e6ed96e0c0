/- Contract: numbers in decimal with a text between them, and the text of terms, as the program writes them. -/
import Derived.Test.YtbbgkflkabkoeaaDoorTxs
import Derived.Test.YtbbgkflkabkoeaaDoorFmt
import Derived.Test.YtbbgkflkabkoeaaDoorSp
import Derived.Test.YtbbgkflkabkoeaaDoorShelfJ
import Derived.Test.YtbbgkflkabkoeaaDoorSh
import Derived.Deep.RegionHeld3
namespace Go.Proofs.YtbbgkflkabkoeaaDoor
open Go.RowKit Go.Lib

/-- The table of powers of ten. -/
def Pow (w : World) : Prop := TabIs Tryd.prog w "internal/strconv.uint64pow10" .u64 pow10Tab
theorem pow_below {w w' : World} (h : Pow w) (hb : Below w.heap.size w w') : Pow w' := tab_below h hb

theorem joinTail_len : ∀ (r : List (List UInt8)), (∀ x ∈ r, x.length ≤ 20) → (joinTail [44, 32] r).length ≤ 22 * r.length
  | [], _ => by simp [joinTail]
  | x :: r, h => by
    have h1 := h x (by simp)
    have h2 := joinTail_len r (fun y hy => h y (by simp [hy]))
    unfold joinTail at h2 ⊢
    simp only [List.map_cons, List.flatten_cons, List.length_append, List.length_cons, List.length_nil]
    omega
theorem join_len (r : List (List UInt8)) (h : ∀ x ∈ r, x.length ≤ 20) : (join r [44, 32]).length ≤ 22 * r.length := by
  cases r with
  | nil => simp [join_nil]
  | cons x r =>
    rw [join_cons, List.length_append]
    have h1 := h x (by simp)
    have h2 := joinTail_len r (fun y hy => h y (by simp [hy]))
    simp only [List.length_cons]
    omega

set_option maxHeartbeats 1600000 in
theorem joinDec (g o n c : Nat) (ys : List Int) (w : World) (hn : n = ys.length) (h1 : 1 ≤ ys.length) (h2 : ys.length ≤ 60) (hb : ∀ (j : Nat) (x : Int), ys[j]? = some x → -1000000000 ≤ x ∧ x ≤ 1000000000) (ha : Ints w g o ys) (hp : Pow w) :
    Calls Tryd.prog 17 #[.string ⟨#[44, 32]⟩, .slice (some ⟨g, o, none⟩) n c] w fun e w' => e = .returned (.string ⟨(join (ys.map itoa) [44, 32]).toArray⟩) ∧ Below w.heap.size w w' := by
  subst hn
  obtain ⟨i0, hi, hz0, hz1, hz2⟩ := info_parts info9
  have HA := hid ha
  have HB := hid hb
  have HP := hid hp
  clear ha hb hp
  go_enter Tryd.func17, Tryd.ntmps17
  go_wp2_with (fail)
  go_loopw [5, 7, 10] (fun v u i wr => ∃ (k : Nat) (ts : List ByteArray), i = .int .i64 k ∧ k ≤ ys.length ∧ ts.length = k ∧ wr.ownsRow w.heap.size 9 1 v ts.length (strCells ts) ∧ Hid (ts.map (·.data.toList) = (ys.take k).map itoa) ∧ Below w.heap.size w wr) (fun _ _ i _ => ys.length - (RowKit.intOf i).toNat)
  case atStart => exact ⟨0, [], rfl, by omega, rfl, World.ownsRow_nil _ _ _ _, hid rfl, Below.refl _ _⟩
  case round =>
    obtain ⟨k, ts, rfl, hk, htk, hown, hts, hbel⟩ := hrel
    have HBEL := hid hbel
    have HOWN := hid hown
    have hk0 : (0 : Int) ≤ (k : Int) := by omega
    have hHTK := hid htk
    by_cases hlt : k < ys.length
    · have hlt' : (k : Int) < (ys.length : Int) := by omega
      obtain ⟨t, hxk⟩ : ∃ t, ys[k]? = some t := ⟨_, List.getElem?_eq_getElem hlt⟩
      have ca1 := HA.out k t hxk
      have ca0 := (hbel.cell (p := ⟨g, o + k, none⟩) (World.block_lt_of_cell? _ _ ca1)).trans ca1
      have htb := HB.out _ _ hxk
      have DK := hid (fun (w2 : World) (h : Below w.heap.size w w2) => implDec t w2 (by omega) (by omega) (pow_below HP.out h))
      have HTS := hid (show (ts ++ [(⟨(itoa t).toArray⟩ : ByteArray)]).map (·.data.toList) = (ys.take (k + 1)).map itoa by
        rw [List.map_append, hts.out, List.take_add_one, hxk, List.map_append]; rfl)
      generalize itoa t = st at *
      clear ca1 hbel hxk htb hown hts htk
      go_wp2_with (fail)
      refine (DK.out _ HBEL.out).mono ?_
      rintro e w2 ⟨rfl, b2⟩
      have E2 := hid (HBEL.out.trans (b2.mono HBEL.out.size))
      have hb2 : w.heap.size ≤ w2.heap.size := E2.out.size
      have O2 := hid (HOWN.out.kept (row := none) ⟨b2.os, b2.tape, b2.output, b2.size, fun i hi _ => b2.block i hi⟩ (Classical.em _))
      have hl60 : ts.length ≤ 60 := by have := hHTK.out; omega
      clear b2
      go_wp2_with (at_builtin; refine wpList_append_own _ rfl _ _ 33 rfl w.heap.size 9 i0 (.string ByteArray.empty) 1 16 Tryd.underlying33 hi hz0 hz1 hz2 rfl (by decide) _ ts.length (strCells ts) (by rfl) ?c0 ⟨w2.heap.size, 0, none⟩ 1 1 [.string ⟨st.toArray⟩] (by rfl) ?c1 ?c2 ?c3 ?c4 ?c5 ?c6 ?c7)
      case c0 => exact O2.out.alloc _
      case c1 => rfl
      case c2 => exact news_one _ _ _
      case c3 => intro u hu; obtain rfl := List.mem_singleton.1 hu; rfl
      case c4 => unfold maxLen; omega
      case c5 => omega
      case c6 => (first | omega | (simp <;> omega))
      intro v2 w3 hown2 hgrow2 _
      have HO2 := hid (show w3.ownsRow w.heap.size 9 1 v2 (ts ++ [(⟨st.toArray⟩ : ByteArray)]).length (strCells (ts ++ [(⟨st.toArray⟩ : ByteArray)])) by
        rw [← strCells_more, List.length_append]; exact hown2)
      have HE2 := hid ((E2.out.alloc hb2 _).grown hgrow2 (by first | omega | (simp <;> omega)) (fun g hg => (O2.out.lt g hg).1))
      have HL2 := hid (show (ts ++ [(⟨st.toArray⟩ : ByteArray)]).length = k + 1 by have := hHTK.out; simp; omega)
      obtain ⟨us, hus⟩ : ∃ us, us = ts ++ [(⟨st.toArray⟩ : ByteArray)] := ⟨_, rfl⟩
      rw [← hus] at HO2 HL2 HTS
      clear hown2 hgrow2 hus
      go_wp2_with (fail)
      go_roundw
      case rel => exact ⟨k + 1, us, by go_num, by omega, HL2.out, HO2.out, HTS, HE2.out⟩
      case measure => simp [RowKit.intOf]; omega
    · have hlt' : ¬ (k : Int) < (ys.length : Int) := by omega
      have htl : ts.map (·.data.toList) = ys.map itoa := by rw [hts.out, List.take_of_length_le (by omega)]
      obtain ⟨g5, c5, rfl, hg5, own5⟩ := rowOf_own HOWN.out rfl rfl (by omega)
      have hcap : ts.length ≤ c5 := by
        rcases own5.2 with ⟨h', _⟩ | ⟨g', cap', cur, h', _, _, hnc, _⟩
        · simp at h'
        · simp only [Value.slice.injEq] at h'; omega
      have hg6 : g5 < wr.heap.size := (own5.lt _ rfl).2
      have J := hid (Tryd.strings_Join g5 0 c5 ts ⟨#[44, 32]⟩ wr (fun j x hj => by rw [Nat.zero_add]; exact row_cells own5 j _ (by unfold strCells; rw [List.getElem?_map, hj]; rfl)) hg6 (by omega) hcap (by
        rw [htl]
        have := join_len (ys.map itoa) (fun x hx => by
          obtain ⟨y, hy, rfl⟩ := List.mem_map.1 hx
          obtain ⟨j, hj⟩ := List.mem_iff_getElem?.1 hy
          have := HB.out j y hj
          exact itoa_len20 (by omega))
        rw [List.length_map] at this
        show (join (ys.map itoa) [44, 32]).length ≤ _
        omega))
      rw [htl] at J
      clear htl hbel hown hts own5 hHTK htk
      go_wp2_with (fail)
      refine J.out.mono ?_
      rintro e w2 ⟨rfl, b2⟩
      have E2 := hid (HBEL.out.trans (b2.mono HBEL.out.size))
      clear b2
      go_wp2_with (fail)
      go_ret
      exact ⟨rfl, E2.out⟩

end Go.Proofs.YtbbgkflkabkoeaaDoor
