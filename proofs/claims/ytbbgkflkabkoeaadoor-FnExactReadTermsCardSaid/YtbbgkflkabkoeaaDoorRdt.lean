/- Contract: parts in decimal are read, by the program. -/
import Derived.Test.YtbbgkflkabkoeaaDoorRd
import Derived.Test.YtbbgkflkabkoeaaDoorRtm
import Derived.Test.YtbbgkflkabkoeaaDoorVt
import Derived.Test.YtbbgkflkabkoeaaDoorSp
import Derived.Test.YtbbgkflkabkoeaaDoorSh
import Derived.Test.YtbbgkflkabkoeaaDoorOth
namespace Go.Proofs.YtbbgkflkabkoeaaDoor
open Go.RowKit Go.Lib

/-- The library's variable holds some number. -/
def MaxW (w : World) : Prop := ∃ m, w.cell? ⟨0, 0, none⟩ = some (.int .i64 m)
theorem maxW_below {w w' : World} (h : MaxW w) (hb : Below w.heap.size w w') : MaxW w' := by
  obtain ⟨m, h⟩ := h
  exact ⟨m, (hb.cell (p := ⟨0, 0, none⟩) (World.block_lt_of_cell? _ _ h)).trans h⟩
theorem maxW_of {w : World} (h : w.ShapedOpen Tryd.prog) : MaxW w := Tryd.laysM145.s1_3 w h
def Wt (w : World) : Prop := TabIs Tryd.prog w "internal/strconv.uint64pow10" .u64 pow10Tab ∧ SentIs "strconv.ErrSyntax" w ∧ SentIs "strconv.ErrRange" w ∧ MaxW w
theorem wt_below {w w' : World} (h : Wt w) (hb : Below w.heap.size w w') : Wt w' := ⟨tab_below h.1 hb, sentS_below h.2.1 hb, sentR_below h.2.2.1 hb, maxW_below h.2.2.2 hb⟩
def rdV (ps : List (List UInt8)) : Bool × List Int := match rdP ps with | some ys => (true, ys) | none => (false, [])
theorem rdV_some {ps : List (List UInt8)} {ys : List Int} (h : rdP ps = some ys) : rdV ps = (true, ys) := by unfold rdV; rw [h]
theorem rdV_none {ps : List (List UInt8)} (h : rdP ps = none) : rdV ps = (false, []) := by unfold rdV; rw [h]
theorem i_row_back {B : Nat} {w : World} {v : Value} {n : Nat} {xs : List Int} (h : w.ownsRow B 2 1 v n (intCells xs)) (hn : n = xs.length) : Back B w v xs := by
  subst hn
  rcases h.2 with ⟨h1, h2⟩ | ⟨g, cap, cur, rfl, hB, hr⟩
  · exact .inl ⟨h1, List.length_eq_zero_iff.1 h2⟩
  · exact .inr ⟨g, cap, rfl, hB, h⟩

set_option maxHeartbeats 1600000 in
theorem rdDecs (g c : Nat) (ts : List ByteArray) (w : World) (hl : ts.length ≤ 2000000) (hsz : ∀ (j : Nat) (x : ByteArray), ts[j]? = some x → x.size ≤ 1048576) (hc : ∀ (j : Nat) (x : ByteArray), ts[j]? = some x → w.cell? ⟨g, j, none⟩ = some (.string x)) (hw : Wt w) :
    Calls Tryd.prog 24 #[.slice (some ⟨g, 0, none⟩) ts.length c] w fun e w' => ∃ v, e = .returned (.tuple #[v, .bool (rdV (ts.map (·.data.toList))).1]) ∧ Back w.heap.size w' v (rdV (ts.map (·.data.toList))).2 ∧ Below w.heap.size w w' := by
  obtain ⟨i0, hi, hz0, hz1, hz2⟩ := info_parts infoI
  have HC := hid hc
  have HSZ := hid hsz
  have HW := hid hw
  clear hc hsz hw
  go_enter Tryd.func24, Tryd.ntmps24
  go_wp2_with (fail)
  go_loopw [4, 6, 7, 8, 11] (fun v u1 u2 u3 i wr => ∃ (k : Nat) (ys : List Int), i = .int .i64 k ∧ k ≤ ts.length ∧ ys.length = k ∧ wr.ownsRow w.heap.size 2 1 v ys.length (intCells ys) ∧ Hid (rdP ((ts.map (·.data.toList)).take k) = some ys) ∧ Below w.heap.size w wr) (fun _ _ _ _ i _ => ts.length - (RowKit.intOf i).toNat)
  case atStart => exact ⟨0, [], rfl, by omega, rfl, World.ownsRow_nil _ _ _ _, hid rfl, Below.refl _ _⟩
  case round =>
    obtain ⟨k, ys, rfl, hk, hyk, hown, hst, hbel⟩ := hrel
    have HBEL := hid hbel
    have HOWN := hid hown
    have HYK := hid hyk
    have hk0 : (0 : Int) ≤ (k : Int) := by omega
    by_cases hlt : k < ts.length
    · have hlt' : (k : Int) < (ts.length : Int) := by omega
      obtain ⟨t, hxk⟩ : ∃ t, ts[k]? = some t := ⟨_, List.getElem?_eq_getElem hlt⟩
      have ca1 := HC.out k t hxk
      have ca0 := (hbel.cell (p := ⟨g, k, none⟩) (World.block_lt_of_cell? _ _ ca1)).trans ca1
      have hps : (ts.map (·.data.toList))[k]? = some t.data.toList := by rw [List.getElem?_map, hxk]; rfl
      have HST := hid (rdP_step hps hst.out)
      have htz := HSZ.out _ _ hxk
      have DK := hid (fun (w2 : World) (h : Below w.heap.size w w2) => implRead t w2 htz (wt_below HW.out h).1 (wt_below HW.out h).2.1 (wt_below HW.out h).2.2.1)
      obtain ⟨v, b, hn⟩ : ∃ v b, numS t.data.toList = (v, b) := ⟨_, _, rfl⟩
      rw [show numV t.data.toList = .tuple #[.int .i64 v, .bool b] by unfold numV; rw [hn]] at DK
      rw [hn] at HST
      clear ca1 hbel hxk hown hst hyk hps hn htz
      cases b
      · have HR := hid (rdV_none (rdP_fail HST.out))
        go_wp2_with (fail)
        refine (DK.out _ HBEL.out).mono ?_
        rintro e w2 ⟨rfl, b2⟩
        have E2 := hid (HBEL.out.trans (b2.mono HBEL.out.size))
        clear b2
        go_wp2_with (fail)
        go_ret2
        exact ⟨_, by rw [HR.out]; rfl, by rw [HR.out]; exact backNil, E2.out⟩
      · go_wp2_with (fail)
        refine (DK.out _ HBEL.out).mono ?_
        rintro e w2 ⟨rfl, b2⟩
        have E2 := hid (HBEL.out.trans (b2.mono HBEL.out.size))
        have hb2 : w.heap.size ≤ w2.heap.size := E2.out.size
        have O2 := hid (HOWN.out.kept (row := none) ⟨b2.os, b2.tape, b2.output, b2.size, fun i hi _ => b2.block i hi⟩ (Classical.em _))
        have hy2 : ys.length ≤ 2000000 := by have := HYK.out; omega
        clear b2
        go_wp2_with (at_builtin; refine wpList_append_own _ rfl _ _ 22 rfl w.heap.size 2 i0 (.int .i64 0) 1 8 Tryd.underlying22 hi hz0 hz1 hz2 rfl (by decide) _ ys.length (intCells ys) (by rfl) ?c0 ⟨w2.heap.size, 0, none⟩ 1 1 [.int .i64 v] (by rfl) ?c1 ?c2 ?c3 ?c4 ?c5 ?c6 ?c7)
        case c0 => exact O2.out.alloc _
        case c1 => rfl
        case c2 => exact news1 _ _ _
        case c3 => intro u hu; obtain rfl := List.mem_singleton.1 hu; rfl
        case c4 => unfold maxLen; omega
        case c5 => omega
        case c6 => (first | omega | (simp <;> omega))
        intro v2 w3 hown2 hgrow2 _
        have HO2 := hid (show w3.ownsRow w.heap.size 2 1 v2 (ys ++ [v]).length (intCells (ys ++ [v])) by
          rw [← intCells_more, List.length_append]; exact hown2)
        have HE2 := hid ((E2.out.alloc hb2 _).grown hgrow2 (by first | omega | (simp <;> omega)) (fun g hg => (O2.out.lt g hg).1))
        have HL2 := hid (show (ys ++ [v]).length = k + 1 by have := HYK.out; simp; omega)
        have HST2 := hid (show rdP ((ts.map (·.data.toList)).take (k + 1)) = some (ys ++ [v]) from HST.out)
        obtain ⟨zs, hzs⟩ : ∃ zs, zs = ys ++ [v] := ⟨_, rfl⟩
        rw [← hzs] at HO2 HL2 HST2
        clear hown2 hgrow2 hzs HST
        go_wp2_with (fail)
        go_roundw
        case rel => exact ⟨k + 1, zs, by go_num, by omega, HL2.out, HO2.out, HST2, HE2.out⟩
        case measure => simp [RowKit.intOf]; omega
    · have hlt' : ¬ (k : Int) < (ts.length : Int) := by omega
      have HR := hid (rdV_some (ps := ts.map (·.data.toList)) (ys := ys) (by rw [← hst.out, List.take_of_length_le (by rw [List.length_map]; omega)]))
      clear hbel hown hst hyk
      go_wp2_with (fail)
      go_ret2
      exact ⟨_, by rw [HR.out]; rfl, by rw [HR.out]; exact i_row_back HOWN.out rfl, HBEL.out⟩

end Go.Proofs.YtbbgkflkabkoeaaDoor
