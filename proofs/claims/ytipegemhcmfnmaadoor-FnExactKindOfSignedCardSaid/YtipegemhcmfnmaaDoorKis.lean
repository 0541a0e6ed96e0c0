/- Contracts: whether terms with signs are those of a kind, by the program and by the model. -/
import Derived.Test.YtipegemhcmfnmaaDoorVas
import Derived.Test.YtipegemhcmfnmaaDoorSs
import Derived.Test.YtipegemhcmfnmaaDoorKn
import Derived.Test.YtipegemhcmfnmaaDoorExm
namespace Go.Proofs.YtipegemhcmfnmaaDoor
open Go.RowKit

def kindV (r : Bool × Int) : Value := .tuple #[.bool r.1, .int .i64 r.2]
theorem sback_args {B : Nat} {w : World} {v : Value} {xs : List (Int × Int)} (h : SBack B w v xs) : ∃ a c, v = .slice a xs.length c ∧ ArgS w (.slice a xs.length c) xs := by
  rcases h with ⟨rfl, rfl⟩ | ⟨g, c, rfl, h⟩
  · exact ⟨_, _, rfl, .inl ⟨_, _, rfl, rfl⟩⟩
  · exact ⟨_, _, rfl, sown_args h⟩
theorem nmK_empty (k : Int) : (⟨(nmK k).toArray⟩ : ByteArray).toList.isEmpty = !okK k := by
  rw [Lib.toList_data]
  cases hk : okK k
  · rw [nmK_no hk]; rfl
  · have h := inB_iff.1 hk
    have h3 : k = 1 ∨ k = 2 ∨ k = 3 ∨ k = 4 := by omega
    rcases h3 with rfl | rfl | rfl | rfl <;> decide
theorem kindS_bad {xs : List (Int × Int)} {k : Int} (h : okS xs = false) : kindS xs k = (false, 1) := by unfold kindS; rw [h]; rfl
theorem kindS_kind {xs : List (Int × Int)} {k : Int} (h : okS xs = true) (hk : okK k = false) : kindS xs k = (false, 2) := by unfold kindS; rw [h, hk]; rfl
theorem kindS_val {xs : List (Int × Int)} {k : Int} (h : okS xs = true) (hk : okK k = true) (hv : (valS xs).2.2 ≠ 0) : kindS xs k = (false, 0) := by unfold kindS; rw [h, hk, if_pos rfl, if_pos rfl, if_neg hv]
theorem kindS_ok {xs : List (Int × Int)} {k : Int} (h : okS xs = true) (hk : okK k = true) (hv : (valS xs).2.2 = 0) : kindS xs k = ((expS (valS xs).1 (valS xs).2.1 k).2 == 0 && decide ((expS (valS xs).1 (valS xs).2.1 k).1 = xs), 0) := by unfold kindS; rw [h, hk, if_pos rfl, if_pos rfl, if_pos hv]

theorem implKindS (g c : Nat) (xs : List (Int × Int)) (kd : Int) (a0 a1 a2 a3 : Addr) (w : World) (hs : Errs a0 a1 a2 a3 w) (hkn : KindsAre w) (hx : xs.length ≤ 2000000000) (hc : xs.length ≤ c) (ha : Sgs w g 0 xs) :
    Calls Tryd.prog 47 #[.slice (some ⟨g, 0, none⟩) xs.length c, .int .i64 kd] w fun e w' => e = .returned (kindV (kindS xs kd)) ∧ Below w.heap.size w w' := by
  have HS := hid hs
  have HK := hid hkn
  have HA := hid ha
  have V := hid (implValidS g c xs w hx hc ha)
  have VA := hid (fun w (h : Errs a0 a1 a2 a3 w) (h2 : Sgs w g 0 xs) => implValS g c xs a0 a1 a2 a3 w h hx hc h2)
  have KN := hid (fun w (h : KindsAre w) => implKind kd w h)
  have NE := nmK_empty kd
  have KB := hid (kindS_bad (xs := xs) (k := kd))
  have KK := hid (kindS_kind (xs := xs) (k := kd))
  have KV := hid (kindS_val (xs := xs) (k := kd))
  have KO := hid (kindS_ok (xs := xs) (k := kd))
  clear hs hkn ha hc
  generalize (⟨(nmK kd).toArray⟩ : ByteArray) = S at *
  cases hok : okS xs
  · rw [hok] at V
    have HR := hid (KB.out hok)
    clear hok KB KK KV KO NE
    go_enter Tryd.func47, Tryd.ntmps47
    go_wp2_with (fail)
    refine V.out.mono ?_
    rintro e w1 ⟨rfl, b1⟩
    have E1 := hid b1
    clear b1 V
    go_wp2_with (fail)
    go_ret2
    exact ⟨by rw [HR.out]; rfl, E1.out⟩
  rw [hok] at V
  cases hk : okK kd
  · rw [hk] at NE
    have NE' : S.toList.isEmpty = true := NE
    have HR := hid (KK.out hok hk)
    clear hok hk KB KK KV KO NE
    go_enter Tryd.func47, Tryd.ntmps47
    go_wp2_with (fail)
    refine V.out.mono ?_
    rintro e w1 ⟨rfl, b1⟩
    have E1 := hid b1
    clear b1 V
    go_wp2_with (fail)
    refine (KN.out _ (kinds_below HK.out E1.out)).mono ?_
    rintro e u ⟨rfl, rfl⟩
    go_wp2_with (fail)
    go_ret2
    exact ⟨by rw [HR.out]; rfl, E1.out⟩
  rw [hk] at NE
  have NE' : S.toList.isEmpty = false := NE
  have HV := hid (KV.out hok hk)
  have HO := hid (KO.out hok hk)
  clear hok hk KB KK KV KO NE
  generalize valS xs = r at *
  obtain ⟨n, d, s⟩ := r
  dsimp only at HV HO
  by_cases hs0 : s = 0
  · subst hs0
    have HR := hid (HO.out rfl)
    rw [HR.out]
    have X := hid (fun w (h : Errs a0 a1 a2 a3 w) => implExpandS n d kd a0 a1 a2 a3 w h)
    have HEL := hid (expS_len n d kd)
    clear HV HO HR
    generalize expS n d kd = r at *
    obtain ⟨l, s2⟩ := r
    dsimp only
    have hle := HEL.out
    dsimp only at hle
    have SE := hid (fun a ca w (h1 : ArgS w (.slice a l.length ca) l) (h2 : ArgS w (.slice (some ⟨g, 0, none⟩) xs.length c) xs) => implSame a (some ⟨g, 0, none⟩) ca c l xs w (by omega) hx h1 h2)
    clear hle
    generalize decide (l = xs) = b at *
    by_cases h20 : s2 = 0
    · subst h20
      have hz : ((0 : Int) == 0) = true := by decide
      go_enter Tryd.func47, Tryd.ntmps47
      go_wp2_with (fail)
      refine V.out.mono ?_
      rintro e w1 ⟨rfl, b1⟩
      have E1 := hid b1
      clear b1 V
      go_wp2_with (fail)
      refine (KN.out _ (kinds_below HK.out E1.out)).mono ?_
      rintro e u ⟨rfl, hu⟩
      rw [hu]
      clear hu
      go_wp2_with (fail)
      refine (VA.out _ (errs_below HS.out E1.out) (sgs_below HA.out E1.out)).mono ?_
      rintro e w2 ⟨rfl, b2⟩
      have E2 := hid ((E1.out.trans (b2.mono E1.out.size)).alloc (E1.out.trans (b2.mono E1.out.size)).size (.cells #[.int .i64 n, .int .i64 d] 30))
      clear b2
      dsimp only [valV]
      go_wp2_with (fail)
      refine (X.out _ (errs_below HS.out E2.out)).mono ?_
      rintro e w3 ⟨⟨v, rfl, r⟩, b3⟩
      have E3 := hid (E2.out.trans (b3.mono E2.out.size))
      obtain ⟨va, vc, rfl, har⟩ := sback_args r
      have HAR := hid har
      clear r b3 har
      dsimp only
      go_wp2_with (fail)
      refine (SE.out va vc _ HAR.out (.inr ⟨_, _, _, rfl, sgs_below HA.out E3.out⟩)).mono ?_
      rintro e w4 ⟨rfl, b4⟩
      have E4 := hid (E3.out.trans (b4.mono E3.out.size))
      clear b4
      go_wp2_with (fail)
      go_ret2
      exact ⟨by rw [hz]; rfl, E4.out⟩
    · have hz : (s2 == 0) = false := by simpa using h20
      rw [hz]
      clear SE h20
      go_enter Tryd.func47, Tryd.ntmps47
      go_wp2_with (fail)
      refine V.out.mono ?_
      rintro e w1 ⟨rfl, b1⟩
      have E1 := hid b1
      clear b1 V
      go_wp2_with (fail)
      refine (KN.out _ (kinds_below HK.out E1.out)).mono ?_
      rintro e u ⟨rfl, hu⟩
      rw [hu]
      clear hu
      go_wp2_with (fail)
      refine (VA.out _ (errs_below HS.out E1.out) (sgs_below HA.out E1.out)).mono ?_
      rintro e w2 ⟨rfl, b2⟩
      have E2 := hid ((E1.out.trans (b2.mono E1.out.size)).alloc (E1.out.trans (b2.mono E1.out.size)).size (.cells #[.int .i64 n, .int .i64 d] 30))
      clear b2
      dsimp only [valV]
      go_wp2_with (fail)
      refine (X.out _ (errs_below HS.out E2.out)).mono ?_
      rintro e w3 ⟨⟨v, rfl, r⟩, b3⟩
      have E3 := hid (E2.out.trans (b3.mono E2.out.size))
      clear r b3
      dsimp only
      go_wp2_with (fail)
      go_ret2
      exact ⟨rfl, E3.out⟩
  · have HR := hid (HV.out hs0)
    rw [HR.out]
    have hs2 : (s != 0) = true := by simpa using hs0
    clear HV HO HR hs0
    go_enter Tryd.func47, Tryd.ntmps47
    go_wp2_with (fail)
    refine V.out.mono ?_
    rintro e w1 ⟨rfl, b1⟩
    have E1 := hid b1
    clear b1 V
    go_wp2_with (fail)
    refine (KN.out _ (kinds_below HK.out E1.out)).mono ?_
    rintro e u ⟨rfl, hu⟩
    rw [hu]
    clear hu
    go_wp2_with (fail)
    refine (VA.out _ (errs_below HS.out E1.out) (sgs_below HA.out E1.out)).mono ?_
    rintro e w2 ⟨rfl, b2⟩
    have E2 := hid ((E1.out.trans (b2.mono E1.out.size)).alloc (E1.out.trans (b2.mono E1.out.size)).size (.cells #[.int .i64 n, .int .i64 d] 30))
    clear b2
    dsimp only [valV]
    go_wp2_with (fail)
    go_ret2
    exact ⟨rfl, E2.out⟩

theorem specKindS (g c : Nat) (xs : List (Int × Int)) (kd : Int) (w : World) (hx : xs.length ≤ 2000000000) (ha : Sgs w g 0 xs) :
    Calls Tryd.prog 46 #[.slice (some ⟨g, 0, none⟩) xs.length c, .int .i64 kd] w fun e w' => e = .returned (kindV (kindS xs kd)) ∧ Below w.heap.size w w' := by
  have HA := hid ha
  have V := hid (specOkS g c xs w hx ha)
  have KN := hid (fun w => specKindB2 kd w)
  clear ha
  cases hok : okS xs
  · rw [hok] at V
    have HR := hid (kindS_bad (k := kd) hok)
    clear hok
    go_enter Tryd.func46, Tryd.ntmps46
    go_wp2_with (fail)
    refine V.out.mono ?_
    rintro e w1 ⟨rfl, b1⟩
    have E1 := hid b1
    clear b1 V
    go_wp2_with (fail)
    go_ret2
    exact ⟨by rw [HR.out]; rfl, E1.out⟩
  rw [hok] at V
  cases hk : okK kd
  · rw [hk] at KN
    have HR := hid (kindS_kind hok hk)
    clear hok hk
    go_enter Tryd.func46, Tryd.ntmps46
    go_wp2_with (fail)
    refine V.out.mono ?_
    rintro e w1 ⟨rfl, b1⟩
    have E1 := hid b1
    clear b1 V
    go_wp2_with (fail)
    refine (KN.out _).mono ?_
    rintro e u ⟨rfl, rfl⟩
    go_wp2_with (fail)
    go_ret2
    exact ⟨by rw [HR.out]; rfl, E1.out⟩
  rw [hk] at KN
  have VA := hid (fun w (h2 : Sgs w g 0 xs) => specValL g c xs w hok h2)
  have HV := hid (kindS_val (xs := xs) hok hk)
  have HO := hid (kindS_ok (xs := xs) hok hk)
  have HVO := hid (valS_ok (xs := xs))
  have HKK := hid hk
  clear hok hk
  generalize valS xs = r at *
  obtain ⟨n, d, s⟩ := r
  dsimp only at HV HO HVO
  by_cases hs0 : s = 0
  · subst hs0
    have HR := hid (HO.out rfl)
    have hokF := HVO.out rfl
    have CS := hid (fun w => specCodeS n d kd w)
    obtain ⟨d1, d2, d3, d4⟩ := ok_boundsS hokF
    have hnn : ((0 : Int) != 0) = false := by decide
    by_cases hcd : codeS n d kd = 0
    · have L := hid (fun w => specExpL kd n d w HKK.out d3 d4 d1 d2)
      have HN := hid (fun h => (expS_ok hcd).trans (sxo_no (k := kd) (n := n) (d := d) h))
      have HY := hid (fun h => (expS_ok hcd).trans (sxo_yes (k := kd) (n := n) (d := d) h))
      have HEL := hid (expS_len n d kd)
      rw [hcd] at CS
      clear hcd hokF HV HO HVO
      generalize sxo kd n d = q at *
      obtain ⟨l, b⟩ := q
      cases b
      · have HX := hid (show kindS xs kd = (false, 0) by rw [HR.out, HN.out rfl]; rfl)
        rw [HX.out]
        clear HN HY HR HX
        go_enter Tryd.func46, Tryd.ntmps46
        go_wp2_with (fail)
        refine V.out.mono ?_
        rintro e w1 ⟨rfl, b1⟩
        have E1 := hid b1
        clear b1 V
        go_wp2_with (fail)
        refine (KN.out _).mono ?_
        rintro e u ⟨rfl, hu⟩
        rw [hu]
        clear hu
        go_wp2_with (fail)
        refine (VA.out _ (sgs_below HA.out E1.out)).mono ?_
        rintro e w2 ⟨rfl, b2⟩
        have E2a := hid (E1.out.trans (b2.mono E1.out.size))
        have E2 := hid (E2a.out.alloc E2a.out.size (.cells #[.int .i64 n, .int .i64 d] 30))
        have F2 := hid (fb_new w2 n d)
        clear b2
        dsimp only [valV]
        go_wp2_with (fail)
        refine (CS.out _).mono ?_
        rintro e w3 ⟨rfl, b3⟩
        have E3 := hid (E2.out.trans (b3.mono E2.out.size))
        obtain ⟨x0, x1, _, _, _⟩ := fb_cells (fb_below F2.out b3)
        clear b3
        go_wp2_with (fail)
        refine (L.out _).mono ?_
        rintro e w4 ⟨v, rfl, r, b4⟩
        have E4 := hid (E3.out.trans (b4.mono E3.out.size))
        clear r b4
        dsimp only
        go_wp2_with (fail)
        go_ret2
        exact ⟨rfl, E4.out⟩
      · have HX := hid (show kindS xs kd = (decide (l = xs), 0) by rw [HR.out, HY.out rfl]; rfl)
        rw [HX.out]
        have hle := HEL.out
        rw [HY.out rfl] at hle
        dsimp only at hle
        have SE := hid (fun a ca w (h1 : ArgS w (.slice a l.length ca) l) (h2 : ArgS w (.slice (some ⟨g, 0, none⟩) xs.length c) xs) => specSameL a (some ⟨g, 0, none⟩) ca c l xs w (by omega) hx h1 h2)
        clear HN HY HR HX hle HEL
        generalize decide (l = xs) = b at *
        go_enter Tryd.func46, Tryd.ntmps46
        go_wp2_with (fail)
        refine V.out.mono ?_
        rintro e w1 ⟨rfl, b1⟩
        have E1 := hid b1
        clear b1 V
        go_wp2_with (fail)
        refine (KN.out _).mono ?_
        rintro e u ⟨rfl, hu⟩
        rw [hu]
        clear hu
        go_wp2_with (fail)
        refine (VA.out _ (sgs_below HA.out E1.out)).mono ?_
        rintro e w2 ⟨rfl, b2⟩
        have E2a := hid (E1.out.trans (b2.mono E1.out.size))
        have E2 := hid (E2a.out.alloc E2a.out.size (.cells #[.int .i64 n, .int .i64 d] 30))
        have F2 := hid (fb_new w2 n d)
        clear b2
        dsimp only [valV]
        go_wp2_with (fail)
        refine (CS.out _).mono ?_
        rintro e w3 ⟨rfl, b3⟩
        have E3 := hid (E2.out.trans (b3.mono E2.out.size))
        obtain ⟨x0, x1, _, _, _⟩ := fb_cells (fb_below F2.out b3)
        clear b3
        go_wp2_with (fail)
        refine (L.out _).mono ?_
        rintro e w4 ⟨v, rfl, r, b4⟩
        have E4 := hid (E3.out.trans (b4.mono E3.out.size))
        obtain ⟨va, vc, rfl, har⟩ := sback_args r
        have HAR := hid har
        clear r b4 har
        dsimp only
        go_wp2_with (fail)
        refine (SE.out va vc _ HAR.out (.inr ⟨_, _, _, rfl, sgs_below HA.out E4.out⟩)).mono ?_
        rintro e w5 ⟨rfl, b5⟩
        have E5 := hid (E4.out.trans (b5.mono E4.out.size))
        clear b5
        go_wp2_with (fail)
        go_ret2
        exact ⟨rfl, E5.out⟩
    · have HX := hid (show kindS xs kd = (false, 0) by
        rw [HR.out, expS_bad rfl hcd]
        have : (codeS n d kd == 0) = false := by simpa using hcd
        show ((codeS n d kd == 0) && _, (0 : Int)) = _
        rw [this]; rfl)
      have hcc : (codeS n d kd != 0) = true := by simpa using hcd
      rw [HX.out]
      clear HR HX hcd hokF HV HO HVO
      generalize codeS n d kd = cd at *
      go_enter Tryd.func46, Tryd.ntmps46
      go_wp2_with (fail)
      refine V.out.mono ?_
      rintro e w1 ⟨rfl, b1⟩
      have E1 := hid b1
      clear b1 V
      go_wp2_with (fail)
      refine (KN.out _).mono ?_
      rintro e u ⟨rfl, hu⟩
      rw [hu]
      clear hu
      go_wp2_with (fail)
      refine (VA.out _ (sgs_below HA.out E1.out)).mono ?_
      rintro e w2 ⟨rfl, b2⟩
      have E2a := hid (E1.out.trans (b2.mono E1.out.size))
      have E2 := hid (E2a.out.alloc E2a.out.size (.cells #[.int .i64 n, .int .i64 d] 30))
      clear b2
      dsimp only [valV]
      go_wp2_with (fail)
      refine (CS.out _).mono ?_
      rintro e w3 ⟨rfl, b3⟩
      have E3 := hid (E2.out.trans (b3.mono E2.out.size))
      clear b3
      go_wp2_with (fail)
      go_ret2
      exact ⟨rfl, E3.out⟩
  · have HR := hid (HV.out hs0)
    rw [HR.out]
    have hs2 : (s != 0) = true := by simpa using hs0
    clear HV HO HR hs0 HVO
    go_enter Tryd.func46, Tryd.ntmps46
    go_wp2_with (fail)
    refine V.out.mono ?_
    rintro e w1 ⟨rfl, b1⟩
    have E1 := hid b1
    clear b1 V
    go_wp2_with (fail)
    refine (KN.out _).mono ?_
    rintro e u ⟨rfl, hu⟩
    rw [hu]
    clear hu
    go_wp2_with (fail)
    refine (VA.out _ (sgs_below HA.out E1.out)).mono ?_
    rintro e w2 ⟨rfl, b2⟩
    have E2a := hid (E1.out.trans (b2.mono E1.out.size))
    have E2 := hid (E2a.out.alloc E2a.out.size (.cells #[.int .i64 n, .int .i64 d] 30))
    clear b2
    dsimp only [valV]
    go_wp2_with (fail)
    go_ret2
    exact ⟨rfl, E2.out⟩

end Go.Proofs.YtipegemhcmfnmaaDoor
