/- Contracts: the text of a fraction, as the program and the model write it. -/
import Derived.Test.YtjijabfamjhdjaaDoorFmt
import Derived.Test.YtjijabfamjhdjaaDoorAr6
import Derived.Deep.RegionHeld3
namespace Go.Proofs.YtjijabfamjhdjaaDoor
open Go.RowKit Go.Lib

/-- The text of a plain fraction. -/
def txF (n d : Int) : List UInt8 := if d = 1 then itoa n else itoa n ++ 47 :: itoa d
def txO (n d : Int) : List UInt8 := if okF n d then txF n d else []

theorem itoa_length {n : Int} (h : -1000000000000000000 ≤ n ∧ n ≤ 1000000000000000000) : (itoa n).length ≤ 20 := by
  rcases Int.lt_trichotomy n 0 with hc | hc | hc
  · rw [itoa_neg hc]
    have := digs_length 19 n.natAbs (by omega)
    simp; omega
  · rw [hc, itoa_zero]; simp
  · rw [itoa_pos hc]
    have := digs_length 19 n.natAbs (by omega)
    omega

theorem tx_join (a b : List UInt8) : (⟨a.toArray⟩ ++ ⟨#[47]⟩ ++ ⟨b.toArray⟩ : ByteArray) = ⟨(a ++ 47 :: b).toArray⟩ := by
  apply ByteArray.ext
  simp [ByteArray.data_append]

theorem two_keep {B : Nat} {w w' : World} (h : Below B w w') {b : Nat} (hb : b < B) {x y : Value} (s : w.cell? ⟨b, 0, none⟩ = some x ∧ w.cell? ⟨b, 1, none⟩ = some y) :
    w'.cell? ⟨b, 0, none⟩ = some x ∧ w'.cell? ⟨b, 1, none⟩ = some y :=
  ⟨(h.cell (p := ⟨b, 0, none⟩) hb).trans s.1, (h.cell (p := ⟨b, 1, none⟩) hb).trans s.2⟩

set_option maxHeartbeats 800000 in
theorem specText (n d : Int) (w : World) (h : okF n d = true) :
    Calls Tryd.prog 53 #[.agg #[.int .i64 n, .int .i64 d]] w fun e w' => e = .returned (.string ⟨(txF n d).toArray⟩) ∧ Below w.heap.size w w' := by
  obtain ⟨x1, x2, x3, x4⟩ := ok_bounds h
  have CN : ∀ w', Below w.heap.size w w' → Calls Tryd.prog 73 #[.int .i64 n] w' fun e w'' => e = .returned (.string ⟨(itoa n).toArray⟩) ∧ Below w'.heap.size w' w'' := fun w' hb => specDec n w' (by omega) (by omega)
  have CD : ∀ w', Below w.heap.size w w' → Calls Tryd.prog 73 #[.int .i64 d] w' fun e w'' => e = .returned (.string ⟨(itoa d).toArray⟩) ∧ Below w'.heap.size w' w'' := fun w' hb => specDec d w' (by omega) (by omega)
  have HN := hid CN
  have HD := hid CD
  by_cases hd : d = 1
  · have E := hid (show txF n d = itoa n by unfold txF; rw [if_pos hd])
    clear CN CD h
    subst hd
    go_enter Tryd.func53, Tryd.ntmps53
    go_wp2_with (fail)
    refine (HN.out _ ((Below.refl _ _).alloc (Nat.le_refl _) _)).mono ?_
    rintro e w1 ⟨rfl, hb1⟩
    go_wp2_with (fail)
    go_ret
    exact ⟨by rw [E.out]; rfl, ((Below.refl _ _).alloc (Nat.le_refl _) _).trans (hb1.mono (by simp))⟩
  · have E := hid (show txF n d = itoa n ++ 47 :: itoa d by unfold txF; rw [if_neg hd])
    have hdb : (d == 1) = false := by simpa using hd
    clear CN CD h hd
    have hsn : (itoa n).length ≤ 20 := itoa_length (by omega)
    have hsd : (itoa d).length ≤ 20 := itoa_length (by omega)
    have hq1 : ¬ 9223372036854775807 < (itoa n).length + 1 := by omega
    have hq2 : ¬ 9223372036854775807 < (itoa n).length + 1 + (itoa d).length := by omega
    generalize itoa n = sn at HN E hsn hq1 hq2
    generalize itoa d = sd at HD E hsd hq2
    have e0 : Below w.heap.size w (w.alloc (.cells #[.int .i64 n, .int .i64 d] 32)) := (Below.refl _ _).alloc (Nat.le_refl _) _
    go_enter Tryd.func53, Tryd.ntmps53
    go_wp2_with (fail)
    go_region_held3 (fun w' => w'.cell? ⟨w.heap.size, 0, none⟩ = some (.int .i64 n) ∧ w'.cell? ⟨w.heap.size, 1, none⟩ = some (.int .i64 d))
      (first | (with_reducible exact k2) | (with_reducible exact k1) | go_keep)
      (first | (go_at_call_of 73 (Value.int .i64 n); refine (HN.out _ ?_).mono ?_; (repeat (first | exact Below.refl _ _ | exact e2 | exact e1 | exact e0 | refine below_drewN ?_ _ | refine Below.drew ?_ | refine Below.alloc ?_ (by first | omega | (simp <;> omega)) _)); rintro e w1 ⟨rfl, hb1⟩; have hz1 := hb1.size; simp at hz1; have k1 := two_keep hb1 (b := w.heap.size) (x := .int .i64 n) (y := .int .i64 d) (by simp) (by assumption); have e1 : Below w.heap.size w w1 := by { refine Below.trans ?_ (hb1.mono (by first | omega | (simp <;> omega))); (repeat (first | exact Below.refl _ _ | exact e2 | exact e1 | exact e0 | refine below_drewN ?_ _ | refine Below.drew ?_ | refine Below.alloc ?_ (by first | omega | (simp <;> omega)) _)) }) | (go_at_call_of 73 (Value.int .i64 d); refine (HD.out _ ?_).mono ?_; (repeat (first | exact Below.refl _ _ | exact e2 | exact e1 | exact e0 | refine below_drewN ?_ _ | refine Below.drew ?_ | refine Below.alloc ?_ (by first | omega | (simp <;> omega)) _)); rintro e w2 ⟨rfl, hb2⟩; have k2 := two_keep hb2 (b := w.heap.size) (x := .int .i64 n) (y := .int .i64 d) (by first | omega | (simp <;> omega)) (by assumption); have e2 : Below w.heap.size w w2 := by { refine Below.trans ?_ (hb2.mono (by first | omega | (simp <;> omega))); (repeat (first | exact Below.refl _ _ | exact e2 | exact e1 | exact e0 | refine below_drewN ?_ _ | refine Below.drew ?_ | refine Below.alloc ?_ (by first | omega | (simp <;> omega)) _)) }))
    go_wp2_with (fail)
    go_ret
    exact ⟨by rw [E.out]; exact congrArg (Ending.returned ∘ Value.string) (tx_join sn sd), e2⟩

set_option maxHeartbeats 1600000 in
theorem implText (n d : Int) (w : World) (ht : TabIs Tryd.prog w "internal/strconv.uint64pow10" .u64 pow10Tab) :
    Calls Tryd.prog 72 #[.agg #[.int .i64 n, .int .i64 d]] w fun e w' => e = .returned (.string ⟨(txO n d).toArray⟩) ∧ Below w.heap.size w w' := by
  cases h : okF n d with
  | false =>
    have E := hid (show txO n d = [] by unfold txO; rw [h]; rfl)
    have H1 := hid h
    clear h ht
    go_enter Tryd.func72, Tryd.ntmps72
    go_wp2_with (fail)
    refine (implValid _ _ _).mono ?_
    rintro e w1 ⟨rfl, hb1⟩
    rw [H1.out]
    go_wp2
    go_ret
    exact ⟨by rw [E.out]; rfl, ((Below.refl _ _).alloc (Nat.le_refl _) _).trans (hb1.mono (by simp))⟩
  | true =>
    obtain ⟨x1, x2, x3, x4⟩ := ok_bounds h
    have EO : txO n d = txF n d := by unfold txO; rw [h]; rfl
    have CN : ∀ w', Below w.heap.size w w' → Calls Tryd.prog 63 #[.int .i64 n] w' fun e w'' => e = .returned (.string ⟨(itoa n).toArray⟩) ∧ Below w'.heap.size w' w'' := fun w' hb => implDec n w' (by omega) (by omega) (tab_below ht hb)
    have CD : ∀ w', Below w.heap.size w w' → Calls Tryd.prog 63 #[.int .i64 d] w' fun e w'' => e = .returned (.string ⟨(itoa d).toArray⟩) ∧ Below w'.heap.size w' w'' := fun w' hb => implDec d w' (by omega) (by omega) (tab_below ht hb)
    have HN := hid CN
    have HD := hid CD
    have H1 := hid h
    by_cases hd : d = 1
    · have E := hid (show txO n d = itoa n by rw [EO]; unfold txF; rw [if_pos hd])
      clear CN CD h ht EO
      subst hd
      go_enter Tryd.func72, Tryd.ntmps72
      go_wp2_with (fail)
      refine (implValid _ _ _).mono ?_
      rintro e w1 ⟨rfl, hb1⟩
      rw [H1.out]
      have hB1 : Below w.heap.size w w1 := ((Below.refl _ _).alloc (Nat.le_refl _) _).trans (hb1.mono (by simp))
      obtain ⟨hc1, hf1⟩ := bcell hb1
      go_wp2_with (fail)
      refine (HN.out _ hB1).mono ?_
      rintro e w2 ⟨rfl, hb2⟩
      go_wp2_with (fail)
      go_ret
      exact ⟨by rw [E.out]; rfl, hB1.trans (hb2.mono hB1.size)⟩
    · have E := hid (show txO n d = itoa n ++ 47 :: itoa d by rw [EO]; unfold txF; rw [if_neg hd])
      have hdb : (d == 1) = false := by simpa using hd
      clear CN CD h hd ht EO
      have hsn : (itoa n).length ≤ 20 := itoa_length (by omega)
      have hsd : (itoa d).length ≤ 20 := itoa_length (by omega)
      have hq1 : ¬ 9223372036854775807 < (itoa n).length + 1 := by omega
      have hq2 : ¬ 9223372036854775807 < (itoa n).length + 1 + (itoa d).length := by omega
      generalize itoa n = sn at HN E hsn hq1 hq2
      generalize itoa d = sd at HD E hsd hq2
      go_enter Tryd.func72, Tryd.ntmps72
      go_wp2_with (fail)
      refine (implValid _ _ _).mono ?_
      rintro e w1 ⟨rfl, hb1⟩
      rw [H1.out]
      have hB1 : Below w.heap.size w w1 := ((Below.refl _ _).alloc (Nat.le_refl _) _).trans (hb1.mono (by simp))
      have k0 := two_keep hb1 (b := w.heap.size) (x := .int .i64 n) (y := .int .i64 d) (by simp) (by constructor <;> go_simp)
      have hsz := hb1.size
      simp at hsz
      clear hb1
      go_wp2_with (fail)
      go_region_held3 (fun w' => w'.cell? ⟨w.heap.size, 0, none⟩ = some (.int .i64 n) ∧ w'.cell? ⟨w.heap.size, 1, none⟩ = some (.int .i64 d))
        (first | (with_reducible exact j2) | (with_reducible exact j1) | (with_reducible exact k0) | go_keep)
        (first | (go_at_call_of 63 (Value.int .i64 n); refine (HN.out _ ?_).mono ?_; (repeat (first | exact Below.refl _ _ | exact e1 | exact hB1 | refine below_drewN ?_ _ | refine Below.drew ?_ | refine Below.alloc ?_ (by first | omega | (simp <;> omega)) _)); rintro e y1 ⟨rfl, hy1⟩; have hz1 := hy1.size; simp at hz1; have j1 := two_keep hy1 (b := w.heap.size) (x := .int .i64 n) (y := .int .i64 d) (by first | omega | (simp <;> omega)) (by assumption); have e1 : Below w.heap.size w y1 := by { refine Below.trans ?_ (hy1.mono (by first | omega | (simp <;> omega))); (repeat (first | exact Below.refl _ _ | exact e1 | exact hB1 | refine below_drewN ?_ _ | refine Below.drew ?_ | refine Below.alloc ?_ (by first | omega | (simp <;> omega)) _)) }) | (go_at_call_of 63 (Value.int .i64 d); refine (HD.out _ ?_).mono ?_; (repeat (first | exact Below.refl _ _ | exact e1 | exact hB1 | refine below_drewN ?_ _ | refine Below.drew ?_ | refine Below.alloc ?_ (by first | omega | (simp <;> omega)) _)); rintro e y2 ⟨rfl, hy2⟩; have j2 := two_keep hy2 (b := w.heap.size) (x := .int .i64 n) (y := .int .i64 d) (by first | omega | (simp <;> omega)) (by assumption); have e2 : Below w.heap.size w y2 := by { refine Below.trans ?_ (hy2.mono (by first | omega | (simp <;> omega))); (repeat (first | exact Below.refl _ _ | exact e1 | exact hB1 | refine below_drewN ?_ _ | refine Below.drew ?_ | refine Below.alloc ?_ (by first | omega | (simp <;> omega)) _)) }))
      go_wp2_with (fail)
      go_ret
      exact ⟨by rw [E.out]; exact congrArg (Ending.returned ∘ Value.string) (tx_join sn sd), e2⟩

end Go.Proofs.YtjijabfamjhdjaaDoor
