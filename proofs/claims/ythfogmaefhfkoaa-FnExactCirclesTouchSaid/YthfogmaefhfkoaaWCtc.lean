/- The law on FnExactCirclesTouch, walked. -/
import Derived.Test.YthfogmaefhfkoaaLv
import Derived.Test.YthfogmaefhfkoaaCtc
namespace Go.Proofs.Ythfogmaefhfkoaa.pExactCirclesTouch
open Go.RowKit

set_option maxHeartbeats 1600000 in
theorem walk (n d m f : Int) (w : World) (_wn : (Lit.int .i64 n).wf = true) (_wd : (Lit.int .i64 d).wf = true) (_wm : (Lit.int .i64 m).wf = true) (_wf : (Lit.int .i64 f).wf = true) :
    Calls Try.prog 16 #[.agg #[.int .i64 n, .int .i64 d], .agg #[.int .i64 m, .int .i64 f]] w fun e w' => e = .returned (.bool true) ∧ Below w.heap.size w w' := by
  have CS := fun w => specCtc n d m f w
  have CI := fun w => implCtc n d m f w
  generalize ctcT n d m f = t at CS CI
  obtain ⟨x, y⟩ := t
  have HS := hid CS
  have HI := hid CI
  clear CS CI _wn _wd _wm _wf
  go_enter Try.func16, Try.ntmps16
  go_wp2_with fail
  obtain ⟨V, hV⟩ : ∃ V : World, V = ((w.alloc (.cells #[.int .i64 n, .int .i64 d] 56)).alloc (.cells #[.int .i64 m, .int .i64 f] 56)) := ⟨_, rfl⟩
  have eV : Below w.heap.size w V := by rw [hV]; exact alloc2 _ _ _
  have kV : V.cell? ⟨w.heap.size, 0, none⟩ = some (.int .i64 n) ∧ V.cell? ⟨w.heap.size, 1, none⟩ = some (.int .i64 d) ∧ V.cell? ⟨w.heap.size + 1, 0, none⟩ = some (.int .i64 m) ∧ V.cell? ⟨w.heap.size + 1, 1, none⟩ = some (.int .i64 f) := by
    rw [hV]; refine ⟨?_, ?_, ?_, ?_⟩ <;> go_simp
  have hzV : w.heap.size + 1 < V.heap.size := by rw [hV]; simp
  rw [← hV]
  clear hV
  generalize hB : w.heap.size = B at kV hzV ⊢
  go_region_held3 (fun w' => w'.cell? ⟨B, 0, none⟩ = some (.int .i64 n) ∧ w'.cell? ⟨B, 1, none⟩ = some (.int .i64 d) ∧ w'.cell? ⟨B + 1, 0, none⟩ = some (.int .i64 m) ∧ w'.cell? ⟨B + 1, 1, none⟩ = some (.int .i64 f))
      (first | (with_reducible exact k3) | (with_reducible exact four_alloc _ (by omega) k3) | (with_reducible exact four_set _ _ (by omega) k3) | (with_reducible exact k2) | (with_reducible exact four_alloc _ (by omega) k2) | (with_reducible exact k1) | (with_reducible exact four_alloc _ (by omega) k1) | go_keep | (with_reducible exact four_alloc _ (by first | omega | (simp <;> omega)) (by assumption)))
      (first | (go_at_call_of 66 (Value.agg #[Value.int .i64 n, Value.int .i64 d]); refine (toFr _ _ _).mono ?_; rintro e w1 ⟨rfl, hb1⟩; have hz1 := hb1.size; (try simp at hz1); have k1 := four hb1 (b := B) (n := .int .i64 n) (d := .int .i64 d) (m := .int .i64 m) (f := .int .i64 f) (by first | omega | (simp <;> omega)) (by assumption); have e1 : Below w.heap.size w w1 := by { refine Below.trans ?_ (hb1.mono (by first | omega | (simp <;> omega))); (repeat (first | exact Below.refl _ _ | exact eV | refine below_drewN ?_ _ | refine Below.drew ?_ | refine below_set ?_ (by omega) _ | refine Below.alloc ?_ (by first | omega | (simp <;> omega)) _)) }; (first | (refine keepI hb1 _ ?_ Z ?_; (first | omega | (simp <;> omega)); clear Z; intro Z) | (refine keepI hb1 V.heap.size ?_ ?_ ?_; (first | omega | (simp <;> omega)); (refine ⟨?_, ?_, ?_, ?_⟩ <;> (go_simp; done)); intro Z) | skip)) | (go_at_call_of 66 (Value.agg #[Value.int .i64 m, Value.int .i64 f]); refine (toFr _ _ _).mono ?_; rintro e w2 ⟨rfl, hb2⟩; have hz2 := hb2.size; (try simp at hz2); have k2 := four hb2 (b := B) (n := .int .i64 n) (d := .int .i64 d) (m := .int .i64 m) (f := .int .i64 f) (by first | omega | (simp <;> omega)) (by assumption); have e2 : Below w.heap.size w w2 := by { refine Below.trans ?_ (hb2.mono (by first | omega | (simp <;> omega))); (repeat (first | exact Below.refl _ _ | exact eV | exact e1 | refine below_drewN ?_ _ | refine Below.drew ?_ | refine below_set ?_ (by omega) _ | refine Below.alloc ?_ (by first | omega | (simp <;> omega)) _)) }; (first | (refine keepI hb2 _ ?_ Z ?_; (first | omega | (simp <;> omega)); clear Z; intro Z) | (refine keepI hb2 w1.heap.size ?_ ?_ ?_; (first | omega | (simp <;> omega)); (refine ⟨?_, ?_, ?_, ?_⟩ <;> (go_simp; done)); intro Z) | skip)) | (go_at_call 64; refine (HS.out _).mono ?_; rintro e w3 ⟨rfl, hb3⟩; have hz3 := hb3.size; (try simp at hz3); have k3 := four hb3 (b := B) (n := .int .i64 n) (d := .int .i64 d) (m := .int .i64 m) (f := .int .i64 f) (by first | omega | (simp <;> omega)) (by assumption); have e3 : Below w.heap.size w w3 := by { refine Below.trans ?_ (hb3.mono (by first | omega | (simp <;> omega))); (repeat (first | exact Below.refl _ _ | exact eV | exact e2 | exact e1 | refine below_drewN ?_ _ | refine Below.drew ?_ | refine below_set ?_ (by omega) _ | refine Below.alloc ?_ (by first | omega | (simp <;> omega)) _)) }; ((first | (refine keepI hb3 _ ?_ Z ?_; (first | omega | (simp <;> omega)); clear Z; intro Z) | (refine keepI hb3 w2.heap.size ?_ ?_ ?_; (first | omega | (simp <;> omega)); (refine ⟨?_, ?_, ?_, ?_⟩ <;> (go_simp; done)); intro Z) | skip); (first | (revert Z; rintro ⟨z1, z2, z3, z4⟩) | skip))))
  obtain ⟨V2, rfl⟩ : ∃ V2 : World, V2 = w3 := ⟨_, rfl⟩
  have eV2 := e3
  have kV2 := k3
  have hzV2 : B + 1 < V2.heap.size := by omega
  clear e1 e2 e3 k1 k2 k3 hb1 hb2 hb3 hz1 hz2 hz3 kV eV hzV
  go_wp2_with fail
  go_region_held3 (fun w' => w'.cell? ⟨B, 0, none⟩ = some (.int .i64 n) ∧ w'.cell? ⟨B, 1, none⟩ = some (.int .i64 d) ∧ w'.cell? ⟨B + 1, 0, none⟩ = some (.int .i64 m) ∧ w'.cell? ⟨B + 1, 1, none⟩ = some (.int .i64 f))
      (first | (with_reducible exact k3) | (with_reducible exact four_alloc _ (by omega) k3) | (with_reducible exact four_set _ _ (by omega) k3) | (with_reducible exact k2) | (with_reducible exact four_alloc _ (by omega) k2) | (with_reducible exact k1) | (with_reducible exact four_alloc _ (by omega) k1) | go_keep | (with_reducible exact four_alloc _ (by first | omega | (simp <;> omega)) (by assumption)))
      (first | (go_at_call_of 66 (Value.agg #[Value.int .i64 n, Value.int .i64 d]); refine (toFr _ _ _).mono ?_; rintro e w1 ⟨rfl, hb1⟩; have hz1 := hb1.size; (try simp at hz1); have k1 := four hb1 (b := B) (n := .int .i64 n) (d := .int .i64 d) (m := .int .i64 m) (f := .int .i64 f) (by first | omega | (simp <;> omega)) (by assumption); have e1 : Below w.heap.size w w1 := by { refine Below.trans ?_ (hb1.mono (by first | omega | (simp <;> omega))); (repeat (first | exact Below.refl _ _ | exact eV2 | refine below_drewN ?_ _ | refine Below.drew ?_ | refine below_set ?_ (by omega) _ | refine Below.alloc ?_ (by first | omega | (simp <;> omega)) _)) }; (first | (refine keepI hb1 _ ?_ Z ?_; (first | omega | (simp <;> omega)); clear Z; intro Z) | (refine keepI hb1 V2.heap.size ?_ ?_ ?_; (first | omega | (simp <;> omega)); (refine ⟨?_, ?_, ?_, ?_⟩ <;> (go_simp; done)); intro Z) | skip)) | (go_at_call_of 66 (Value.agg #[Value.int .i64 m, Value.int .i64 f]); refine (toFr _ _ _).mono ?_; rintro e w2 ⟨rfl, hb2⟩; have hz2 := hb2.size; (try simp at hz2); have k2 := four hb2 (b := B) (n := .int .i64 n) (d := .int .i64 d) (m := .int .i64 m) (f := .int .i64 f) (by first | omega | (simp <;> omega)) (by assumption); have e2 : Below w.heap.size w w2 := by { refine Below.trans ?_ (hb2.mono (by first | omega | (simp <;> omega))); (repeat (first | exact Below.refl _ _ | exact eV2 | exact e1 | refine below_drewN ?_ _ | refine Below.drew ?_ | refine below_set ?_ (by omega) _ | refine Below.alloc ?_ (by first | omega | (simp <;> omega)) _)) }; (first | (refine keepI hb2 _ ?_ Z ?_; (first | omega | (simp <;> omega)); clear Z; intro Z) | (refine keepI hb2 w1.heap.size ?_ ?_ ?_; (first | omega | (simp <;> omega)); (refine ⟨?_, ?_, ?_, ?_⟩ <;> (go_simp; done)); intro Z) | skip)) | (go_at_call 63; refine (HI.out _).mono ?_; rintro e w3 ⟨rfl, hb3⟩; have hz3 := hb3.size; (try simp at hz3); have k3 := four hb3 (b := B) (n := .int .i64 n) (d := .int .i64 d) (m := .int .i64 m) (f := .int .i64 f) (by first | omega | (simp <;> omega)) (by assumption); have e3 : Below w.heap.size w w3 := by { refine Below.trans ?_ (hb3.mono (by first | omega | (simp <;> omega))); (repeat (first | exact Below.refl _ _ | exact eV2 | exact e2 | exact e1 | refine below_drewN ?_ _ | refine Below.drew ?_ | refine below_set ?_ (by omega) _ | refine Below.alloc ?_ (by first | omega | (simp <;> omega)) _)) }; ((first | (refine keepI hb3 _ ?_ Z ?_; (first | omega | (simp <;> omega)); clear Z; intro Z) | (refine keepI hb3 w2.heap.size ?_ ?_ ?_; (first | omega | (simp <;> omega)); (refine ⟨?_, ?_, ?_, ?_⟩ <;> (go_simp; done)); intro Z) | skip); (first | (revert Z; rintro ⟨z1, z2, z3, z4⟩) | skip))))
  have hxx : (x != x) = false := by simp
  have hyy : (y != y) = false := by simp
  go_wp2
  go_ret
  exact ⟨rfl, e3⟩

end Go.Proofs.Ythfogmaefhfkoaa.pExactCirclesTouch
