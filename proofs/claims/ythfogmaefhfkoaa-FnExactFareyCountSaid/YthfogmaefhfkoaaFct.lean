/- Contracts: the number of elements, by the program (a sieve) and by the model (a sum). -/
import Derived.Test.YthfogmaefhfkoaaSve
import Derived.Test.YthfogmaefhfkoaaTot
namespace Go.Proofs.Ythfogmaefhfkoaa
open Go.RowKit

theorem sumP_next (k : Nat) : sumP (k + 1) = sumP k + phi ((k + 1 : Nat) : Int) := rfl

theorem run_cut (b n : Nat) (hn : 1 ≤ n) (hn1 : n ≤ 1000) (w : World) :
    (Instr.sliceAt 114 (.pointer (some ⟨b, 0, none⟩)) (some (.int .i64 1)) (some (.int .i64 ((n : Int) + 1))) none).run Try.prog w = .ok (.slice (some ⟨b, 1, none⟩) n 1000) w := by
  have hl : Try.prog.arrayLen 114 = 1001 := by kernel_rfl
  have h1 : (1 : Int) ≤ (n : Int) + 1 := by omega
  have h2 : (n : Int) + 1 ≤ 1001 := by omega
  have h3 : ((n : Int) + 1).toNat = n + 1 := by omega
  have h4 : ¬ (n + 1 = 1) := by omega
  have he : Try.prog.elem 114 = 2 := by kernel_rfl
  have ht : Try.prog.underlying 114 = some (.array (Try.prog.arrayLen 114) (Try.prog.elem 114)) := by kernel_rfl
  obtain ⟨i0, hi, hz0, hz1, hz2⟩ := info_parts infoI
  rw [run_sliceAt_array_lh w 114 ⟨b, 0, none⟩ ht .i64 .i64 1 ((n : Int) + 1) (by omega) h1 (by rw [hl]; exact h2), he]
  have hsz : (sizeOf 2).run Try.prog w = .ok 1 w := by simp [sizeOf, typeInfo, hi, hz1]
  rw [hsz, hl, h3]
  show Result.ok (slicedAt ⟨b, 0, none⟩ 1 (n + 1) 1001 1) w = _
  unfold slicedAt
  rw [if_neg (by omega)]
  rfl

set_option maxRecDepth 100000 in
set_option maxHeartbeats 3200000 in
theorem implFct (o : Int) (w : World) :
    Calls Try.prog 76 #[.int .i64 o] w fun e w' => e = .returned (.tuple #[.int .i64 (fctT o).1, .int .i64 (fctT o).2]) ∧ Below w.heap.size w w' := by
  have H1 := hid (fun w => within6 1 1000 o w)
  cases hi : inB 1 1000 o
  · rw [fctT_no hi]
    rw [hi] at H1
    clear hi
    go_enter Try.func76, Try.ntmps76
    go_wp2_with (fail)
    refine (H1.out _).mono ?_
    rintro e w1 ⟨rfl, b1⟩
    go_wp2_with (fail)
    go_ret2
    exact ⟨rfl, b1⟩
  rw [fctT_ok hi]
  rw [hi] at H1
  obtain ⟨o1, o2⟩ := inB_iff.1 hi
  clear hi
  obtain ⟨n, rfl⟩ : ∃ n : Nat, o = n := ⟨o.toNat, by omega⟩
  rw [Int.toNat_natCast]
  have HS := hid (fun w => implSv w)
  have hinf : (Try.prog.info? 114).map (·.size) = some 1001 := by kernel_rfl
  go_enter Try.func76, Try.ntmps76
  go_wp2_with (fail)
  refine (H1.out _).mono ?_
  rintro e w1 ⟨rfl, b1⟩
  have E1 := hid b1
  clear b1
  go_wp2_with (fail)
  refine (HS.out _).mono ?_
  rintro e w2 ⟨⟨C, rfl, hC, hat⟩, b2⟩
  have E2 := hid (E1.out.trans (b2.mono E1.out.size))
  have HI2 := hid (show (Try.prog.info? 114).map (·.size) = some C.size by rw [hinf, hC])
  have HAT := hid hat
  have SZ := sv_new w2
  have HT := hid (show (w2.alloc (.cells Try.zeroCells114 114)).there w2.heap.size 0 C.size from fun j hj => by
    obtain ⟨a, b⟩ := sv_cell SZ (i := j) (by omega)
    rw [Nat.zero_add, a, b]
    exact ⟨rfl, rfl⟩)
  have HONE := hid (show C.all (·.oneCell') = true from by
    rw [Array.all_eq_true_iff_forall_mem]
    intro v hv
    obtain ⟨i, hi, e⟩ := Array.mem_iff_getElem.1 hv
    have := hat i (by omega)
    rw [Array.getElem?_eq_getElem hi, e] at this
    injection this with this
    rw [this]; rfl)
  have HC := hid hC
  have HCUT := run_cut w2.heap.size n (by omega) (by omega)
  clear b2 hat hinf SZ hC
  go_wp2_with (refine wpList_store_mid rfl 114 _ _ rfl w2.heap.size 0 C rfl rfl HT.out HI2.out HONE.out ?_)
  have HB3 := hid (below_setCells ((Below.refl w2.heap.size w2).alloc (Nat.le_refl _) (.cells Try.zeroCells114 114)) (Nat.le_refl _) C.toList 0)
  have HRR := hid (World.rangeAt_setCells_same (w2.alloc (.cells Try.zeroCells114 114)) w2.heap.size 0 C.toList (by have := HT.out; rwa [← Array.length_toList] at this))
  have HAT2 := hid (fun (i : Nat) (hi : i ≤ 1000) => show C.toList[i]? = some (.int .i64 (sv 999 i : Nat)) by rw [Array.getElem?_toList]; exact HAT.out i hi)
  generalize ((w2.alloc (.cells Try.zeroCells114 114)).setCells w2.heap.size 0 C.toList) = w3 at *
  go_loop [5, 7, 17] (fun s _ i => ∃ k : Nat, k ≤ n ∧ i = .int .i64 k ∧ s = .int .i64 (sumP k)) (fun _ _ i => n - (RowKit.intOf i).toNat)
  case atStart => exact ⟨0, by omega, rfl, rfl⟩
  case round =>
    obtain ⟨k, hk, rfl, rfl⟩ := hrel
    have hk0 : (0 : Int) ≤ (k : Int) := by omega
    obtain ⟨s1, s2⟩ := sumP_bd k (by omega)
    by_cases hlt : k < n
    · have hlt' : (k : Int) < (n : Int) := by omega
      have ca := HRR.out (k + 1) _ (HAT2.out (k + 1) (by omega))
      rw [show (0 : Nat) + (k + 1) = 1 + k by omega, sv_phi (by omega) (by omega)] at ca
      obtain ⟨p1, p2⟩ := phi_bd (n := ((k + 1 : Nat) : Int)) (by omega)
      have HN := hid (sumP_next k)
      have p3 : phi ((k + 1 : Nat) : Int) ≤ 1000 := by omega
      generalize phi ((k + 1 : Nat) : Int) = q at *
      generalize sumP k = S at *
      clear HCUT HT HONE HI2 HAT HAT2 HRR p2
      go_wp2_with (fail)
      go_round
      case rel => exact ⟨k + 1, by omega, by go_num, by rw [HN.out]⟩
      case measure => simp [RowKit.intOf]; omega
    · have hlt' : ¬ (k : Int) < (n : Int) := by omega
      have HN := hid (show sumP k = sumP n by rw [show k = n by omega])
      generalize sumP k = S at *
      clear HCUT HT HONE HI2 HAT HAT2 HRR
      go_wp2_with (fail)
      go_ret2
      exact ⟨by rw [HN.out]; rfl, E2.out.trans (HB3.out.mono E2.out.size)⟩

set_option maxHeartbeats 1600000 in
theorem specFct (o : Int) (w : World) :
    Calls Try.prog 75 #[.int .i64 o] w fun e w' => e = .returned (.tuple #[.int .i64 (fctT o).1, .int .i64 (fctT o).2]) ∧ Below w.heap.size w w' := by
  have H1 := hid (fun w => specIn o 1 1000 w)
  cases hi : inB 1 1000 o
  · rw [fctT_no hi]
    rw [hi] at H1
    clear hi
    go_enter Try.func75, Try.ntmps75
    go_wp2_with (fail)
    refine (H1.out _).mono ?_
    rintro e w1 ⟨rfl, rfl⟩
    go_wp2_with (fail)
    go_ret2
    exact ⟨rfl, Below.refl _ _⟩
  rw [fctT_ok hi]
  rw [hi] at H1
  obtain ⟨o1, o2⟩ := inB_iff.1 hi
  clear hi
  obtain ⟨n, rfl⟩ : ∃ n : Nat, o = n := ⟨o.toNat, by omega⟩
  rw [Int.toNat_natCast]
  have HP := hid (fun (n : Int) (w : World) h1 h2 => specPhi n w h1 h2)
  go_enter Try.func75, Try.ntmps75
  go_wp2_with (fail)
  refine (H1.out _).mono ?_
  rintro e w1 ⟨rfl, rfl⟩
  go_wp2_with (fail)
  go_loop [4, 5] (fun s i => ∃ k : Nat, k ≤ n ∧ i = .int .i64 (k + 1) ∧ s = .int .i64 (sumP k)) (fun _ i => 1002 - (RowKit.intOf i).toNat)
  case atStart => exact ⟨0, by omega, rfl, rfl⟩
  case round =>
    obtain ⟨k, hk, rfl, rfl⟩ := hrel
    have hk0 : (0 : Int) ≤ (k : Int) := by omega
    obtain ⟨s1, s2⟩ := sumP_bd k (by omega)
    by_cases hlt : (k : Int) + 1 ≤ n
    · have HPK := hid (fun w => HP.out ((k : Int) + 1) w (by omega) (by omega))
      obtain ⟨p1, p2⟩ := phi_bd (n := (k : Int) + 1) (by omega)
      have HN := hid (show sumP k + phi ((k : Int) + 1) = sumP (k + 1) from rfl)
      generalize phi ((k : Int) + 1) = q at *
      generalize sumP k = S at *
      clear HP
      go_wp2_with (fail)
      refine (HPK.out _).mono ?_
      rintro e w1 ⟨rfl, rfl⟩
      go_wp2_with (fail)
      go_round
      case rel => exact ⟨k + 1, by omega, by go_num, by rw [HN.out]⟩
      case measure => simp [RowKit.intOf]; omega
    · have hkn : k = n := by omega
      have HN := hid (show sumP k = sumP n by rw [hkn])
      generalize sumP k = S at *
      clear HP
      go_wp2_with (fail)
      go_ret2
      exact ⟨by rw [HN.out]; rfl, Below.refl _ _⟩

end Go.Proofs.Ythfogmaefhfkoaa
