/- Contract: the sieve of totients, by the program. -/
import Derived.Test.YthfogmaefhfkoaaSvm
import Derived.Test.YthfogmaefhfkoaaFy
import Derived.Deep.MidRow
import Derived.BigRegion
namespace Go.Proofs.Ythfogmaefhfkoaa
open Go.RowKit

/-- An array of numbers in its block. -/
def Sv (w : World) (b : Nat) (f : Nat → Nat) : Prop := ∃ C : Array Value, w.heap[b]? = some (.cells C 114 (0, 0)) ∧ C.size = 1001 ∧ ∀ i, i ≤ 1000 → C[i]? = some (.int .i64 (f i))
theorem sv_cell {w : World} {b : Nat} {f : Nat → Nat} (h : Sv w b f) {i : Nat} (hi : i ≤ 1000) : w.cell? ⟨b, i, none⟩ = some (.int .i64 (f i)) ∧ w.frozen? ⟨b, i, none⟩ = false := by
  obtain ⟨C, h1, h2, h3⟩ := h
  constructor
  · simp [World.cell?, h1, h3 i hi]
  · simp [World.frozen?, h1]
theorem sv_lt {w : World} {b : Nat} {f : Nat → Nat} (h : Sv w b f) : b < w.heap.size := by
  obtain ⟨C, h1, _⟩ := h
  exact (Array.getElem?_eq_some_iff.1 h1).1
theorem sv_ext {w : World} {b : Nat} {f g : Nat → Nat} (h : Sv w b f) (e : ∀ i, i ≤ 1000 → f i = g i) : Sv w b g := by
  obtain ⟨C, h1, h2, h3⟩ := h
  exact ⟨C, h1, h2, fun i hi => by rw [h3 i hi, e i hi]⟩
theorem sv_set {w : World} {b : Nat} {f : Nat → Nat} (h : Sv w b f) {i : Nat} (hi : i ≤ 1000) (x : Nat) : Sv (w.setCell ⟨b, i, none⟩ (.int .i64 x)) b (fun j => if j = i then x else f j) := by
  obtain ⟨C, h1, h2, h3⟩ := h
  refine ⟨C.setIfInBounds i (.int .i64 x), heap_setCell_same w b i _ _ _ h1, by simp [h2], fun j hj => ?_⟩
  dsimp only
  by_cases hji : j = i
  · subst hji
    rw [if_pos rfl, Array.getElem?_setIfInBounds_self_of_lt (by omega)]
  · rw [if_neg hji, Array.getElem?_setIfInBounds_ne (by omega)]
    exact h3 j hj

theorem sv_new (w : World) : Sv (w.alloc (.cells Try.zeroCells114 114)) w.heap.size (fun _ => 0) := by
  have e : Try.zeroCells114 = Array.replicate 1001 (Value.int .i64 0) := by kernel_rfl
  exact ⟨_, nw_at _ _, by rw [e]; simp, fun i hi => by rw [e, Array.getElem?_replicate, if_pos (by omega)]; rfl⟩
theorem sv_below {w w' : World} {B b : Nat} {f : Nat → Nat} (h : Sv w b f) (hb : Below B w w') (hB : b < B) : Sv w' b f := by
  obtain ⟨C, h1, h2⟩ := h
  exact ⟨C, (hb.block b hB).trans h1, h2⟩
theorem sv_alloc {w : World} {b : Nat} {f : Nat → Nat} (h : Sv w b f) (O : Obj) : Sv (w.alloc O) b f := by
  obtain ⟨C, h1, h2⟩ := h
  exact ⟨C, od_at h1 O, h2⟩

theorem below_setCells {B : Nat} {a : World} {b : Nat} : ∀ {w : World}, Below B a w → B ≤ b → ∀ (cs : List Value) (o : Nat), Below B a (w.setCells b o cs)
  | w, h, _, [], o => h
  | w, h, hb, c :: cs, o => below_setCells (below_set h hb c) hb cs (o + 1)
theorem sv_same {k j : Nat} (h : j % (k + 2) ≠ 0 ∨ j = 0) : sv (k + 1) j = sv k j := by
  by_cases hp : sv k (k + 2) = k + 2
  · rw [sv_take hp]
    rcases h with h | h
    · rw [if_neg h]
    · subst h
      have := sv_bd k 0
      have e : sv k 0 = 0 := by omega
      rw [e]; simp
  · rw [sv_skip hp]
theorem sv_here {k m : Nat} (hp : sv k (k + 2) = k + 2) (hm : m % (k + 2) = 0) : ((sv (k + 1) m : Nat) : Int) = (sv k m : Int) - (sv k m : Int) / ((k + 2 : Nat) : Int) := by
  rw [sv_take hp, if_pos hm]
  have := Nat.div_le_self (sv k m) (k + 2)
  omega
theorem between {p m j : Nat} (hm : m % p = 0) (h1 : m < j) (h2 : j < m + p) : j % p ≠ 0 := by
  intro hj
  obtain ⟨a, rfl⟩ := Nat.dvd_of_mod_eq_zero hm
  obtain ⟨b, rfl⟩ := Nat.dvd_of_mod_eq_zero hj
  have hab : a < b := Nat.lt_of_mul_lt_mul_left h1
  have : p * (a + 1) ≤ p * b := Nat.mul_le_mul_left p hab
  rw [Nat.mul_add, Nat.mul_one] at this
  omega

set_option maxRecDepth 100000 in
set_option maxHeartbeats 3200000 in
theorem implSv (w : World) :
    Calls Try.prog 138 #[] w fun e w' => (∃ C : Array Value, e = .returned (.agg C) ∧ C.size = 1001 ∧ ∀ i, i ≤ 1000 → C[i]? = some (.int .i64 (sv 999 i))) ∧ Below w.heap.size w w' := by
  have HZ := hid (sv_alloc (sv_new w) (.cells Try.zeroCells114 114))
  have H2 := hid (show Sv _ (w.heap.size + 1) (fun _ => 0) by have := sv_new (w.alloc (.cells Try.zeroCells114 114)); rwa [World.size_alloc] at this)
  have E0 := hid (((Below.refl w.heap.size w).alloc (Nat.le_refl _) (.cells Try.zeroCells114 114)).alloc (by simp) (.cells Try.zeroCells114 114))
  go_enter Try.func138, Try.ntmps138
  go_wp2_with (fail)
  obtain ⟨B, hB⟩ : ∃ B, B = w.heap.size + 1 := ⟨_, rfl⟩
  rw [← hB] at H2 ⊢
  have hBs : w.heap.size ≤ B := by omega
  have hBn : w.heap.size ≠ B := by omega
  have HBE := hid hB
  clear hB
  go_loopw [2, 5] (fun _ i wr => ∃ k : Nat, i = .int .i64 k ∧ k ≤ 1001 ∧ Hid (Sv wr B (fun j => if j < k then j else 0)) ∧ Hid (Sv wr w.heap.size (fun _ => 0)) ∧ Hid (Below w.heap.size w wr)) (fun _ i _ => 1001 - (RowKit.intOf i).toNat)
  case atStart => exact ⟨0, rfl, by omega, hid (sv_ext H2.out (fun i _ => by simp)), HZ, E0⟩
  case round =>
    obtain ⟨k, rfl, hk, hs, hz, he⟩ := hrel
    have hk0 : (0 : Int) ≤ (k : Int) := by omega
    by_cases hlt : k < 1001
    · have hlt' : (k : Int) < 1001 := by omega
      obtain ⟨c0, f0⟩ := sv_cell hs.out (i := k) (by omega)
      have HN := hid (sv_ext (sv_set hs.out (i := k) (by omega) k) (g := fun j => if j < k + 1 then j else 0) (fun j _ => by
        by_cases e : j = k
        · subst e; simp
        · rw [if_neg e]
          by_cases e2 : j < k
          · rw [if_pos e2, if_pos (by omega)]
          · rw [if_neg e2, if_neg (by omega)]))
      have HZ2 := hid (show Sv (wr.setCell ⟨B, k, none⟩ (.int .i64 k)) w.heap.size (fun _ => 0) by
        obtain ⟨C, h1, h2⟩ := hz.out
        exact ⟨C, (heap_setCell_other _ ⟨B, k, none⟩ _ _ hBn).trans h1, h2⟩)
      have HE2 := hid (below_set he.out hBs (o := k) (.int .i64 k))
      clear hs hz he
      go_wp2_with (fail)
      go_roundw
      case rel => exact ⟨k + 1, by go_num, by omega, HN, HZ2, HE2⟩
      case measure => simp only [RowKit.intOf]; omega
    · have hlt' : ¬ (k : Int) < 1001 := by omega
      have HS := hid (sv_ext hs.out (g := sv 0) (fun j hj => by rw [if_pos (by omega)]; rfl))
      clear hs
      go_wp2_with (fail)
      go_loopw [3, 4] (fun p _ wr => ∃ k : Nat, p = .int .i64 (k + 2 : Nat) ∧ k ≤ 999 ∧ Hid (Sv wr B (sv k)) ∧ Hid (Sv wr w.heap.size (fun _ => 0)) ∧ Hid (Below w.heap.size w wr)) (fun p _ _ => 1002 - (RowKit.intOf p).toNat)
      case atStart => exact ⟨0, rfl, by omega, HS, hz, he⟩
      case round =>
        obtain ⟨k, rfl, hk, hs, hz, he⟩ := hrel
        obtain ⟨q, hq⟩ : ∃ q, q = k + 2 := ⟨_, rfl⟩
        rw [← hq]
        have hq0 : (0 : Int) ≤ (q : Int) := by omega
        have hq2 : (2 : Int) ≤ (q : Int) := by omega
        have hqk : q ≤ 1001 := by omega
        have HQ := hid hq
        have HSK := hid (fun (h : ¬ sv k q = q) => sv_skip (k := k) (by rw [← hq]; exact h))
        have HTK := hid (fun (h : sv k q = q) => show sv k (k + 2) = k + 2 by rw [← hq]; exact h)
        have HSM := hid (fun (j : Nat) (h : j % q ≠ 0 ∨ j = 0) => sv_same (k := k) (j := j) (by rw [← hq]; exact h))
        have HSH := hid (fun (m : Nat) (hp : sv k q = q) (hm : m % q = 0) => show ((sv (k + 1) m : Nat) : Int) = (sv k m : Int) - (sv k m : Int) / (q : Int) by rw [hq]; exact sv_here (by rw [← hq]; exact hp) (by rw [← hq]; exact hm))
        have HNX := hid (show (Value.int .i64 ((q : Int) + 1)) = .int .i64 ((k + 1 + 2 : Nat) : Int) by rw [hq]; congr 1)
        have hk8 : q ≤ 1000 → k + 1 ≤ 999 := by omega
        have hk9 : ¬ q ≤ 1000 → k = 999 := by omega
        clear hq
        by_cases hle : q ≤ 1000
        · have hle' : (q : Int) ≤ 1000 := by omega
          have hlt2 : (q : Int) < 1001 := by omega
          obtain ⟨c0, f0⟩ := sv_cell hs.out (i := q) hle
          by_cases hp : sv k q = q
          · have hpq : ((sv k q : Nat) : Int) = (q : Int) := by rw [hp]
            rw [hpq] at c0
            have HST := hid (sv_ext hs.out (g := fun j => if j < q then sv (k + 1) j else sv k j) (fun j _ => by
              split
              · by_cases e : j = 0
                · exact (HSM.out j (.inr e)).symm
                · exact (HSM.out j (.inl (by rw [Nat.mod_eq_of_lt (by assumption)]; exact e))).symm
              · rfl))
            clear hs
            go_wp2_with (fail)
            go_loopw [4] (fun n wr => ∃ m : Nat, n = .int .i64 m ∧ m % q = 0 ∧ q ≤ m ∧ m ≤ 1000 + q ∧ Hid (Sv wr B (fun j => if j < m then sv (k + 1) j else sv k j)) ∧ Hid (Sv wr w.heap.size (fun _ => 0)) ∧ Hid (Below w.heap.size w wr)) (fun n _ => 2001 - (RowKit.intOf n).toNat)
            case atStart => exact ⟨q, rfl, Nat.mod_self q, Nat.le_refl _, by omega, HST, hz, he⟩
            case round =>
              obtain ⟨m, rfl, hm, hqm, hmq, hs, hz, he⟩ := hrel
              have hm0 : (0 : Int) ≤ (m : Int) := by omega
              by_cases hml : m ≤ 1000
              · have hml' : (m : Int) ≤ 1000 := by omega
                have hmlt : (m : Int) < 1001 := by omega
                obtain ⟨d0, g0⟩ := sv_cell hs.out (i := m) hml
                rw [if_neg (Nat.lt_irrefl m)] at d0
                have hv := sv_bd k m
                obtain ⟨v, hv0⟩ : ∃ v, v = sv k m := ⟨_, rfl⟩
                rw [← hv0] at d0 hv
                have hvq := Nat.div_le_self v q
                have hdv : (0 : Int) ≤ (v : Int) / (q : Int) ∧ (v : Int) / (q : Int) ≤ 1000 := ⟨Int.ediv_nonneg (by omega) (by omega), Int.le_trans (Int.ediv_le_self _ (by omega)) (by omega)⟩
                obtain ⟨hdv0, hdv1⟩ := hdv
                have hv1 : (0 : Int) ≤ (v : Int) := by omega
                have hv2 : (v : Int) ≤ 1000 := by omega
                have HEQ := hid (show (v : Int) - (v : Int) / (q : Int) = ((sv (k + 1) m : Nat) : Int) by rw [hv0]; exact (HSH.out m hp hm).symm)
                have HN := hid (sv_ext (sv_set hs.out (i := m) hml (sv (k + 1) m)) (g := fun j => if j < m + q then sv (k + 1) j else sv k j) (fun j _ => by
                  by_cases e : j = m
                  · subst e
                    rw [if_pos rfl, if_pos (by omega)]
                  · rw [if_neg e]
                    by_cases e2 : j < m
                    · rw [if_pos e2, if_pos (by omega)]
                    · rw [if_neg e2]
                      by_cases e3 : j < m + q
                      · rw [if_pos e3]
                        exact (HSM.out j (.inl (between hm (by omega) e3))).symm
                      · rw [if_neg e3]))
                have HZ2 := hid (show Sv (wr.setCell ⟨B, m, none⟩ (.int .i64 (sv (k + 1) m : Nat))) w.heap.size (fun _ => 0) by
                  obtain ⟨C, h1, h2⟩ := hz.out
                  exact ⟨C, (heap_setCell_other _ ⟨B, m, none⟩ _ _ hBn).trans h1, h2⟩)
                have HE2 := hid (below_set he.out hBs (o := m) (.int .i64 (sv (k + 1) m : Nat)))
                rw [← HEQ.out] at HN HZ2 HE2
                clear hs hz he hv0 HEQ
                go_wp2_with (fail)
                go_region
                simp only [Exit.inBlock, Exit.then]
                go_wp2_with (fail)
                go_roundw
                case rel => exact ⟨m + q, by go_num, by rw [Nat.add_mod_right]; exact hm, by omega, by omega, hid HN.out, hid HZ2.out, hid (Below.drew HE2.out)⟩
                case measure => simp only [RowKit.intOf]; omega
              · have hml' : ¬ (m : Int) ≤ 1000 := by omega
                have HS := hid (sv_ext hs.out (g := sv (k + 1)) (fun j hj => by rw [if_pos (by omega)]))
                clear hs
                go_wp2_with (fail)
                go_roundw
                case rel => exact ⟨k + 1, HNX.out, hk8 hle, HS, hz, he⟩
                case measure => simp only [RowKit.intOf]; omega
          · have hne : ((((sv k q : Nat) : Int)) != (q : Int)) = true := by
              simp only [bne_iff_ne, ne_eq]
              omega
            have HS := hid (show Sv wr B (sv (k + 1)) by rw [HSK.out hp]; exact hs.out)
            clear hs
            go_wp2_with (fail)
            go_roundw
            case rel => exact ⟨k + 1, HNX.out, hk8 hle, HS, hz, he⟩
            case measure => simp only [RowKit.intOf]; omega
        · have hle' : ¬ (q : Int) ≤ 1000 := by omega
          obtain rfl := hk9 hle
          obtain ⟨cs, hcs⟩ : ∃ cs : List Value, cs = (List.range 1001).map fun i => Value.int .i64 (sv 999 i : Nat) := ⟨_, rfl⟩
          have hlen : cs.length = 1001 := by rw [hcs]; simp
          have hat : ∀ i, i ≤ 1000 → cs[i]? = some (.int .i64 (sv 999 i : Nat)) := fun i hi => by rw [hcs, List.getElem?_map, List.getElem?_range (by omega)]; rfl
          have HR := hid (show wr.rangeAt B 0 cs from fun j v hj => by
            have hjl : j < cs.length := (List.getElem?_eq_some_iff.1 hj).1
            have e := hat j (by omega)
            rw [hj] at e
            injection e with e
            rw [e, Nat.zero_add]
            exact (sv_cell hs.out (by omega)).1)
          have HT := hid (show wr.there w.heap.size 0 cs.toArray.size from fun j hj => by
            have hjl : j ≤ 1000 := by simp at hj; omega
            obtain ⟨a, b⟩ := sv_cell hz.out hjl
            rw [Nat.zero_add, a, b]
            exact ⟨rfl, rfl⟩)
          have hinf : (Try.prog.info? 114).map (·.size) = some 1001 := by kernel_rfl
          have HI := hid (show (Try.prog.info? 114).map (·.size) = some cs.length by rw [hinf, hlen])
          have HI2 := hid (show (Try.prog.info? 114).map (·.size) = some cs.toArray.size by rw [hinf]; simp [hlen])
          have HONE := hid (show cs.toArray.all (·.oneCell') = true from all_oneCell_toArray (fun v hv => by
            rw [hcs] at hv
            obtain ⟨i, _, rfl⟩ := List.mem_map.1 hv
            rfl))
          have HCS := hid (And.intro hlen hat)
          clear hs hcs hlen hat hinf
          go_wp2_with (first | (refine wpList_load_mid rfl 114 _ rfl B 0 rfl cs _ HR.out Try.underlying114 rfl HI.out ?_) | (refine wpList_store_mid rfl 114 _ _ rfl w.heap.size 0 cs.toArray rfl rfl HT.out HI2.out HONE.out ?_))
          have HRR := World.rangeAt_setCells_same wr w.heap.size 0 cs (by have := HT.out; rwa [List.size_toArray] at this)
          have HLD := run_loadVar_mid (P := Try.prog) _ _ _ _ cs _ HRR Try.underlying114 rfl HI.out
          have HLA := run_loadAt_mid (P := Try.prog) _ _ _ _ cs _ HRR Try.underlying114 rfl HI.out
          refine bodyPost_ret (v := .agg cs.toArray) (by simp [results, Try.results138, asAddr, Sem.run_bind, HLD]) rfl ⟨⟨cs.toArray, rfl, by simp [HCS.out.1], fun i hi => by simpa using HCS.out.2 i hi⟩, ?_⟩
          exact below_setCells he.out (Nat.le_refl _) _ _

end Go.Proofs.Ythfogmaefhfkoaa
