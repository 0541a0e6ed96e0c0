/- Contract: the parts of a text between bytes, as the model parts it. -/
import Derived.Test.YtjijabfamjhdjaaDoorNam
import Derived.Laws.AppendOwn
import Derived.Laws.OwnMore
import Derived.Deep.AppendLies
namespace Go.Proofs.YtjijabfamjhdjaaDoor
open Go.RowKit Go.Lib

/-- The parts of a text between the bytes c. -/
def splitB (c : UInt8) : List UInt8 → List (List UInt8)
  | [] => [[]]
  | x :: r => if x = c then [] :: splitB c r else
    match splitB c r with
    | [] => [[x]]
    | p :: ps => (x :: p) :: ps

theorem splitB_cons (c x : UInt8) (r : List UInt8) : splitB c (x :: r) = if x = c then [] :: splitB c r else (match splitB c r with | [] => [[x]] | p :: ps => (x :: p) :: ps) := rfl

theorem splitB_none {c : UInt8} : ∀ {a : List UInt8}, c ∉ a → splitB c a = [a]
  | [], _ => rfl
  | x :: r, h => by
    have hx : ¬ x = c := fun e => h (by simp [e])
    have hr := splitB_none (c := c) (a := r) (fun e => h (List.mem_cons_of_mem _ e))
    rw [splitB_cons, if_neg hx, hr]
theorem splitB_at {c : UInt8} : ∀ {a : List UInt8} (b : List UInt8), c ∉ a → splitB c (a ++ c :: b) = a :: splitB c b
  | [], b, _ => by
    show splitB c (c :: b) = _
    rw [splitB_cons, if_pos rfl]
  | x :: r, b, h => by
    have hx : ¬ x = c := fun e => h (by simp [e])
    have hr := splitB_at (c := c) (a := r) b (fun e => h (List.mem_cons_of_mem _ e))
    show splitB c (x :: (r ++ c :: b)) = _
    rw [splitB_cons, if_neg hx, hr]

/-- The texts as the cells of a row. -/
def strCells (xs : List ByteArray) : List Value := xs.map Value.string
theorem strCells_more (xs : List ByteArray) (x : ByteArray) : strCells xs ++ [Value.string x] = strCells (xs ++ [x]) := by unfold strCells; rw [List.map_append]; rfl
theorem strCells_length (xs : List ByteArray) : (strCells xs).length = xs.length := List.length_map ..

theorem ext_list (s : ByteArray) (j k : Nat) : (s.extract j k).data.toList = (s.data.toList.drop j).take (k - j) := by
  rw [ByteArray.data_extract, Array.toList_extract, List.extract_eq_take_drop]
theorem data_len (t : ByteArray) : t.data.toList.length = t.size := Array.length_toList
theorem ext_all (s : ByteArray) (j : Nat) : (s.extract j s.size).data.toList = s.data.toList.drop j := by
  rw [ext_list]
  exact List.take_of_length_le (by rw [List.length_drop, data_len]; exact Nat.le_refl _)
theorem ext_more (s : ByteArray) {j k : Nat} (hj : j ≤ k) (h : k < s.size) : (s.extract j (k + 1)).data.toList = (s.extract j k).data.toList ++ [s[k]'h] := by
  rw [ext_list, ext_list, show k + 1 - j = (k - j) + 1 by omega, ← byte_at s k h, ← List.take_append_getElem (by rw [List.length_drop, data_len]; omega)]
  congr 2
  rw [List.getElem_drop]
  congr 1
  omega
theorem drop_parts (s : ByteArray) {j k : Nat} (hj : j ≤ k) (h : k < s.size) : s.data.toList.drop j = (s.extract j k).data.toList ++ s[k]'h :: s.data.toList.drop (k + 1) := by
  rw [ext_list]
  conv => lhs; rw [← List.take_append_drop (k - j) (s.data.toList.drop j)]
  congr 1
  rw [List.drop_drop, show j + (k - j) = k by omega, List.drop_eq_getElem_cons (by rw [data_len]; exact h), byte_at s k h]

theorem info9 : (Tryd.prog.info? 9).map (fun i => (i.zero, i.size, i.bytes)) = some (some (.string ByteArray.empty), 1, 16) := by kernel_rfl

theorem byte_toNat_eq {a b : UInt8} : ((a.toNat : Int) == (b.toNat : Int)) = decide (a = b) := by
  by_cases h : a = b
  · subst h; simp
  · rw [decide_eq_false h, beq_eq_false_iff_ne]
    intro e
    exact h (UInt8.toNat_inj.1 (by omega))

/-- A row of texts that the call itself made. -/
def RowOf (B : Nat) (w : World) (v : Value) (xs : List ByteArray) : Prop :=
  ∃ g cap, v = .slice (some ⟨g, 0, none⟩) xs.length cap ∧ B ≤ g ∧ w.ownsRow B 9 1 (.slice (some ⟨g, 0, none⟩) xs.length cap) xs.length (strCells xs)

theorem rowOf_own {B : Nat} {w : World} {v : Value} {n : Nat} {cs : List Value} {xs : List ByteArray} (h : w.ownsRow B 9 1 v n cs) (hn : n = xs.length) (hc : cs = strCells xs) (h0 : 0 < xs.length) : RowOf B w v xs := by
  subst hn hc
  obtain ⟨g, cap, rfl, hg, _⟩ := h.form h0
  exact ⟨g, cap, rfl, hg, h⟩

theorem news_one (w : World) (x : Value) (t : TypeId) : ∀ (j : Nat) (u : Value), [x][j]? = some u → (w.alloc (.cells #[x] t)).cell? ((⟨w.heap.size, 0, none⟩ : Addr).add j) = some u :=
  (World.ownsRow_lit (base := 0) (e := t) (size := 1) w #[x] 1 (Nat.zero_le _) (by decide) rfl).cells rfl

set_option maxRecDepth 100000 in
set_option maxHeartbeats 1600000 in
theorem specSplit (s : ByteArray) (c : UInt8) (w : World) (hs : s.size ≤ 1048576) :
    Calls Tryd.prog 65 #[.string s, .int .u8 (c.toNat : Nat)] w fun e w' => ∃ v xs, e = .returned v ∧ RowOf w.heap.size w' v xs ∧ xs.map (·.data.toList) = splitB c s.data.toList ∧ xs.length ≤ s.size + 1 ∧ Below w.heap.size w w' := by
  obtain ⟨i0, hi, hz0, hz1, hz2⟩ := info_parts info9
  go_enter Tryd.func65, Tryd.ntmps65
  go_wp2_with (fail)
  go_loopw [5, 6, 7] (fun v f i wr => ∃ (xs : List ByteArray) (g cap j k : Nat), v = .slice (some ⟨g, 0, none⟩) xs.length cap ∧ f = .int .i64 j ∧ i = .int .i64 k ∧ j ≤ k ∧ k ≤ s.size ∧ xs.length ≤ k ∧ w.heap.size ≤ g ∧ wr.ownsRow w.heap.size 9 1 (.slice (some ⟨g, 0, none⟩) xs.length cap) xs.length (strCells xs) ∧ Hid (splitB c s.data.toList = xs.map (·.data.toList) ++ splitB c (s.data.toList.drop j) ∧ c ∉ (s.extract j k).data.toList) ∧ Below w.heap.size w wr) (fun _ _ i _ => s.size - (RowKit.intOf i).toNat)
  case atStart =>
    refine ⟨[], w.heap.size, 0, 0, 0, rfl, rfl, rfl, Nat.le_refl _, by omega, Nat.le_refl _, Nat.le_refl _, ?_, hid ⟨by simp, by rw [ext_list]; simp⟩, (Below.refl _ _).alloc (Nat.le_refl _) _⟩
    exact World.ownsRow_lit w #[] 0 (Nat.le_refl _) (by decide) rfl
  case round =>
    obtain ⟨xs, g, cap, j, k, rfl, rfl, rfl, hjk, hk, hxk, hg, hown, hd, hbel⟩ := hrel
    have HOWN := hid hown
    have HBEL := hid hbel
    have hb : w.heap.size ≤ wr.heap.size := hbel.size
    clear hown hbel
    have hj0 : (0 : Int) ≤ (j : Int) := by omega
    have hjk' : (j : Int) ≤ (k : Int) := by omega
    have hks' : (k : Int) ≤ (s.size : Int) := by omega
    have hjs' : (j : Int) ≤ (s.size : Int) := by omega
    by_cases hlt : k < s.size
    · have hlt' : (k : Int) < (s.size : Int) := by omega
      by_cases hc : s[k]'hlt = c
      · have hcc : (((s[k]'hlt).toNat : Int) == (c.toNat : Int)) = true := by rw [byte_toNat_eq, decide_eq_true hc]
        have HD2 := hid (show splitB c s.data.toList = (xs ++ [s.extract j k]).map (·.data.toList) ++ splitB c (s.data.toList.drop (k + 1)) ∧ c ∉ (s.extract (k + 1) (k + 1)).data.toList by
          refine ⟨?_, by rw [ext_list]; simp⟩
          rw [hd.out.1, drop_parts s hjk hlt, hc, splitB_at _ hd.out.2, List.map_append, List.append_assoc]; rfl)
        clear hc
        go_wp2_with (at_builtin; refine wpList_append_own _ rfl _ _ 35 rfl w.heap.size 9 i0 (.string ByteArray.empty) 1 16 Tryd.underlying35 hi hz0 hz1 hz2 rfl (by decide) _ xs.length (strCells xs) (by rfl) ?c0 ⟨wr.heap.size, 0, none⟩ 1 1 [.string (s.extract j k)] (by rfl) ?c1 ?c2 ?c3 ?c4 ?c5 ?c6 ?c7)
        case c0 => exact HOWN.out.alloc _
        case c1 => rfl
        case c2 => exact news_one _ _ _
        case c3 => intro u hu; obtain rfl := List.mem_singleton.1 hu; rfl
        case c4 => unfold maxLen; omega
        case c5 => omega
        case c6 => (first | omega | (simp; omega))
        intro v2 w2 hown2 hgrow2 _
        obtain ⟨g2, cap2, rfl, hg2, hown3⟩ := rowOf_own hown2 (by simp) (strCells_more _ _) (by simp)
        have HOWN3 := hid hown3
        have HBEL2 := hid ((HBEL.out.alloc hb _).grown hgrow2 (by first | omega | (simp; omega)) (fun k hk => by have h' : g = k := Option.some.inj hk; omega))
        clear hown2 hown3 hgrow2
        go_wp2_with (fail)
        go_roundw
        case rel => exact ⟨_, g2, cap2, k + 1, k + 1, rfl, by go_num, by go_num, Nat.le_refl _, by omega, by simp; omega, hg2, HOWN3.out, HD2, HBEL2.out⟩
        case measure => simp only [RowKit.intOf]; omega
      · have hcc : (((s[k]'hlt).toNat : Int) == (c.toNat : Int)) = false := by rw [byte_toNat_eq, decide_eq_false hc]
        have HD2 := hid (show splitB c s.data.toList = xs.map (·.data.toList) ++ splitB c (s.data.toList.drop j) ∧ c ∉ (s.extract j (k + 1)).data.toList by
          refine ⟨hd.out.1, ?_⟩
          rw [ext_more s hjk hlt, List.mem_append, List.mem_singleton]
          rintro (h | h)
          · exact hd.out.2 h
          · exact hc h.symm)
        clear hc
        go_wp2_with (fail)
        go_roundw
        case rel => exact ⟨xs, g, cap, j, k + 1, rfl, rfl, by go_num, by omega, by omega, by omega, hg, HOWN.out, HD2, HBEL.out⟩
        case measure => simp only [RowKit.intOf]; omega
    · have hlt' : ¬ (k : Int) < (s.size : Int) := by omega
      have hke : k = s.size := by omega
      have HD2 := hid (show (xs ++ [s.extract j s.size]).map (·.data.toList) = splitB c s.data.toList by
        have h2 := hd.out.2
        rw [hke, ext_all] at h2
        rw [hd.out.1, splitB_none h2, List.map_append, List.map_singleton, ext_all])
      clear hke
      go_wp2_with (at_builtin; refine wpList_append_own _ rfl _ _ 35 rfl w.heap.size 9 i0 (.string ByteArray.empty) 1 16 Tryd.underlying35 hi hz0 hz1 hz2 rfl (by decide) _ xs.length (strCells xs) (by rfl) ?c0e ⟨wr.heap.size, 0, none⟩ 1 1 [.string (s.extract j s.size)] (by rfl) ?c1e ?c2e ?c3e ?c4e ?c5e ?c6e ?c7e)
      case c0e => exact HOWN.out.alloc _
      case c3e => rfl
      case c4e => unfold maxLen; omega
      case c5e => omega
      case c6e => (first | omega | (simp; omega))
      intro v2 w2 hown2 hgrow2 _
      obtain ⟨g2, cap2, rfl, hg2, hown3⟩ := rowOf_own hown2 (by simp) (strCells_more _ _) (by simp)
      have HOWN3 := hid hown3
      have HBEL2 := hid ((HBEL.out.alloc hb _).grown hgrow2 (by first | omega | (simp; omega)) (fun k hk => by have h' : g = k := Option.some.inj hk; omega))
      clear hown2 hown3 hgrow2
      go_wp2_with (fail)
      go_ret
      exact ⟨_, _, rfl, ⟨g2, cap2, rfl, hg2, HOWN3.out⟩, HD2.out, by simp; omega, HBEL2.out⟩

end Go.Proofs.YtjijabfamjhdjaaDoor
