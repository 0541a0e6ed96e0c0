/- Contract: the parts of a text without blanks, as the program parts it. -/
import Derived.Test.YthdhkjfanhhamaaSw
import Derived.Test.YthdhkjfanhhamaaBld
import Derived.Test.YthdhkjfanhhamaaShelfD
import Derived.OneCell
namespace Go.Proofs.Ythdhkjfanhhamaa
open Go.RowKit Go.Lib

theorem splitB_nenil (c : UInt8) : ∀ l, splitB c l ≠ []
  | [] => by simp [splitB]
  | x :: r => by
    rw [splitB_cons]
    split
    · simp
    · split <;> simp
theorem splitB_snoc {c : UInt8} (x : UInt8) : ∀ {l : List UInt8} {pre : List (List UInt8)} {acc : List UInt8}, splitB c l = pre ++ [acc] → splitB c (l ++ [x]) = if x = c then pre ++ [acc, []] else pre ++ [acc ++ [x]]
  | [], pre, acc, h => by
    have h2 : [([] : List UInt8)] = pre ++ [acc] := h
    have hp : pre = [] := by
      have := congrArg List.length h2
      simp at this
      exact this
    subst hp
    have ha : acc = [] := by simpa using h2.symm
    subst ha
    show splitB c [x] = _
    rw [splitB_cons]
    rfl
  | y :: r, pre, acc, h => by
    show splitB c (y :: (r ++ [x])) = _
    rw [splitB_cons] at h ⊢
    by_cases hy : y = c
    · rw [if_pos hy] at h ⊢
      rcases pre with _ | ⟨p, pr⟩
      · have : splitB c r = [] := by simpa using (List.cons.inj h).2
        exact absurd this (splitB_nenil c r)
      · obtain ⟨h1, h2⟩ := List.cons.inj h
        subst h1
        rw [splitB_snoc x h2]
        split <;> rfl
    · rw [if_neg hy] at h ⊢
      rcases hr : splitB c r with _ | ⟨q, qs⟩
      · exact absurd hr (splitB_nenil c r)
      · rw [hr] at h
        dsimp only at h
        rcases pre with _ | ⟨p, pr⟩
        · obtain ⟨h1, h2⟩ := List.cons.inj h
          subst h1 h2
          rw [splitB_snoc (pre := []) (acc := q) x hr]
          by_cases hx : x = c
          · rw [if_pos hx, if_pos hx]; rfl
          · rw [if_neg hx, if_neg hx]; rfl
        · obtain ⟨h1, h2⟩ := List.cons.inj h
          subst h1 h2
          rw [splitB_snoc (pre := q :: pr) (acc := acc) x hr]
          by_cases hx : x = c
          · rw [if_pos hx, if_pos hx]; rfl
          · rw [if_neg hx, if_neg hx]; rfl

/-- A row of texts lies on while bytes are written elsewhere. -/
theorem row_kept {B b : Nat} {w w' : World} {v : Value} {n : Nat} {xs : List Value} {p q : Value} (h : w.ownsRow B 9 1 v n xs) (hb : w.heap[b]? = some (.cells #[p, q] 57 (0, 0))) (k : OthersKept 5 (some b) w w') : w'.ownsRow B 9 1 v n xs := by
  refine ⟨h.1, ?_⟩
  rcases h.2 with hn | ⟨g, cap, cur, rfl, hB, hgg, rest⟩
  · exact .inl hn
  · refine .inr ⟨g, cap, cur, rfl, hB, k g _ hgg ?_ ?_, rest⟩
    · intro e
      injection e with e
      subst e
      rw [hgg] at hb
      injection hb with hb
      injection hb with _ ht _
      revert ht
      decide
    · intro c fz e
      injection e with _ ht _
      revert ht
      decide

/-- What has been read so far: the words, and the word under way. -/
def SoFar (l : List UInt8) (xs : List ByteArray) (acc : List UInt8) : Prop := ∃ pre, splitB 32 l = pre ++ [acc] ∧ xs.map (·.data.toList) = pre.filter fun p => !p.isEmpty
theorem soFar_byte {l : List UInt8} {xs : List ByteArray} {acc : List UInt8} {x : UInt8} (h : SoFar l xs acc) (hx : ¬ x = 32) : SoFar (l ++ [x]) xs (acc ++ [x]) := by
  obtain ⟨pre, h1, h2⟩ := h
  exact ⟨pre, by rw [splitB_snoc x h1, if_neg hx], h2⟩
theorem soFar_gap {l : List UInt8} {xs : List ByteArray} {x : UInt8} (h : SoFar l xs []) (hx : x = 32) : SoFar (l ++ [x]) xs [] := by
  obtain ⟨pre, h1, h2⟩ := h
  exact ⟨pre ++ [[]], by rw [splitB_snoc x h1, if_pos hx]; simp, by rw [h2, List.filter_append]; simp⟩
theorem soFar_word {l : List UInt8} {xs : List ByteArray} {acc : List UInt8} {x : UInt8} (h : SoFar l xs acc) (hx : x = 32) (ha : acc ≠ []) : SoFar (l ++ [x]) (xs ++ [⟨acc.toArray⟩]) [] := by
  obtain ⟨pre, h1, h2⟩ := h
  exact ⟨pre ++ [acc], by rw [splitB_snoc x h1, if_pos hx]; simp, by rw [List.map_append, h2, List.filter_append]; cases acc with | nil => exact absurd rfl ha | cons _ _ => rfl⟩
theorem soFar_end0 {l : List UInt8} {xs : List ByteArray} (h : SoFar l xs []) : xs.map (·.data.toList) = wordsB l := by
  obtain ⟨pre, h1, h2⟩ := h
  unfold wordsB
  rw [h1, List.filter_append, h2]; simp
theorem soFar_end1 {l : List UInt8} {xs : List ByteArray} {acc : List UInt8} (h : SoFar l xs acc) (ha : acc ≠ []) : (xs ++ [(⟨acc.toArray⟩ : ByteArray)]).map (fun b : ByteArray => b.data.toList) = wordsB l := by
  obtain ⟨pre, h1, h2⟩ := h
  unfold wordsB
  rw [h1, List.filter_append, List.map_append, h2]
  cases acc with | nil => exact absurd rfl ha | cons _ _ => rfl

theorem take_next (t : ByteArray) (k : Nat) (h : k < t.size) : t.data.toList.take (k + 1) = t.data.toList.take k ++ [t[k]'h] := by
  rw [← byte_at t k h, List.take_append_getElem]

theorem resetB (b : Nat) (w : World) (p q : Value) (h : w.heap[b]? = some (.cells #[p, q] 57 (0, 0))) :
    Calls Try.prog 61 #[.pointer (some ⟨b, 0, none⟩)] w fun e w' => e = .returned (.tuple #[]) ∧ w' = (w.setCell ⟨b, 0, none⟩ (.pointer none)).setCell ⟨b, 1, none⟩ (.slice none 0 0) := by
  have c0 : w.cell? ⟨b, 0, none⟩ = some p := by simp [World.cell?, h]
  have c1 : w.cell? ⟨b, 1, none⟩ = some q := by simp [World.cell?, h]
  have f0 : w.frozen? ⟨b, 0, none⟩ = false := by simp [World.frozen?, h]
  have f1 : w.frozen? ⟨b, 1, none⟩ = false := by simp [World.frozen?, h]
  clear h
  go_enter Try.func61, Try.ntmps61
  go_wp2_with (fail)
  go_end0
  exact ⟨rfl, rfl⟩

/-- Behind Reset the builder is as new. -/
theorem reset_new (b : Nat) (w : World) (p q : Value) (h : w.heap[b]? = some (.cells #[p, q] 57 (0, 0))) :
    IsBuilderF 57 5 b b (byteCells []) ((w.setCell ⟨b, 0, none⟩ (.pointer none)).setCell ⟨b, 1, none⟩ (.slice none 0 0)) := by
  have h1 := heap_setCell_same w b 0 _ _ (.pointer none) h
  have h2 := heap_setCell_same _ b 1 _ _ (.slice none 0 0) h1
  exact IsBuilderF.of (Or.inl ⟨Nat.le_refl _, .slice none 0 0, h2, World.ownsRow_nil _ _ _ _, by simp [Value.ownBlock]⟩)

theorem bld_block {B b : Nat} {bs : List Value} {w : World} (h : IsBuilderF 57 5 B b bs w) : ∃ p q, w.heap[b]? = some (.cells #[p, q] 57 (0, 0)) := by
  rcases h with ⟨_, v, hb, _⟩ | ⟨_, v, hb, _⟩
  · exact ⟨_, _, hb⟩
  · exact ⟨_, _, hb⟩
theorem row_other {B b : Nat} {w : World} {v : Value} {n : Nat} {xs : List Value} {p q : Value} (h : w.ownsRow B 9 1 v n xs) (hb : w.heap[b]? = some (.cells #[p, q] 57 (0, 0))) : some b ≠ v.ownBlock := by
  rcases h.2 with ⟨rfl, _⟩ | ⟨g, cap, cur, rfl, hB, hgg, rest⟩
  · simp [Value.ownBlock]
  · intro e
    have e : b = g := by simpa [Value.ownBlock] using e
    subst e
    rw [hgg] at hb
    injection hb with hb
    injection hb with _ ht _
    revert ht
    decide

set_option maxRecDepth 100000 in
set_option maxHeartbeats 4000000 in
theorem implWords (s : ByteArray) (w : World) (hs : s.size ≤ 1048576) :
    Calls Try.prog 25 #[.string s] w fun e w' => ∃ v ys, e = .returned v ∧ w'.ownsRow w.heap.size 9 1 v (List.length ys) (strCells ys) ∧ Hid (ys.map (·.data.toList) = wordsB s.data.toList ∧ ys.length ≤ s.size + 1) ∧ Below w.heap.size w w' := by
  obtain ⟨i0, hi, hz0, hz1, hz2⟩ := info_parts info9
  go_enter Try.func25, Try.ntmps25
  go_wp2_with (fail)
  go_loopw [3, 5, 8] (fun v _ c wr => ∃ (xs : List ByteArray) (acc : List UInt8) (k : Nat), c = .int .i64 k ∧ k ≤ s.size ∧ xs.length ≤ k ∧ acc.length ≤ k ∧ wr.ownsRow w.heap.size 9 1 v xs.length (strCells xs) ∧ IsBuilderF 57 5 w.heap.size w.heap.size (byteCells acc) wr ∧ Hid (SoFar (s.data.toList.take k) xs acc) ∧ Below w.heap.size w wr) (fun _ _ c _ => s.size - (RowKit.intOf c).toNat)
  case atStart => exact ⟨[], [], 0, rfl, by omega, Nat.le_refl _, Nat.le_refl _, World.ownsRow_nil _ _ _ _, IsBuilderF.of (fresh_isBuilder 57 5 w), hid ⟨[], rfl, rfl⟩, (Below.refl _ _).alloc (Nat.le_refl _) _⟩
  case round =>
    obtain ⟨xs, acc, k, rfl, hk, hxk, hak, hown, hbd, hsf, hbel⟩ := hrel
    have HOWN := hid hown
    have HBD := hid hbd
    have HBEL := hid hbel
    have hb : w.heap.size ≤ wr.heap.size := hbel.size
    have hk0 : (0 : Int) ≤ (k : Int) := by omega
    clear hown hbd hbel
    by_cases hlt : k < s.size
    · have hlt' : (k : Int) < (s.size : Int) := by omega
      by_cases hc : s[k]'hlt = 32
      · have hcc : (((s[k]'hlt).toNat : Int) != 32) = false := by rw [hc]; rfl
        have HCC := hid hcc
        by_cases ha : acc = []
        · subst ha
          have HLEN := hid (show Calls Try.prog 59 #[.pointer (some ⟨w.heap.size, 0, none⟩)] wr fun e w' => e = .returned (.int .i64 0) ∧ w' = wr from Try.Builder_Len_f w.heap.size w.heap.size (byteCells []) wr HBD.out)
          have HS2 := hid (show SoFar (s.data.toList.take (k + 1)) xs [] by rw [take_next s k hlt]; exact soFar_gap hsf.out hc)
          clear hc
          go_wp2_with (fail)
          refine HLEN.out.mono ?_
          rintro e w1 ⟨rfl, rfl⟩
          go_wp2_with (fail)
          go_roundw
          case rel => exact ⟨xs, [], k + 1, by go_num, by omega, by omega, by simp, HOWN.out, HBD.out, HS2, HBEL.out⟩
          case measure => simp [RowKit.intOf]; omega
        · have hal : 0 < acc.length := List.length_pos_iff.2 ha
          have hal' : (0 : Int) < (acc.length : Int) := by omega
          have HLEN := hid (Try.Builder_Len_f w.heap.size w.heap.size (byteCells acc) wr HBD.out)
          rw [byteCells_length] at HLEN
          have HSTR := hid (Try.Builder_String_any_k w.heap.size w.heap.size acc wr HBD.out hb)
          have HS2 := hid (show SoFar (s.data.toList.take (k + 1)) (xs ++ [⟨acc.toArray⟩]) [] by rw [take_next s k hlt]; exact soFar_word hsf.out hc ha)
          clear hc ha
          go_wp2_with (fail)
          refine HLEN.out.mono ?_
          rintro e w1 ⟨rfl, rfl⟩
          go_wp2_with (fail)
          refine HSTR.out.mono ?_
          rintro e w1 ⟨rfl, h1, b1, k1⟩
          have HO1 := hid (show w1.ownsRow w.heap.size 9 1 _ xs.length (strCells xs) by
            obtain ⟨p, q, hbk⟩ := bld_block HBD.out
            exact row_kept HOWN.out hbk k1)
          obtain ⟨p, q, hbk⟩ := bld_block h1
          have HE1 := hid (HBEL.out.trans b1)
          have hb1 : w.heap.size ≤ w1.heap.size := HE1.out.size
          have hlt1 : w.heap.size < w1.heap.size := lt_of_block hbk
          have HBK := hid hbk
          clear h1 b1 k1 hbk
          go_wp2_with (at_builtin; refine wpList_append_own _ rfl _ _ 35 rfl w.heap.size 9 i0 (.string ByteArray.empty) 1 16 Try.underlying35 hi hz0 hz1 hz2 rfl (by decide) _ xs.length (strCells xs) (by rfl) ?c0m ⟨w1.heap.size, 0, none⟩ 1 1 [.string ⟨acc.toArray⟩] (by rfl) ?c1m ?c2m ?c3m ?c4m ?c5m ?c6m ?c7m)
          case c0m => exact HO1.out.alloc _
          case c1m => rfl
          case c2m => exact news_one _ _ _
          case c3m => intro u hu; obtain rfl := List.mem_singleton.1 hu; rfl
          case c4m => unfold maxLen; omega
          case c5m => omega
          case c6m => (first | omega | (simp; omega))
          intro v2 w2 hown2 hgrow2 _
          have hbk2 : w2.heap[w.heap.size]? = some (.cells #[p, q] 57 (0, 0)) := by
            rw [hgrow2.block _ (by first | omega | (simp; omega)) (row_other HO1.out HBK.out)]
            rw [heap_alloc_old w1 _ hlt1]
            exact HBK.out
          have HBK2 := hid hbk2
          have HO2 := hid (show w2.ownsRow w.heap.size 9 1 v2 (xs ++ [(⟨acc.toArray⟩ : ByteArray)]).length (strCells (xs ++ [(⟨acc.toArray⟩ : ByteArray)])) by
            rw [← strCells_more, List.length_append]; exact hown2)
          have HE2 := hid ((HE1.out.alloc hb1 _).grown hgrow2 (by first | omega | (simp; omega)) (fun g hg => (HO1.out.lt g hg).1))
          clear hown2 hgrow2 hbk2
          go_wp2_with (fail)
          refine (resetB w.heap.size w2 p q HBK2.out).mono ?_
          rintro e w3 ⟨rfl, hw3⟩
          have HO3 := hid (show w3.ownsRow w.heap.size 9 1 v2 (xs ++ [(⟨acc.toArray⟩ : ByteArray)]).length (strCells (xs ++ [(⟨acc.toArray⟩ : ByteArray)])) by
            rw [hw3]; exact row_kept HO2.out HBK2.out (((OthersKept.refl _ _ _).setCell (b := w.heap.size) ⟨w.heap.size, 0, none⟩ rfl _).setCell ⟨w.heap.size, 1, none⟩ rfl _))
          have HB3 := hid (show IsBuilderF 57 5 w.heap.size w.heap.size (byteCells []) w3 by rw [hw3]; exact reset_new _ _ _ _ HBK2.out)
          have HE3 := hid (show Below w.heap.size w w3 by rw [hw3]; exact (HE2.out.setCell (p := ⟨w.heap.size, 0, none⟩) (Nat.le_refl _) _).setCell (p := ⟨w.heap.size, 1, none⟩) (Nat.le_refl _) _)
          clear hw3
          go_wp2_with (fail)
          go_roundw
          case rel => exact ⟨_, [], k + 1, by go_num, by omega, by simp; omega, by simp, HO3.out, HB3.out, HS2, HE3.out⟩
          case measure => simp [RowKit.intOf]; omega
      · have hcc : (((s[k]'hlt).toNat : Int) != 32) = true := by
          rw [bne_iff_ne]; intro e; exact hc (UInt8.toNat_inj.1 (by have : (32 : UInt8).toNat = 32 := rfl; omega))
        have HS2 := hid (show SoFar (s.data.toList.take (k + 1)) xs (acc ++ [s[k]'hlt]) by rw [take_next s k hlt]; exact soFar_byte hsf.out hc)
        clear hc
        have HWB := hid (writeByte w.heap.size w.heap.size (byteCells acc) ((s[k]'hlt).toNat : Int) wr HBD.out (by rw [byteCells_length]; omega) hb)
        go_wp2_with (fail)
        refine HWB.out.mono ?_
        rintro e w1 ⟨rfl, h1, b1, k1⟩
        have HO1 := hid (show w1.ownsRow w.heap.size 9 1 _ xs.length (strCells xs) by
          rcases HBD.out with ⟨_, _, hbk, _⟩ | ⟨_, _, hbk, _⟩
          · exact row_kept HOWN.out hbk k1
          · exact row_kept HOWN.out hbk k1)
        have HB1 := hid (show IsBuilderF 57 5 w.heap.size w.heap.size (byteCells (acc ++ [s[k]'hlt])) w1 by rw [byteCells_append]; exact Or.inr h1)
        have HE1 := hid (HBEL.out.trans b1)
        clear h1 b1 k1
        go_wp2_with (fail)
        go_roundw
        case rel => exact ⟨xs, acc ++ [s[k]'hlt], k + 1, by go_num, by omega, by omega, by simp; omega, HO1.out, HB1.out, HS2, HE1.out⟩
        case measure => simp [RowKit.intOf]; omega
    · have hlt' : ¬ (k : Int) < (s.size : Int) := by omega
      have htk : s.data.toList.take k = s.data.toList := List.take_of_length_le (by rw [data_len]; omega)
      rw [htk] at hsf
      by_cases ha : acc = []
      · subst ha
        have HLEN := hid (show Calls Try.prog 59 #[.pointer (some ⟨w.heap.size, 0, none⟩)] wr fun e w' => e = .returned (.int .i64 0) ∧ w' = wr from Try.Builder_Len_f w.heap.size w.heap.size (byteCells []) wr HBD.out)
        have HF := hid (soFar_end0 hsf.out)
        clear htk
        go_wp2_with (fail)
        refine HLEN.out.mono ?_
        rintro e w1 ⟨rfl, rfl⟩
        go_wp2_with (fail)
        go_ret
        exact ⟨_, xs, rfl, HOWN.out, hid ⟨HF.out, by omega⟩, HBEL.out⟩
      · have hal : 0 < acc.length := List.length_pos_iff.2 ha
        have hal' : (0 : Int) < (acc.length : Int) := by omega
        have HLEN := hid (Try.Builder_Len_f w.heap.size w.heap.size (byteCells acc) wr HBD.out)
        rw [byteCells_length] at HLEN
        have HSTR := hid (Try.Builder_String_any_k w.heap.size w.heap.size acc wr HBD.out hb)
        have HF := hid (soFar_end1 hsf.out ha)
        clear htk ha
        go_wp2_with (fail)
        refine HLEN.out.mono ?_
        rintro e w1 ⟨rfl, rfl⟩
        go_wp2_with (fail)
        refine HSTR.out.mono ?_
        rintro e w1 ⟨rfl, h1, b1, k1⟩
        have HO1 := hid (show w1.ownsRow w.heap.size 9 1 _ xs.length (strCells xs) by
          obtain ⟨p, q, hbk⟩ := bld_block HBD.out
          exact row_kept HOWN.out hbk k1)
        have HE1 := hid (HBEL.out.trans b1)
        have hb1 : w.heap.size ≤ w1.heap.size := HE1.out.size
        clear h1 b1 k1
        go_wp2_with (at_builtin; refine wpList_append_own _ rfl _ _ 35 rfl w.heap.size 9 i0 (.string ByteArray.empty) 1 16 Try.underlying35 hi hz0 hz1 hz2 rfl (by decide) _ xs.length (strCells xs) (by rfl) ?c0e ⟨w1.heap.size, 0, none⟩ 1 1 [.string ⟨acc.toArray⟩] (by rfl) ?c1e ?c2e ?c3e ?c4e ?c5e ?c6e ?c7e)
        case c0e => exact HO1.out.alloc _
        case c1e => rfl
        case c2e => exact news_one _ _ _
        case c3e => intro u hu; obtain rfl := List.mem_singleton.1 hu; rfl
        case c4e => unfold maxLen; omega
        case c5e => omega
        case c6e => (first | omega | (simp; omega))
        intro v2 w2 hown2 hgrow2 _
        have HO2 := hid (show w2.ownsRow w.heap.size 9 1 v2 (xs ++ [(⟨acc.toArray⟩ : ByteArray)]).length (strCells (xs ++ [(⟨acc.toArray⟩ : ByteArray)])) by
          rw [← strCells_more, List.length_append]; exact hown2)
        have HE2 := hid ((HE1.out.alloc hb1 _).grown hgrow2 (by first | omega | (simp; omega)) (fun g hg => (HO1.out.lt g hg).1))
        clear hown2 hgrow2
        go_wp2_with (fail)
        go_ret
        exact ⟨_, _, rfl, HO2.out, hid ⟨HF.out, by simp; omega⟩, HE2.out⟩

end Go.Proofs.Ythdhkjfanhhamaa
