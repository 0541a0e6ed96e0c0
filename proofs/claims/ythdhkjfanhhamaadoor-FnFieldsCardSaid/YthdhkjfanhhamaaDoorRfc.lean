/- Contracts: the fraction that a text spells, as the program and the model read it, whole. -/
import Derived.Test.YthdhkjfanhhamaaDoorRs
import Derived.Test.YthdhkjfanhhamaaDoorShelfC
namespace Go.Proofs.YthdhkjfanhhamaaDoor
open Go.RowKit Go.Lib

/-- The library's variable holds some number. -/
def MaxIs (w : World) : Prop := ∃ m, w.cell? ⟨1, 0, none⟩ = some (.int .i64 m)
theorem max_below {w w' : World} (h : MaxIs w) (hb : Below w.heap.size w w') : MaxIs w' := by
  obtain ⟨m, h⟩ := h
  exact ⟨m, (hb.cell (p := ⟨1, 0, none⟩) (World.block_lt_of_cell? _ _ h)).trans h⟩
theorem max_of {w : World} (h : w.ShapedOpen Tryd.prog) : MaxIs w := Tryd.laysM145.s1_3 w h

theorem cutSlash (s : ByteArray) (w : World) (hs : s.size ≤ 1048576) (h : MaxIs w) {a b : List UInt8} {f : Bool} (hc : cut s.data.toList [47] = (a, b, f)) :
    Calls Tryd.prog 40 #[.string s, .string ⟨#[47]⟩] w fun e w' => e = .returned (.tuple #[.string ⟨a.toArray⟩, .string ⟨b.toArray⟩, .bool f]) ∧ ∃ k, w' = w.drewN k := by
  obtain ⟨m, h⟩ := h
  refine (Tryd.strings_Cut s ⟨#[47]⟩ m w (by omega) h).mono ?_
  rintro e w' ⟨rfl, hk⟩
  have hc' : cut s.data.toList (⟨#[47]⟩ : ByteArray).data.toList = (a, b, f) := hc
  rw [hc']
  exact ⟨rfl, hk⟩

theorem text_eq (l : List UInt8) (s : ByteArray) : ((⟨l.toArray⟩ : ByteArray).toList == s.toList) = decide (l = s.data.toList) := by
  by_cases h : l = s.data.toList
  · rw [decide_eq_true h, beq_iff_eq, Lib.toList_data, Lib.toList_data, ← h]
  · rw [decide_eq_false h, beq_eq_false_iff_ne, Lib.toList_data, Lib.toList_data]
    exact h

/-- What the reading wants of a world. -/
def Wants (w : World) : Prop := TabIs Tryd.prog w "internal/strconv.uint64pow10" .u64 pow10Tab ∧ SentIs "strconv.ErrSyntax" w ∧ SentIs "strconv.ErrRange" w ∧ MaxIs w
theorem wants_below {w w' : World} (h : Wants w) (hb : Below w.heap.size w w') : Wants w' := ⟨tab_below h.1 hb, sentS_below h.2.1 hb, sentR_below h.2.2.1 hb, max_below h.2.2.2 hb⟩

theorem size_list (l : List UInt8) : (⟨l.toArray⟩ : ByteArray).size = l.length := by
  rw [← data_len]

theorem implRF (s : ByteArray) (w : World) (hs : s.size ≤ 1048576) (h : Wants w) :
    Calls Tryd.prog 18 #[.string s] w fun e w' => e = .returned (resV (rfR s.data.toList)) ∧ Below w.heap.size w w' := by
  have hl := data_len s
  have RD : ∀ (l : List UInt8), l.length ≤ 1048576 → ∀ w', Below w.heap.size w w' → Calls Tryd.prog 26 #[.string ⟨l.toArray⟩] w' fun e w'' => e = .returned (.tuple #[.int .i64 (numS l).1, .bool (numS l).2]) ∧ Below w'.heap.size w' w'' := fun l hl w' hb => by
    have h' := wants_below h hb
    exact implRead ⟨l.toArray⟩ w' (by rw [size_list]; exact hl) h'.1 h'.2.1 h'.2.2.1
  have FT : ∀ (n d : Int) w', Below w.heap.size w w' → Calls Tryd.prog 19 #[.agg #[.int .i64 n, .int .i64 d]] w' fun e w'' => e = .returned (.string ⟨(txO n d).toArray⟩) ∧ Below w'.heap.size w' w'' := fun n d w' hb => implText n d w' (wants_below h hb).1
  rcases cut_form 47 s.data.toList with ⟨h1, h2⟩ | ⟨a, b, h1, h2, h3⟩
  · rw [rf_single h1, resV_if]
    have R1 := RD [49] (by simp)
    rw [numS_oneT] at R1
    exact implRFwalkF s _ _ _ (numS s.data.toList).1 1 (numS s.data.toList).2 true (okF (numS s.data.toList).1 1) _ w
      (hid fun w' hb => cutSlash s w' hs (wants_below h hb).2.2.2 h2) (hid (RD _ (by omega))) (hid R1) (hid fun w' => implValid _ _ w') (hid (FT _ _)) (text_eq _ s)
  · rw [rf_pair h1 h2, resV_if]
    have hla : a.length ≤ 1048576 := by have := congrArg List.length h1; simp at this; omega
    have hlb : b.length ≤ 1048576 := by have := congrArg List.length h1; simp at this; omega
    exact implRFwalkT s _ _ _ (numS a).1 (numS b).1 (numS a).2 (numS b).2 (okF (numS a).1 (numS b).1) _ w
      (hid fun w' hb => cutSlash s w' hs (wants_below h hb).2.2.2 h3) (hid (RD a hla)) (hid (RD b hlb)) (hid fun w' => implValid _ _ w') (hid (FT _ _)) (text_eq _ s)

theorem bytes_of_list {x : ByteArray} {a : List UInt8} (h : x.data.toList = a) : x = ⟨a.toArray⟩ := by
  apply ByteArray.ext
  rw [← h]

theorem row_at {B : Nat} {w : World} {xs : List ByteArray} {g cap : Nat} (h : w.ownsRow B 9 1 (.slice (some ⟨g, 0, none⟩) xs.length cap) xs.length (strCells xs)) (j : Nat) {x : ByteArray} (hj : xs[j]? = some x) : w.cell? ⟨g, j, none⟩ = some (.string x) := by
  have := h.cells (g := g) rfl j (.string x) (by unfold strCells; rw [List.getElem?_map, hj]; rfl)
  rwa [add_zero_off] at this

theorem specRF (s : ByteArray) (w : World) (hs : s.size ≤ 1048576) :
    Calls Tryd.prog 29 #[.string s] w fun e w' => e = .returned (resV (rfR s.data.toList)) ∧ Below w.heap.size w w' := by
  have hl := data_len s
  have RD : ∀ (l : List UInt8), l.length ≤ 1048576 → ∀ w', Calls Tryd.prog 45 #[.string ⟨l.toArray⟩] w' fun e w'' => e = .returned (.tuple #[.int .i64 (numS l).1, .bool (numS l).2]) ∧ Below w'.heap.size w' w'' := fun l hl w' =>
    specNum ⟨l.toArray⟩ w' (by rw [size_list]; exact hl)
  have SP : ∀ w', Calls Tryd.prog 49 #[.string s, .int .u8 47] w' fun e w' => ∃ v xs, e = .returned v ∧ RowOf _ w' v xs ∧ xs.map (·.data.toList) = splitB 47 s.data.toList ∧ xs.length ≤ s.size + 1 ∧ Below _ _ w' := fun w' => specSplit s 47 w' hs
  have SZ : ∀ a ∈ splitB 47 s.data.toList, a.length ≤ s.data.toList.length := splitB_short 47 _
  rcases hsp : splitB 47 s.data.toList with _ | ⟨a, _ | ⟨b, _ | ⟨c, r⟩⟩⟩
  · exact absurd hsp (splitB_ne 47 _)
  · rw [rfR_one hsp, resV_if]
    have ha := SZ a (by rw [hsp]; simp)
    refine specRF1 s ⟨a.toArray⟩ (numS a).1 (numS a).2 (okF (numS a).1 1) w (hid fun w' => ?_) (hid (RD a (by omega))) (hid fun w' => specOk _ _ w')
    refine (SP w').mono ?_
    rintro e w'' ⟨v, xs, rfl, ⟨g, cap, rfl, hg, hown⟩, hm, _, hb⟩
    rw [hsp] at hm
    obtain ⟨x, xr, rfl, hx, hr⟩ := List.map_eq_cons_iff.1 hm
    obtain rfl := List.map_eq_nil_iff.1 hr
    have hc := row_at hown 0 rfl
    rw [bytes_of_list hx] at hc
    exact ⟨g, cap, rfl, hg, World.block_lt_of_cell? _ _ hc, hc, hb⟩
  · rw [rfR_two hsp, resV_if]
    have ha := SZ a (by rw [hsp]; simp)
    have hb := SZ b (by rw [hsp]; simp)
    refine specRF2 s ⟨a.toArray⟩ ⟨b.toArray⟩ (numS a).1 (numS b).1 (numS a).2 (numS b).2 _ (okF (numS a).1 (numS b).1) w (hid fun w' => ?_) (hid (RD a (by omega))) (hid (RD b (by omega))) (hid fun w' => specOk _ _ w') rfl
    refine (SP w').mono ?_
    rintro e w'' ⟨v, xs, rfl, ⟨g, cap, rfl, hg, hown⟩, hm, _, hb⟩
    rw [hsp] at hm
    obtain ⟨x, xr, rfl, hx, hr⟩ := List.map_eq_cons_iff.1 hm
    obtain ⟨y, yr, rfl, hy, hr⟩ := List.map_eq_cons_iff.1 hr
    obtain rfl := List.map_eq_nil_iff.1 hr
    have hc := row_at hown 0 rfl
    have hd := row_at hown 1 rfl
    rw [bytes_of_list hx] at hc
    rw [bytes_of_list hy] at hd
    exact ⟨g, cap, rfl, hg, World.block_lt_of_cell? _ _ hc, hc, hd, hb⟩
  · rw [rfR_more hsp, show resV (0, 0, false) = pickF false 0 0 from rfl]
    have ha := SZ a (by rw [hsp]; simp)
    refine specRF3 s ⟨a.toArray⟩ (r.length + 3) (numS a).1 (numS a).2 w (by omega) (hid fun w' => ?_) (hid (RD a (by omega)))
    refine (SP w').mono ?_
    rintro e w'' ⟨v, xs, rfl, ⟨g, cap, rfl, hg, hown⟩, hm, _, hb⟩
    have hlen := congrArg List.length hm
    rw [hsp] at hm hlen
    simp at hlen
    obtain ⟨x, xr, rfl, hx, hr⟩ := List.map_eq_cons_iff.1 hm
    have hc := row_at hown 0 rfl
    rw [bytes_of_list hx] at hc
    have hlen' : (x :: xr).length = r.length + 3 := by simp at hlen ⊢; omega
    rw [hlen'] at hown ⊢
    exact ⟨g, cap, rfl, hg, World.block_lt_of_cell? _ _ hc, hc, hb⟩

end Go.Proofs.YthdhkjfanhhamaaDoor
