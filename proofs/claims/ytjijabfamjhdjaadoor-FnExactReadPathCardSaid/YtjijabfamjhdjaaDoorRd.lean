/- Contracts: the number that a text spells, as the program and the model read it. -/
import Derived.Test.YtjijabfamjhdjaaDoorErr
import Derived.Test.YtjijabfamjhdjaaDoorFmt
import Derived.Test.YtjijabfamjhdjaaDoorNam
namespace Go.Proofs.YtjijabfamjhdjaaDoor
open Go.RowKit Go.Lib Go.Joins

/-- The answer of the reading. -/
def numV (l : List UInt8) : Value := .tuple #[.int .i64 (numS l).1, .bool (numS l).2]
theorem numV_no {l : List UInt8} (h : numS l = (0, false)) : numV l = .tuple #[.int .i64 0, .bool false] := by unfold numV; rw [h]
theorem numV_yes {l : List UInt8} {v : Int} (h : numS l = (v, true)) : numV l = .tuple #[.int .i64 v, .bool true] := by unfold numV; rw [h]

theorem bytes_ne {u s : ByteArray} (h : ¬ u = s) : (u.toList == s.toList) = false := by
  rw [beq_eq_false_iff_ne]
  intro e
  rw [Lib.toList_data, Lib.toList_data] at e
  exact h (ByteArray.ext (Array.toList_inj.1 e))

theorem implRead (s : ByteArray) (w : World) (hs : s.size ≤ 1048576) (ht : TabIs Tryd.prog w "internal/strconv.uint64pow10" .u64 pow10Tab) (hy : SentIs "strconv.ErrSyntax" w) (hr : SentIs "strconv.ErrRange" w) :
    Calls Tryd.prog 83 #[.string s] w fun e w' => e = .returned (numV s.data.toList) ∧ Below w.heap.size w w' := by
  have CT := fun w => trimDash s w
  have HT := hid CT
  by_cases hl : 18 < (dropM s.data.toList).length
  · have E := hid (numV_no (numS_long hl))
    generalize dropM s.data.toList = t at HT hl
    have hl' : (18 : Int) < (t.length : Int) := by omega
    clear CT ht hy hr hl
    go_enter Tryd.func83, Tryd.ntmps83
    go_wp2_with (fail)
    refine (HT.out _).mono ?_
    rintro e w1 ⟨rfl, rfl⟩
    go_wp2_with (fail)
    go_ret2
    exact ⟨by rw [E.out]; rfl, Below.refl _ _⟩
  · have hl' : ¬ (18 : Int) < ((dropM s.data.toList).length : Int) := by omega
    by_cases hp : ∀ v, parseIntB 64 s.data.toList ≠ .ok v
    · have E := hid (numV_no (numS_unparsed hp))
      have HN := hid (parseNot s hs hp w hy hr)
      generalize dropM s.data.toList = t at HT hl'
      clear CT ht hy hr hl hp
      go_enter Tryd.func83, Tryd.ntmps83
      go_wp2_with (fail)
      refine (HT.out _).mono ?_
      rintro e w1 ⟨rfl, rfl⟩
      go_wp2_with (fail)
      refine HN.out.mono ?_
      rintro e w1 ⟨x, tp, p, rfl, hb⟩
      go_wp2_with (fail)
      go_ret2
      exact ⟨by rw [E.out]; rfl, hb⟩
    · obtain ⟨v, hv⟩ := Classical.not_forall.1 hp
      have hv := Classical.not_not.1 hv
      obtain ⟨v1, v2⟩ := parse_bound hv
      have HP := hid (parseYes s hs v hv w)
      have HD := hid (fun w' (hb : Below w.heap.size w w') => implDec v w' v1 v2 (tab_below ht hb))
      by_cases he : itoa v = s.data.toList
      · have E := hid (numV_yes (numS_parsed hv (by omega) he))
        have hse : (⟨(itoa v).toArray⟩ : ByteArray) = s := by rw [he]
        rw [hse] at HD
        generalize dropM s.data.toList = t at HT hl'
        clear CT ht hy hr hl hp hv he hse v1 v2
        go_enter Tryd.func83, Tryd.ntmps83
        go_wp2_with (fail)
        refine (HT.out _).mono ?_
        rintro e w1 ⟨rfl, rfl⟩
        go_wp2_with (fail)
        refine HP.out.mono ?_
        rintro e w1 ⟨rfl, hb⟩
        go_wp2_with (fail)
        refine (HD.out _ hb).mono ?_
        rintro e w2 ⟨rfl, hb2⟩
        go_wp2_with (fail)
        go_ret2
        exact ⟨by rw [E.out]; rfl, hb.trans (hb2.mono hb.size)⟩
      · have E := hid (numV_no (numS_unlike hv he))
        have hse : ¬ (⟨(itoa v).toArray⟩ : ByteArray) = s := by intro e; exact he (by rw [← e])
        generalize (⟨(itoa v).toArray⟩ : ByteArray) = u at HD hse
        generalize dropM s.data.toList = t at HT hl'
        have hse2 : (u.toList == s.toList) = false := bytes_ne hse
        clear CT ht hy hr hl hp hv he v1 v2
        go_enter Tryd.func83, Tryd.ntmps83
        go_wp2_with (fail)
        refine (HT.out _).mono ?_
        rintro e w1 ⟨rfl, rfl⟩
        go_wp2_with (fail)
        refine HP.out.mono ?_
        rintro e w1 ⟨rfl, hb⟩
        go_wp2_with (fail)
        refine (HD.out _ hb).mono ?_
        rintro e w2 ⟨rfl, hb2⟩
        go_wp2_with (fail)
        go_ret2
        exact ⟨by rw [E.out]; rfl, hb.trans (hb2.mono hb.size)⟩

end Go.Proofs.YtjijabfamjhdjaaDoor
