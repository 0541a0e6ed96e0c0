/- What the library's two error variables hold, out of the row's condition; and ParseInt by it. -/
import Derived.Test.YtjijabfamjhdjaaDoorLaid
import Derived.Test.YtjijabfamjhdjaaDoorShelfB
import Derived.Test.YtjijabfamjhdjaaDoorRdm
import Derived.Stop.LaidErr
import Derived.Lib.SmallJoins
namespace Go.Proofs.YtjijabfamjhdjaaDoor
open Go.RowKit Go.Lib Go.Joins

theorem laid_suffix {P : Program} {W : World} : ∀ (a : List (String × DataW Unit)) {b : List (String × DataW Unit)}, laidMet P (a ++ b) W → laidMet P b W
  | [], _, h => h
  | _ :: a, _, h => laid_suffix a (laidMet.tail h)

theorem starE : "*" ++ "errors.errorString" = "*errors.errorString" := by decide
theorem rowE (u : TypeId) (h : Tryd.prog.typeName? 3 u = some "*errors.errorString") : u = 149 :=
  typeName_ptr_named (nm := "errors.errorString") (by rw [starE]; kernel_rfl) (by kernel_rfl) (by decide) u (by rw [starE]; exact h)

/-- A sentinel of the library stands in a variable. -/
def SentIs (n : String) (w : World) : Prop := ∃ tp p, w.var? Tryd.prog n = some #[.iface tp p]

theorem sentS_of {W : World} {l : List (String × DataW Unit)} (h : laidMet Tryd.prog l W) (hm : ("strconv.ErrSyntax", Rows.laid_strconv_ErrSyntax) ∈ l) : SentIs "strconv.ErrSyntax" W := by
  obtain ⟨a, b, e⟩ := List.append_of_mem hm
  rw [e] at h
  obtain ⟨a0, s0, hv0, -, -, -⟩ := laid_sentinel (laid_suffix a h) (g := 2) (by kernel_rfl) (by kernel_rfl) Tryd.underlying94 rowE Tryd.underlying149 Tryd.underlying151 rfl rfl Tryd.underlying9 (by kernel_rfl) (by kernel_rfl)
  exact ⟨_, _, hv0⟩
theorem sentR_of {W : World} {l : List (String × DataW Unit)} (h : laidMet Tryd.prog l W) (hm : ("strconv.ErrRange", Rows.laid_strconv_ErrRange) ∈ l) : SentIs "strconv.ErrRange" W := by
  obtain ⟨a, b, e⟩ := List.append_of_mem hm
  rw [e] at h
  obtain ⟨a0, s0, hv0, -, -, -⟩ := laid_sentinel (laid_suffix a h) (g := 3) (by kernel_rfl) (by kernel_rfl) Tryd.underlying94 rowE Tryd.underlying149 Tryd.underlying151 rfl rfl Tryd.underlying9 (by kernel_rfl) (by kernel_rfl)
  exact ⟨_, _, hv0⟩
theorem sentS_below {w w' : World} (h : SentIs "strconv.ErrSyntax" w) (hb : Below w.heap.size w w') : SentIs "strconv.ErrSyntax" w' := by
  obtain ⟨tp, p, h⟩ := h
  exact ⟨tp, p, var_stays (g := 2) (by kernel_rfl) h hb (Nat.le_refl _)⟩
theorem sentR_below {w w' : World} (h : SentIs "strconv.ErrRange" w) (hb : Below w.heap.size w w') : SentIs "strconv.ErrRange" w' := by
  obtain ⟨tp, p, h⟩ := h
  exact ⟨tp, p, var_stays (g := 3) (by kernel_rfl) h hb (Nat.le_refl _)⟩

theorem parseYes (s : ByteArray) (hs : s.size ≤ 1048576) (v : Int) (h : parseIntB 64 s.data.toList = .ok v) (w : World) :
    Calls Tryd.prog 91 #[.string s, .int .i64 10, .int .i64 64] w fun e w' => e = .returned (.tuple #[.int .i64 v, .nilIface]) ∧ Below w.heap.size w w' :=
  (Tryd.strconv_ParseInt_10_at64_ok s (by omega) v h w).mono fun _ _ ⟨he, hw⟩ => ⟨he, by
    rcases hw with rfl | ⟨t, rfl⟩
    · exact Below.refl _ _
    · exact bytesWorld_below _ _ _⟩
theorem parseNot (s : ByteArray) (hs : s.size ≤ 1048576) (h : ∀ v, parseIntB 64 s.data.toList ≠ .ok v) (w : World) (hy : SentIs "strconv.ErrSyntax" w) (hr : SentIs "strconv.ErrRange" w) :
    Calls Tryd.prog 91 #[.string s, .int .i64 10, .int .i64 64] w fun e w' => ∃ x tp p, e = .returned (.tuple #[.int .i64 x, .iface tp p]) ∧ Below w.heap.size w w' := by
  obtain ⟨ty, py, hy⟩ := hy
  obtain ⟨tr, pr, hr⟩ := hr
  rcases hp : parseIntB 64 s.data.toList with v | _ | _
  · exact absurd hp (h v)
  · exact (Any.strconv_ParseInt_10_at64_syntax_var Tryd.laysC174 s (by omega) hp ty py w hy).mono fun _ _ ⟨_, he, _, _, hb⟩ => ⟨_, _, _, he, hb⟩
  · exact (Tryd.strconv_ParseInt_10_at64_range_var s (by omega) hp tr pr w hr).mono fun _ _ ⟨_, he, _, _, hb⟩ => ⟨_, _, _, he, hb⟩

theorem trimDash (s : ByteArray) (w : World) : Calls Tryd.prog 90 #[.string s, .string ⟨#[45]⟩] w fun e w' => e = .returned (.string ⟨(dropM s.data.toList).toArray⟩) ∧ w' = w :=
  (Tryd.strings_TrimPrefix s ⟨#[45]⟩ w).mono fun _ _ ⟨he, hw⟩ => ⟨by rw [he, ← trim_dropM], hw⟩

end Go.Proofs.YtjijabfamjhdjaaDoor
