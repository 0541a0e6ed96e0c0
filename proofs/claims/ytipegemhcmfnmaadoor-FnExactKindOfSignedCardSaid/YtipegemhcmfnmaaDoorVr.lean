/- The named variables of a row, four and five of them. -/
import Derived.Test.YtipegemhcmfnmaaDoorHs
import Derived.OpenVars
import Derived.ChangeVars
namespace Go.Proofs.YtipegemhcmfnmaaDoor
open Go.RowKit
section
variable {H : Type} {enc : TypeId × Value → H} {P : Program} {w : World} {spare : Nat → Bool}
theorem vars4 {n1 n2 n3 n4 : String} {gs : List (DataW H)} {ps : List MemPlace} (h : DataW.TrodVars enc P w spare [n1, n2, n3, n4] gs ps) : ∃ d1 d2 d3 d4, gs = [d1, d2, d3, d4] := by
  rcases gs with _ | ⟨d1, _ | ⟨d2, _ | ⟨d3, _ | ⟨d4, _ | ⟨d5, r⟩⟩⟩⟩⟩
  · simp [DataW.TrodVars] at h
  · simp [DataW.TrodVars] at h
  · simp [DataW.TrodVars] at h
  · simp [DataW.TrodVars] at h
  · exact ⟨_, _, _, _, rfl⟩
  · simp [DataW.TrodVars] at h
theorem vars5 {n1 n2 n3 n4 n5 : String} {gs : List (DataW H)} {ps : List MemPlace} (h : DataW.TrodVars enc P w spare [n1, n2, n3, n4, n5] gs ps) : ∃ d1 d2 d3 d4 d5, gs = [d1, d2, d3, d4, d5] := by
  rcases gs with _ | ⟨d1, _ | ⟨d2, _ | ⟨d3, _ | ⟨d4, _ | ⟨d5, _ | ⟨d6, r⟩⟩⟩⟩⟩⟩
  · simp [DataW.TrodVars] at h
  · simp [DataW.TrodVars] at h
  · simp [DataW.TrodVars] at h
  · simp [DataW.TrodVars] at h
  · simp [DataW.TrodVars] at h
  · exact ⟨_, _, _, _, _, rfl⟩
  · simp [DataW.TrodVars] at h
end
end Go.Proofs.YtipegemhcmfnmaaDoor
