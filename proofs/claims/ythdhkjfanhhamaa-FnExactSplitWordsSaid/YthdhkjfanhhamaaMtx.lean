/- Contract: the law's own mark of a place. -/
import Derived.Test.YthdhkjfanhhamaaDec
namespace Go.Proofs.Ythdhkjfanhhamaa
open Go.RowKit Go.Lib

def mkText (k : Int) : List UInt8 := 109 :: digs k.natAbs

theorem two_join (a : UInt8) (l : List UInt8) : (⟨#[a]⟩ ++ ⟨l.toArray⟩ : ByteArray) = ⟨(a :: l).toArray⟩ := by
  apply ByteArray.ext
  simp [ByteArray.data_append]
theorem one_join (x : Nat) (l : List UInt8) : Value.string (⟨#[48 + UInt8.ofNat x]⟩ ++ ⟨l.toArray⟩) = .string ⟨(UInt8.ofNat (48 + x) :: l).toArray⟩ := by
  rw [two_join, UInt8.ofNat_add]; rfl
theorem two_one (w : World) (x : Value) (t : TypeId) : (w.alloc (.cells #[x] t)).cell? ((⟨w.heap.size, 0, none⟩ : Addr).add 0) = some x := by
  rw [add_zero_off]
  go_simp

set_option maxRecDepth 100000 in
set_option maxHeartbeats 1600000 in
theorem markText (n : Int) (w : World) (h1 : 1 ≤ n) (h2 : n ≤ 1000000000) :
    Calls Try.prog 62 #[.int .i64 n] w fun e w' => e = .returned (.string ⟨(mkText n).toArray⟩) ∧ Below w.heap.size w w' := by
  have hn : ¬ n ≤ 0 := by omega
  go_enter Try.func62, Try.ntmps62
  go_wp2_with (fail)
  go_loopw [0, 3] (fun k out wr => ∃ (m : Int) (l : List UInt8), k = .int .i64 m ∧ out = .string ⟨l.toArray⟩ ∧ 0 ≤ m ∧ m ≤ 1000000000 ∧ Hid (digs n.natAbs = digs m.natAbs ++ l) ∧ Below w.heap.size w wr) (fun k _ _ => (RowKit.intOf k).natAbs)
  case atStart => exact ⟨n, [], rfl, rfl, by omega, h2, hid (by simp), Below.refl _ _⟩
  case round =>
    obtain ⟨m, l, rfl, rfl, hm0, hm1, hd, hbel⟩ := hrel
    have HBEL := hid hbel
    have hb : w.heap.size ≤ wr.heap.size := hbel.size
    have hlen : l.length ≤ 20 := by
      have := digs_length 20 n.natAbs (by omega)
      rw [hd.out, List.length_append] at this
      omega
    clear hbel
    by_cases h0 : 0 < m
    · have hq1 : 0 ≤ m % 10 := by omega
      have hq2 : m % 10 ≤ 9 := by omega
      have hst := step_pos h0
      have HD2 := hid (show digs n.natAbs = digs (m / 10).natAbs ++ (UInt8.ofNat (48 + (m % 10).toNat) :: l) by rw [hd.out, hst, List.append_assoc]; rfl)
      have hw8 : 48 + m % 10 < 256 := by omega
      have hq3 : ¬ 9223372036854775807 < 1 + l.length := by omega
      have hdig := ofNat_digit (d := (m % 10).toNat) (by omega)
      have hval : Value.int .u8 (48 + m % 10) = .int .u8 ((UInt8.ofNat (48 + (m % 10).toNat)).toNat : Int) := by rw [hdig]; congr 1; omega
      have hconv : (convert 22 9 (.slice (some ⟨wr.heap.size, 0, none⟩) 1 1)).run Try.prog (wr.alloc (.cells #[.int .u8 (48 + m % 10)] 5)) = .ok (.string ⟨[UInt8.ofNat (48 + (m % 10).toNat)].toArray⟩) (wr.alloc (.cells #[.int .u8 (48 + m % 10)] 5)) := by
        refine run_convert_bytes_back _ 22 9 5 ⟨wr.heap.size, 0, none⟩ 1 [UInt8.ofNat (48 + (m % 10).toNat)] Try.underlying22 Try.underlying5 Try.underlying9 (fun j hj => ?_)
        have hj0 : j = 0 := by simp at hj; omega
        subst hj0
        rw [hval]
        exact (two_one wr _ _)
      clear hst hdig hval
      go_wp2_with (fail)
      go_roundw
      case rel => exact ⟨m / 10, UInt8.ofNat (48 + (m % 10).toNat) :: l, rfl, one_join _ l, by omega, by omega, HD2, HBEL.out.alloc hb _⟩
      case measure => simp only [RowKit.intOf]; omega
    · have hm : m = 0 := by omega
      subst hm
      have hl : digs n.natAbs = l := by rw [hd.out]; rfl
      have E := hid (show mkText n = 109 :: l by unfold mkText; rw [hl])
      have hq3 : ¬ 9223372036854775807 < 1 + l.length := by omega
      clear hl
      go_wp2_with (fail)
      go_ret
      exact ⟨by rw [E.out]; exact congrArg (Ending.returned ∘ Value.string) (two_join 109 l), HBEL.out⟩

end Go.Proofs.Ythdhkjfanhhamaa
