/- Contract: IsAncestor, by the program. -/
import Derived.Test.YtjijabfamjhdjaaCan
namespace Go.Proofs.Ytjijabfamjhdjaa
open Go.RowKit

def isaB (c0 c1 n d m f : Int) : Bool := ((c0 == n) && (c1 == d)) && !((n == m) && (d == f))
/-- Whether one path is a beginning of the other, and a code. -/
def isaT (n d m f : Int) : Bool × Int := if chkC 1 [(n, d), (m, f)] = 0 then (isaB (comT n d m f).1 (comT n d m f).2.1 n d m f, 0) else (false, chkC 1 [(n, d), (m, f)])
theorem isaT_no {n d m f : Int} (h : chkC 1 [(n, d), (m, f)] ≠ 0) : isaT n d m f = (false, chkC 1 [(n, d), (m, f)]) := if_neg h
theorem isaT_ok {n d m f : Int} (h : chkC 1 [(n, d), (m, f)] = 0) : isaT n d m f = (isaB (comT n d m f).1 (comT n d m f).2.1 n d m f, 0) := if_pos h
theorem comT_zero {n d m f : Int} (h : chkC 1 [(n, d), (m, f)] = 0) : (comT n d m f).2.2 = 0 := by
  obtain ⟨m', h1, h2⟩ := comT_at h
  rw [comT_ok h, atP_ok h1 h2]

set_option maxHeartbeats 1600000 in
theorem implIsa (n d m f : Int) (w : World) :
    Calls Try.prog 31 #[.agg #[.int .i64 n, .int .i64 d], .agg #[.int .i64 m, .int .i64 f]] w fun e w' => e = .returned (.tuple #[.bool (isaT n d m f).1, .int .i64 (isaT n d m f).2]) ∧ Below w.heap.size w w' := by
  have HC := hid (fun w => implCan n d m f w)
  unfold tv at HC
  obtain ⟨e1, e2, EV⟩ := new_two w (.cells #[.int .i64 n, .int .i64 d] 25) (.cells #[.int .i64 m, .int .i64 f] 25)
  have HE1 := hid e1
  have HE2 := hid e2
  have HEV := hid EV
  clear e1 e2 EV
  by_cases hc : chkC 1 [(n, d), (m, f)] = 0
  · have hz := comT_zero hc
    rw [isaT_ok hc]
    rw [hz] at HC
    generalize comT n d m f = R at *
    obtain ⟨c0, c1, c2⟩ := R
    dsimp only at HC ⊢
    clear hz hc
    have HQ := hid (show isaB c0 c1 n d m f = (((c0 == n) && (c1 == d)) && !((n == m) && (d == f))) from rfl)
    obtain ⟨B, hB⟩ : ∃ B, B = isaB c0 c1 n d m f := ⟨_, rfl⟩
    rw [← hB] at HQ ⊢
    clear hB
    cases p0 : c0 == n
    · have HR := hid (show B = false by rw [HQ.out, p0]; rfl)
      rw [HR.out]
      clear HQ HR
      go_enter Try.func31, Try.ntmps31
      go_wp2_with (fail)
      refine (HC.out _).mono ?_
      rintro e w1 ⟨rfl, b⟩
      obtain ⟨k1, k2⟩ := keep_blk HE1.out HE2.out b
      obtain ⟨q0, q1, _, _, ql⟩ := blk2 k1
      obtain ⟨u0, u1, _, _, ul⟩ := blk2 k2
      have E1 := hid (HEV.out.trans (b.mono HEV.out.size))
      clear b k1 k2
      go_wp2_with (fail)
      go_ret2
      exact ⟨rfl, E1.out.alloc E1.out.size _⟩
    cases p1 : c1 == d
    · have HR := hid (show B = false by rw [HQ.out, p0, p1]; rfl)
      rw [HR.out]
      clear HQ HR
      go_enter Try.func31, Try.ntmps31
      go_wp2_with (fail)
      refine (HC.out _).mono ?_
      rintro e w1 ⟨rfl, b⟩
      obtain ⟨k1, k2⟩ := keep_blk HE1.out HE2.out b
      obtain ⟨q0, q1, _, _, ql⟩ := blk2 k1
      obtain ⟨u0, u1, _, _, ul⟩ := blk2 k2
      have E1 := hid (HEV.out.trans (b.mono HEV.out.size))
      clear b k1 k2
      go_wp2_with (fail)
      go_ret2
      exact ⟨rfl, E1.out.alloc E1.out.size _⟩
    cases p2 : n == m
    · have HR := hid (show B = true by rw [HQ.out, p0, p1, p2]; rfl)
      rw [HR.out]
      clear HQ HR
      go_enter Try.func31, Try.ntmps31
      go_wp2_with (fail)
      refine (HC.out _).mono ?_
      rintro e w1 ⟨rfl, b⟩
      obtain ⟨k1, k2⟩ := keep_blk HE1.out HE2.out b
      obtain ⟨q0, q1, _, _, ql⟩ := blk2 k1
      obtain ⟨u0, u1, _, _, ul⟩ := blk2 k2
      have E1 := hid (HEV.out.trans (b.mono HEV.out.size))
      clear b k1 k2
      go_wp2_with (fail)
      go_ret2
      exact ⟨rfl, E1.out.alloc E1.out.size _⟩
    cases p3 : d == f
    · have HR := hid (show B = true by rw [HQ.out, p0, p1, p2, p3]; rfl)
      rw [HR.out]
      clear HQ HR
      go_enter Try.func31, Try.ntmps31
      go_wp2_with (fail)
      refine (HC.out _).mono ?_
      rintro e w1 ⟨rfl, b⟩
      obtain ⟨k1, k2⟩ := keep_blk HE1.out HE2.out b
      obtain ⟨q0, q1, _, _, ql⟩ := blk2 k1
      obtain ⟨u0, u1, _, _, ul⟩ := blk2 k2
      have E1 := hid (HEV.out.trans (b.mono HEV.out.size))
      clear b k1 k2
      go_wp2_with (fail)
      go_ret2
      exact ⟨rfl, E1.out.alloc E1.out.size _⟩
    · have HR := hid (show B = false by rw [HQ.out, p0, p1, p2, p3]; rfl)
      rw [HR.out]
      clear HQ HR
      go_enter Try.func31, Try.ntmps31
      go_wp2_with (fail)
      refine (HC.out _).mono ?_
      rintro e w1 ⟨rfl, b⟩
      obtain ⟨k1, k2⟩ := keep_blk HE1.out HE2.out b
      obtain ⟨q0, q1, _, _, ql⟩ := blk2 k1
      obtain ⟨u0, u1, _, _, ul⟩ := blk2 k2
      have E1 := hid (HEV.out.trans (b.mono HEV.out.size))
      clear b k1 k2
      go_wp2_with (fail)
      go_ret2
      exact ⟨rfl, E1.out.alloc E1.out.size _⟩
  · rw [isaT_no hc]
    have hcz : (comT n d m f) = (0, 0, chkC 1 [(n, d), (m, f)]) := comT_no hc
    rw [hcz] at HC
    generalize chkC 1 [(n, d), (m, f)] = k at *
    have hk : (k == 0) = false := by simpa using hc
    dsimp only at HC ⊢
    clear hcz
    go_enter Try.func31, Try.ntmps31
    go_wp2_with (fail)
    refine (HC.out _).mono ?_
    rintro e w1 ⟨rfl, b⟩
    have E1 := hid (HEV.out.trans (b.mono HEV.out.size))
    clear b
    go_wp2_with (fail)
    go_ret2
    exact ⟨rfl, E1.out.alloc E1.out.size _⟩

end Go.Proofs.Ytjijabfamjhdjaa
