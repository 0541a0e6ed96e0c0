/- Contracts: the fraction in lowest terms, as the program and the model make it. -/
import Derived.Test.YtjijabfamjhdjaaDoorOk
namespace Go.Proofs.YtjijabfamjhdjaaDoor
open Go.RowKit

def fullR (n d : Int) (b : Bool) : Value := if b then .tuple #[.agg #[.int .i64 n, .int .i64 d], .int .i64 0] else .tuple #[.agg #[.int .i64 0, .int .i64 0], .int .i64 5]
/-- What is returned for a numerator and a denominator that is not 0. -/
def lowR (n d : Int) : Value := fullR (lowN n d) (lowD n d) (okF (lowN n d) (lowD n d))

theorem bcell {W w1 : World} (hb : Below W.heap.size W w1) : (∀ b o, b < W.heap.size → w1.cell? ⟨b, o, none⟩ = W.cell? ⟨b, o, none⟩) ∧ (∀ b o, b < W.heap.size → w1.frozen? ⟨b, o, none⟩ = W.frozen? ⟨b, o, none⟩) :=
  ⟨fun b o h => hb.cell (p := ⟨b, o, none⟩) h, fun b o h => hb.frozen (p := ⟨b, o, none⟩) h⟩

theorem fullR_yes (n d : Int) : fullR n d true = .tuple #[.agg #[.int .i64 n, .int .i64 d], .int .i64 0] := rfl
theorem fullR_no (n d : Int) : fullR n d false = .tuple #[.agg #[.int .i64 0, .int .i64 0], .int .i64 5] := rfl

end Go.Proofs.YtjijabfamjhdjaaDoor
