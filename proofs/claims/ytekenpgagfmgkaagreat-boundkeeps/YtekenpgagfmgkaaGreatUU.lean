/- Numbers of 32 bits, as they are handed in. -/
import Derived.Test.YtekenpgagfmgkaaGreatSB
namespace Go.Proofs.YtekenpgagfmgkaaGreat
theorem bd_u32 {a : Int} (h : (Lit.int .u32 a).wf = true) : 0 ≤ a ∧ a ≤ 4294967295 := by
  simpa [Lit.wf, IntKind.min, IntKind.max, IntKind.signed, IntKind.bits] using h
end Go.Proofs.YtekenpgagfmgkaaGreat
