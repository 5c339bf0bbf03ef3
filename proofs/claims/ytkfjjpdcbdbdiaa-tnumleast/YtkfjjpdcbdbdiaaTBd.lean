/- Towards the statements of package tnum (layer 3): the bounds of arguments. -/
import Derived.Test.YtkfjjpdcbdbdiaaTBase
namespace Go.Proofs.Ytkfjjpdcbdbdiaa
theorem bd_u64 {a : Int} (h : (Lit.int .u64 a).wf = true) : 0 ≤ a ∧ a ≤ 18446744073709551615 := by
  simpa [Lit.wf, IntKind.min, IntKind.max, IntKind.signed, IntKind.bits] using h
theorem bd_u8 {a : Int} (h : (Lit.int .u8 a).wf = true) : 0 ≤ a ∧ a ≤ 255 := by
  simpa [Lit.wf, IntKind.min, IntKind.max, IntKind.signed, IntKind.bits] using h
end Go.Proofs.Ytkfjjpdcbdbdiaa
