/- Towards the statements of package word (layer 1), of what of it this program has: the lowest bytes of a number: contracts of Of, the program's and the document's, for every number and every size. -/
import Derived.Test.YtdmdmbcapjmnlabBytes
import Derived.Laws.BytesArg
namespace Go.Proofs.Ytdmdmbcapjmnlab
open Go.ChangeShapes Go.WideShapes Go.ChangeAt Go.RowKit
open Go.PlainAid (bt get_bt bt_nonneg bt_le bt_end)
set_option linter.unusedVariables false

/-- The k lowest bytes of x, the lowest first. -/
def digs (x : Int) : Nat → List Int
  | 0 => []
  | k + 1 => x % 256 :: digs (x / 256) k
theorem length_digs : ∀ (k : Nat) (x : Int), (digs x k).length = k
  | 0, _ => rfl
  | k + 1, x => by simp [digs, length_digs k]

def ofB (x : Int) (n : Int) : ByteArray := if isz n then strOfNums (digs x n.toNat) else ByteArray.empty

theorem conv_new (W : World) (C : Array Value) (t : TypeId) (g n c : Nat) (xs : List Int) (hg : g = W.heap.size) (hlen : xs.length = n) (hC : ∀ i, i < n → C[i]? = some (.int .u8 (xs.getD i 0))) :
    (convert 61 9 (.slice (some ⟨g, 0, none⟩) n c)).run Try.prog (W.alloc (.cells C t)) = .ok (.string (strOfNums xs)) (W.alloc (.cells C t)) := by
  subst hg
  refine run_convert_bytes_arg (P := Try.prog) _ 61 5 Try.underlying61 Try.underlying5 _ 0 n c xs hlen (fun i hi => ?_) 9 Try.underlying9
  rw [Nat.zero_add, World.cell?_alloc_mark]
  exact hC i hi

theorem digs1 (x : Int) : digs x 1 = [x % 256] := rfl
theorem digs2 (x : Int) : digs x 2 = [x % 256, x / 256 % 256] := rfl
theorem digs4 (x : Int) : digs x 4 = [x % 256, x / 256 % 256, x / 65536 % 256, x / 16777216 % 256] := by
  simp only [digs]; congr 1; congr 1
  have e1 : x / 256 / 256 = x / 65536 := by omega
  have e2 : x / 65536 / 256 = x / 16777216 := by omega
  rw [e1, e2]
theorem digs8 (x : Int) (h0 : 0 ≤ x) (h1 : x ≤ 18446744073709551615) : digs x 8 = [x % 256, x / 256 % 256, x / 65536 % 256, x / 16777216 % 256, x / 4294967296 % 256, x / 1099511627776 % 256, x / 281474976710656 % 256, x / 72057594037927936] := by
  simp only [digs]; congr 1; congr 1
  have e1 : x / 256 / 256 = x / 65536 := by omega
  have e2 : x / 65536 / 256 = x / 16777216 := by omega
  have e3 : x / 16777216 / 256 = x / 4294967296 := by omega
  have e4 : x / 4294967296 / 256 = x / 1099511627776 := by omega
  have e5 : x / 1099511627776 / 256 = x / 281474976710656 := by omega
  have e6 : x / 281474976710656 / 256 = x / 72057594037927936 := by omega
  have e7 : x / 72057594037927936 % 256 = x / 72057594037927936 := by omega
  rw [e1, e2, e3, e4, e5, e6, e7]

theorem ret_str {a b : ByteArray} (h : a = b) : Ending.returned (.string a) = .returned (.string b) := by rw [h]

set_option maxHeartbeats 1000000 in
theorem of_lit (x : Int) (h0 : 0 ≤ x) (h1 : x ≤ 18446744073709551615) (n : Int) (hn : isz n = true) (w : World) : Calls Try.prog 47 #[.int .u64 x, .int .i64 n] w fun e w' => e = .returned (.string (strOfNums (digs x n.toNat))) ∧ Gr w w' := by
  obtain ⟨L, hL, hcv⟩ : ∃ L : List Int, Hid (strOfNums L = strOfNums (digs x n.toNat)) ∧ ∀ W : World, (convert 61 9 (.slice (some ⟨W.heap.size, 0, none⟩) n.toNat 8)).run Try.prog (W.alloc (.cells #[.int .u8 (x % 256), .int .u8 (x / 256 % 256), .int .u8 (x / 65536 % 256), .int .u8 (x / 16777216 % 256), .int .u8 (x / 4294967296 % 256), .int .u8 (x / 1099511627776 % 256), .int .u8 (x / 281474976710656 % 256), .int .u8 (x / 72057594037927936)] 95)) = .ok (.string (strOfNums L)) (W.alloc (.cells #[.int .u8 (x % 256), .int .u8 (x / 256 % 256), .int .u8 (x / 65536 % 256), .int .u8 (x / 16777216 % 256), .int .u8 (x / 4294967296 % 256), .int .u8 (x / 1099511627776 % 256), .int .u8 (x / 281474976710656 % 256), .int .u8 (x / 72057594037927936)] 95)) := by
    refine ⟨digs x n.toNat, rfl, fun W => conv_new W _ _ _ _ _ _ rfl (length_digs _ _) ?_⟩
    rcases isz_true hn with rfl | rfl | rfl | rfl
    · intro i hi; simp only [Int.reduceToNat] at hi ⊢; rw [digs1]; match i, hi with | 0, _ => rfl
    · intro i hi; simp only [Int.reduceToNat] at hi ⊢; rw [digs2]; match i, hi with | 0, _ => rfl | 1, _ => rfl
    · intro i hi; simp only [Int.reduceToNat] at hi ⊢; rw [digs4]; match i, hi with | 0, _ => rfl | 1, _ => rfl | 2, _ => rfl | 3, _ => rfl
    · intro i hi; simp only [Int.reduceToNat] at hi ⊢; rw [digs8 x h0 h1]; match i, hi with | 0, _ => rfl | 1, _ => rfl | 2, _ => rfl | 3, _ => rfl | 4, _ => rfl | 5, _ => rfl | 6, _ => rfl | 7, _ => rfl
  rcases isz_true hn with rfl | rfl | rfl | rfl
  all_goals
    simp only [Int.reduceToNat] at hcv
    clear hn
    go_enter Try.func47, Try.ntmps47
    go_wp2_with (first | (go_at_call 65; refine (size_yes _ (by decide) _).mono ?_; rintro e w' ⟨rfl, rfl⟩) | (go_at_call 66; refine (bytes_any _ h0 h1 _).mono ?_; rintro e w' ⟨rfl, hg⟩))
    go_ret
    refine ⟨ret_str hL.out, Gr.trans hg ⟨by go_grown, by go_grown⟩⟩

theorem of_any (x : Int) (h0 : 0 ≤ x) (h1 : x ≤ 18446744073709551615) (n : Int) (w : World) : Calls Try.prog 47 #[.int .u64 x, .int .i64 n] w fun e w' => e = .returned (.string (ofB x n)) ∧ Gr w w' := by
  cases hn : isz n
  · go_enter Try.func47, Try.ntmps47
    go_wp2_with (go_at_call 65; refine (size_no _ (by assumption) _).mono ?_; rintro e w' ⟨rfl, rfl⟩)
    go_ret
    exact ⟨ret_str (by rw [ofB, hn]; rfl), Gr.refl _⟩
  · rw [show ofB x n = strOfNums (digs x n.toNat) from by rw [ofB, if_pos hn]]
    exact of_lit x h0 h1 n hn w

theorem strOfNums_append (a b : List Int) : strOfNums a ++ strOfNums b = strOfNums (a ++ b) := by
  apply ByteArray.ext
  simp [strOfNums]

end Go.Proofs.Ytdmdmbcapjmnlab
