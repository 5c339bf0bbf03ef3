/- Towards the statements of package word (layer 1): what a text is in which a number was set, part by part; regions of open order whose calls make memory; the list of sizes. -/
import Derived.Test.YtdmdmbcapjmnlabAlive
namespace Go.Proofs.Ytdmdmbcapjmnlab
open Go.ChangeShapes Go.WideShapes Go.ChangeAt Go.RowKit
open Go.PlainAid (bt get_bt bt_nonneg bt_le bt_end)
set_option linter.unusedVariables false
set_option maxRecDepth 20000
/-- A world that has grown out of w, as one letter: for regions whose order is open and whose calls make memory. -/
structure GrBy (w : World) where
  to : World
  gr : Gr w to

theorem wp_region_gr {P : Program} {id : Nat} {Q : Exit → Act → World → Prop} {a : Act} {w : World} {l : List Oper} (hm : P.follows .mixedOrders = true) (hB : Region.lexB .any l.toArray = true)
    (h : wpQuiet P l.toArray (fun w' => ∃ p : GrBy w, w' = p.to) (fun a' => ∀ w', (∃ p : GrBy w, w' = p.to) → Q .normal a' w') l a) : (Code.region id l.toArray true).wp P Q a w :=
  wp_region_quiet (C := fun w' => ∃ p : GrBy w, w' = p.to) hm hB ⟨⟨w.drew, ⟨by go_grown, by go_grown⟩⟩, rfl⟩ (by simpa using h)

theorem calls_gr {P : Program} {f : FuncId} {args : Array Value} {w : World} {p : GrBy w} {v : Value} (h : Calls P f args p.to fun e w' => e = .returned v ∧ Gr p.to w') :
    Calls P f args p.to fun e w' => e = .returned v ∧ ∃ q : GrBy w, w' = q.to :=
  h.mono fun _ w' ⟨he, hg⟩ => ⟨he, ⟨w', p.gr.trans hg⟩, rfl⟩
theorem calls_same {P : Program} {f : FuncId} {args : Array Value} {w : World} {p : GrBy w} {v : Value} (h : Calls P f args p.to fun e w' => e = .returned v ∧ w' = p.to) :
    Calls P f args p.to fun e w' => e = .returned v ∧ ∃ q : GrBy w, w' = q.to :=
  h.mono fun _ w' ⟨he, hg⟩ => ⟨he, p, hg⟩

theorem data_append (a b : ByteArray) : (a ++ b).data.toList = a.data.toList ++ b.data.toList := by simp

theorem ba_ext {a b : ByteArray} (h : a.data.toList = b.data.toList) : a = b := by
  apply ByteArray.ext
  exact Array.ext' h

section
variable (s : ByteArray) (a k : Nat) (x : Int) (hk : isz k = true) (h : a + k ≤ s.size)

theorem setB_yes (hk : isz k = true) (h : a + k ≤ s.size) : setB s a x k = s.extract 0 a ++ ofB x k ++ s.extract (a + k) s.size := by
  rw [setB, if_pos (errOf_ok hk (by omega) (by omega))]; simp only [Int.toNat_natCast]

theorem setB_list (hk : isz k = true) (h : a + k ≤ s.size) : (setB s a x k).data.toList = s.data.toList.take a ++ ((ofB x k).data.toList ++ s.data.toList.drop (a + k)) := by
  rw [setB_yes s a k x hk h, data_append, data_append, Lib.extract_data, Lib.extract_data]
  rw [List.drop_zero, Nat.sub_zero, List.append_assoc, List.take_of_length_le (l := List.drop (a + k) s.data.toList) (by rw [List.length_drop, ← Lib.size_eq]; exact Nat.le_refl _)]

theorem len_ofB (hk : isz k = true) : (ofB x k).data.toList.length = k := by
  rw [← Lib.size_eq, size_ofB hk]; rfl

theorem size_setB (hk : isz k = true) (h : a + k ≤ s.size) : (setB s a x k).size = s.size := by
  rw [Lib.size_eq] at h
  rw [Lib.size_eq, setB_list s a k x hk (by rw [Lib.size_eq]; exact h), List.length_append, List.length_append, len_ofB k x hk, List.length_take, List.length_drop, Lib.size_eq]
  omega

theorem setB_head (hk : isz k = true) (h : a + k ≤ s.size) : (setB s a x k).extract 0 a = s.extract 0 a := by
  apply ba_ext
  have h' : a ≤ s.data.toList.length := by rw [← Lib.size_eq]; omega
  rw [Lib.extract_data, Lib.extract_data, setB_list s a k x hk h]
  simp only [List.drop_zero, Nat.sub_zero]
  rw [List.take_append_of_le_length (by rw [List.length_take]; omega), List.take_take, Nat.min_self]

theorem setB_tail (hk : isz k = true) (h : a + k ≤ s.size) : (setB s a x k).extract (a + k) s.size = s.extract (a + k) s.size := by
  apply ba_ext
  have h' : a + k ≤ s.data.toList.length := by rw [← Lib.size_eq]; omega
  have e : List.drop (a + k) (setB s a x k).data.toList = s.data.toList.drop (a + k) := by
    rw [setB_list s a k x hk h, ← List.append_assoc]
    exact List.drop_left' (by rw [List.length_append, len_ofB k x hk, List.length_take]; omega)
  rw [Lib.extract_data, Lib.extract_data, e]

theorem setB_mid (hk : isz k = true) (h : a + k ≤ s.size) : (setB s a x k).extract a (a + k) = ofB x k := by
  apply ba_ext
  have h' : a + k ≤ s.data.toList.length := by rw [← Lib.size_eq]; omega
  rw [Lib.extract_data, setB_list s a k x hk h, List.drop_append, List.drop_eq_nil_of_le (by rw [List.length_take]; omega)]
  rw [List.length_take, Nat.min_eq_left (by omega), Nat.sub_self, List.drop_zero, List.nil_append, Nat.add_sub_cancel_left]
  rw [List.take_append_of_le_length (by rw [len_ofB k x hk]; exact Nat.le_refl _), List.take_of_length_le (by rw [len_ofB k x hk]; exact Nat.le_refl _)]
end

theorem bt_ext (s : ByteArray) (a b i : Nat) (hb : b ≤ s.size) (h : a + i < b) : bt (s.extract a b) i = bt s (a + i) := by
  have hl : s.data.toList.length = s.size := (Lib.size_eq s).symm
  have h1 : i < (s.extract a b).data.toList.length := by
    rw [Lib.extract_data, List.length_take, List.length_drop]; omega
  rw [← bt_list _ i h1, ← bt_list s (a + i) (by omega), List.getElem_of_eq (Lib.extract_data s a b) h1]
  simp only [List.getElem_take, List.getElem_drop]

theorem num_ext (s : ByteArray) (b : Nat) (hb : b ≤ s.size) : ∀ (n a i : Nat), a + i + n ≤ b → numAt s (a + i) n = numAt (s.extract a b) i n
  | 0, _, _, _ => rfl
  | n + 1, a, i, h => by
    rw [numAt, numAt, bt_ext s a b i hb (by omega), Nat.add_assoc, num_ext s b hb n a (i + 1) (by omega)]

theorem get_setB (s : ByteArray) (a k : Nat) (x : Int) (hk : isz k = true) (h : a + k ≤ s.size) : getV (setB s a x k) a k = lowV x k := by
  have hz := size_setB s a k x hk h
  rw [getV, if_pos (errOf_ok hk (by omega) (by omega))]
  simp only [Int.toNat_natCast]
  have e := num_ext (setB s a x k) (a + k) (by omega) k a 0 (by omega)
  rw [Nat.add_zero] at e
  rw [e, setB_mid s a k x hk h]
  have := num_ofB x k hk
  simpa using this
def szs : Array Value := #[.int .i64 1, .int .i64 2, .int .i64 4, .int .i64 8]
def szN (k : Nat) : Int := [1, 2, 4, 8].getD k 8

theorem szN_ok (k : Nat) : isz (szN k) = true := by
  match k with
  | 0 => decide
  | 1 => decide
  | 2 => decide
  | 3 => decide
  | k + 4 => simp [szN]; decide

theorem sz_cell {w : World} {b k : Nat} (h : w.heap[b]? = some (.cells szs 3)) (hk : k < 4) : w.cell? ⟨b, k, none⟩ = some (.int .i64 (szN k)) := by
  have : w.cell? ⟨b, k, none⟩ = szs[k]? := by simp [World.cell?, h]
  rw [this]
  match k, hk with
  | 0, _ => rfl
  | 1, _ => rfl
  | 2, _ => rfl
  | 3, _ => rfl

end Go.Proofs.Ytdmdmbcapjmnlab
