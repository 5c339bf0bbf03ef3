/- Towards the statements of package types (layer 10): tables that grow. -/
import Derived.Test.YtmcjmdoeafhjpaaTX
namespace Go.Proofs.Ytmcjmdoeafhjpaa
open Go.ChangeShapes Go.WideShapes Go.ChangeAt
open Go.RowKit Go.Shelf
set_option linter.unusedVariables false
set_option linter.unusedSimpArgs false
set_option maxRecDepth 20000

def nm2 (i : Nat) : ByteArray := ⟨#[116]⟩ ++ strOfNums [97 + (i / 26 : Nat), 97 + (i % 26 : Nat)]
def tyN (i : Nat) : Ty := ⟨nm2 i, 8, none, 0, []⟩
def lnL (n : Nat) : List Ty := (List.range n).map tyN
def tcs (t : Ty) : List Value := [.string t.n, .int .i64 t.s, .slice t.p t.fs.length t.c]
def fcs (x : Fd) : List Value := [.string x.n, .int .u8 x.k, .int .i64 x.a, .int .i64 x.o, .int .i64 x.d]
theorem flat_get {α : Type} (f : α → List Value) (n : Nat) (hf : ∀ x, (f x).length = n) : ∀ (l : List α) (j k : Nat) (x : α), l[j]? = some x → k < n → (l.flatMap f)[j * n + k]? = (f x)[k]?
  | [], j, k, x, h, _ => by simp at h
  | y :: l, 0, k, x, h, hk => by
    simp at h
    subst h
    rw [List.flatMap_cons, List.getElem?_append_left (by rw [hf]; omega)]; simp
  | y :: l, j + 1, k, x, h, hk => by
    rw [List.flatMap_cons, List.getElem?_append_right (by rw [hf, Nat.add_mul]; omega), hf, show (j + 1) * n + k - n = j * n + k by rw [Nat.add_mul]; omega]
    exact flat_get f n hf l j k x (by simpa using h) hk
theorem own_cell {w : World} {base : Nat} {e : TypeId} {size : Nat} {g n cap : Nat} {xs : List Value} (h : w.ownsRow base e size (.slice (some ⟨g, 0, none⟩) n cap) n xs) {k : Nat} {u : Value} (hk : xs[k]? = some u) : w.cell? ⟨g, k, none⟩ = some u := by
  have := h.cells (g := g) rfl k u hk
  rwa [add_of rfl, Nat.zero_add] at this
theorem tys_own {w : World} {base : Nat} {v : Value} {L : List Ty} (h : w.ownsRow base 42 3 v L.length (L.flatMap tcs)) (hok : ∀ t ∈ L, t.ok w) : ∃ p c, v = .slice p L.length c ∧ L.length ≤ c ∧ c ≤ maxLen ∧ Tys w p L := by
  have h' := h
  rcases h.2 with ⟨rfl, h0⟩ | ⟨g, cap, cur, rfl, hb, hg, hn, hm, hs, ht⟩
  · have : L = [] := List.eq_nil_of_length_eq_zero h0
    subst this
    exact ⟨none, 0, rfl, by simp, by simp, ⟨by simp, by simp, .inl rfl⟩⟩
  · refine ⟨_, cap, rfl, hn, hm, hok, by omega, .inr ⟨g, 0, rfl, ch_lt hg, fun j t ht => ?_⟩⟩
    have c : ∀ k u, k < 3 → (tcs t)[k]? = some u → w.cell? ⟨g, 0 + j * 3 + k, none⟩ = some u := fun k u hk hu => by
      rw [Nat.zero_add]
      exact own_cell h' (by rw [flat_get tcs 3 (fun _ => rfl) L j k t ht hk]; exact hu)
    exact ⟨c 0 _ (by omega) rfl, c 1 _ (by omega) rfl, c 2 _ (by omega) rfl⟩
theorem flds_own {w : World} {base : Nat} {v : Value} {l : List Fd} (h : w.ownsRow base 48 5 v l.length (l.flatMap fcs)) (hok : ∀ t ∈ l, t.ok) : ∃ p c, v = .slice p l.length c ∧ l.length ≤ c ∧ c ≤ maxLen ∧ Flds w p l := by
  have h' := h
  rcases h.2 with ⟨rfl, h0⟩ | ⟨g, cap, cur, rfl, hb, hg, hn, hm, hs, ht⟩
  · have : l = [] := List.eq_nil_of_length_eq_zero h0
    subst this
    exact ⟨none, 0, rfl, by simp, by simp, Flds.nil _ _⟩
  · refine ⟨_, cap, rfl, hn, hm, hok, by omega, .inr ⟨g, 0, rfl, ch_lt hg, fun j t ht => ?_⟩⟩
    have c : ∀ k u, k < 5 → (fcs t)[k]? = some u → w.cell? ⟨g, 0 + j * 5 + k, none⟩ = some u := fun k u hk hu => by
      rw [Nat.zero_add]
      exact own_cell h' (by rw [flat_get fcs 5 (fun _ => rfl) l j k t ht hk]; exact hu)
    exact ⟨c 0 _ (by omega) rfl, c 1 _ (by omega) rfl, c 2 _ (by omega) rfl, c 3 _ (by omega) rfl, c 4 _ (by omega) rfl⟩
theorem nm2_size (i : Nat) : (nm2 i).size = 3 := by
  rw [nm2, ByteArray.size_append, strOfNums_size]; rfl
theorem tyN_ok (i : Nat) (w : World) : (tyN i).ok w := ⟨by show (nm2 i).size ≤ maxLen; rw [nm2_size]; unfold maxLen; omega, ⟨by show (-9223372036854775808 : Int) ≤ 8; decide, by show (8 : Int) ≤ 9223372036854775807; decide⟩, ⟨by show 0 ≤ 0; omega, by show 0 ≤ maxLen; omega⟩, Flds.nil _ _⟩
theorem chk_long : ∀ n, n < 48 → chkM (lnL n) = if n ≤ 32 then (0, 0, 0) else (32, 0, 4) := by
  intro n hn
  have : ∀ m : Fin 48, chkM (lnL m.1) = if m.1 ≤ 32 then (0, 0, 0) else (32, 0, 4) := by decide +kernel
  exact this ⟨n, hn⟩
end Go.Proofs.Ytmcjmdoeafhjpaa
