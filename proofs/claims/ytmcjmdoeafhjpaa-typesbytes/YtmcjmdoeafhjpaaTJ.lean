/- Towards the statements of package types (layer 10): numbers of one byte; what is written. -/
import Derived.Test.YtmcjmdoeafhjpaaTI
import Derived.Test.YtmcjmdoeafhjpaaWS
import Derived.Shelf.Strings.BuilderK
namespace Go.Proofs.Ytmcjmdoeafhjpaa
open Go.ChangeShapes Go.WideShapes Go.ChangeAt
open Go.RowKit Go.Shelf
set_option linter.unusedVariables false
set_option linter.unusedSimpArgs false
set_option maxRecDepth 20000
/-- A row of numbers. -/
structure RowI (w : World) (p : Option Addr) (K : List Int) : Prop where
  len : K.length ≤ 1000
  at' : K = [] ∨ ∃ b off, p = some ⟨b, off, none⟩ ∧ b < w.heap.size ∧ ∀ (j : Nat) (x : Int), K[j]? = some x → w.cell? ⟨b, off + j, none⟩ = some (.int .i64 x)
theorem rowi_new (W : World) (K : List Int) (hK : K.length ≤ 1000) (t : TypeId) : RowI (W.alloc (.cells (K.map (Value.int .i64)).toArray t)) (some ⟨W.heap.size, 0, none⟩) K := by
  refine ⟨hK, .inr ⟨_, 0, rfl, by rw [size_new]; omega, fun j x hx => ?_⟩⟩
  rw [Nat.zero_add]
  exact cell_new _ _ _ _ _ (by simp [hx])
def inB (x : Int) : Bool := decide (0 ≤ x) && decide (x ≤ 255)
theorem isByte_any (p : Option Addr) (c : Nat) (K : List Int) (w : World) (hl : RowI w p K) : Calls Try.prog 60 #[.slice p K.length c] w fun e w' => e = .returned (.bool (K.all inB)) ∧ w' = w := by
  have hlen := hl.len
  generalize hans : K.all inB = ans
  replace hans : Hid (K.all inB = ans) := hans
  go_enter Try.func60, Try.ntmps60
  go_wp2
  go_loopw [7] (fun n wr => ∃ i : Nat, n = .int .i64 i ∧ i ≤ K.length ∧ K.all inB = (K.drop i).all inB ∧ wr = w) (fun n _ => K.length - (intOf n).toNat)
  case atStart => exact ⟨0, rfl, by omega, by rw [List.drop_zero], rfl⟩
  case round =>
    obtain ⟨i, rfl, hi, hA, hb⟩ := hrel
    replace hA : Hid (K.all inB = (K.drop i).all inB) := hA
    rw [hb]; clear hb
    by_cases h : i < K.length
    · have d : decide ((i : Int) < K.length) = true := by simp; omega
      obtain ⟨x, hx⟩ : ∃ x, K[i]? = some x := ⟨K[i], List.getElem?_eq_getElem _⟩
      rcases hl.at' with e2 | ⟨b, off, rfl, hb1, hc⟩
      · rw [e2] at h; simp at h
      have c0 := hc i x hx
      have hdr : Hid (K.drop i = x :: K.drop (i + 1)) := drop_get hx
      clear hx hc
      have e9 : IntKind.i64.wrap ((i : Int) + 1) = (i : Int) + 1 := IntWalk.i64_in _ (by omega)
      by_cases h0 : x < 0
      · have d0 : decide (x < 0) = true := by simp [h0]
        have hr : Hid (ans = false) := by
          show ans = false
          rw [← hans.out, hA.out, hdr.out, List.all_cons, inB, show decide (0 ≤ x) = false by simp; omega]; rfl
        go_wp2
        try rw [Exit.noGoto_ret]
        go_returns
        exact ⟨by rw [hr.out]; try rfl, rfl⟩
      have d0 : decide (x < 0) = false := by simp; omega
      by_cases h1 : 255 < x
      · have d1 : decide (255 < x) = true := by simp [h1]
        have hr : Hid (ans = false) := by
          show ans = false
          rw [← hans.out, hA.out, hdr.out, List.all_cons, inB, show decide (x ≤ 255) = false by simp; omega]; simp
        go_wp2
        try rw [Exit.noGoto_ret]
        go_returns
        exact ⟨by rw [hr.out]; try rfl, rfl⟩
      have d1 : decide (255 < x) = false := by simp; omega
      have hA2 : Hid (K.all inB = (K.drop (i + 1)).all inB) := by
        show _ = _
        rw [hA.out, hdr.out, List.all_cons, inB, show decide (x ≤ 255) = true by simp; omega, show decide (0 ≤ x) = true by simp; omega]; simp
      go_wp2
      exact ⟨⟨i + 1, by simp, by omega, hA2.out, by trivial⟩, by simp [intOf]; omega⟩
    · have d : decide ((i : Int) < K.length) = false := by simp; omega
      have hr : Hid (ans = true) := by
        show ans = true
        rw [← hans.out, hA.out, List.drop_eq_nil_of_le (by omega)]; rfl
      go_wp2
      go_returns
      exact ⟨by rw [hr.out]; try rfl, rfl⟩
def fldB (x : Fd) : Bool := inB x.n.size && inB x.a && inB x.o && inB x.d
def tyB (t : Ty) : Bool := inB t.n.size && inB t.s && inB t.fs.length && t.fs.all fldB
def areB (L : List Ty) : Bool := inB L.length && L.all tyB
end Go.Proofs.Ytmcjmdoeafhjpaa
