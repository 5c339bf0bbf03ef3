/- Towards ListTurned: through; what is popped, from which end. -/
import Derived.Test.YtefhcdnilbojkaaLX
namespace Go.Proofs.Ytefhcdnilbojkaa
open Go.ChangeShapes Go.WideShapes Go.ChangeAt Go.RowKit
set_option linter.unusedVariables false
set_option linter.unusedSimpArgs false
set_option maxRecDepth 20000
theorem idxH {w : World} {p : Option Addr} {L : List HKey} (h : Hds w p L) {i : Nat} (hi : i < L.length) : ∃ b o x, L[i]? = some x ∧ HAt w b o x ∧ b < w.heap.size ∧ ∀ c W, (Instr.indexAt 27 (.slice p L.length c) (.int .i64 i)).run Try.prog W = .ok (.pointer (some ⟨b, o, none⟩)) W := by
  rcases h with e | ⟨b, o, rfl, hb, hc⟩
  · subst e; simp at hi
  · refine ⟨b, o + i * 2, L[i], List.getElem?_eq_getElem hi, hc i _ (List.getElem?_eq_getElem hi), hb, fun c W => ?_⟩
    have hi2 : (i : Int) < L.length := by omega
    simp [go_sem, hi]
theorem idxS {w : World} {p : Option Addr} {L : List St} (h : Sts w p L) {i : Nat} (hi : i < L.length) : ∃ b o x, L[i]? = some x ∧ StAt w b o x ∧ b < w.heap.size ∧ ∀ c W, (Instr.indexAt 22 (.slice p L.length c) (.int .i64 i)).run Try.prog W = .ok (.pointer (some ⟨b, o, none⟩)) W := by
  rcases h with e | ⟨b, o, rfl, hb, hc⟩
  · subst e; simp at hi
  · refine ⟨b, o + i * 4, L[i], List.getElem?_eq_getElem hi, hc i _ (List.getElem?_eq_getElem hi), hb, fun c W => ?_⟩
    have hi2 : (i : Int) < L.length := by omega
    simp [go_sem, hi]
theorem idx8 {w : World} {p : Option Addr} {C : List Int} (h : Row8 w p C) {i : Nat} (hi : i < C.length) : ∃ b o x, C[i]? = some x ∧ w.cell? ⟨b, o, none⟩ = some (.int .u8 x) ∧ (0 ≤ x ∧ x ≤ 255) ∧ b < w.heap.size ∧ ∀ c W, (Instr.indexAt 50 (.slice p C.length c) (.int .i64 i)).run Try.prog W = .ok (.pointer (some ⟨b, o, none⟩)) W := by
  rcases h.2 with e | ⟨b, o, rfl, hb, hc⟩
  · subst e; simp at hi
  · refine ⟨b, o + i, C[i], List.getElem?_eq_getElem hi, hc i _ (List.getElem?_eq_getElem hi), h.1 _ (List.getElem_mem _), hb, fun c W => ?_⟩
    have hi2 : (i : Int) < C.length := by omega
    simp [go_sem, hi]
def o1 (o : Option HKey) : Int := (o.map Prod.fst).getD 0
def o2 (o : Option HKey) : Nat := (o.map Prod.snd).getD 0
theorem oV_eq (o : Option HKey) : oV o = .agg #[.int .i64 (o1 o), .int .u64 (o2 o)] := by cases o <;> rfl
theorem Li.notrow {w : World} {B b : Nat} {K : List HKey} {S : List Nat} (h : Li w B b K S) {g : Nat} {cs : Array Value} {t : TypeId} {z : Nat × Nat} (e : w.heap[g]? = some (.cells cs t z)) (h1 : t ≠ 59) (h2 : t ≠ 64) : g ∉ S := by
  obtain ⟨m, en, nx, pv, ky, N, rfl, rfl, hL⟩ := h
  intro hg
  rcases List.mem_cons.1 hg with rfl | hg
  · rw [hL.cells] at e; cases e; exact h1 rfl
  rcases List.mem_cons.1 hg with rfl | hg
  · obtain ⟨n, F, hF, _⟩ := hL.map
    exact hF.notcells e
  · have := hL.lk g hg
    unfold Lk at this
    rw [this] at e; cases e; exact h2 rfl
def valOf : Value → Int
  | .int _ a => a
  | _ => 0
theorem nextM_at {K : List HKey} (hn : K.Nodup) {i : Nat} {k : HKey} (h : K[i]? = some k) : nextM K k = K[i + 1]? := by
  unfold nextM
  rw [idx_atG hn h]
set_option maxHeartbeats 1000000 in
theorem through_any (w : World) (B b : Nat) (K : List HKey) (S : List Nat) (h : Li w B b K S) (hl : K.length ≤ 100000) :
    Calls Try.prog 20 #[.pointer (some ⟨b, 0, none⟩), .int .i64 K.length] w fun e w' => e = .returned (.int .i64 K.length) ∧ Below w.heap.size w w' := by
  have k1 := peek_li w B b K S h true
  rw [oV_eq] at k1
  have he : endM K true = K[0]? := by rw [endM, if_pos rfl, List.head?_eq_getElem?]
  have hi0 : (endM K true).isSome = decide (0 < K.length) := by rw [he]; cases K <;> rfl
  rw [hi0, he] at k1
  go_enter Try.func20, Try.ntmps20
  go_upto_region 2 with (go_at_call 16; refine k1.mono ?_; rintro e w1 ⟨rfl, hb1⟩)
  have ya := heap_alloc_new w1 (.cells #[.int .i64 (o1 K[0]?), .int .u64 (o2 K[0]?)] 32)
  have hb2 : Below w.heap.size w (w1.alloc (.cells #[.int .i64 (o1 K[0]?), .int .u64 (o2 K[0]?)] 32)) := hb1.alloc hb1.size _
  have la : w.heap.size ≤ w1.heap.size := hb1.size
  clear k1 hb1
  generalize w1.alloc (.cells #[.int .i64 (o1 K[0]?), .int .u64 (o2 K[0]?)] 32) = w2 at ya hb2 ⊢
  generalize w1.heap.size = a at ya la ⊢
  go_wp2
  go_loopw [6, 7, 8] (fun n6 n7 n8 wr => ∃ i : Nat, n6 = .bool (decide (i < K.length)) ∧ n7 = .int .i64 i ∧ n8 = .int .i64 i ∧ i ≤ K.length ∧ Below w.heap.size w wr ∧ wr.heap[a]? = some (.cells #[.int .i64 (o1 K[i]?), .int .u64 (o2 K[i]?)] 32 (0, 0))) (fun _ _ n8 _ => K.length - (valOf n8).toNat)
  case atStart => exact ⟨0, rfl, rfl, rfl, by omega, hb2, ya⟩
  case round =>
    obtain ⟨i, rfl, rfl, rfl, hi, hbr, hya⟩ := hrel
    have d1 : decide ((i : Int) ≤ K.length) = true := by simp; omega
    by_cases hin : i < K.length
    · have d2 : decide (i < K.length) = true := by simpa using hin
      obtain ⟨k, hk⟩ : ∃ k, K[i]? = some k := ⟨K[i], List.getElem?_eq_getElem hin⟩
      rw [hk] at hya
      have e9 : IntKind.i64.wrap ((i : Int) + 1) = (i : Int) + 1 := IntWalk.i64_in _ (by omega)
      have a0 := cell_of hya 0
      have a1 := cell_of hya 1
      simp [o1, o2] at a0 a1
      have k2 := next_li wr B b K S (h.bel hbr) k
      rw [nextM_at h.nd hk, oV_eq] at k2
      have hs : (K[i + 1]?).isSome = decide (i + 1 < K.length) := by by_cases q : i + 1 < K.length <;> simp [q]
      rw [hs] at k2
      go_upto_region 8 with (go_at_call 18; refine k2.mono ?_; rintro e w3 ⟨rfl, hb3⟩)
      have yc := heap_alloc_new w3 (.cells #[.int .i64 (o1 K[i + 1]?), .int .u64 (o2 K[i + 1]?)] 32)
      have ya4 := heap_al ((hb3.block _ (heap_lt hya)).trans hya) (.cells #[.int .i64 (o1 K[i + 1]?), .int .u64 (o2 K[i + 1]?)] 32)
      have hw3 := hbr.trans (hb3.mono hbr.size)
      have hw4 : Below w.heap.size w (w3.alloc (.cells #[.int .i64 (o1 K[i + 1]?), .int .u64 (o2 K[i + 1]?)] 32)) := hw3.alloc hw3.size _
      clear k2 a0 a1 hb3 hw3
      generalize w3.alloc (.cells #[.int .i64 (o1 K[i + 1]?), .int .u64 (o2 K[i + 1]?)] 32) = w4 at yc ya4 hw4 ⊢
      generalize w3.heap.size = c at yc ⊢
      have c0 := cell_of yc 0
      have c1 := cell_of yc 1
      have a0 := cell_of ya4 0
      have a1 := cell_of ya4 1
      have f0 := froz_of ya4 0
      have f1 := froz_of ya4 1
      simp at c0 c1 a0 a1
      have h1 := heap_setCell_same w4 a 0 _ _ (.int .i64 (o1 K[i + 1]?)) ya4
      have h2 := heap_setCell_same _ a 1 _ _ (.int .u64 (o2 K[i + 1]?)) h1
      have hw5 : Below w.heap.size w ((w4.setCell ⟨a, 0, none⟩ (.int .i64 (o1 K[i + 1]?))).setCell ⟨a, 1, none⟩ (.int .u64 (o2 K[i + 1]?))) := (hw4.setCell la _).setCell la _
      replace h2 : Hid _ := h2
      clear h1
      go_wp2
      exact ⟨⟨i + 1, rfl, by simp, by simp, by omega, hw5, h2.out⟩, by simp [valOf]; omega⟩
    · have d2 : decide (i < K.length) = false := by simpa using hin
      obtain rfl : i = K.length := by omega
      go_wp2
      all_goals go_returns
      exact ⟨rfl, hbr⟩
def arrM (q : Bool) (X : List HKey) : List HKey := if q then X.reverse else X
/-- What is left behind i pops of those of A, pushed at end q, popped at end p. -/
def restM (A : List HKey) (q p : Bool) (i : Nat) : List HKey := arrM q (if q = p then A.take (A.length - i) else A.drop i)
def wantM (A : List HKey) (q p : Bool) (i : Nat) : Option HKey := if q = p then A[A.length - 1 - i]? else A[i]?
theorem end_cons (x : HKey) (l : List HKey) : endM (x :: l) true = some x ∧ popM (x :: l) true = l := by simp [popM, endM]
theorem end_snoc (x : HKey) (l : List HKey) (h : x ∉ l) : endM (l ++ [x]) false = some x ∧ popM (l ++ [x]) false = l := by
  simp [popM, endM, List.erase_append_right, h]
theorem pop_rest (A : List HKey) (hA : A.Nodup) (q p : Bool) (i : Nat) (hi : i < A.length) : ∃ k, wantM A q p i = some k ∧ endM (restM A q p i) p = some k ∧ popM (restM A q p i) p = restM A q p (i + 1) := by
  by_cases e : q = p
  · subst e
    have hm : A.length - 1 - i < A.length := by omega
    have hk := List.getElem?_eq_getElem hm
    refine ⟨A[A.length - 1 - i], by rw [wantM, if_pos rfl, hk], ?_⟩
    have ht : A.take (A.length - i) = A.take (A.length - (i + 1)) ++ [A[A.length - 1 - i]] := by
      rw [show A.length - i = (A.length - (i + 1)) + 1 by omega, List.take_add_one, show A.length - (i + 1) = A.length - 1 - i by omega, hk]; rfl
    have hn : A[A.length - 1 - i] ∉ A.take (A.length - (i + 1)) := by
      intro h
      have h2 := (List.take_sublist (A.length - i) A).nodup hA
      rw [ht, List.nodup_append] at h2
      exact h2.2.2 _ h _ (by simp) rfl
    simp only [restM, if_true]
    rw [ht]
    cases q with
    | true =>
      simp only [arrM, if_true, List.reverse_append, List.reverse_cons, List.reverse_nil, List.nil_append, List.singleton_append]
      exact end_cons _ _
    | false =>
      simp only [arrM, Bool.false_eq_true, if_false]
      exact end_snoc _ _ hn
  · have hk := List.getElem?_eq_getElem hi
    refine ⟨A[i], by rw [wantM, if_neg e, hk], ?_⟩
    have ht : A.drop i = A[i] :: A.drop (i + 1) := List.drop_eq_getElem_cons hi
    have hn : A[i] ∉ A.drop (i + 1) := by
      have h2 := (List.drop_sublist i A).nodup hA
      rw [ht, List.nodup_cons] at h2
      exact h2.1
    simp only [restM, if_neg e]
    rw [ht]
    cases q with
    | true =>
      obtain rfl : p = false := by cases p <;> simp_all
      simp only [arrM, if_true, List.reverse_cons]
      exact end_snoc _ _ (by simpa using hn)
    | false =>
      obtain rfl : p = true := by cases p <;> simp_all
      simp only [arrM, Bool.false_eq_true, if_false]
      exact end_cons _ _
theorem rest_zero (A : List HKey) (q p : Bool) : restM A q p 0 = arrM q A := by
  unfold restM
  split <;> simp
theorem rest_end (A : List HKey) (q p : Bool) : restM A q p A.length = [] := by
  unfold restM arrM
  split <;> split <;> simp
theorem arr_len (q : Bool) (A : List HKey) : (arrM q A).length = A.length := by
  unfold arrM; split <;> simp
theorem arr_mem (q : Bool) (A : List HKey) (x : HKey) : x ∈ arrM q A ↔ x ∈ A := by
  unfold arrM; split <;> simp
theorem arr_push (q : Bool) (A : List HKey) (x : HKey) (h : x ∉ A) : pushM (arrM q A) x q = arrM q (A ++ [x]) := by
  rw [pushM, if_neg (by rw [arr_mem]; exact h)]
  cases q <;> simp [arrM]
end Go.Proofs.Ytefhcdnilbojkaa
