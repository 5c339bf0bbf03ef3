/- Towards the statements of package list (layer 15): Len, Peek, Next. -/
import Derived.Test.YthgpbbpmfpfjnaaLC
import Derived.LaidEqlPtr
namespace Go.Proofs.Ythgpbbpmfpfjnaa
open Go.ChangeShapes Go.WideShapes Go.ChangeAt Go.RowKit
set_option linter.unusedVariables false
set_option linter.unusedSimpArgs false
set_option maxRecDepth 20000
theorem len_nil (w : World) : Calls Try.prog 78 #[.pointer none] w fun e w' => e = .returned (.int .i64 0) ∧ w' = w := by
  have k1 := fun W => made_nil W
  go_enter Try.func78, Try.ntmps78
  go_wp2_with (go_at_call 81; refine (k1 _).mono ?_; rintro e w' ⟨rfl, hw⟩; rw [hw]; clear hw)
  all_goals go_returns
  all_goals exact ⟨rfl, rfl⟩
theorem Ls.count {w : World} {B b m e : Nat} {nx pv : Nat → Nat} {ky : Nat → HKey} {N : List Nat} (h : Ls w B b m e nx pv ky N) : ∃ es c, w.heap[m]? = some (.map es c) ∧ es.size = N.length := by
  obtain ⟨n, F, hF, hF2⟩ := h.map
  obtain ⟨es, c, h1, h2⟩ := hF.count h.kd fun k => by
    constructor
    · intro hk
      obtain ⟨x, hx, hxk⟩ := List.mem_map.1 hk
      rw [(hF2 k _).2 ⟨x, hx, hxk, rfl⟩]; rfl
    · intro hs
      obtain ⟨v, hv⟩ := Option.isSome_iff_exists.1 hs
      obtain ⟨x, hx, hxk, _⟩ := (hF2 k v).1 hv
      exact List.mem_map.2 ⟨x, hx, hxk⟩
  exact ⟨es, c, h1, by simpa using h2⟩
theorem len_any (w : World) (B b m e : Nat) (nx pv : Nat → Nat) (ky : Nat → HKey) (N : List Nat) (h : Ls w B b m e nx pv ky N) :
    Calls Try.prog 78 #[.pointer (some ⟨b, 0, none⟩)] w fun e' w' => e' = .returned (.int .i64 (N.length : Int)) ∧ w' = w := by
  obtain ⟨c0, c1⟩ := h.cB
  obtain ⟨es, c, h1, h2⟩ := h.count
  have k1 := made_yes w b m c0
  have q1 : (Builtin.len_ #[100] 3 #[.map (some m)]).run Try.prog w = .ok (.int .i64 (N.length : Int)) w := by rw [run_len_map w 100 3 m es c (by kernel_rfl) h1, h2]; rfl
  go_enter Try.func78, Try.ntmps78
  go_wp2_with (go_at_call 81; refine k1.mono ?_; rintro e w' ⟨rfl, hw⟩; rw [hw]; clear hw)
  all_goals go_returns
  all_goals exact ⟨rfl, rfl⟩
theorem peek_nil (q : Bool) (w : World) : Calls Try.prog 79 #[.pointer none, .bool q] w fun e w' => e = .returned (.tuple #[.agg #[.int .i64 0, .int .u64 0], .bool false]) ∧ Below w.heap.size w w' := by
  have k1 := fun W => len_nil W
  go_enter Try.func79, Try.ntmps79
  go_wp2_with (go_at_call 78; refine (k1 _).mono ?_; rintro e w' ⟨rfl, hw⟩; rw [hw]; clear hw)

  all_goals go_returns
  all_goals exact ⟨rfl, (Below.refl _ w).alloc (Nat.le_refl _) _⟩
theorem peek_none (w : World) (B b m e : Nat) (nx pv : Nat → Nat) (ky : Nat → HKey) (h : Ls w B b m e nx pv ky []) (q : Bool) :
    Calls Try.prog 79 #[.pointer (some ⟨b, 0, none⟩), .bool q] w fun e' w' => e' = .returned (.tuple #[.agg #[.int .i64 0, .int .u64 0], .bool false]) ∧ Below w.heap.size w w' := by
  have h1 := h.alloc (.cells #[.int .i64 0, .int .u64 0] 31)
  have k1 := len_any _ B b m e nx pv ky [] h1
  rw [show (([] : List Nat).length : Int) = 0 from rfl] at k1
  go_enter Try.func79, Try.ntmps79
  go_wp2_with (go_at_call 78; refine k1.mono ?_; rintro e w' ⟨rfl, hw⟩; rw [hw]; clear hw)
  all_goals go_returns
  all_goals exact ⟨rfl, (Below.refl _ w).alloc (Nat.le_refl _) _⟩
theorem peek_some (w : World) (B b m e : Nat) (nx pv : Nat → Nat) (ky : Nat → HKey) (N : List Nat) (h : Ls w B b m e nx pv ky N) (q : Bool) (x : Nat) (hx : x ∈ N) (hq : (if q then nx e else pv e) = x) :
    Calls Try.prog 79 #[.pointer (some ⟨b, 0, none⟩), .bool q] w fun e' w' => e' = .returned (.tuple #[.agg #[.int .i64 (ky x).1, .int .u64 (ky x).2], .bool true]) ∧ Below w.heap.size w w' := by
  have h1 := h.alloc (.cells #[.int .i64 0, .int .u64 0] 31)
  have hb1 := (Below.refl _ w).alloc (Nat.le_refl _) (.cells #[.int .i64 0, .int .u64 0] 31)
  have y1 := heap_alloc_new w (.cells #[.int .i64 0, .int .u64 0] 31)
  have k1 := len_any _ B b m e nx pv ky N h1
  have hN : 0 < N.length := List.length_pos_of_mem hx
  have d : ((N.length : Int) == 0) = false := beq_false_of_ne (by omega)
  generalize (N.length : Int) = nl at k1 d
  go_enter Try.func79, Try.ntmps79
  go_upto_region 3 with (go_at_call 78; refine k1.mono ?_; rintro e w' ⟨rfl, hw⟩; rw [hw]; clear hw)
  clear k1
  generalize w.alloc (.cells #[.int .i64 0, .int .u64 0] 31) = W at h1 hb1 y1 ⊢
  obtain ⟨c0, c1⟩ := h1.cB
  have e2 := (h1.lk e (by simp)).c2
  have e3 := (h1.lk e (by simp)).c3
  have x0 := (h1.lk x (.tail _ hx)).c0
  have x1 := (h1.lk x (.tail _ hx)).c1
  obtain ⟨s0, s1, s2, s3⟩ := put2 y1 (.int .i64 (ky x).1) (.int .u64 (ky x).2)
  have f0 := froz_of y1 0
  have f1 := froz_of y1 1
  have z0 := cell_of y1 0
  have z1 := cell_of y1 1
  simp at z0 z1
  have hb2 : Below w.heap.size w ((W.setCell ⟨w.heap.size, 0, none⟩ (.int .i64 (ky x).1)).setCell ⟨w.heap.size, 1, none⟩ (.int .u64 (ky x).2)) := (hb1.setCell (Nat.le_refl _) _).setCell (Nat.le_refl _) _
  cases q
  all_goals
    simp only [if_true, if_false, Bool.false_eq_true] at hq
    try rw [hq] at e2
    try rw [hq] at e3
    go_wp2
    refine bodyPost_ret (by simp [results, Try.results79, go_sem, s0, s1, s2, s3]; try rfl) rfl ?_
    exact ⟨rfl, hb2⟩
theorem inf64 : ∃ j, Try.prog.info? 119 = some j ∧ j.size ≠ 0 := by
  have e : (Try.prog.info? 119).map (fun i => i.size) = some 4 := by kernel_rfl
  cases h : Try.prog.info? 119 with
  | none => rw [h] at e; cases e
  | some j => rw [h] at e; simp at e; exact ⟨j, rfl, by omega⟩
theorem eqp_same (x : Nat) (W : World) : (binOp .eql 101 (.pointer (some ⟨x, 0, none⟩)) (.pointer (some ⟨x, 0, none⟩))).run Try.prog W = .ok (.bool true) W := by
  obtain ⟨j, hj, _⟩ := inf64
  exact run_eql_ptr_same W _ Try.underlying101 hj
theorem eqp_other {x y : Nat} {W : World} {nx pv : Nat → Nat} {ky : Nat → HKey} (hne : x ≠ y) (hx : Lk W nx pv ky x) (hy : Lk W nx pv ky y) : (binOp .eql 101 (.pointer (some ⟨x, 0, none⟩)) (.pointer (some ⟨y, 0, none⟩))).run Try.prog W = .ok (.bool false) W := by
  obtain ⟨j, hj, h0⟩ := inf64
  exact run_eql_ptr_other W Try.underlying101 hj h0 (by simp [hne]) hx hy
theorem neqp_same (x : Nat) (W : World) : (binOp .neq 101 (.pointer (some ⟨x, 0, none⟩)) (.pointer (some ⟨x, 0, none⟩))).run Try.prog W = .ok (.bool false) W := by
  obtain ⟨j, hj, _⟩ := inf64
  have h : ∀ d : Nat, (Op.equalIn (d + 1) 101 (.pointer (some ⟨x, 0, none⟩)) (.pointer (some ⟨x, 0, none⟩))).run Try.prog W = .ok true W := fun d => by
    simp [Op.equalIn, run_underlying Try.underlying101, sizeOf, typeInfo, hj, run_sameAddr_same]
  simp only [binOp]
  simp [Op.equal, Op.maxDepth, h 9999]
theorem neqp_other {x y : Nat} {W : World} {nx pv : Nat → Nat} {ky : Nat → HKey} (hne : x ≠ y) (hx : Lk W nx pv ky x) (hy : Lk W nx pv ky y) : (binOp .neq 101 (.pointer (some ⟨x, 0, none⟩)) (.pointer (some ⟨y, 0, none⟩))).run Try.prog W = .ok (.bool true) W := by
  obtain ⟨j, hj, h0⟩ := inf64
  have hn : (⟨x, 0, none⟩ : Addr) ≠ ⟨y, 0, none⟩ := by simp [hne]
  have h : ∀ d : Nat, (Op.equalIn (d + 1) 101 (.pointer (some ⟨x, 0, none⟩)) (.pointer (some ⟨y, 0, none⟩))).run Try.prog W = .ok false W := fun d => by
    simp [Op.equalIn, run_underlying Try.underlying101, sizeOf, typeInfo, hj, h0, run_sameAddr_other W hn hx hy]
  simp only [binOp]
  simp [Op.equal, Op.maxDepth, h 9999]
theorem eqp_no (W : World) : (binOp .eql 101 (.pointer none) (.pointer none)).run Try.prog W = .ok (.bool true) W := by kernel_rfl
theorem eqp_yes (x : Nat) (W : World) : (binOp .eql 101 (.pointer (some ⟨x, 0, none⟩)) (.pointer none)).run Try.prog W = .ok (.bool false) W := by kernel_rfl
theorem next_nil (k : HKey) (w : World) : Calls Try.prog 90 #[.pointer none, .agg #[.int .i64 k.1, .int .u64 k.2]] w fun e w' => e = .returned (.tuple #[.agg #[.int .i64 0, .int .u64 0], .bool false]) ∧ Below w.heap.size w w' := by
  have k1 := fun W => link_nil k W
  have q1 := eqp_no
  have t0 : (true = false) = False := by simp
  go_enter Try.func90, Try.ntmps90
  go_upto_region 2 with (go_at_call 85; refine (k1 _).mono ?_; rintro e w' ⟨rfl, hw⟩; rw [hw]; clear hw)
  go_region
  go_wp2
  all_goals go_returns
  all_goals exact ⟨rfl, ((((Below.refl _ w).alloc (Nat.le_refl _) _).alloc (by simp) _).alloc (by simp <;> omega) _).drew⟩
theorem next_any (w : World) (B b m e : Nat) (nx pv : Nat → Nat) (ky : Nat → HKey) (N : List Nat) (h : Ls w B b m e nx pv ky N) (k : HKey) :
    Calls Try.prog 90 #[.pointer (some ⟨b, 0, none⟩), .agg #[.int .i64 k.1, .int .u64 k.2]] w fun e' w' => ∃ o : Option HKey, e' = .returned (.tuple #[(match o with | some y => .agg #[.int .i64 y.1, .int .u64 y.2] | none => .agg #[.int .i64 0, .int .u64 0]), .bool o.isSome]) ∧ ((k ∉ N.map ky ∧ o = none) ∨ ∃ x ∈ N, ky x = k ∧ ((nx x = e ∧ o = none) ∨ (nx x ∈ N ∧ o = some (ky (nx x))))) ∧ Below w.heap.size w w' := by
  have hb2 : Below w.heap.size w ((w.alloc (.cells #[.int .i64 k.1, .int .u64 k.2] 31)).alloc (.cells #[.int .i64 0, .int .u64 0] 31)) := ((Below.refl _ w).alloc (Nat.le_refl _) _).alloc (by simp) _
  have y2 := heap_alloc_new (w.alloc (.cells #[.int .i64 k.1, .int .u64 k.2] 31)) (.cells #[.int .i64 0, .int .u64 0] 31)
  have s2 : (w.alloc (.cells #[.int .i64 k.1, .int .u64 k.2] 31)).heap.size = w.heap.size + 1 := by simp
  have h2 := h.bel hb2
  have k1 := link_any _ B b m e nx pv ky N h2 k
  rw [s2] at y2
  have hy2 : w.heap.size + 1 < ((w.alloc (.cells #[.int .i64 k.1, .int .u64 k.2] 31)).alloc (.cells #[.int .i64 0, .int .u64 0] 31)).heap.size := by simp
  go_enter Try.func90, Try.ntmps90
  go_upto_region 2 with (go_at_call 85; refine k1.mono ?_; rintro e1 w1 ⟨v, rfl, hv, hb3⟩)
  have y1 := (hb3.block _ hy2).trans y2
  have hb1 := hb2.trans (hb3.mono hb2.size)
  have h1 := h.bel hb1
  clear k1 y2 hy2 hb3
  have f0 := froz_of y1 0
  have f1 := froz_of y1 1
  have z0 := cell_of y1 0
  have z1 := cell_of y1 1
  simp at z0 z1
  have hbs : ∀ u v, Below w.heap.size w ((w1.setCell ⟨w.heap.size + 1, 0, none⟩ u).setCell ⟨w.heap.size + 1, 1, none⟩ v).drew := fun u v => ((hb1.setCell (by show w.heap.size ≤ w.heap.size + 1; omega) _).setCell (by show w.heap.size ≤ w.heap.size + 1; omega) _).drew
  rcases hv with ⟨rfl, hv⟩ | ⟨x, hx, hxk, rfl⟩
  · have q1 := eqp_no w1.drew
    have t0 : (true = false) = False := by simp
    obtain ⟨s0, s1, s2, s3⟩ := put2 y1 (.int .i64 0) (.int .u64 0)
    go_region
    go_wp2
    refine bodyPost_ret (by simp [results, Try.results90, go_sem, s0, s1, s2, s3]; try rfl) rfl ?_
    exact ⟨none, rfl, .inl ⟨hv, rfl⟩, hbs _ _⟩
  · have hx1 := h1.lk x (.tail _ hx)
    have x3 := hx1.c3
    have he1 := h1.lk e (.head _)
    obtain ⟨c0, c1⟩ := h1.cB
    have q1 := eqp_yes x w1.drew
    by_cases hne : nx x = e
    · rw [hne] at x3
      have q2 := eqp_same e w1.drew
      obtain ⟨s0, s1, s2, s3⟩ := put2 y1 (.int .i64 0) (.int .u64 0)
      go_region
      go_wp2
      refine bodyPost_ret (by simp [results, Try.results90, go_sem, s0, s1, s2, s3]; try rfl) rfl ?_
      exact ⟨none, rfl, .inr ⟨x, hx, hxk, .inl ⟨hne, rfl⟩⟩, hbs _ _⟩
    · have hnx : nx x ∈ N := by
        have hr := h1.ring
        obtain ⟨j, hj⟩ := List.getElem?_of_mem hx
        have := hr.at (j + 1) x (by simpa using hj)
        have hm := List.mem_of_getElem? this
        rcases List.mem_append.1 hm with hm | hm
        · exact hm
        · simp at hm; exact absurd hm hne
      have hn1 := h1.lk _ (.tail _ hnx)
      have n0 := hn1.c0
      have n1 := hn1.c1
      have q2 := eqp_other (W := w1.drew) hne hn1 he1
      obtain ⟨s0, s1, s2, s3⟩ := put2 y1 (.int .i64 (ky (nx x)).1) (.int .u64 (ky (nx x)).2)
      go_region
      go_wp2
      refine bodyPost_ret (by simp [results, Try.results90, go_sem, s0, s1, s2, s3]; try rfl) rfl ?_
      exact ⟨some (ky (nx x)), rfl, .inr ⟨x, hx, hxk, .inr ⟨hnx, rfl⟩⟩, hbs _ _⟩
end Go.Proofs.Ythgpbbpmfpfjnaa
