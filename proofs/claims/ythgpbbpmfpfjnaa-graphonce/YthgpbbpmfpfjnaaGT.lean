/- Towards the statements of package graph (layer 17): the document's example. -/
import Derived.Test.YthgpbbpmfpfjnaaGS
namespace Go.Proofs.Ythgpbbpmfpfjnaa
open Go.ChangeShapes Go.WideShapes Go.ChangeAt Go.RowKit
set_option linter.unusedVariables false
set_option linter.unusedSimpArgs false
set_option maxRecDepth 20000
abbrev Y0 : Ys := fun _ => none
theorem updY_at (Y : Ys) (p : PKey) (o : Option (Bool × List FKey)) : updY Y p o p = o := if_pos rfl
theorem updY_ne (Y : Ys) {p q : PKey} (o : Option (Bool × List FKey)) (h : q ≠ p) : updY Y p o q = Y q := if_neg h
theorem not_there0 (f : FKey) : ¬ There Y0 f := by rintro ⟨q, y, h, _⟩; cases h
theorem there1 {p : PKey} {tr : Bool} {L : List FKey} {f : FKey} : There (updY Y0 p (some (tr, L))) f ↔ f ∈ L := by
  constructor
  · rintro ⟨q, y, h, hf⟩
    by_cases e : q = p
    · subst e; rw [updY_at] at h; cases h; exact hf
    · rw [updY_ne _ _ e] at h; cases h
  · intro hf; exact ⟨p, _, updY_at _ _ _, hf⟩
theorem e_push0 (p : PKey) (f : FKey) (q : Bool) : pushY Y0 p f q = (0, updY Y0 p (some (false, [f]))) := by
  unfold pushY; rw [if_neg (not_there0 f)]
theorem e_ins0 (p : PKey) (f : FKey) : insY Y0 p 0 f = (0, updY Y0 p (some (true, [f]))) := by
  unfold insY; rw [if_neg (not_there0 f)]; rfl
theorem e_ins3 (p : PKey) (f k : FKey) (h : k ≠ f) : insY (updY Y0 p (some (false, [f]))) p 0 k = (3, updY Y0 p (some (false, [f]))) := by
  unfold insY
  rw [if_neg (by rw [there1]; simpa using h), updY_at]
  simp
theorem e_push7 (p : PKey) (f : FKey) (q : Bool) : pushY (updY Y0 p (some (false, [f]))) p f q = (7, updY Y0 p (some (false, [f]))) := by
  unfold pushY
  rw [if_pos (there1.2 (by simp))]
theorem e_peek (p : PKey) (f : FKey) (q : Bool) : peekY (updY Y0 p (some (false, [f]))) p q = some f := by
  unfold peekY
  rw [updY_at]
  cases q <;> rfl
theorem e_pop (p : PKey) (f : FKey) (q : Bool) : popY (updY Y0 p (some (false, [f]))) p q = Y0 := by
  unfold popY
  rw [e_peek]
  unfold cutY
  simp only [updY_at]
  funext r
  unfold updY
  split
  · simp
  · rfl
theorem e_kind0 (p : PKey) : kindY Y0 p = 0 := rfl
theorem e_kind2 (p : PKey) (L : List FKey) : kindY (updY Y0 p (some (true, L))) p = 2 := by
  unfold kindY; rw [updY_at]; rfl
theorem Gi.alloc' {w : World} {B g N : Nat} {Y : Ys} {A : Nat → Prop} (h : Gi w B g N Y A) (o : Obj) : Gi (w.alloc o) B g N Y A := h.bel ((Below.refl _ w).alloc (Nat.le_refl _) _)
theorem in1 (w : World) (B g N : Nat) (A : Nat → Prop) (p : PKey) (f : FKey) (h : Gi w B g N (updY Y0 p (some (false, [f]))) A) :
    Calls Try.prog 14 #[.pointer (some ⟨g, 0, none⟩), hK2 f.1, .int .i64 f.2] w fun e w' => e = .returned (.tuple #[pK p, .bool true]) ∧ Below w.heap.size w w' := by
  obtain ⟨q, b, hqb, k⟩ := gi_in w B g N _ A h f
  rcases hqb with ⟨rfl, y, hy, _⟩ | ⟨_, _, hn⟩
  · by_cases e : q = p
    · subst e; exact k
    · rw [updY_ne _ _ e] at hy; cases hy
  · exact absurd (there1.2 (by simp)) hn
def pW : PKey := (1, 2, 8)
def fW (n : Nat) : FKey := (((n : Int), 1), 0)
/-- A call of one, then one of a graph. -/
theorem FG.box {B : Nat} {A A' : Nat → Prop} {w w' : World} (h : FG B A A' w w') {b : Nat} {o : Obj} (e : w.heap[b]? = some o) (hn : ¬ A b) : w'.heap[b]? = some o := (h.keep b (heap_lt e) hn).trans e
theorem FG.nobox {B : Nat} {A A' : Nat → Prop} {w w' : World} (h : FG B A A' w w') {b : Nat} {o : Obj} (e : w.heap[b]? = some o) (hn : ¬ A b) : ¬ A' b := fun q => (h.sub b q).elim hn (fun c => by have := heap_lt e; omega)
set_option maxHeartbeats 4000000 in
theorem works_any (w : World) : Calls Try.prog 7 #[] w fun e w' => e = .returned (.bool true) ∧ Below w.heap.size w w' := by
  have k1 := gnew_any w
  generalize hB0 : w.heap.size = B at k1 ⊢
  go_enter Try.func7, Try.ntmps7
  go_upto_region 3 with (go_at_call 8; refine k1.mono ?_; rintro e w1 ⟨g, A1, rfl, h1, hb1⟩)
  have h2 := h1.bel ((Below.refl _ w1).alloc (Nat.le_refl _) (.cells #[.int .i64 1, .int .i64 2, .int .i64 8] 28))
  have y2 := heap_alloc_new w1 (.cells #[.int .i64 1, .int .i64 2, .int .i64 8] 28)
  have n2 : ¬ A1 w1.heap.size := fun q => by have := (h1.lt _ q).2; omega
  have e2 : Below B w (w1.alloc (.cells #[.int .i64 1, .int .i64 2, .int .i64 8] 28)) := hb1.alloc h1.size _
  clear k1 h1 hb1
  generalize w1.alloc (.cells #[.int .i64 1, .int .i64 2, .int .i64 8] 28) = w2 at h2 y2 e2 ⊢
  generalize w1.heap.size = b2 at y2 n2 ⊢
  obtain ⟨d0, d1, d2⟩ := pl_cells (p := pW) y2
  simp only [pW] at d0 d1 d2
  go_cut [3] (fun n wx => n = .int .i64 0 ∧ ∃ A', Gi wx B g 1 (updY Y0 pW (some (false, [fW 1]))) A' ∧ wx.heap[b2]? = some (.cells #[.int .i64 1, .int .i64 2, .int .i64 8] 28 (0, 0)) ∧ ¬ A' b2 ∧ Below B w wx)
  case first =>
    go_region_held3 (fun w' => w'.cell? ⟨b2, 0, none⟩ = some (.int .i64 1) ∧ w'.cell? ⟨b2, 1, none⟩ = some (.int .i64 2) ∧ w'.cell? ⟨b2, 2, none⟩ = some (.int .i64 8)) ((refine ⟨?_, ?_, ?_⟩ <;> repeat (with_reducible (first | assumption | apply cell_dr)))) (first
      | (go_at_call 18; refine (one_any 1 (by omega) _).mono ?_; rintro e w3 ⟨rfl, hb3⟩; have y3 := (hb3.block _ (heap_lt y2)).trans y2; obtain ⟨u0, u1, u2⟩ := pl_cells (p := pW) y3; simp only [pW] at u0 u1 u2; have h3 := h2.bel (Below.trans (Below.refl _ _).drew hb3); have k3 := gpush_any w3 B g 0 _ _ h3 (by omega) pW (fW 1) false; rw [e_push0] at k3)
      | (go_at_call 9; go_loud (refine k3.mono ?_; rintro e w4 ⟨rfl, A4, h4, hF4⟩; have y4 := hF4.box y3 n2; have n4 := hF4.nobox y3 n2; obtain ⟨v0, v1, v2⟩ := pl_cells (p := pW) y4; simp only [pW] at v0 v1 v2)))
    all_goals go_wp2_with fail
    all_goals go_meet
    all_goals exact ⟨rfl, A4, h4, y4, n4, (e2.drew.trans (hb3.mono h2.size)).trans hF4.bel⟩
  case rest =>
  obtain ⟨rfl, A', hn', yn', nn', en'⟩ := hcut
  clear h2 y2 n2 e2 d0 d1 d2
  have h2 := hn'; have y2 := yn'; have n2 := nn'; have e2 := en'
  clear hn' yn' nn' en'
  obtain ⟨d0, d1, d2⟩ := pl_cells (p := pW) y2
  simp only [pW] at d0 d1 d2
  go_upto_region 4 with fail
  go_cut [4] (fun n wx => n = .int .i64 3 ∧ ∃ A', Gi wx B g 2 (updY Y0 pW (some (false, [fW 1]))) A' ∧ wx.heap[b2]? = some (.cells #[.int .i64 1, .int .i64 2, .int .i64 8] 28 (0, 0)) ∧ ¬ A' b2 ∧ Below B w wx)
  case first =>
    go_region_held3 (fun w' => w'.cell? ⟨b2, 0, none⟩ = some (.int .i64 1) ∧ w'.cell? ⟨b2, 1, none⟩ = some (.int .i64 2) ∧ w'.cell? ⟨b2, 2, none⟩ = some (.int .i64 8)) ((refine ⟨?_, ?_, ?_⟩ <;> repeat (with_reducible (first | assumption | apply cell_dr)))) (first
      | (go_at_call 18; refine (one_any 2 (by omega) _).mono ?_; rintro e w3 ⟨rfl, hb3⟩; have y3 := (hb3.block _ (heap_lt y2)).trans y2; obtain ⟨u0, u1, u2⟩ := pl_cells (p := pW) y3; simp only [pW] at u0 u1 u2; have h3 := h2.bel (Below.trans (Below.refl _ _).drew hb3); have k3 := gins_any w3 B g 1 _ _ h3 (by omega) pW 0 (fW 2); rw [e_ins3 _ _ _ (by decide)] at k3)
      | (go_at_call 10; go_loud (refine k3.mono ?_; rintro e w4 ⟨rfl, A4, h4, hF4⟩; have y4 := hF4.box y3 n2; have n4 := hF4.nobox y3 n2; obtain ⟨v0, v1, v2⟩ := pl_cells (p := pW) y4; simp only [pW] at v0 v1 v2)))
    all_goals go_wp2_with fail
    all_goals go_meet
    all_goals exact ⟨rfl, A4, h4, y4, n4, (e2.drew.trans (hb3.mono h2.size)).trans hF4.bel⟩
  case rest =>
  obtain ⟨rfl, A', hn', yn', nn', en'⟩ := hcut
  clear h2 y2 n2 e2 d0 d1 d2
  have h2 := hn'; have y2 := yn'; have n2 := nn'; have e2 := en'
  clear hn' yn' nn' en'
  obtain ⟨d0, d1, d2⟩ := pl_cells (p := pW) y2
  simp only [pW] at d0 d1 d2
  go_upto_region 6 with (first
    | (go_at_call 18; refine (one_any 1 (by omega) _).mono ?_; rintro e w3 ⟨rfl, hb3⟩; have h3 := h2.bel hb3; have k3 := in1 w3 B g 2 _ pW (fW 1) h3; simp only [pK, P.hK, pW] at k3)
    | (go_at_call 14; go_loud (refine k3.mono ?_; rintro e w4 ⟨rfl, hb4⟩)))
  have h5 := (h3.bel hb4).alloc' (.cells #[.int .i64 1, .int .i64 2, .int .i64 8] 28)
  have y5 := heap_al ((hb4.block _ (by have := heap_lt y2; have := hb3.size; omega)).trans ((hb3.block _ (heap_lt y2)).trans y2)) (.cells #[.int .i64 1, .int .i64 2, .int .i64 8] 28)
  have q5 := heap_alloc_new w4 (.cells #[.int .i64 1, .int .i64 2, .int .i64 8] 28)
  have e5 : Below B w (w4.alloc (.cells #[.int .i64 1, .int .i64 2, .int .i64 8] 28)) := ((e2.trans (hb3.mono h2.size)).trans (hb4.mono h3.size)).alloc (h3.bel hb4).size _
  have nq : ¬ A' w4.heap.size := fun q => by have := ((h3.bel hb4).lt _ q).2; omega
  clear k3 h3 hb3 hb4 h2 y2 e2 d0 d1 d2
  generalize w4.alloc (.cells #[.int .i64 1, .int .i64 2, .int .i64 8] 28) = w5 at h5 y5 q5 e5 ⊢
  generalize w4.heap.size = b5 at q5 nq ⊢
  have h2 := h5; have y2 := y5; have e2 := e5
  clear h5 y5 e5
  obtain ⟨d0, d1, d2⟩ := pl_cells (p := pW) y2
  simp only [pW] at d0 d1 d2
  go_cut [7] (fun n wx => n = .int .i64 7 ∧ ∃ A', Gi wx B g 3 (updY Y0 pW (some (false, [fW 1]))) A' ∧ wx.heap[b2]? = some (.cells #[.int .i64 1, .int .i64 2, .int .i64 8] 28 (0, 0)) ∧ ¬ A' b2 ∧ wx.heap[b5]? = some (.cells #[.int .i64 1, .int .i64 2, .int .i64 8] 28 (0, 0)) ∧ ¬ A' b5 ∧ Below B w wx)
  case first =>
    go_region_held3 (fun w' => w'.cell? ⟨b2, 0, none⟩ = some (.int .i64 1) ∧ w'.cell? ⟨b2, 1, none⟩ = some (.int .i64 2) ∧ w'.cell? ⟨b2, 2, none⟩ = some (.int .i64 8)) ((refine ⟨?_, ?_, ?_⟩ <;> repeat (with_reducible (first | assumption | apply cell_dr)))) (first
      | (go_at_call 18; refine (one_any 1 (by omega) _).mono ?_; rintro e w3 ⟨rfl, hb3⟩; have y3 := (hb3.block _ (heap_lt y2)).trans y2; obtain ⟨u0, u1, u2⟩ := pl_cells (p := pW) y3; simp only [pW] at u0 u1 u2; have h3 := h2.bel (Below.trans (Below.refl _ _).drew hb3); have k3 := gpush_any w3 B g 2 _ _ h3 (by omega) pW (fW 1) true; rw [e_push7 _ _ _] at k3)
      | (go_at_call 9; go_loud (refine k3.mono ?_; rintro e w4 ⟨rfl, A4, h4, hF4⟩; have y4 := hF4.box y3 n2; have n4 := hF4.nobox y3 n2; obtain ⟨v0, v1, v2⟩ := pl_cells (p := pW) y4; simp only [pW] at v0 v1 v2)))
    all_goals go_wp2_with fail
    all_goals go_meet
    all_goals exact ⟨rfl, A4, h4, y4, n4, hF4.box ((hb3.block _ (heap_lt q5)).trans q5) nq, hF4.nobox ((hb3.block _ (heap_lt q5)).trans q5) nq, (e2.drew.trans (hb3.mono h2.size)).trans hF4.bel⟩
  case rest =>
  obtain ⟨rfl, A', hn', yn', nn', q5', nq', en'⟩ := hcut
  clear h2 y2 n2 e2 d0 d1 d2
  have h2 := hn'; have y2 := yn'; have n2 := nn'; have e2 := en'
  clear hn' yn' nn' en'
  obtain ⟨d0, d1, d2⟩ := pl_cells (p := pW) y2
  simp only [pW] at d0 d1 d2
  have k7 := gpop_any _ B g 3 _ _ h2 pW true
  rw [e_peek, e_pop] at k7
  simp only [Option.map_some, Option.isSome_some] at k7
  rw [show oV (some (fW 1).1) = .agg #[.int .i64 1, .int .u64 1] from rfl] at k7
  go_upto_region 8 with (go_at_call 11; go_loud (refine k7.mono ?_; rintro e w8 ⟨rfl, A8, h8, hF8⟩))
  have y8 := heap_al (hF8.box y2 n2) (.cells #[.int .i64 1, .int .u64 1] 31)
  have q8 := heap_al (hF8.box q5' nq') (.cells #[.int .i64 1, .int .u64 1] 31)
  have x8 := heap_alloc_new w8 (.cells #[.int .i64 1, .int .u64 1] 31)
  have h9 := h8.alloc' (.cells #[.int .i64 1, .int .u64 1] 31)
  have n9 := hF8.nobox y2 n2
  have nq9 := hF8.nobox q5' nq'
  have nx9 : ¬ A8 w8.heap.size := fun q => by have := (h8.lt _ q).2; omega
  have e9 : Below B w (w8.alloc (.cells #[.int .i64 1, .int .u64 1] 31)) := (e2.trans hF8.bel).alloc h8.size _
  clear k7 h8 hF8 h2 y2 e2 d0 d1 d2 q5' nq' n2 q5 nq
  generalize w8.alloc (.cells #[.int .i64 1, .int .u64 1] 31) = w9 at y8 q8 x8 h9 e9 ⊢
  generalize w8.heap.size = b8 at x8 nx9 ⊢
  have cs : ∀ W : World, W.heap[b2]? = some (.cells #[.int .i64 1, .int .i64 2, .int .i64 8] 28 (0, 0)) → W.heap[b5]? = some (.cells #[.int .i64 1, .int .i64 2, .int .i64 8] 28 (0, 0)) → W.heap[b8]? = some (.cells #[.int .i64 1, .int .u64 1] 31 (0, 0)) → W.cell? ⟨b2, 0, none⟩ = some (.int .i64 1) ∧ W.cell? ⟨b2, 1, none⟩ = some (.int .i64 2) ∧ W.cell? ⟨b2, 2, none⟩ = some (.int .i64 8) ∧ W.cell? ⟨b5, 0, none⟩ = some (.int .i64 1) ∧ W.cell? ⟨b5, 1, none⟩ = some (.int .i64 2) ∧ W.cell? ⟨b5, 2, none⟩ = some (.int .i64 8) ∧ W.cell? ⟨b8, 0, none⟩ = some (.int .i64 1) ∧ W.cell? ⟨b8, 1, none⟩ = some (.int .u64 1) := by
    intro W a b c
    refine ⟨?_, ?_, ?_, ?_, ?_, ?_, ?_, ?_⟩
    · rw [cell_of a]; rfl
    · rw [cell_of a]; rfl
    · rw [cell_of a]; rfl
    · rw [cell_of b]; rfl
    · rw [cell_of b]; rfl
    · rw [cell_of b]; rfl
    · rw [cell_of c]; rfl
    · rw [cell_of c]; rfl
  obtain ⟨a0, a1, a2, a3, a4, a5, a6, a7⟩ := cs _ y8 q8 x8
  have q1 := P.eqlP pW pW
  simp only [decide_true, P.hK, pW] at q1
  have q2 := fun W => eqlH 1 1 1 1 W
  simp only [beq_self_eq_true, Bool.and_self] at q2
  try simp only [List.append_eq, List.cons_append, List.nil_append]
  go_region_held3 (fun w' => w'.cell? ⟨b2, 0, none⟩ = some (.int .i64 1) ∧ w'.cell? ⟨b2, 1, none⟩ = some (.int .i64 2) ∧ w'.cell? ⟨b2, 2, none⟩ = some (.int .i64 8) ∧ w'.cell? ⟨b5, 0, none⟩ = some (.int .i64 1) ∧ w'.cell? ⟨b5, 1, none⟩ = some (.int .i64 2) ∧ w'.cell? ⟨b5, 2, none⟩ = some (.int .i64 8) ∧ w'.cell? ⟨b8, 0, none⟩ = some (.int .i64 1) ∧ w'.cell? ⟨b8, 1, none⟩ = some (.int .u64 1)) ((refine ⟨?_, ?_, ?_, ?_, ?_, ?_, ?_, ?_⟩ <;> repeat (with_reducible (first | assumption | apply cell_dr)))) (first
    | (go_at_call_of 18 (Value.int .u8 1); refine (one_any 1 (by omega) _).mono ?_; rintro e wA ⟨rfl, hbA⟩; have yA := (hbA.block _ (heap_lt y8)).trans y8; have qA := (hbA.block _ (heap_lt q8)).trans q8; have xA := (hbA.block _ (heap_lt x8)).trans x8; obtain ⟨b0, b1, b2', b3, b4, b5', b6, b7⟩ := cs _ yA qA xA; have hA := h9.bel (Below.trans (Below.refl _ _).drew hbA); have kA := gi_kind wA B g 3 _ _ hA pW; rw [e_kind0] at kA; simp only [pK, P.hK, pW] at kA)
    | (go_at_call_of 19 (Value.agg #[.int .i64 1, .int .i64 2, .int .i64 8]); first
        | (refine kA.mono ?_; rintro e wB ⟨rfl, hbB⟩; have yB := (hbB.block _ (heap_lt yA)).trans yA; have qB := (hbB.block _ (heap_lt qA)).trans qA; have xB := (hbB.block _ (heap_lt xA)).trans xA; obtain ⟨c0, c1, c2, c3, c4, c5, c6, c7⟩ := cs _ yB qB xB; have hB := hA.bel hbB)
        | (refine kE.mono ?_; rintro e wF ⟨rfl, hbF⟩; have yF := (hbF.block _ (heap_lt yD)).trans yD; have qF := (hbF.block _ (heap_lt qD)).trans qD; have xF := (hbF.block _ (heap_lt xD)).trans xD; obtain ⟨r0, r1, r2, r3, r4, r5, r6, r7⟩ := cs _ yF qF xF))
    | (go_at_call_of 18 (Value.int .u8 2); refine (one_any 2 (by omega) _).mono ?_; rintro e wC ⟨rfl, hbC⟩; have yC := (hbC.block _ (heap_lt yB)).trans yB; have qC := (hbC.block _ (heap_lt qB)).trans qB; have xC := (hbC.block _ (heap_lt xB)).trans xB; obtain ⟨m0, m1, m2, m3, m4, m5, m6, m7⟩ := cs _ yC qC xC; have hC := hB.bel hbC; have kC := gins_any wC B g 3 _ _ hC (by omega) pW 0 (fW 2); rw [e_ins0] at kC; simp only [pK, P.hK, pW] at kC)
    | (go_at_call 10; refine kC.mono ?_; rintro e wD ⟨rfl, AD, hD, hFD⟩; have yD := hFD.box yC n9; have qD := hFD.box qC nq9; have xD := hFD.box xC nx9; obtain ⟨o0, o1', o2', o3, o4, o5, o6, o7⟩ := cs _ yD qD xD; have kE := gi_kind wD B g 4 _ _ hD pW; rw [show ((1, 2, 8) : PKey) = pW from rfl, e_kind2] at kE; simp only [pK, P.hK, pW] at kE))
  go_wp2
  all_goals go_returns
  all_goals exact ⟨rfl, ((((e9.drew.trans (hbA.mono h9.size)).trans (hbB.mono hA.size)).trans (hbC.mono hB.size)).trans hFD.bel).trans (hbF.mono hD.size)⟩
end Go.Proofs.Ythgpbbpmfpfjnaa
