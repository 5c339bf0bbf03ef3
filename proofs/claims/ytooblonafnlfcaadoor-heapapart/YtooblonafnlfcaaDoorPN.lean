/- Towards HeapApart: both heaps, behind each call of one of them. -/
import Derived.Test.YtooblonafnlfcaaDoorPM
namespace Go.Proofs.YtooblonafnlfcaaDoor
open Go.ChangeShapes Go.WideShapes Go.ChangeAt Go.RowKit
set_option linter.unusedVariables false
set_option linter.unusedSimpArgs false
set_option maxRecDepth 20000
/-- All that is there and not Y's. -/
def YL (Y : Nat → Prop) (w : World) : Nat → Prop := fun k => k < w.heap.size ∧ ¬ Y k
/-- A heap in whose slot 0 an object is, held by c, with these bytes. -/
def Hz (Yo : Nat → Prop) (w : World) (B : Nat) (q : HQ) (n : Nat) (c : Int) (bs : List Int) : Prop := ∃ used N M ns A K, Hp Yo w B q 65536 used N M ns A K n ∧ M 0 = some ⟨1, c, 3, bs⟩
structure Ap (Y : Nat → Prop) (w : World) (B B2 : Nat) (qx qy : HQ) (n : Nat) (cx cy : Int) (bs : List Int) : Prop where
  x : Hz Y w B qx n cx bs
  y : Hz (YL Y w) w B2 qy n cy bs
  tab : Tab w
  le : B ≤ B2
  pos : 0 < B
/-- Whatever is neither bytes, rows, objects nor a slab is kept. -/
def Kp (B : Nat) (w w' : World) : Prop := Below B w w' ∧ ∀ (z : Nat) (cs : Array Value) (t : TypeId) (x : Nat × Nat), w.heap[z]? = some (.cells cs t x) → (t ≠ 124 ∧ t ≠ 5 ∧ t ≠ 87 ∧ t ≠ 100) → w'.heap[z]? = some (.cells cs t x)
theorem Hz.far {Y Y' : Nat → Prop} {w w' : World} {B : Nat} {q : HQ} {n : Nat} {c : Int} {bs : List Int} (h : Hz Y w B q n c bs) (hk : ∀ k, k < w.heap.size → ¬ Y k → w'.heap[k]? = w.heap[k]?) (hY : ∀ k, Y' k → k < w'.heap.size) (hd : ∀ k, k < w.heap.size → ¬ Y k → ¬ Y' k) : Hz Y' w' B q n c bs := by
  obtain ⟨u, N, M, ns, A, K, h1, h2⟩ := h
  exact ⟨u, N, M, ns, A, K, h1.far hk hY hd, h2⟩
theorem Hz.bdd {Y : Nat → Prop} {w : World} {B : Nat} {q : HQ} {n : Nat} {c : Int} {bs : List Int} (h : Hz Y w B q n c bs) : (∀ k, Y k → k < w.heap.size) ∧ B ≤ w.heap.size := by
  obtain ⟨u, N, M, ns, A, K, h1, h2⟩ := h
  exact ⟨h1.sl.off.1, h1.size⟩
theorem Hz.more {Y : Nat → Prop} {w : World} {B : Nat} {q : HQ} {n n' : Nat} {c : Int} {bs : List Int} (h : Hz Y w B q n c bs) (e : n ≤ n') (hn : n' ≤ 90000) : Hz Y w B q n' c bs := by
  obtain ⟨u, N, M, ns, A, K, h1, h2⟩ := h
  exact ⟨u, N, M, ns, A, K, h1.more e hn, h2⟩
/-- The other heap, beside a call of the first. -/
theorem Hz.beside {Y : Nat → Prop} {w w' : World} {B : Nat} {q : HQ} {n : Nat} {c : Int} {bs : List Int} (h : Hz (YL Y w) w B q n c bs) (hk : ∀ k, k < w.heap.size → Y k → w'.heap[k]? = w.heap[k]?) : Hz (YL Y w') w' B q n c bs :=
  h.far (fun k hl hn => hk k hl (Classical.byContradiction fun e => hn ⟨hl, e⟩)) (fun k e => e.1) (fun k hl hn e => hn ⟨hl, e.2⟩)
theorem Ap.below {Y : Nat → Prop} {w w' : World} {B B2 : Nat} {qx qy : HQ} {n n' : Nat} {cx cy : Int} {bs : List Int} (h : Ap Y w B B2 qx qy n cx cy bs) (hb : Below w.heap.size w w') (e : n ≤ n') (hn : n' ≤ 90000) : Ap Y w' B B2 qx qy n' cx cy bs :=
  ⟨(h.x.far (fun k hl _ => hb.block k hl) (fun k hk => Nat.lt_of_lt_of_le (h.x.bdd.1 k hk) hb.size) (fun k _ hn => hn)).more e hn, (h.y.beside fun k hl _ => hb.block k hl).more e hn, h.tab.gr (B := w.heap.size) (by have := h.x.bdd.2; have := h.pos; omega) hb, h.le, h.pos⟩
theorem Kp.of {B : Nat} {w w' : World} (h : Below w.heap.size w w') (hB : B ≤ w.heap.size) : Kp B w w' := ⟨h.mono hB, fun z cs t x e _ => (h.block _ (heap_lt e)).trans e⟩
theorem Kp.trans {B : Nat} {w0 w1 w2 : World} (h : Kp B w0 w1) (k : Kp B w1 w2) : Kp B w0 w2 := ⟨h.1.trans k.1, fun z cs t x e ht => k.2 z cs t x (h.2 z cs t x e ht) ht⟩
/-- Behind a call of the first heap. -/
theorem Ap.callX {Y : Nat → Prop} {w w' : World} {B B2 : Nat} {qx qy : HQ} {n n' : Nat} {cx cx' cy : Int} {bs : List Int} (h : Ap Y w B B2 qx qy n cx cy bs) {room used : Int} {N : Int → Nat} {M : MJ} {ns : Nat} {A K : Nat → Nat} {m : Nat} (hp : Hp Y w B qx room used N M ns A K m) (hF : Fq Y B qx w w') (hx : Hz Y w' B qx n' cx' bs) (e : n ≤ n') (hn : n' ≤ 90000) :
    Ap Y w' B B2 qx qy n' cx' cy bs ∧ Kp B w w' :=
  ⟨⟨hx, (h.y.beside fun k hl hk => hF.far k hk hl).more e hn, h.tab.gr h.pos hF.bel, h.le, h.pos⟩, hF.bel, fun z cs t x e ht => hF.atT hp e ht⟩
theorem apx_make {Y : Nat → Prop} (w : World) (B B2 : Nat) (qx qy : HQ) (n : Nat) (cx cy : Int) (bs : List Int) (h : Ap Y w B B2 qx qy n cx cy bs) (a : Int) (hn : n + 1 ≤ 90000) :
    Calls Tryd.prog 13 #[.pointer (some ⟨qx.b, 0, none⟩), .int .i64 a, .int .i64 16] w fun e w' => (∃ (s : Int) (g : Nat) (r : Int), e = .returned (.tuple #[.agg #[.int .i64 s, .int .u64 g], .int .i64 r]) ∧ ¬ (s = 0 ∧ g = 1)) ∧ Ap Y w' B B2 qx qy (n + 1) cx cy bs ∧ Kp B w w' := by
  obtain ⟨u, N, M, ns, A, K, h1, h2⟩ := h.x
  by_cases hf : 65536 < u + clsM ((16 : Nat) : Int)
  · refine (make_full w B qx 65536 u N M ns A K n h1 h.tab h.pos a 16 (by decide) hf).mono fun e w' ⟨e1, e2, e3⟩ => ⟨⟨0, 0, 6, e1, fun q => absurd q.2 (by decide)⟩, ?_⟩
    exact h.callX h1 e3 ⟨u, N, M, ns, A, K, e2.more (Nat.le_succ _) hn, h2⟩ (Nat.le_succ _) hn
  · refine (hmake_ok w B qx 65536 u N M ns A K n h1 h.tab h.pos a 16 (by omega) (by omega) hn).mono fun e w' ⟨k, e1, e2, e3, ⟨ns', A', K', e4⟩, e5⟩ => ⟨⟨k, N k + 1, 0, e1, fun q => ?_⟩, ?_⟩
    · obtain rfl : k = 0 := by omega
      rw [h2] at e2
      cases e2
    · refine h.callX h1 e5 ⟨_, _, _, ns', A', K', e4, ?_⟩ (Nat.le_succ _) hn
      rw [updM_ne _ _ (fun q => by subst q; rw [h2] at e2; cases e2)]
      exact h2
theorem apx_does {Y : Nat → Prop} (w : World) (B B2 : Nat) (qx qy : HQ) (n : Nat) (cx cy : Int) (bs : List Int) (h : Ap Y w B B2 qx qy n cx cy bs) (hn : n + 1 ≤ 90000) (r : Nat) (u v : Value) (hr : w.heap[r]? = some (.cells #[u, v, .slice none 0 0] 50 (0, 0))) (x : Sp) (hx : SpOk x) (s : Int) (g : Nat) (hne : ¬ (s = 0 ∧ g = 1)) :
    Calls Tryd.prog 15 #[.pointer (some ⟨qx.b, 0, none⟩), .pointer (some ⟨r, 0, none⟩), spV x, .agg #[.int .i64 s, .int .u64 g]] w fun e w' => (∃ b : Bool, e = .returned (.bool b)) ∧ Ap Y w' B B2 qx qy (n + 1) cx cy bs ∧ Kp B w w' := by
  obtain ⟨us, N, M, ns, A, K, h1, h2⟩ := h.x
  have h1' := h1.more (Nat.le_succ n) hn
  have hc : ctM M s g + 1 ≤ ((n + 1 : Nat) : Int) := by
    cases hL : liveB M s g with
    | false => simp [ctM, hL]; omega
    | true =>
      obtain ⟨k, o, rfl, hM, rfl⟩ := live_at hL
      rw [ct_live hM]
      have := (h1.ow.ob k o hM).2.2.2.1
      omega
  refine (does_any w B qx 65536 us N M ns A K (n + 1) h1' h.tab h.pos r u v hr x hx s g hc).mono fun e w' ⟨e1, u', M', e2, e3, e4⟩ => ⟨e1, ?_⟩
  exact h.callX h1 e3 ⟨u', N, M', ns, A, K, e2, e4 _ h2 hne⟩ (Nat.le_succ _) hn
theorem apx_hold {Y : Nat → Prop} (w : World) (B B2 : Nat) (qx qy : HQ) (n : Nat) (cx cy : Int) (bs : List Int) (h : Ap Y w B B2 qx qy n cx cy bs) (hn : n + 1 ≤ 90000) :
    Calls Tryd.prog 23 #[.pointer (some ⟨qx.b, 0, none⟩), .agg #[.int .i64 0, .int .u64 1]] w fun e w' => e = .returned (.tuple #[.int .i64 (cx + 1), .int .i64 0]) ∧ Ap Y w' B B2 qx qy (n + 1) (cx + 1) cy bs ∧ Kp B w w' := by
  obtain ⟨us, N, M, ns, A, K, h1, h2⟩ := h.x
  have := (h1.ow.ob 0 _ h2).2.2.2.1
  refine (hold_ok w B qx 65536 us N M ns A K (n + 1) (h1.more (Nat.le_succ n) hn) 0 _ h2 (by simp only at this ⊢; omega)).mono fun e w' ⟨e1, e2, e3⟩ => ⟨e1, ?_⟩
  exact h.callX h1 e3 ⟨us, N, _, ns, A, K, e2, updM_self _ _ _⟩ (Nat.le_succ _) hn
def dcC (c : Int) : Int := if c = 0 then 0 else c - 1
def dcE (c : Int) : Int := if c = 0 then 3 else 0
theorem apx_drop {Y : Nat → Prop} (w : World) (B B2 : Nat) (qx qy : HQ) (n : Nat) (cx cy : Int) (bs : List Int) (h : Ap Y w B B2 qx qy n cx cy bs) (hn : n ≤ 90000) :
    Calls Tryd.prog 24 #[.pointer (some ⟨qx.b, 0, none⟩), .agg #[.int .i64 0, .int .u64 1]] w fun e w' => e = .returned (.tuple #[.int .i64 (dcC cx), .int .i64 (dcE cx)]) ∧ Ap Y w' B B2 qx qy n (dcC cx) cy bs ∧ Kp B w w' := by
  obtain ⟨us, N, M, ns, A, K, h1, h2⟩ := h.x
  have hc := (h1.ow.ob 0 _ h2).2.2.1
  by_cases hz : cx = 0
  · subst hz
    exact (hdrop_zero w B qx 65536 us N M ns A K n h1 0 _ h2 rfl).mono fun e w' ⟨e1, e2⟩ => ⟨e1, h.below e2 (Nat.le_refl _) hn, Kp.of e2 h1.size⟩
  · rw [show dcC cx = cx - 1 by simp [dcC, hz], show dcE cx = 0 by simp [dcE, hz]]
    refine (hdrop_ok w B qx 65536 us N M ns A K n h1 0 _ h2 (by simp only at hc ⊢; omega)).mono fun e w' ⟨e1, e2, e3⟩ => ⟨e1, ?_⟩
    exact h.callX h1 e3 ⟨us, N, _, ns, A, K, e2, updM_self _ _ _⟩ (Nat.le_refl _) hn
/-- A count of the second heap is set. -/
theorem Ap.setY {Y : Nat → Prop} {w w1 : World} {B B2 : Nat} {qx qy : HQ} {n n' : Nat} {cx cy c : Int} {bs : List Int} (h : Ap Y w B B2 qx qy n cx cy bs) {us : Int} {N : Int → Nat} {M : MJ} {ns : Nat} {A K : Nat → Nat} (h1 : Hp (YL Y w) w B2 qy 65536 us N M ns A K n) (h2 : M 0 = some ⟨1, cy, 3, bs⟩) (hc : 0 ≤ c ∧ c ≤ n') (hb : Below w.heap.size w w1) (e : n ≤ n') (hn : n' ≤ 90000) :
    Ap Y (w1.setCell ⟨A 0, 0, none⟩ (.int .i64 c)) B B2 qx qy n' cx c bs ∧ Kp B w (w1.setCell ⟨A 0, 0, none⟩ (.int .i64 c)) := by
  have hw1 : (w1.setCell ⟨A 0, 0, none⟩ (.int .i64 c)).heap.size = w1.heap.size := by simp
  obtain ⟨p1, p2, p3⟩ := setO_far (Yo' := YL Y w1) (h1.more e hn) h2 hc hb (fun k e => e.1) (fun k hl hn e => hn ⟨hl, e.2⟩)
  obtain ⟨a1, a2, -, -, a5⟩ := h1.ow.ob 0 _ h2
  have hY0 : Y (A 0) := Classical.byContradiction fun e => a5 ⟨heap_lt a2, e⟩
  have hy : Hz (YL Y (w1.setCell ⟨A 0, 0, none⟩ (.int .i64 c))) (w1.setCell ⟨A 0, 0, none⟩ (.int .i64 c)) B2 qy n' c bs := by
    have : YL Y (w1.setCell ⟨A 0, 0, none⟩ (.int .i64 c)) = YL Y w1 := by funext k; unfold YL; rw [hw1]
    rw [this]
    exact ⟨us, N, _, ns, A, K, p1, updM_self _ _ _⟩
  have hB : B ≤ w.heap.size := h.x.bdd.2
  refine ⟨⟨(h.x.far (fun k hl hk => p3 k hl (by rintro rfl; exact hk hY0)) (fun k hk => by have := h.x.bdd.1 k hk; have := hb.size; omega) (fun k _ hn => hn)).more e hn, hy, h.tab.gr (B := B2) (by have := h.le; have := h.pos; omega) p2, h.le, h.pos⟩, p2.mono h.le, fun z cs t x e ht => (p3 z (heap_lt e) ?_).trans e⟩
  rintro rfl
  rw [a2] at e
  cases e
  exact ht.2.2.1 rfl
theorem apy_hold {Y : Nat → Prop} (w : World) (B B2 : Nat) (qx qy : HQ) (n : Nat) (cx cy : Int) (bs : List Int) (h : Ap Y w B B2 qx qy n cx cy bs) (hn : n + 1 ≤ 90000) :
    Calls Tryd.prog 23 #[.pointer (some ⟨qy.b, 0, none⟩), .agg #[.int .i64 0, .int .u64 1]] w fun e w' => e = .returned (.tuple #[.int .i64 (cy + 1), .int .i64 0]) ∧ Ap Y w' B B2 qx qy (n + 1) cx (cy + 1) bs ∧ Kp B w w' := by
  obtain ⟨us, N, M, ns, A, K, h1, h2⟩ := h.y
  have hc := (h1.ow.ob 0 _ h2).2.2
  refine (hold_raw w B2 qy 65536 us N M ns A K (n + 1) (h1.more (Nat.le_succ n) hn) 0 _ h2 (by simp only at hc ⊢; omega)).mono fun e w' ⟨e1, w1, e2, e3⟩ => ⟨e1, ?_⟩
  subst e3
  exact h.setY h1 h2 (by simp only at hc ⊢; omega) e2 (Nat.le_succ _) hn
theorem apy_drop {Y : Nat → Prop} (w : World) (B B2 : Nat) (qx qy : HQ) (n : Nat) (cx cy : Int) (bs : List Int) (h : Ap Y w B B2 qx qy n cx cy bs) (hn : n ≤ 90000) :
    Calls Tryd.prog 24 #[.pointer (some ⟨qy.b, 0, none⟩), .agg #[.int .i64 0, .int .u64 1]] w fun e w' => e = .returned (.tuple #[.int .i64 (dcC cy), .int .i64 (dcE cy)]) ∧ Ap Y w' B B2 qx qy n cx (dcC cy) bs ∧ Kp B w w' := by
  obtain ⟨us, N, M, ns, A, K, h1, h2⟩ := h.y
  have hc := (h1.ow.ob 0 _ h2).2.2
  by_cases hz : cy = 0
  · subst hz
    exact (hdrop_zero w B2 qy 65536 us N M ns A K n h1 0 _ h2 rfl).mono fun e w' ⟨e1, e2⟩ => ⟨e1, h.below e2 (Nat.le_refl _) hn, Kp.of e2 h.x.bdd.2⟩
  · rw [show dcC cy = cy - 1 by simp [dcC, hz], show dcE cy = 0 by simp [dcE, hz]]
    refine (drop_raw w B2 qy 65536 us N M ns A K n h1 0 _ h2 (by simp only at hc ⊢; omega)).mono fun e w' ⟨e1, w1, e2, e3⟩ => ⟨e1, ?_⟩
    subst e3
    exact h.setY h1 h2 (by simp only at hc ⊢; omega) e2 (Nat.le_refl _) hn
theorem Hz.write {Y : Nat → Prop} (w : World) (B : Nat) (q : HQ) (n : Nat) (c : Int) (bs : List Int) (h : Hz Y w B q n c bs) (t : ByteArray) (ht : t.size ≤ bs.length) (hl : bs.length ≤ 128) :
    Calls Tryd.prog 27 #[.pointer (some ⟨q.b, 0, none⟩), .agg #[.int .i64 0, .int .u64 1], .int .i64 0, .string t] w fun e w' => (∃ r : Int, e = .returned (.int .i64 r)) ∧ Hz Y w' B q n c (wr bs 0 t) ∧ Fq Y B q w w' ∧ Kp B w w' := by
  obtain ⟨us, N, M, ns, A, K, h1, h2⟩ := h
  refine (wt_any w B q 65536 us N M ns A K n h1 0 1 0 t (by unfold I64; omega) (by simp only [maxLen]; omega)).mono fun e w' ⟨e1, e2, e3⟩ => ⟨⟨_, e1⟩, ⟨us, N, _, ns, A, K, e2, ?_⟩, e3, e3.bel, fun z cs t x e ht => e3.atT h1 e ht⟩
  have : onM M 0 1 (wtF 0 t) = updM M 0 (wtF 0 t ⟨1, c, 3, bs⟩) := on_live (k := 0) h2 _
  rw [this, updM_self, wtF, if_pos ⟨by omega, by simp only; omega⟩]
  rfl
/-- Both heaps behind a call of the second that may make memory. -/
theorem Hz.beside2 {Y : Nat → Prop} {w w' : World} {B B2 : Nat} {qx qy : HQ} {n : Nat} {cx cy : Int} {bx b2 : List Int} (hx : Hz Y w B qx n cx bx) (hF : Fq (YL Y w) B2 qy w w') (hy : Hz (YL Y w) w' B2 qy n cy b2) :
    ∃ Y', Hz Y' w' B qx n cx bx ∧ Hz (YL Y' w') w' B2 qy n cy b2 := by
  refine ⟨fun k => k < w'.heap.size ∧ ¬ YL Y w k, hx.far (fun k hk hn => hF.far k ⟨hk, hn⟩ hk) (fun k h => h.1) (fun k hk hn h => h.2 ⟨hk, hn⟩), hy.far (fun _ _ _ => rfl) (fun k h => h.1) (fun k hk hn h => h.2 ⟨hk, hn⟩)⟩
theorem row_kp {w w' : World} {B C : Nat} {v : Value} {n : Nat} {xs : List Value} (h : w.ownsRow C 34 2 v n xs) (hK : Kp B w w') : w'.ownsRow C 34 2 v n xs :=
  row_kept h fun g hg => by
    obtain ⟨c, e⟩ := row_cells h hg
    rw [hK.2 _ _ _ _ e (by decide), e]
theorem Ap.grow {Y : Nat → Prop} {w w' : World} {B B2 : Nat} {qx qy : HQ} {n : Nat} {cx cy : Int} {bs : List Int} (h : Ap Y w B B2 qx qy n cx cy bs) (hk : ∀ (k : Nat) (o : Obj), w.heap[k]? = some o → (∀ cs z, o ≠ .cells cs 34 z) → w'.heap[k]? = some o) (hb : Below B w w') : Ap Y w' B B2 qx qy n cx cy bs := by
  obtain ⟨u, N, M, ns, A, K, h1, h2⟩ := h.x
  obtain ⟨u', N', M', ns', A', K', h1', h2'⟩ := h.y
  have hs := hb.size
  exact ⟨⟨u, N, M, ns, A, K, h1.farK (fun k o e _ hn => hk k o e hn) (fun k hy => by have := h.x.bdd.1 k hy; omega) (fun k _ hn => hn), h2⟩,
    ⟨u', N', M', ns', A', K', h1'.farK (fun k o e _ hn => hk k o e hn) (fun k hy => hy.1) (fun k hl hn e => hn ⟨hl, e.2⟩), h2'⟩, h.tab.gr h.pos hb, h.le, h.pos⟩
theorem apz_read {Y : Nat → Prop} (w : World) (B : Nat) (q : HQ) (n : Nat) (c : Int) (bs : List Int) (h : Hz Y w B q n c bs) :
    Calls Tryd.prog 26 #[.pointer (some ⟨q.b, 0, none⟩), .agg #[.int .i64 0, .int .u64 1], .int .i64 0, .int .i64 32] w fun e w' => e = .returned (.tuple #[.string (inS bs 0 32), .int .i64 (inE bs 0 32)]) ∧ Below w.heap.size w w' := by
  obtain ⟨us, N, M, ns, A, K, h1, h2⟩ := h
  exact read_at w B q 65536 us N M ns A K n h1 0 _ h2 0 32 (by unfold I64; omega) (by unfold I64; omega)
theorem apz_count {Y : Nat → Prop} (w : World) (B : Nat) (q : HQ) (n : Nat) (c : Int) (bs : List Int) (h : Hz Y w B q n c bs) :
    Calls Tryd.prog 16 #[.pointer (some ⟨q.b, 0, none⟩), .agg #[.int .i64 0, .int .u64 1]] w fun e w' => e = .returned (.tuple #[.int .i64 c, .bool true]) ∧ Below w.heap.size w w' := by
  obtain ⟨us, N, M, ns, A, K, h1, h2⟩ := h
  have k := count_any w B q 65536 us N M ns A K n h1 ((0 : Nat) : Int) 1
  rw [show liveB M ((0 : Nat) : Int) 1 = true from live_of h2, show ctM M ((0 : Nat) : Int) 1 = c from ct_live h2] at k
  exact k
end Go.Proofs.YtooblonafnlfcaaDoor
