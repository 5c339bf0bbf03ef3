/- Towards the statements of package code (layer 8): reached: what ways lead to. -/
import Derived.Test.YtdmdmbcapjmnlabRM
import Derived.Test.YtdmdmbcapjmnlabCL
namespace Go.Proofs.Ytdmdmbcapjmnlab
open Go.ChangeShapes Go.WideShapes Go.ChangeAt
open Go.RowKit Go.Shelf
set_option linter.unusedVariables false
set_option linter.unusedSimpArgs false
set_option maxRecDepth 20000
attribute [local go_sem] Oper.semAt_some

/-- A function value that answers iterators: those of u give succ u. -/
structure Leader (w : World) (V : Nat → Prop) (k : Nat) (bs cs : Array Value) (succ : Nat → List Nat) : Prop where
  enters : ∀ args w, (callFunc k args).run Try.prog w = .ok (.enter k args) w
  call : ∀ (u : Nat) (W : World), V u → Below w.heap.size w W → Calls Try.prog k (bs.push (.int .i64 (u : Int)) ++ cs) W fun e w' => ∃ (g : Nat) (lb : Array Value) (Kp : World → World → Prop) (xs : List {t : Nat // V t}) (N : Nat), e = .returned (.func (.func g) #[] lb) ∧ Below W.heap.size W w' ∧ (∀ args w, (callFunc g args).run Try.prog w = .ok (.enter g args) w) ∧ (∀ q, 4 ≤ q → GivesAll (fun x : {t : Nat // V t} => ((x.1 : Nat) : Int)) q g lb Kp xs N w') ∧ xs.map (·.1) = succ u ∧ N ≤ 4096 ∧ (∀ {A B C : World}, Kp A B → Kp B C → Kp A C) ∧ (∀ A B : World, A.heap.size ≤ B.heap.size → Keep (fun b => (b < w.heap.size ∨ W.heap.size ≤ b) ∧ b < w'.heap.size) A B → TKeep A B → Kp A B)
/-- The blocks of deferred calls that loops have left: none is asked for. -/
def Marks (B : Nat) (ds : List Deferred) (W : World) : Prop := ds.Nodup ∧ ∀ d ∈ ds, ∃ D, d = { target := .collected D, args := #[] } ∧ B ≤ D ∧ W.heap[D]? = some (.deferred (some []))
theorem ownsRow_cut {W : World} {B : Nat} {g cap n : Nat} {xs : List Value} (h : W.ownsRow B 3 1 (.slice (some ⟨g, 0, none⟩) (n + 1) cap) (n + 1) xs) : W.ownsRow B 3 1 (.slice (some ⟨g, 0, none⟩) n cap) n (xs.take n) := by
  refine ⟨by have := h.1; simp; omega, ?_⟩
  rcases h.2 with ⟨e, _⟩ | ⟨g', cap', cur, e, hb, hg, hn, hm, hs, ht⟩
  · cases e
  · cases e
    exact .inr ⟨g, cap, cur, rfl, hb, hg, by omega, hm, hs, by rw [← ht, List.take_take]; congr 1; omega⟩
theorem row_shape {W : World} {B : Nat} {v : Value} {n : Nat} {xs : List Value} (h : W.ownsRow B 3 1 v n xs) (hv : v ≠ .slice none 0 0) : ∃ g cap, v = .slice (some ⟨g, 0, none⟩) n cap ∧ n ≤ cap ∧ B ≤ g ∧ g < W.heap.size := by
  rcases h.2 with ⟨e, _⟩ | ⟨g, cap, cur, e, hb, hg, hn, _⟩
  · exact absurd e hv
  · exact ⟨g, cap, e, hn, hb, (Array.getElem?_eq_some_iff.1 hg).1⟩
theorem row_cell {W : World} {B g cap : Nat} {op : List Nat} (h : W.ownsRow B 3 1 (.slice (some ⟨g, 0, none⟩) op.length cap) op.length (op.map vN)) (j x : Nat) (hx : op[j]? = some x) : W.cell? ⟨g, j, none⟩ = some (vN x) := by
  have hj := (List.getElem?_eq_some_iff.1 hx).1
  rcases h.2 with ⟨e, _⟩ | ⟨g', cap', cur, e, hb, hg, hn, hm, hs, ht⟩
  · cases e
  · cases e
    have := congrArg (fun l => l[j]?) ht
    simp only [Nat.mul_one] at this
    rw [List.getElem?_take_of_lt hj, Array.getElem?_toList] at this
    exact cellOf hg (by rw [this]; simp [hx])
theorem from_cells {W : World} {b off : Nat} {fs : List Nat} {j : Nat} (h : ∀ {x}, fs[j]? = some x → W.cell? ⟨b, off + j, none⟩ = some (vN x)) (hj : j < (fs.map Int.ofNat).length) : W.cell? ⟨b, off + j, none⟩ = some (.int .i64 ((fs.map Int.ofNat).getD j 0)) := by
  simp at hj
  rw [h (List.getElem?_eq_getElem hj)]
  simp [List.getD, hj]
theorem other_blk {W : World} {b b' : Nat} {c c' : Array Value} {t t' : TypeId} {f f' : Nat × Nat} (h : W.heap[b]? = some (.cells c t f)) (h' : W.heap[b']? = some (.cells c' t' f')) (hne : t ≠ t') : b ≠ b' := by
  intro e; subst e; rw [h] at h'; injection h' with h'; injection h' with _ h' _; exact hne h'
theorem app_keep {W w1 : World} {n₀ B b n : Nat} {c : Array Value} {t : TypeId} {v : Value} {xs : List Value} {tmp : Obj} (hrow : W.ownsRow n₀ 3 1 v n xs) (hgrow : (W.alloc tmp).grownBy w1 v.ownBlock) (hb : W.heap[b]? = some (.cells c t)) (ht : t ≠ 3) (hB : b ≠ B) (u : Value) : (w1.setCell ⟨B, 0, none⟩ u).heap[b]? = some (.cells c t) := by
  have hlt := (Array.getElem?_eq_some_iff.1 hb).1
  refine (Below.heap_setCell w1 ⟨B, 0, none⟩ u b hB).trans ((hgrow.block b (by simp; omega) ?_).trans ((Below.heap_alloc W tmp b hlt).trans hb))
  rcases hrow.2 with ⟨rfl, _⟩ | ⟨g, cap, cur, rfl, _, hg, _⟩
  · simp [Value.ownBlock]
  · intro e
    simp [Value.ownBlock] at e
    exact other_blk hb hg ht e
theorem app_tkeep {W w1 : World} {n₀ B n : Nat} {v u0 : Value} {xs : List Value} {tmp : Obj} (hbx : Boxed W B 34 u0) (hrow : W.ownsRow n₀ 3 1 v n xs) (hgrow : (W.alloc tmp).grownBy w1 v.ownBlock) (u : Value) : TKeep W (w1.setCell ⟨B, 0, none⟩ u) :=
  fun b c t hb h3 h4 h36 => app_keep hrow hgrow hb h3 (other_blk hb hbx h36) u
/-- What lies in memory as reached goes on. -/
structure RS (V : Nat → Prop) (w : World) (Bl Bo m : Nat) (W : World) (ld : List Bool) (op : List Nat) (v : Value) : Prop where
  lds : Bools W w.heap.size (.slice (some ⟨w.heap.size, 0, none⟩) m m) ld
  ldl : ld.length = m
  box : Boxed W Bl 43 (.slice (some ⟨w.heap.size, 0, none⟩) m m)
  obx : Boxed W Bo 34 v
  row : W.ownsRow w.heap.size 3 1 v op.length (op.map vN)
  shp : ∃ g gc, v = .slice (some ⟨g, 0, none⟩) op.length gc ∧ op.length ≤ gc
  opm : ∀ u ∈ op, V u
  opl : 2 * unled ld + op.length ≤ 12288
  bel : Below w.heap.size w W
  bo : w.heap.size ≤ Bo
def mu (w : World) (Bo : Nat) (W : World) : Nat := (match W.heap[w.heap.size]? with | some (.cells c _ _) => 2 * (c.toList.filter fun v => match v with | .bool false => true | _ => false).length | _ => 0) + (match W.cell? ⟨Bo, 0, none⟩ with | some (.slice _ n _) => n | _ => 0)
theorem unled_all (n : Nat) : unled (List.replicate n false) = n := by simp [unled]
theorem mu_list (ld : List Bool) : ((ld.map Value.bool).filter fun v => match v with | .bool false => true | _ => false).length = unled ld := by
  unfold unled
  induction ld with
  | nil => rfl
  | cons b r ih => cases b <;> simp [ih]
theorem RS.mu {V : Nat → Prop} {w : World} {Bl Bo m : Nat} {W : World} {ld : List Bool} {op : List Nat} {v : Value} (h : RS V w Bl Bo m W ld op v) : mu w Bo W = 2 * unled ld + op.length := by
  obtain ⟨g, gc, rfl, _⟩ := h.shp
  unfold Go.Proofs.Ytdmdmbcapjmnlab.mu
  rw [h.lds.blk, h.obx.cell]
  simp only []
  rw [mu_list]
/-- Worlds in which nothing but what holds no cells, and is new, was turned. -/
theorem RS.gr {V : Nat → Prop} {w : World} {Bl Bo m : Nat} {W W' : World} {ld : List Bool} {op : List Nat} {v : Value} (h : RS V w Bl Bo m W ld op v) (hb : Below W.heap.size W W') : RS V w Bl Bo m W' ld op v :=
  ⟨h.lds.gr hb, h.ldl, h.box.kept (grows hb) (by simp), h.obx.kept (grows hb) (by simp), ownsRow_gr h.row hb, h.shp, h.opm, h.opl, h.bel.trans (hb.mono h.bel.size), h.bo⟩
theorem RS.turn {V : Nat → Prop} {w : World} {Bl Bo m : Nat} {W W' : World} {ld : List Bool} {op : List Nat} {v : Value} (h : RS V w Bl Bo m W ld op v) {row : Option Nat} (hg : W.grownBy W' row) (hr : ∀ r, row = some r → w.heap.size ≤ r ∧ ∃ o : Obj, W.heap[r]? = some o ∧ o.isCells = false) : RS V w Bl Bo m W' ld op v := by
  have key : ∀ (b : Nat) (c : Array Value) (t : TypeId) (f : Nat × Nat), W.heap[b]? = some (.cells c t f) → W'.heap[b]? = some (.cells c t f) := fun b c t f hb => by
    refine (hg.block b (Array.getElem?_eq_some_iff.1 hb).1 (fun e => ?_)).trans hb
    obtain ⟨_, o, ho, hc⟩ := hr b e.symm
    rw [hb] at ho; cases ho; cases hc
  refine ⟨⟨h.lds.val, key _ _ _ _ h.lds.blk⟩, h.ldl, key _ _ _ _ h.box, key _ _ _ _ h.obx, ?_, h.shp, h.opm, h.opl, h.bel.grown hg h.bel.size (fun k e => (hr k e).1), h.bo⟩
  refine ⟨h.row.1, ?_⟩
  rcases h.row.2 with e | ⟨g, cap, cur, e, hb, hgg, rest⟩
  · exact .inl e
  · exact .inr ⟨g, cap, cur, e, hb, key _ _ _ _ hgg, rest⟩
theorem Marks.gr {B : Nat} {ds : List Deferred} {W W' : World} (h : Marks B ds W) (hb : Below W.heap.size W W') : Marks B ds W' :=
  ⟨h.1, fun d hd => by obtain ⟨D, e, hB, hW⟩ := h.2 d hd; exact ⟨D, e, hB, (hb.block D (Array.getElem?_eq_some_iff.1 hW).1).trans hW⟩⟩
/-- A store into cells leaves the marks. -/
theorem Marks.cells {B : Nat} {ds : List Deferred} {W W' : World} (h : Marks B ds W) (hk : KeepsOthers W W') : Marks B ds W' :=
  ⟨h.1, fun d hd => by obtain ⟨D, e, hB, hW⟩ := h.2 d hd; exact ⟨D, e, hB, hk.same D _ hW rfl⟩⟩
theorem Marks.cons {B : Nat} {ds : List Deferred} {W : World} (h : Marks B ds W) {D : Nat} (hB : B ≤ D) (hD : W.heap[D]? = some (.deferred (some []))) (hn : ∀ d ∈ ds, d.target ≠ .collected D) : Marks B ({ target := .collected D, args := #[] } :: ds) W :=
  ⟨List.nodup_cons.2 ⟨fun hm => hn _ hm rfl, h.1⟩, fun d hd => by
    rcases List.mem_cons.1 hd with rfl | hd
    · exact ⟨D, rfl, hB, hD⟩
    · exact h.2 d hd⟩
theorem belowK_b' {B D : Nat} (hB : B ≤ D) (W : World) (_ : Nat) (o : Obj) : Below B W (W.putObj D o) := ⟨rfl, rfl, rfl, by simp [World.putObj], fun k hk => World.putObj_heap_other (by omega)⟩
/-- A function that returns out of its own slots, the marks of its loops taken in. -/
theorem leave_marks {n : Nat} {fn : Func} {tmps : Array Value} {R : Ending → World → Prop} {B : Nat} {v : Value} (hres : ∀ W : World, (results fn tmps).run Try.prog W = .ok v W) : ∀ (ds : List Deferred) (W : World), Marks B ds W → (∀ W' : World, Below B W W' → (∀ (b : Nat) (c : Array Value) (t : TypeId) (f : Nat × Nat), W.heap[b]? = some (.cells c t f) → W'.heap[b]? = some (.cells c t f)) → R (.returned v) W') → LeavesInM Fence.wide n Try.prog fn tmps R ds .returning W
  | [], W, _, h => ⟨v, hres W, h W (Below.refl _ _) fun _ _ _ _ h => h⟩
  | d :: ds, W, hM, h => by
    obtain ⟨D, rfl, hB, hD⟩ := hM.2 d (by simp)
    refine ⟨by simp, .inl ⟨D, _, rfl, run_takeDeferred hD, leave_marks (B := B) hres ds _ ⟨(List.nodup_cons.1 hM.1).2, fun d' hd' => ?_⟩ fun W' hb hc => ?_⟩⟩
    · obtain ⟨D', rfl, hB', hD'⟩ := hM.2 d' (by simp [hd'])
      have hne : D' ≠ D := fun e => (List.nodup_cons.1 hM.1).1 (e ▸ hd')
      exact ⟨D', rfl, hB', (World.putObj_heap_other hne).trans hD'⟩
    · refine h W' ((belowK_b' hB W D (.deferred none)).trans hb) fun b c t f hbk => hc b c t f ?_
      refine (World.putObj_heap_other ?_).trans hbk
      intro e; rw [e, hD] at hbk; cases hbk
set_option maxRecDepth 100000 in
set_option maxHeartbeats 4000000 in
theorem reached_in (n : Nat) (hn : 6 ≤ n) (m : Nat) (hm : m ≤ 4096) (k : Nat) (bs cs : Array Value) (succ : Nat → List Nat) (V : Nat → Prop) (hV : ∀ u, V u → u < m) (hsucc : ∀ u, ∀ t ∈ succ u, V t) (fs : List Nat) (hfs : ∀ u ∈ fs, V u) (hfl : fs.length ≤ 4096) (b off cap : Nat) (w : World) (hb : b < w.heap.size) (hc : ∀ j x, fs[j]? = some x → w.cell? ⟨b, off + j, none⟩ = some (vN x)) (hne : fs ≠ []) (hld : Leader w V k bs cs succ) :
    CallsIn Fence.wide n Try.prog 52 #[.int .i64 m, .slice (some ⟨b, off, none⟩) fs.length cap, .func (.func k) bs cs] w fun e w' => ∃ v bl R, e = .returned v ∧ Bools w' bl v R ∧ R.length = m ∧ (∀ j, isOn R j ↔ Rch succ fs j) ∧ Below w.heap.size w w' := by
  have h1 : 1 ≤ n := by omega
  obtain ⟨i4, hi4, hz40, hz41, hz42⟩ := info_parts info4
  obtain ⟨i3, hi3, hz30, hz31, hz32⟩ := info_parts info3
  have kc := Try.slices_Clone_int b off fs.length cap (fs.map Int.ofNat)
  refine callsIn_of_wp_marks Try.func52 rfl trivial ?_ rfl
  simp only [Try.ntmps52, List.size_toArray, List.length_cons, List.length_nil, Nat.reduceAdd, Nat.reduceSub, Array.replicate_succ, Array.replicate_zero, List.push_toArray, List.append_toArray, List.nil_append, List.cons_append]
  refine wpIn_wide.2 ?_
  go_wp2_with first | (refine wpList_make_full _ rfl _ _ 43 rfl w.heap.size 4 i4 (.bool false) 1 Try.underlying43 hi4 hz40 hz41 _ _ _ _ m rfl rfl rfl rfl (by rw [hz42]; omega) (by simp [maxLen]; omega) (Nat.le_refl _) ?_; intro w1 hown hgrow; have hb1 := (Below.refl w.heap.size w).grown hgrow (Nat.le_refl _) (fun k e => by cases e)) | (go_at_call 68; refine (kc _ (by simp) (by omega) (by intro j hj; exact from_cells (((hb1.alloc hb1.size _).cell (p := ⟨b, off + j, none⟩) hb).trans ∘ hc j _) hj)).mono ?_; rintro e w3 ⟨v, rfl, hrow, hvn, hb3⟩; obtain ⟨g, gc, rfl, hgc, hgB, hgl⟩ := row_shape hrow hvn)
  have hlds : Bools w1 w.heap.size (.slice (some ⟨w.heap.size, 0, none⟩) m m) (List.replicate m false) := by
    rcases hown.2 with ⟨e, _⟩ | ⟨g, cap, cur, e, _, hg, _, _, hs, ht⟩
    · cases e
    · cases e
      refine ⟨⟨m, by simp⟩, hg.trans ?_⟩
      rw [made_list, Nat.mul_one, List.take_of_length_le (by simp [hs])] at ht
      rw [← ht]
  have hRS : RS V w w1.heap.size w3.heap.size m (w3.alloc (.cells #[.slice (some ⟨g, 0, none⟩) fs.length gc] 34)) (List.replicate m false) fs (.slice (some ⟨g, 0, none⟩) fs.length gc) := by
    have hba : Below w1.heap.size w1 (w1.alloc (.cells #[.slice (some ⟨w.heap.size, 0, none⟩) m m] 43)) := (Below.refl _ _).alloc (Nat.le_refl _) _
    have hb3' : Below w1.heap.size w1 w3 := hba.trans (hb3.mono hba.size)
    have hbb : Below w3.heap.size w3 (w3.alloc (.cells #[.slice (some ⟨g, 0, none⟩) fs.length gc] 34)) := (Below.refl _ _).alloc (Nat.le_refl _) _
    refine ⟨(hlds.gr hb3').gr hbb, by simp, ((Boxed.new w1 43 _).kept (grows hb3) (by simp)).alloc _, Boxed.new w3 34 _, ?_, ⟨g, gc, rfl, hgc⟩, hfs, by rw [unled_all]; omega, hb1.trans ((hb3'.mono hb1.size).trans (hbb.mono (Nat.le_trans hb1.size hb3'.size))), Nat.le_trans hb1.size hb3'.size⟩
    have hr := Joins.ownsRow_le (hrow.alloc (.cells #[.slice (some ⟨g, 0, none⟩) fs.length gc] 34)) (show w.heap.size ≤ _ by simp; exact Nat.le_succ_of_le hb1.size)
    simpa [Function.comp_def, List.take_of_length_le] using hr
  generalize (w3.alloc (.cells #[.slice (some ⟨g, 0, none⟩) fs.length gc] 34)) = W0 at hRS ⊢
  generalize w1.heap.size = Bl at hRS ⊢
  generalize w3.heap.size = Bo at hRS ⊢
  generalize hcv : (Value.slice (some ⟨g, 0, none⟩) fs.length gc) = cv at hRS ⊢
  clear hlds hrow hb3 hvn hgl hgB hgc hcv hown hgrow hb1 kc
  refine (wpIn_wide (n := n)).1 ?_
  refine wpIn_loop (fun a W => ∃ ld op v ds u9 u10 u15 u16 u17 u18 u19 u20 u21 u22 u23 u24 u25 u26 u27 u28 u29 u30 u31 u32 u33 u34 u35 u36 u37 u38 u39 u40 u41 u42 u43 u44 u45, a = { tmps := #[.int .i64 m, .slice (some ⟨b, off, none⟩) fs.length cap, .func (.func k) bs cs, undef, undef, undef, .slice none 0 0, .pointer (some ⟨Bl, 0, none⟩), .pointer (some ⟨Bo, 0, none⟩), u9, u10, .int .i64 m, .slice (some ⟨w.heap.size, 0, none⟩) m m, .slice (some ⟨b, off, none⟩) fs.length cap, cv, u15, u16, u17, u18, u19, u20, u21, u22, u23, u24, u25, u26, u27, u28, u29, u30, u31, u32, u33, u34, u35, u36, u37, u38, u39, u40, u41, u42, u43, u44, u45], defers := ds } ∧ RS V w Bl Bo m W ld op v ∧ Marks w.heap.size ds W ∧ MI succ fs ld op) (fun a W => mu w Bo W) ⟨_, _, _, [], undef, undef, undef, undef, undef, undef, undef, undef, undef, undef, undef, undef, undef, undef, undef, undef, undef, undef, undef, undef, undef, undef, undef, undef, undef, undef, undef, undef, undef, undef, undef, undef, undef, rfl, hRS, ⟨List.nodup_nil, fun d hd => by cases hd⟩, MI.start _ _ _⟩ ?_
  rintro a W ⟨ld, op, v, ds, u9, u10, u15, u16, u17, u18, u19, u20, u21, u22, u23, u24, u25, u26, u27, u28, u29, u30, u31, u32, u33, u34, u35, u36, u37, u38, u39, u40, u41, u42, u43, u44, u45, rfl, hS, hM, hMI⟩
  have hco := hS.obx.cell
  have hcb := hS.box.cell
  have hmu := hS.mu
  obtain ⟨g, gc, rfl, hgc⟩ := hS.shp
  rcases List.eq_nil_or_concat op with rfl | ⟨op, one, rfl⟩
  · gi_wp2
    go_wp2
    refine leave_marks (B := w.heap.size) (fun W => results_tmp rfl _ _ W) ds W hM fun W' hbW hcW => ?_
    exact ⟨_, _, ld, rfl, ⟨hS.lds.val, hcW _ _ _ _ hS.lds.blk⟩, hS.ldl, hMI.done, hS.bel.trans hbW⟩
  · rw [List.concat_eq_append] at *
    have hone : V one := hS.opm one (by simp)
    have hrow := hS.row
    have c1 := row_cell hrow op.length one (by simp)
    have hol := hS.opl
    rw [List.length_append, List.length_singleton] at hrow hgc hol
    have hco2 : W.cell? ⟨Bo, 0, none⟩ = some (.slice (some ⟨g, 0, none⟩) (op.length + 1) gc) := by rw [hco]; simp
    have hfo := hS.obx.frozen
    have e1 : IntKind.i64.wrap ((op.length : Int) + 1 - 1) = op.length := by rw [show ((op.length : Int) + 1 - 1) = op.length by omega]; exact IntWalk.i64_in _ (by omega)
    clear hco
    have ek := hld.enters
    gi_wp2
    have hS1 : RS V w Bl Bo m (W.setCell ⟨Bo, 0, none⟩ (.slice (some ⟨g, 0, none⟩) op.length gc)) ld op (.slice (some ⟨g, 0, none⟩) op.length gc) := by
      have n1 : w.heap.size ≠ Bo := other_blk hS.lds.blk hS.obx (by decide)
      have n2 : Bl ≠ Bo := other_blk hS.box hS.obx (by decide)
      refine ⟨hS.lds.other n1 _, hS.ldl, (Below.heap_setCell _ ⟨Bo, 0, none⟩ _ _ n2).trans hS.box, hS.obx.set _, ?_, ⟨g, gc, rfl, by omega⟩, fun u hu => hS.opm u (by simp [hu]), by omega, hS.bel.setCell (p := ⟨Bo, 0, none⟩) hS.bo _, hS.bo⟩
      have := ownsRow_cut hrow
      rw [List.map_append, List.take_left' (by simp)] at this
      exact this.kept (grown_any _ _ _ _) (.inr (Ne.symm (hS.obx.not_row (by decide) this)))
    generalize hW1 : (W.setCell ⟨Bo, 0, none⟩ (.slice (some ⟨g, 0, none⟩) op.length gc)) = W1 at hS1 ⊢
    have hM1 : Marks w.heap.size ds W1 := by rw [← hW1]; exact hM.cells (KeepsOthers.setCell _ _ _)
    refine ⟨trivial, ?_⟩
    refine (callsIn_wide.2 (hld.call one W1 hone hS1.bel)).mono ?_
    rintro e W2 ⟨gi, lb, Kp, xs, N, rfl, hb2, eg, hall, hxs, hN, hKt, hKk⟩
    have hS2 := hS1.gr hb2
    have hM2 := hM1.gr hb2
    have hgl : w.heap.size ≤ g ∧ g < W1.heap.size := hS1.row.lt g rfl
    have hbol : Bo < W1.heap.size := hS1.obx.lt
    have hbll : w.heap.size < W1.heap.size := hS1.lds.lt
    have hwW : w.heap.size ≤ W2.heap.size := hS2.bel.size
    gi_wp2
    obtain ⟨S, hSd⟩ : ∃ S : Nat → Prop, S = fun b => b < W2.heap.size ∧ b ≠ w.heap.size ∧ b ≠ Bo ∧ b ≠ g := ⟨_, rfl⟩
    have hSlt : ∀ b, S b → b < W2.heap.size := fun b hb => by rw [hSd] at hb; exact hb.1
    have hSB : ¬ S Bo := by rw [hSd]; exact fun h => h.2.2.1 rfl
    have hSl : ¬ S w.heap.size := by rw [hSd]; exact fun h => h.2.1 rfl
    have hSg : ¬ S g := by rw [hSd]; exact fun h => h.2.2.2 rfl
    have hKS : ∀ A B : World, A.heap.size ≤ B.heap.size → Keep S A B → TKeep A B → Kp A B := fun A B hs hk ht => hKk A B hs (fun b hb => hk b (by rw [hSd]; refine ⟨hb.2, ?_, ?_, ?_⟩ <;> have := hb.1 <;> have := hS1.bo <;> omega)) ht
    have hSD : ∀ D : Nat, W2.heap[D]? = some (.deferred (some [])) → S D := fun D hD => by
      rw [hSd]
      refine ⟨(Array.getElem?_eq_some_iff.1 hD).1, ?_, ?_, ?_⟩
      · intro e; rw [e, hS2.lds.blk] at hD; cases hD
      · intro e; rw [e, show W2.heap[Bo]? = _ from hS2.obx] at hD; cases hD
      · intro e
        rcases hS2.row.2 with ⟨q, _⟩ | ⟨g', cap', cur, q, _, hgg, _⟩
        · cases q
        · cases q; rw [e, hgg] at hD; cases hD
    clear hSd
    refine loop_all h1 (gf := gi) rfl eg (hall (n - 1) (by omega)) hKt (fun A l o o' hl ho hc => hKS _ _ (size_put _ _ _) (keep_put hSlt hl _) (TKeep.put ho hc _))
      (fun pre Vw => (∃ v, RS V w Bl Bo m Vw (foldS (ld, op) (pre.map (·.1))).1 (foldS (ld, op) (pre.map (·.1))).2 v ∧ (∀ g, v.ownBlock = some g → ¬ S g)) ∧ (Keep S W2 Vw ∧ W2.heap.size ≤ Vw.heap.size))
      (fun s A B row hs hg hr => ⟨(by obtain ⟨⟨v, h, hno⟩, _⟩ := hs; exact ⟨v, h.turn hg (fun r e => ⟨Nat.le_trans hwW (hr r e).1, (hr r e).2⟩), hno⟩), ownFrom_keep (β := List (Subtype V)) hSlt hSlt s A B row hs.2 hg hr⟩)
      ⟨⟨_, hS2, fun q hq => by simp [Value.ownBlock] at hq; rw [← hq]; exact hSg⟩, Keep.refl _ _, Nat.le_refl _⟩
      (fun x => { tmps := #[.int .i64 m, .slice (some ⟨b, off, none⟩) fs.length cap, .func (.func k) bs cs, undef, undef, undef, .slice none 0 0, .pointer (some ⟨Bl, 0, none⟩), .pointer (some ⟨Bo, 0, none⟩), vN one, .int .i64 (x.1 : Nat), .int .i64 m, .slice (some ⟨w.heap.size, 0, none⟩) m m, .slice (some ⟨b, off, none⟩) fs.length cap, cv, .slice (some ⟨g, 0, none⟩) (op.length + 1) gc, .int .i64 (op.length + 1), .bool true, .slice (some ⟨g, 0, none⟩) (op.length + 1) gc, .slice (some ⟨g, 0, none⟩) (op.length + 1) gc, .int .i64 (op.length + 1), .int .i64 op.length, .pointer (some ⟨g, op.length, none⟩), vN one, .slice (some ⟨g, 0, none⟩) (op.length + 1) gc, .slice (some ⟨g, 0, none⟩) (op.length + 1) gc, .int .i64 (op.length + 1), .int .i64 op.length, .slice (some ⟨g, 0, none⟩) op.length gc, .func (.func k) bs cs, vN one, .func (.func gi) #[] lb, .int .i64 (x.1 : Nat), u33, u34, u35, u36, u37, u38, u39, u40, u41, u42, u43, u44, u45], defers := [] }) ?assign ?body ?done
    case assign =>
      intro l x Vw K hK
      gi_wp2
      exact hK
    case body =>
      rintro l pre x Vw ⟨⟨v, hSv, hno⟩, hKe, hsz⟩ hlt
      obtain ⟨gv, gvc, rfl, hgvc⟩ := hSv.shp
      have cbx := hSv.box.cell
      have cob := hSv.obx.cell
      have hlx : x.1 < (foldS (ld, op) (pre.map (·.1))).1.length := by rw [hSv.ldl]; exact hV _ x.2
      have cl := hSv.lds.cell x.1 hlx
      have fl := hSv.lds.fro x.1
      have hlen2 := hSv.opl
      have hxm := hV _ x.2
      by_cases hon : isOn (foldS (ld, op) (pre.map (·.1))).1 x.1
      · rw [hon] at cl
        have hst : foldS (ld, op) ((pre ++ [x]).map (·.1)) = foldS (ld, op) (pre.map (·.1)) := by rw [List.map_append, List.map_singleton, foldS_snoc, stepL, if_pos hon]
        gi_wp2
        exact ⟨KeepsFrom.refl _ _, hKS _ _ (Nat.le_refl _) (Keep.refl _ _) (TKeep.refl _), ⟨_, by show RS V w Bl Bo m _ (foldS (ld, op) ((pre ++ [x]).map (·.1))).1 (foldS (ld, op) ((pre ++ [x]).map (·.1))).2 _; rw [hst]; exact hSv, hno⟩, hKe, hsz⟩
      · have hst : foldS (ld, op) ((pre ++ [x]).map (·.1)) = ((foldS (ld, op) (pre.map (·.1))).1.set x.1 true, (foldS (ld, op) (pre.map (·.1))).2 ++ [x.1]) := by rw [List.map_append, List.map_singleton, foldS_snoc, stepL, if_neg hon]
        rw [show (foldS (ld, op) (pre.map (·.1))).1[x.1]?.getD false = false by simpa [isOn] using hon] at cl
        generalize foldS (ld, op) (pre.map (·.1)) = st at *
        obtain ⟨sl, so⟩ := st
        dsimp only at *
        have n1 : Bo ≠ w.heap.size := Ne.symm (other_blk hSv.lds.blk hSv.obx (by decide))
        have n2 : Bl ≠ w.heap.size := Ne.symm (other_blk hSv.lds.blk hSv.box (by decide))
        obtain ⟨V1, hV1d⟩ : ∃ V1, Vw.setCell ⟨w.heap.size, x.1, none⟩ (.bool true) = V1 := ⟨_, rfl⟩
        have hV1 : Vw.heap.size ≤ V1.heap.size := by rw [← hV1d, size_set]; exact Nat.le_refl _
        have hbx1 : Boxed V1 Bo 34 (.slice (some ⟨gv, 0, none⟩) so.length gvc) := by rw [← hV1d]; exact (Below.heap_setCell _ ⟨w.heap.size, x.1, none⟩ _ _ n1).trans hSv.obx
        have hbb1 : Boxed V1 Bl 43 (.slice (some ⟨w.heap.size, 0, none⟩) m m) := by rw [← hV1d]; exact (Below.heap_setCell _ ⟨w.heap.size, x.1, none⟩ _ _ n2).trans hSv.box
        have hlds1 : Bools V1 w.heap.size (.slice (some ⟨w.heap.size, 0, none⟩) m m) (sl.set x.1 true) := by rw [← hV1d]; exact hSv.lds.set x.1 true
        have hrow1 : V1.ownsRow w.heap.size 3 1 (.slice (some ⟨gv, 0, none⟩) so.length gvc) so.length (so.map vN) := by
          rw [← hV1d]
          refine hSv.row.kept (grown_any _ _ _ _) (.inr ?_)
          simp [Value.ownBlock]
          rcases hSv.row.2 with ⟨e, _⟩ | ⟨g', cap', cur, e, hb, hgg, _⟩
          · cases e
          · cases e; exact Ne.symm (other_blk hSv.lds.blk hgg (by decide))
        have hbel1 : Below w.heap.size w V1 := by rw [← hV1d]; exact hSv.bel.setCell (p := ⟨w.heap.size, x.1, none⟩) (Nat.le_refl _) _
        have hwV1 : w.heap.size ≤ V1.heap.size := hbel1.size
        have hKe1 : Keep S Vw V1 := by rw [← hV1d]; exact fun b hb => Below.heap_setCell _ ⟨w.heap.size, x.1, none⟩ _ _ (fun e => hSl (by have e' : b = w.heap.size := e; rw [← e']; exact hb))
        have hTK1 : TKeep Vw V1 := by rw [← hV1d]; exact fun b c t hb h3 h4 h36 => (Below.heap_setCell _ ⟨w.heap.size, x.1, none⟩ _ _ (other_blk hb hSv.lds.blk h4)).trans hb
        have hKF1 : KeepsOthers Vw V1 := by rw [← hV1d]; exact KeepsOthers.setCell _ _ _
        have cob1 := hbx1.cell
        gi_wp2_with first | (gi_at_builtin; refine wpListIn_append_own_at _ rfl _ _ 34 rfl w.heap.size 3 i3 (.int .i64 0) 1 8 Try.underlying34 hi3 hz30 hz31 hz32 rfl (by decide) _ _ _ rfl (hrow1.alloc _) _ 1 1 [vN x.1] rfl rfl (cell_one_new _ _ _) (by simp [Value.oneCell']) (by simp [maxLen]; omega) (by omega) (by simp; omega) ?_; intro v' w2 hown' hgrow _ hat; obtain ⟨g', cap', rfl⟩ := ownsRow_succ hown'; obtain ⟨a1, a2, a3, a4, a5, a6, a7, a8⟩ := append_step (S := S) hbx1 hrow1 hwV1 hSv.bo (fun b hb => Nat.lt_of_lt_of_le (hSlt b hb) (Nat.le_trans hsz hV1)) hSB hno hown' hgrow hat; have hc1 := a1.cell; have hf1 := a1.frozen)
        refine ⟨(hKF1.from _).trans (a4.from _), hKS _ _ (Nat.le_trans hV1 a8) (hKe1.trans a6) (hTK1.trans (app_tkeep hbx1 hrow1 hgrow _)), ⟨_, ?_, a7⟩, hKe.trans (hKe1.trans a6), Nat.le_trans hsz (Nat.le_trans hV1 a8)⟩
        show RS V w Bl Bo m _ (foldS (ld, op) ((pre ++ [x]).map (·.1))).1 (foldS (ld, op) ((pre ++ [x]).map (·.1))).2 _
        rw [hst]
        have n3 : w.heap.size ≠ Bo := Ne.symm n1
        have n4 : Bl ≠ Bo := other_blk hSv.box hSv.obx (by decide)
        have hul := unled_set hlx hon
        refine ⟨⟨by simpa using hSv.lds.val, app_keep hrow1 hgrow hlds1.blk (by decide) n3 _⟩, by simpa using hSv.ldl, app_keep hrow1 hgrow hbb1 (by decide) n4 _, a2, by simpa using a3, ⟨g', cap', by simp, ?_⟩, ?_, ?_, hbel1.trans a5, hSv.bo⟩
        · rcases a3.2 with ⟨q, _⟩ | ⟨g2, cap2, cur, q, _, _, hn2, _⟩
          · cases q
          · cases q; simpa using hn2
        · intro u hu
          rcases List.mem_append.1 hu with hu | hu
          · exact hSv.opm u hu
          · simp at hu; rw [hu]; exact x.2
        · simp; omega
    case done =>
      rintro D Vw hD ⟨⟨v, hSv, hno⟩, hKe, hsz⟩ hKD
      rw [hxs] at hSv
      have hmv := hSv.mu
      have hfm := foldS_mu (ld, op) (succ one) (by intro t ht; rw [hS1.ldl]; exact hV _ (hsucc one t ht))
      have hM3 : Marks w.heap.size ds Vw := ⟨hM2.1, fun d hd => by obtain ⟨D', e, hB, hW⟩ := hM2.2 d hd; exact ⟨D', e, hB, (hKe D' (hSD D' hW)).trans hW⟩⟩
      have hM4 := hM3.cons (Nat.le_trans hwW hD) hKD (fun d hd => by
        obtain ⟨D', rfl, hB, hW⟩ := hM2.2 d hd
        have := (Array.getElem?_eq_some_iff.1 hW).1
        simp; omega)
      refine ⟨⟨_, _, v, _, _, _, _, _, _, _, _, _, _, _, _, _, _, _, _, _, _, _, _, _, _, _, _, _, _, _, _, _, _, _, _, _, _, rfl, hSv, hM4, hMI.step (by intro t ht; rw [hS1.ldl]; exact hV _ (hsucc one t ht))⟩, ?_⟩
      rw [hmv, hmu]
      simp at hfm ⊢
      omega
end Go.Proofs.Ytdmdmbcapjmnlab
