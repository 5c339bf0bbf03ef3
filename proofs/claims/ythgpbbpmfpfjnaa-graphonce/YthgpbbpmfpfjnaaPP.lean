/- Towards the statements of package graph (layer 17): places compared, the keys of a map of places, collected, sorted. -/
import Derived.Test.YthgpbbpmfpfjnaaGC
import Derived.Test.YthgpbbpmfpfjnaaShelf
import Derived.Sort.Grow
import Derived.Maps.Range
import Derived.Sort.MapsRangeIn
import Derived.RangeFuncSeq
import Derived.RangeFuncGives
import Derived.OwnWalkIn
import Derived.TacticsInMore
import Derived.LoopNIn
import Derived.LoopIn
import Derived.RegionIn
import Derived.Test.YthgpbbpmfpfjnaaLI
import Derived.Test.YthgpbbpmfpfjnaaSortS
namespace Go.Proofs.Ythgpbbpmfpfjnaa
open Go.ChangeShapes Go.WideShapes Go.ChangeAt Go.RowKit
set_option linter.unusedVariables false
set_option linter.unusedSimpArgs false
set_option maxRecDepth 20000
def orI (a b c : Int) : Int := if a ≠ 0 then a else if b ≠ 0 then b else c
/-- What compare answers. -/
def cmpP (p q : PKey) : Int := orI (Lib.compareInt p.1 q.1) (Lib.compareInt p.2.1 q.2.1) (Lib.compareInt p.2.2 q.2.2)
theorem or_any (W : World) (g : Nat) (a b c : Int) (h0 : W.cell? ⟨g, 0, none⟩ = some (.int .i64 a)) (h1 : W.cell? ⟨g, 1, none⟩ = some (.int .i64 b)) (h2 : W.cell? ⟨g, 2, none⟩ = some (.int .i64 c)) :
    Calls Try.prog 37 #[.slice (some ⟨g, 0, none⟩) 3 3] W fun e w' => e = .returned (.int .i64 (orI a b c)) ∧ w' = W := by
  have e0 : IntKind.i64.wrap ((0 : Int) + 1) = 1 := by decide
  have e1 : IntKind.i64.wrap ((1 : Int) + 1) = 2 := by decide
  have e2 : IntKind.i64.wrap ((2 : Int) + 1) = 3 := by decide
  by_cases ha : a = 0
  · subst ha
    by_cases hb : b = 0
    · subst hb
      by_cases hc : c = 0
      · subst hc
        rw [show orI 0 0 0 = 0 from rfl]
        go_enter Try.func37, Try.ntmps37
        go_wp2
        go_rounds 4
        all_goals go_returns
        all_goals exact ⟨rfl, rfl⟩
      · have hc' : (c == 0) = false := beq_false_of_ne hc
        rw [show orI 0 0 c = c from rfl]
        go_enter Try.func37, Try.ntmps37
        go_wp2
        go_rounds 4
        all_goals go_returns
        all_goals exact ⟨rfl, rfl⟩
    · have hb' : (b == 0) = false := beq_false_of_ne hb
      rw [show orI 0 b c = b by simp [orI, hb]]
      go_enter Try.func37, Try.ntmps37
      go_wp2
      go_rounds 4
      all_goals go_returns
      all_goals exact ⟨rfl, rfl⟩
  · have ha' : (a == 0) = false := beq_false_of_ne ha
    rw [show orI a b c = a by simp [orI, ha]]
    go_enter Try.func37, Try.ntmps37
    go_wp2
    go_rounds 4
    all_goals go_returns
    all_goals exact ⟨rfl, rfl⟩
theorem compare_any (p q : PKey) (w : World) : Calls Try.prog 31 #[.agg #[.int .i64 p.1, .int .i64 p.2.1, .int .i64 p.2.2], .agg #[.int .i64 q.1, .int .i64 q.2.1, .int .i64 q.2.2]] w fun e w' => e = .returned (.int .i64 (cmpP p q)) ∧ ∃ n os, w' = Sort.grow (w.drewN n) os := by
  have y2 := heap_al (heap_alloc_new w (.cells #[.int .i64 p.1, .int .i64 p.2.1, .int .i64 p.2.2] 28)) (.cells #[.int .i64 q.1, .int .i64 q.2.1, .int .i64 q.2.2] 28)
  have y3 := heap_alloc_new (w.alloc (.cells #[.int .i64 p.1, .int .i64 p.2.1, .int .i64 p.2.2] 28)) (.cells #[.int .i64 q.1, .int .i64 q.2.1, .int .i64 q.2.2] 28)
  rw [World.size_alloc] at y3
  have kC := fun x y W => Try.cmp_Compare_int x y W
  unfold cmpP
  generalize ha : Lib.compareInt p.1 q.1 = a
  generalize hb : Lib.compareInt p.2.1 q.2.1 = b
  generalize hc : Lib.compareInt p.2.2 q.2.2 = c
  have k1 := fun W => ha ▸ kC p.1 q.1 W
  have k2 := fun W => hb ▸ kC p.2.1 q.2.1 W
  have k3 := fun W => hc ▸ kC p.2.2 q.2.2 W
  have hfin : ∃ n os, ((((w.alloc (.cells #[.int .i64 p.1, .int .i64 p.2.1, .int .i64 p.2.2] 28)).alloc (.cells #[.int .i64 q.1, .int .i64 q.2.1, .int .i64 q.2.2] 28)).drew).alloc (.cells #[.int .i64 a, .int .i64 b, .int .i64 c] 3)) = Sort.grow (w.drewN n) os := ⟨1, _, by rw [Sort.alloc_eq_grow, Sort.alloc_eq_grow, Sort.alloc_eq_grow, Sort.grow_grow]; exact Sort.grow_grow (w.drewN 1) _ _⟩
  go_enter Try.func31, Try.ntmps31
  go_upto_region 1 with fail
  generalize (w.alloc (.cells #[.int .i64 p.1, .int .i64 p.2.1, .int .i64 p.2.2] 28)).alloc (.cells #[.int .i64 q.1, .int .i64 q.2.1, .int .i64 q.2.2] 28) = W at y2 y3 hfin ⊢
  obtain ⟨d0, d1, d2⟩ := pl_cells y2
  obtain ⟨d3, d4, d5⟩ := pl_cells y3
  have yr := heap_alloc_new W.drew (.cells #[.int .i64 a, .int .i64 b, .int .i64 c] 3)
  have k4 := or_any (W.drew.alloc (.cells #[.int .i64 a, .int .i64 b, .int .i64 c] 3)) W.drew.heap.size a b c (by rw [cell_of yr]; rfl) (by rw [cell_of yr]; rfl) (by rw [cell_of yr]; rfl)
  have n0 : Lib.compareInt p.1 q.1 = Lib.compareInt p.1 q.1 := rfl
  clear ha hb hc n0 kC
  go_region_held3 (fun w' => w'.cell? ⟨w.heap.size, 0, none⟩ = some (.int .i64 p.1) ∧ w'.cell? ⟨w.heap.size, 1, none⟩ = some (.int .i64 p.2.1) ∧ w'.cell? ⟨w.heap.size, 2, none⟩ = some (.int .i64 p.2.2) ∧ w'.cell? ⟨w.heap.size + 1, 0, none⟩ = some (.int .i64 q.1) ∧ w'.cell? ⟨w.heap.size + 1, 1, none⟩ = some (.int .i64 q.2.1) ∧ w'.cell? ⟨w.heap.size + 1, 2, none⟩ = some (.int .i64 q.2.2)) ((refine ⟨?_, ?_, ?_, ?_, ?_, ?_⟩ <;> repeat (with_reducible (first | assumption | apply cell_dr | apply cell_al)))) (first
    | (go_at_call_of 38 (Value.int .i64 p.1); refine (k1 _).mono ?_; rintro e w' ⟨rfl, hw⟩; rw [hw]; clear hw)
    | (go_at_call_of 38 (Value.int .i64 p.2.1); refine (k2 _).mono ?_; rintro e w' ⟨rfl, hw⟩; rw [hw]; clear hw)
    | (go_at_call_of 38 (Value.int .i64 p.2.2); refine (k3 _).mono ?_; rintro e w' ⟨rfl, hw⟩; rw [hw]; clear hw)
    | (go_at_call 37; refine k4.mono ?_; rintro e w' ⟨rfl, hw⟩; rw [hw]; clear hw))
  go_wp2
  all_goals go_returns
  all_goals exact ⟨rfl, hfin⟩
end Go.Proofs.Ythgpbbpmfpfjnaa
namespace Go.Proofs.Ythgpbbpmfpfjnaa.P
open Go.ChangeShapes Go.WideShapes Go.ChangeAt Go.RowKit Go.ChangeMaps Go.MapKept
set_option linter.unusedVariables false
set_option linter.unusedSimpArgs false
set_option maxRecDepth 20000
/-- A range over map m goes on at block r: what of F has come is ss; cnt are left. -/
def HRg (w : World) (m r n : Nat) (F : HKey → Option Value) (ss : List HKey) (cnt : Nat) : Prop :=
  ∃ es clock since seen c0, w.heap[m]? = some (.map es clock) ∧ w.heap[r]? = some (.mapIter (some m) since seen c0) ∧ MapKept.Stamped es clock ∧ es.size ≤ n ∧ (∀ x ∈ es.toList, ∃ k, x.key = hK k ∧ True) ∧ (∀ k v, F k = some v ↔ ∃ x ∈ es.toList, x.key = hK k ∧ x.val = v) ∧
    (∀ x ∈ es.toList, x.born < since) ∧ (leftOf es seen).size = cnt ∧ since ≤ c0 ∧ since ≤ clock ∧ ss.Nodup ∧ (∀ k ∈ ss, (F k).isSome = true) ∧ ∀ x ∈ es.toList, ∀ k, x.key = hK k → (seen.contains x.born = true ↔ k ∈ ss)
variable {w : World} {m r n : Nat} {F : HKey → Option Value} {ss : List HKey} {cnt : Nat}
theorem HRg.walks {w' : World} (h : HRg w m r n F ss cnt) (hk : KeepsWalks w w') : HRg w' m r n F ss cnt := by
  obtain ⟨es, clock, since, seen, c0, a, b, rest⟩ := h
  exact ⟨es, clock, since, seen, c0, hk.same m _ a rfl, hk.same r _ b rfl, rest⟩
theorem HRg.iter (h : HRg w m r n F ss cnt) : ∃ o : Obj, w.heap[r]? = some o ∧ o.isWalk = true := by
  obtain ⟨es, clock, since, seen, c0, a, b, rest⟩ := h
  exact ⟨_, b, rfl⟩
theorem HRg.left_eq (h : HRg w m r n F ss cnt) : w.rangeLeft m r = cnt := by
  obtain ⟨es, clock, since, seen, c0, hb, hr, _, _, _, _, _, hc, _⟩ := h
  simp only [World.rangeLeft, hb, hr]
  exact hc
theorem HRg.nodup (h : HRg w m r n F ss cnt) : ss.Nodup := by
  obtain ⟨es, c, _, _, _, _, _, _, _, _, _, _, _, _, _, h, _⟩ := h
  exact h
theorem HRg.bel {w' : World} (h : HRg w m r n F ss cnt) (e1 : w'.heap[m]? = w.heap[m]?) (e2 : w'.heap[r]? = w.heap[r]?) : HRg w' m r n F ss cnt := by
  obtain ⟨es, clock, since, seen, c0, a, b, rest⟩ := h
  exact ⟨es, clock, since, seen, c0, e1.trans a, e2.trans b, rest⟩
theorem HM.range {t e : TypeId} (h : HM w m n F) (ht : Try.prog.underlying t = some (.map 28 e)) :
    ∃ w' c, (Instr.range t (.map (some m))).run Try.prog w = .ok (.pointer (some ⟨w.heap.size, 0, none⟩)) w' ∧ HRg w' m w.heap.size n F [] c ∧ c ≤ n ∧ w.grownBy w' none ∧ w'.heap.size = w.heap.size + 1 := by
  have hlt := h.lt
  obtain ⟨es, clock, hb, hst, hs, hk, hF⟩ := h
  refine ⟨_, es.size, run_range_map w t 28 e m es clock ht hb, ⟨es, clock, clock, #[], clock, ((MapKept.heap_alloc w _).2 m hlt).trans hb, (MapKept.heap_alloc w _).1, hst, hs, hk, hF, ((stamped_iff es clock).1 hst).1, ?_, Nat.le_refl _, Nat.le_refl _, List.nodup_nil, by simp, by simp⟩, hs, World.grownBy_alloc w _ none, by simp⟩
  simp [leftOf]
/-- One step of it. -/
theorem HRg.next (h : HRg w m r n F ss cnt) (ty : TypeId) :
    (cnt = 0 ∧ (∀ k, k ∈ ss ↔ (F k).isSome = true) ∧ (Instr.next (.pointer (some ⟨r, 0, none⟩)) false ty).run Try.prog w = .ok (.tuple #[.bool false]) w) ∨
    ∃ k v w' cnt', F k = some v ∧ k ∉ ss ∧ (Instr.next (.pointer (some ⟨r, 0, none⟩)) false ty).run Try.prog w = .ok (.tuple #[.bool true, hK k, v]) w' ∧
      HRg w' m r n F (ss ++ [k]) cnt' ∧ cnt' < cnt ∧ w.grownBy w' (some r) ∧ w'.heap.size = w.heap.size ∧ (Instr.entry (.pointer (some ⟨r, 0, none⟩))).run Try.prog w' = .ok (.tuple #[hK k, v]) w' := by
  obtain ⟨es, clock, since, seen, c0, hb, hr, hst, hs, hk, hF, hold, rfl, hsc, hsk, hnd, hin, hseen⟩ := h
  have hne : r ≠ m := fun e => by rw [e, hb] at hr; cases hr
  have hst' := (stamped_iff es clock).1 hst
  rcases run_next_at (P := Try.prog) w ty r m since c0 seen es clock hr hb hold hsc with ⟨h0, hrun⟩ | ⟨e, he, w1, hal, hrun⟩
  · refine .inl ⟨h0, fun k => ⟨hin k, fun q => ?_⟩, hrun⟩
    obtain ⟨v, hv⟩ := Option.isSome_iff_exists.1 q
    obtain ⟨x, hx, hxk, _⟩ := (hF k v).1 hv
    exact (hseen x hx k hxk).1 (all_seen es seen h0 x hx)
  · obtain ⟨hem, hes⟩ := mem_left he
    obtain ⟨k, hek, _⟩ := hk e hem
    have hFk : F k = some e.val := (hF k _).2 ⟨e, hem, hek, rfl⟩
    have hr1 : w1.heap[r]? = some (.mapIter (some m) since seen c0) := by rcases hal with rfl | rfl <;> exact hr
    have hb1 : w1.heap[m]? = some (.map es clock) := by rcases hal with rfl | rfl <;> exact hb
    have hset := heap_set (o' := .mapIter (some m) since (seen.push e.born) clock) hr1
    have hb' : (setBlock w1 r (.mapIter (some m) since (seen.push e.born) clock)).heap[m]? = some (.map es clock) := (hset.2 m (fun e1 => hne e1.symm)).trans hb1
    have hnk : k ∉ ss := fun q => by
      have := (hseen e hem k hek).2 q
      rw [hes] at this; cases this
    refine .inr ⟨k, e.val, _, _, hFk, hnk, by rw [← hek]; exact hrun,
      ⟨es, clock, since, seen.push e.born, clock, hb', hset.1, hst, hs, hk, hF, hold, rfl, hsk, hsk, ?_, ?_, fun x hx k' hxk => ?_⟩, left_shrinks es seen e he, ?_, ?_, by rw [← hek]; exact run_entry_at _ r m since seen es clock e hset.1 hb' hem hst'.2.1⟩
    · exact List.nodup_append.2 ⟨hnd, by simp, fun a ha b hb2 => by simp at hb2; subst hb2; exact fun q => hnk (q ▸ ha)⟩
    · intro k' q
      rcases List.mem_append.1 q with q | q
      · exact hin k' q
      · simp at q; subst q; rw [hFk]; rfl
    · rw [contains_push, Bool.or_eq_true, List.mem_append, hseen x hx k' hxk, List.mem_singleton]
      refine or_congr Iff.rfl ?_
      constructor
      · intro q
        have q' : x.born = e.born := by simpa using q
        obtain rfl := born_inj hst'.2.1 hx hem q'
        exact hK_inj (hxk.symm.trans hek)
      · rintro rfl
        have : x = e := entry_eq_of_key hst'.2.2 hx hem (hxk.trans hek.symm)
        subst this; simp
    · rcases hal with rfl | rfl <;> exact ⟨rfl, rfl, rfl, by simp [setBlock], fun i _ hi => hset.2 i (fun e1 => hi (by rw [e1]))⟩
    · rcases hal with rfl | rfl <;> simp [setBlock]
section
variable {Fe : Fence} {q : Nat} {a : Act} {o : Oper} {ops : Array Oper} {rest : List Oper} {Q : Exit → Act → World → Prop} (w)
theorem in_range (hg : o.guard = none) (mo : Operand) (t e : TypeId) (hop : o.op = Op.range t mo) (ht : Try.prog.underlying t = some (.map 28 e)) (hm : a.eval mo = .map (some m)) (h : HM w m n F)
    (hK : ∀ w' c, HRg w' m w.heap.size n F [] c → c ≤ n → w.grownBy w' none → w'.heap.size = w.heap.size + 1 → wpListIn Fe q Try.prog ops Q rest (a.put o.dst (.pointer (some ⟨w.heap.size, 0, none⟩))) w') :
    wpListIn Fe q Try.prog ops Q (o :: rest) a w := by
  refine wpListIn_plain hg fun K' hK' => ?_
  obtain ⟨w', c, hrun, r1, r0, r2, r3⟩ := h.range ht
  unfold Oper.wpIn
  refine ⟨?_, ?_⟩
  · simp [Oper.about, hop]
  · rw [Oper.semAt_plain Fe _ _ (by rw [hop]; intro c hc'; cases hc')]
    simp [execOp, hop, hm, hrun, Result.andThen]
    exact hK' _ _ (hK w' c r1 r0 r2 r3)
theorem in_next (hg : o.guard = none) (it : Operand) (hop : o.op = Op.next it false) (hit : a.eval it = .pointer (some ⟨r, 0, none⟩)) (h : HRg w m r n F ss cnt)
    (hDone : cnt = 0 → (∀ k, k ∈ ss ↔ (F k).isSome = true) → wpListIn Fe q Try.prog ops Q rest (a.put o.dst (.tuple #[.bool false])) w)
    (hMore : ∀ k v w' cnt', F k = some v → k ∉ ss → HRg w' m r n F (ss ++ [k]) cnt' → cnt' < cnt → w.grownBy w' (some r) → w'.heap.size = w.heap.size → (Instr.entry (.pointer (some ⟨r, 0, none⟩))).run Try.prog w' = .ok (.tuple #[hK k, v]) w' → wpListIn Fe q Try.prog ops Q rest (a.put o.dst (.tuple #[.bool true, hK k, v])) w') :
    wpListIn Fe q Try.prog ops Q (o :: rest) a w := by
  refine wpListIn_plain hg fun K' hK' => ?_
  unfold Oper.wpIn
  refine ⟨by simp [Oper.about, hop], ?_⟩
  rw [Oper.semAt_plain Fe _ _ (by rw [hop]; intro c hc'; cases hc')]
  rcases h.next o.type with ⟨h0, hl, hrun⟩ | ⟨k, v, w', cnt', h1, h2, hrun, h3, h4, h5, h6, h7⟩
  · simp [execOp, hop, hit, hrun, Result.andThen]
    exact hK' _ _ (hDone h0 hl)
  · simp [execOp, hop, hit, hrun, Result.andThen]
    exact hK' _ _ (hMore k v w' cnt' h1 h2 h3 h4 h5 h6 h7)
end
set_option maxHeartbeats 1000000 in
/-- The iterator that maps.Keys hands back. -/
theorem keys1_in (l Bm : Nat) (J : List HKey → World → Prop)
    (hY : ∀ pre x W, J pre W → pre.length < n → YieldAt Fence.wide 0 Try.prog l #[hK x] W fun e W' => e = .returned (.bool true) ∧ J (pre ++ [x]) W' ∧ KeepsWalks W W')
    (W : World) (hJ : AbidesFrom W.heap.size J) (hm : W.cell? ⟨Bm, 0, none⟩ = some (.map (some m))) (hown : HM W m n F) (h0 : J [] W) :
    CallsIn Fence.wide 1 Try.prog 36 #[.func (.yield l) #[] #[], .pointer (some ⟨Bm, 0, none⟩)] W fun e W' => (∃ v, e = .returned v) ∧ ∃ ss : List HKey, (ss.Nodup ∧ (∀ k, k ∈ ss ↔ (F k).isSome = true) ∧ ss.length ≤ n) ∧ J ss W' := by
  refine callsIn_of_wp Try.func36 rfl trivial ?_ rfl
  simp only [Try.ntmps36, List.size_toArray, List.length_cons, List.length_nil, Nat.reduceAdd, Nat.reduceSub, Array.replicate_succ, Array.replicate_zero, List.push_toArray, List.append_toArray, List.nil_append, List.cons_append]
  gi_wp2_with (first
    | (gi_at_range; refine in_range _ rfl _ 54 76 rfl Try.underlying54 rfl hown ?_; intro w0 c0 hrg0 hc0 hg0 hs0)
    | gi_in)
  go_frame
  gi_loopw [3] (fun _ wr => ∃ (cnt : Nat) (ss : List HKey), HRg wr m W.heap.size n F ss cnt ∧ ss.length + cnt ≤ n ∧ J ss wr)
    (fun _ wr => wr.rangeLeft m W.heap.size)
  case atStart =>
    exact ⟨_, [], hrg0, by simpa using hc0, hJ [] W w0 none h0 hg0 (fun r e => by cases e)⟩
  case round =>
    obtain ⟨cnt, ss, hrg, hcs, hJs⟩ := hrel
    gi_wp2_with (first
      | (gi_at_next; refine in_next _ rfl _ rfl rfl hrg ?_ ?_)
      | gi_in)
    · intro hc0 hl0
      gi_wp2
      go_end0
      exact ⟨⟨_, rfl⟩, ss, ⟨hrg.nodup, fun k => hl0 k.1 k.2.1 k.2.2, by omega⟩, hJs⟩
    · intro x1 x2 x3 c w2 cnt2 hFx hnx hrg2 hlt hg2 hs2 hen
      obtain ⟨x, hx⟩ : ∃ x : HKey, x = (x1, x2, x3) := ⟨_, rfl⟩
      have hen' : (Instr.entry (.pointer (some ⟨W.heap.size, 0, none⟩))).run Try.prog w2 = .ok (.tuple #[.agg #[.int .i64 x1, .int .i64 x2, .int .i64 x3], c]) w2 := hen
      clear hen
      rw [← hx] at hFx hnx hrg2
      have hJ2 : J ss w2 := hJ ss wr w2 (some W.heap.size) hJs hg2 (fun r e => by cases e; exact ⟨Nat.le_refl _, hrg.iter⟩)
      have hJ4 : J ss (w2.alloc (.cells #[.int .i64 x1, .int .i64 x2, .int .i64 x3] 28)) := hJ ss w2 _ none hJ2 (World.grownBy_alloc w2 _ none) (fun r e => by cases e)
      have hrg4 := hrg2.walks (KeepsWalks.alloc w2 (.cells #[.int .i64 x1, .int .i64 x2, .int .i64 x3] 28))
      obtain ⟨fn, tmps, assign, body, hy, hR⟩ := hY ss (x1, x2, x3) _ hJ4 (by omega)
      change (Instr.yield l #[.agg #[.int .i64 x1, .int .i64 x2, .int .i64 x3]]).run Try.prog _ = _ at hy
      clear hs2
      gi_wp2
      refine hR.mono ?_
      rintro e W3 ⟨rfl, hJ3, hk3⟩
      gi_wp2
      have hrg3 := hrg4.walks hk3
      go_roundw
      case rel => exact ⟨cnt2, ss ++ [x], hrg3, by simp; omega, by rw [hx]; exact hJ3⟩
      case measure => rw [hrg3.left_eq, hrg.left_eq]; exact hlt
theorem keys_gives (w : World) (Bm : Nat) (hB : Bm < w.heap.size) (hm : w.cell? ⟨Bm, 0, none⟩ = some (.map (some m))) (hown : HM w m n F) :
    SeqGives Fence.wide 1 Try.prog 36 #[.pointer (some ⟨Bm, 0, none⟩)] hK (fun ss => ss.Nodup ∧ (∀ k, k ∈ ss ↔ (F k).isSome = true) ∧ ss.length ≤ n) n w := fun l J W hW hJ hY h0 =>
  keys1_in l Bm J hY W hJ ((hW.cell (p := ⟨Bm, 0, none⟩) hB).trans hm) (hown.keep (hW.block m hown.lt)) h0
/-- maps.Keys. -/
theorem keys_any (mb : Option Nat) (W : World) : Calls Try.prog 30 #[.map mb] W fun e w' => e = .returned (.func (.func 36) #[] #[.pointer (some ⟨W.heap.size, 0, none⟩)]) ∧ w' = W.alloc (.cells #[.map mb] 54) := by
  go_enter Try.func30, Try.ntmps30
  go_wp2
  all_goals go_returns
  all_goals exact ⟨rfl, rfl⟩
end Go.Proofs.Ythgpbbpmfpfjnaa.P
namespace Go.Proofs.Ythgpbbpmfpfjnaa
open Go.ChangeShapes Go.WideShapes Go.ChangeAt Go.RowKit
set_option linter.unusedVariables false
set_option linter.unusedSimpArgs false
set_option maxRecDepth 20000
attribute [local go_sem] Oper.semAt_some
theorem walk_keep {A B : World} (h : KeepsOthers A B) : KeepsWalks A B := ⟨h.size, fun k o hk ho => h.same k o hk (Obj.not_cells_of_walk ho)⟩
theorem loop_seq {α : Type} {enc : α → Value} {n : Nat} {g : Operand} {t : Tmp} {assign body : Code} {Q : Exit → Act → World → Prop} {a : Act} {w : World} (h1 : 1 ≤ n) {gf : Nat} {lb : Array Value} (hg : a.eval g = .func (.func gf) #[] lb) (eg : ∀ args w, (callFunc gf args).run Try.prog w = .ok (.enter gf args) w)
    {S : List α → Prop} {N : Nat} {w0 : World} (hseq : SeqGives Fence.wide (n - 1) Try.prog gf lb enc S N w0) (hw0 : Below w0.heap.size w0 w)
    (I : List α → World → Prop) (hI : OwnFrom w.heap.size I) (h0 : I [] w)
    (Ax : α → Act → World → Prop) (hAx : ∀ x a', OwnFrom w.heap.size (fun (_ : Unit) W => Ax x a' W))
    (hassign : ∀ (l : Nat) (pre : List α) (x : α) (W : World) (K : Act → World → Prop), I pre W → (∀ a' W', KeepsOthers W W' → I pre W' → Ax x a' W' → K a' W') → assign.wpIn (Fence.wide.inRound l) (n - 1 - 1) Try.prog (Exit.then K (fun _ _ _ => False)) { tmps := a.tmps.setIfInBounds t (enc x), defers := [] } W)
    (hbody : ∀ (l : Nat) (pre : List α) (x : α) (a' : Act) (W : World), I pre W → Ax x a' W → pre.length < N → body.wpIn (Fence.wide.inRound l) (n - 1 - 1) Try.prog (ownPost I (fun _ _ _ => False) (pre ++ [x]) W) a' W)
    (hdone : ∀ (D : Nat) (W : World) (xs : List α), w.heap.size ≤ D → S xs → I xs W → W.heap[D]? = some (.deferred (some [])) → Q .normal { a with defers := { target := .collected D, args := #[] } :: a.defers } W) :
    (Code.rangeFunc g #[t] assign body).wpIn Fence.wide n Try.prog Q a w := by
  refine wpIn_rangeFunc fun fn hfn => ?_
  have hen := run_enterLoop_outer (P := Try.prog) (w := w) fn a.tmps #[t] assign body
  let R (s : LoopState) : Obj := .loop { state := s, pending := none, fn := fn, tmps := a.tmps, params := #[t], assign := assign, body := body, defers := w.heap.size }
  have hbig : Below w.heap.size w ((w.alloc (.deferred (some []))).alloc (R .ready)) := ((Below.refl _ w).alloc (Nat.le_refl _) _).alloc (by simp) _
  have hsz : ((w.alloc (.deferred (some []))).alloc (R .ready)).heap.size = w.heap.size + 2 := by simp
  have hrec : ((w.alloc (.deferred (some []))).alloc (R .ready)).heap[w.heap.size + 1]? = some (R .ready) := by
    have := World.alloc_heap_new (w.alloc (.deferred (some []))) (R .ready); rwa [World.size_alloc] at this
  have hdef : ((w.alloc (.deferred (some []))).alloc (R .ready)).heap[w.heap.size]? = some (.deferred (some [])) := (Below.heap_alloc _ _ _ (by simp)).trans (World.alloc_heap_new w _)
  have hI1 : I [] ((w.alloc (.deferred (some []))).alloc (R .ready)) := hI.alloc _ (hI.alloc _ h0)
  refine ⟨w.heap.size + 1, _, _, { target := .fn (.func gf) lb, args := #[.func (.yield (w.heap.size + 1)) #[] #[]] }, (w.alloc (.deferred (some []))).alloc (R .ready), gf, #[.func (.yield (w.heap.size + 1)) #[] #[]] ++ lb, (w.alloc (.deferred (some []))).alloc (R .ready), hen, ?_, fun _ _ => trivial, ?_, fun _ => h1, ?_⟩
  · simp only [resolve, hg]
    simp [go_sem, R]
  · simp [invoke, go_sem, eg]
  refine (hseq (w.heap.size + 1) (fun pre W => I pre W ∧ W.heap[w.heap.size + 1]? = some (R .ready) ∧ W.heap[w.heap.size]? = some (.deferred (some []))) ((w.alloc (.deferred (some []))).alloc (R .ready)) (hw0.trans (hbig.mono hw0.size))
    ?abides ?round ⟨hI1, hrec, hdef⟩).mono ?done
  case abides =>
    intro s A B row hs hg' hr
    have hr1 : ∀ r, row = some r → ∃ o : Obj, A.heap[r]? = some o ∧ o.isWalk = true := fun r e => (hr r e).2
    exact ⟨hI s A B row hs.1 hg' (fun r e => by obtain ⟨o, ho, hw⟩ := hr1 r e; exact ⟨by have := (hr r e).1; rw [hsz] at this; omega, o, ho, Obj.not_cells_of_walk hw⟩), (grownBy_keeps hg' hr1 hs.2.1 rfl).trans hs.2.1, (grownBy_keeps hg' hr1 hs.2.2 rfl).trans hs.2.2⟩
  case round =>
    rintro pre x W ⟨hi, hr, hd⟩ hpx
    have hlt := (Array.getElem?_eq_some_iff.1 hr).1
    have ez : (#[t].zip #[enc x]).foldl (fun tmps (p, v) => tmps.setIfInBounds p v) a.tmps = a.tmps.setIfInBounds t (enc x) := by simp
    refine ⟨fn, _, assign, body, run_yield hr rfl, roundIn_of_wpIn trivial ?_⟩
    dsimp only
    rw [ez]
    refine hassign _ pre x W _ hi fun a' W' hkf hi' hax => ?_
    have hr' := hkf.same (w.heap.size + 1) _ hr rfl
    have hd' := hkf.same w.heap.size _ hd rfl
    have hlt' := (Array.getElem?_eq_some_iff.1 hr').1
    refine ⟨_, run_beginRound hr' rfl, ?_⟩
    refine wpIn_mono (hbody _ pre x a' _ (hI.putObj _ hi' (by omega) hr' rfl) ((hAx x a').putObj (s := ()) _ hax (by omega) hr' rfl) hpx) ?_
    rintro e a3 W3 hp
    cases e with
    | normal =>
      obtain ⟨hk, hi3⟩ := hp
      have hr3 := hk.same (w.heap.size + 1) _ (World.putObj_heap_same (o := R .busy) hlt') rfl
      have hd3 := hk.same w.heap.size _ ((World.putObj_heap_other (by omega)).trans hd') rfl
      have hlt3 := (Array.getElem?_eq_some_iff.1 hr3).1
      exact ⟨_, _, run_endRound none hr3, rfl, ⟨hI.putObj _ hi3 (by omega) hr3 rfl, World.putObj_heap_same hlt3, (World.putObj_heap_other (by omega)).trans hd3⟩, (((walk_keep hkf).trans (KeepsWalks.putObj _ hr' rfl)).trans (walk_keep hk)).trans (KeepsWalks.putObj _ hr3 rfl)⟩
    | ret => exact hp.2.elim
    | exit id => exact hp.2.elim
    | goto t => exact hp.2.elim
    | panic ch => exact hp.elim
    | outgrown => exact hp.elim
  case done =>
    rintro e W2 ⟨⟨v, rfl⟩, xs, hS, hi, hr, hd⟩
    exact ⟨none, _, run_endLoop hr (by simp), hdone _ _ xs (Nat.le_refl _) hS (hI.putObj _ hi (by omega) hr rfl) ((World.putObj_heap_other (by omega)).trans hd)⟩
theorem info28 : (Try.prog.info? 28).map (fun i => (i.zero, i.size, i.bytes)) = some (some (.agg #[.int .i64 0, .int .i64 0, .int .i64 0]), 3, 24) := by kernel_rfl
/-- Places as a row's cells. -/
def pCells (l : List PKey) : List Value := l.flatMap fun k => [.int .i64 k.1, .int .i64 k.2.1, .int .i64 k.2.2]
theorem pCells_app (l : List PKey) (k : PKey) : pCells (l ++ [k]) = pCells l ++ [.int .i64 k.1, .int .i64 k.2.1, .int .i64 k.2.2] := by simp [pCells]
set_option maxHeartbeats 2000000 in
theorem appendSeq_in (w : World) (g : Nat) (lb : Array Value) (eg : ∀ args w, (callFunc g args).run Try.prog w = .ok (.enter g args) w) (S : List PKey → Prop) (N : Nat) (hN : N ≤ 1000000) (hseq : SeqGives Fence.wide 1 Try.prog g lb P.hK S N w) :
    CallsIn Fence.wide 2 Try.prog 40 #[.slice none 0 0, .func (.func g) #[] lb] w fun e' w' => ∃ v ss, e' = .returned v ∧ S ss ∧ w'.ownsRow w.heap.size 28 3 v ss.length (pCells ss) ∧ Below w.heap.size w w' := by
  obtain ⟨i28, hi28, hz0, hz1, hz2⟩ := info_parts info28
  refine callsIn_of_wp_marks Try.func40 rfl trivial ?_ rfl
  simp only [Try.ntmps40, List.size_toArray, List.length_cons, List.length_nil, Nat.reduceAdd, Nat.reduceSub, Array.replicate_succ, Array.replicate_zero, List.push_toArray, List.append_toArray, List.nil_append, List.cons_append]
  gi_wp2
  have bO := Boxed.new w 48 (.slice none 0 0)
  have hB0 : Below w.heap.size w (w.alloc (.cells #[.slice none 0 0] 48)) := (Below.refl _ w).alloc (Nat.le_refl _) _
  have hrow0 : (w.alloc (.cells #[.slice none 0 0] 48)).ownsRow w.heap.size 28 3 (.slice none 0 0) 0 [] := ⟨rfl, .inl ⟨rfl, rfl⟩⟩
  have hsz : w.heap.size ≤ (w.alloc (.cells #[.slice none 0 0] 48)).heap.size := hB0.size
  have hlt0 : w.heap.size < (w.alloc (.cells #[.slice none 0 0] 48)).heap.size := by simp
  obtain ⟨tB, htB⟩ : ∃ tB, tB = w.heap.size := ⟨_, rfl⟩
  have bO' : Boxed (w.alloc (.cells #[.slice none 0 0] 48)) tB 48 (.slice none 0 0) := htB ▸ bO
  have hzB : w.heap.size ≤ tB := by omega
  rw [show (Value.pointer (some ⟨w.heap.size, 0, none⟩)) = Value.pointer (some ⟨tB, 0, none⟩) by rw [htB]]
  clear bO hlt0 htB
  generalize w.alloc (.cells #[.slice none 0 0] 48) = W0 at bO' hB0 hrow0 hsz ⊢
  refine loop_seq (enc := P.hK) (by omega) (gf := g) (lb := lb) rfl eg hseq hB0
    (fun pre W => (∃ v, Boxed W tB 48 v ∧ W.ownsRow w.heap.size 28 3 v pre.length (pCells pre) ∧ True) ∧ Below w.heap.size w W)
    ?hown ⟨⟨_, bO', hrow0, trivial⟩, hB0⟩
    (fun k a' W => ∃ z : Nat, a' = { tmps := #[.slice none 0 0, .func (.func g) #[] lb, .pointer (some ⟨tB, 0, none⟩), undef, .slice none 0 0, .pointer (some ⟨z, 0, none⟩), .func (.func g) #[] lb, P.hK k, undef, undef, undef, undef, undef], defers := [] } ∧ W.heap[z]? = some (.cells #[.int .i64 k.1, .int .i64 k.2.1, .int .i64 k.2.2] 28 (0, 0))) ?hAx ?hassign ?hbody ?hdone
  case hown => exact OwnFrom.and (Own.from (holdsRow_own w.heap.size tB 48 28 3 (fun pre : List PKey => pre.length) (fun pre => pCells pre) (fun pre v => True)) _) (ownFrom_below (Nat.le_refl _) hsz)
  case hAx =>
    rintro k a' _ W W' row ⟨z, ha, hz⟩ hg hrw
    refine ⟨z, ha, ?_⟩
    rw [hg.block z (heap_lt hz) (fun q => ?_)]
    · exact hz
    · obtain ⟨_, o, ho, hc⟩ := hrw z q.symm
      rw [hz] at ho; cases ho; cases hc
  case hassign =>
    intro l pre k W K hi hK
    unfold P.hK
    gi_wp2
    refine hK _ _ (KeepsOthers.alloc W _) ?_ ⟨W.heap.size, rfl, heap_alloc_new W _⟩
    obtain ⟨⟨v, hv, hr, _⟩, hB⟩ := hi
    exact ⟨⟨v, hv.alloc _, hr.alloc _, trivial⟩, hB.alloc hB.size _⟩
  case hbody =>
    rintro l pre k a' W ⟨⟨v, hv, hr, _⟩, hB⟩ ⟨z, rfl, hz⟩ hpl
    have hc := hv.cell
    have z0 := cell_of hz 0
    have z1 := cell_of hz 1
    have z2 := cell_of hz 2
    simp at z0 z1 z2
    gi_wp2_with (gi_at_builtin; refine wpListIn_append_own _ rfl _ _ 48 rfl w.heap.size 28 i28 (.agg #[.int .i64 0, .int .i64 0, .int .i64 0]) 3 24 Try.underlying48 hi28 hz0 hz1 hz2 rfl (by decide) _ _ _ rfl (hr.alloc _) ⟨W.heap.size, 0, none⟩ 1 1 [.int .i64 k.1, .int .i64 k.2.1, .int .i64 k.2.2] rfl rfl (news_new _ _ _ _ rfl) (by simp [Value.oneCell']) (by simp [maxLen]; omega) (by omega) (by have := hB.size; simp; omega) ?_; intro v' w1 hown' hgrow _; obtain ⟨g', cap', rfl⟩ := ownsRow_succ hown'; obtain ⟨hv1, hv2, hr2, hk2, hb2⟩ := hv.appended (by decide) hr hB.size hzB hown' hgrow; have hc1 := hv1.cell; have hf1 := hv1.frozen)
    refine ⟨hk2, ⟨_, hv2, ?_, trivial⟩, hB.trans hb2⟩
    rw [List.length_append, pCells_app]
    exact hr2
  case hdone =>
    rintro D W xs hD hS ⟨⟨v, hv, hr, _⟩, hB⟩ hK
    have hc := hv.cell
    gi_wp2
    refine ⟨by simp, .inl ⟨_, _, rfl, run_takeDeferred hK, ?_⟩⟩
    refine ⟨_, results_tmp rfl _ _ _, v, xs, rfl, hS, ?_, ?_⟩
    · exact ownsRow_putObj hr _ hK rfl
    · exact hB.grown (grownBy_putObj' W D _) hB.size (fun k q => by cases q; exact Nat.le_trans hsz hD)
theorem collect_any (w : World) (g : Nat) (lb : Array Value) (eg : ∀ args w, (callFunc g args).run Try.prog w = .ok (.enter g args) w) (S : List PKey → Prop) (N : Nat) (hN : N ≤ 1000000) (hseq : SeqGives Fence.wide 1 Try.prog g lb P.hK S N w) :
    Calls Try.prog 34 #[.func (.func g) #[] lb] w fun e' w' => ∃ v ss, e' = .returned v ∧ S ss ∧ w'.ownsRow w.heap.size 28 3 v ss.length (pCells ss) ∧ Below w.heap.size w w' := by
  have k1 := callsIn_wide.1 (appendSeq_in w g lb eg S N hN hseq)
  clear hseq
  go_enter Try.func34, Try.ntmps34
  go_wp2_with (go_at_call 40; refine k1.mono ?_; rintro e w' ⟨v, ss, rfl, hS, hr, hb⟩)
  all_goals go_returns
  all_goals exact ⟨v, ss, rfl, hS, hr, hb⟩
end Go.Proofs.Ythgpbbpmfpfjnaa
namespace Go.Proofs.Ythgpbbpmfpfjnaa
open Go.ChangeShapes Go.WideShapes Go.ChangeAt Go.RowKit Go.Shelf Go.Lib Go.Sort
set_option linter.unusedVariables false
set_option linter.unusedSimpArgs false
set_option maxRecDepth 20000
/-- A place's three cells. -/
def encP (k : PKey) : List Value := [.int .i64 k.1, .int .i64 k.2.1, .int .i64 k.2.2]
theorem pCells_at : ∀ (l : List PKey) (t : Nat), t < l.length * 3 → (pCells l)[t]? = some ((encP l[t / 3]!)[t % 3]!)
  | [], t, h => by simp at h
  | k :: l, 0, _ => by simp [pCells, encP]
  | k :: l, 1, _ => by simp [pCells, encP]
  | k :: l, 2, _ => by simp [pCells, encP]
  | k :: l, t + 3, h => by
    have := pCells_at l t (by simp at h; omega)
    have e1 : (t + 3) / 3 = t / 3 + 1 := by omega
    have e2 : (t + 3) % 3 = t % 3 := by omega
    rw [e1, e2]
    have e3 : (k :: l)[t / 3 + 1]! = l[t / 3]! := by simp [List.getElem!_eq_getElem?_getD]
    rw [e3, ← this]
    simp [pCells]
theorem pCells_len (l : List PKey) : (pCells l).length = l.length * 3 := by
  induction l with
  | nil => rfl
  | cons k l ih => simp [pCells] at ih ⊢; omega
theorem flat_p (d : Array PKey) : (flatK encP 3 d).toList = pCells d.toList := by
  apply List.ext_getElem?
  intro t
  by_cases h : t < d.size * 3
  · rw [pCells_at _ _ (by simpa using h)]
    have h2 := get_flatK encP 3 d t h
    rw [getElem!_pos _ t (by simpa using h)] at h2
    rw [Array.getElem?_toList, Array.getElem?_eq_getElem (by simpa using h), h2]
    simp [List.getElem!_eq_getElem?_getD, Array.getElem!_eq_getD, Array.getD_eq_getD_getElem?]
  · rw [List.getElem?_eq_none (by simp; omega), List.getElem?_eq_none (by rw [pCells_len]; simp; omega)]
theorem holds_p {w : World} {g : Nat} {cur : Array Value} {e : TypeId} {ss : List PKey} (hb : w.heap[g]? = some (.cells cur e (0, 0))) (ht : cur.toList.take (ss.length * 3) = pCells ss) : HoldsK encP 3 w g 0 ss.toArray := by
  intro j hj
  have hj' : j < ss.length * 3 := by simpa using hj
  refine ⟨?_, by simp [World.frozen?, hb]⟩
  have h1 : (cur.toList.take (ss.length * 3))[j]? = (pCells ss)[j]? := by rw [ht]
  rw [List.getElem?_take_of_lt hj', show pCells ss = pCells ss.toArray.toList from rfl, ← flat_p, Array.getElem?_toList] at h1
  rw [Nat.zero_add, cell_of hb, h1, Array.getElem?_toList, Array.getElem?_eq_getElem hj, getElem!_pos _ j hj]
  rfl
theorem heap_srt {w : World} {g n : Nat} {os : Array Obj} {cur : Array Value} {e : TypeId} (d : Array PKey) (hb : w.heap[g]? = some (.cells cur e (0, 0))) :
    (sortWorldK encP 3 w g 0 n d os).heap[g]? = some (.cells (putCells id 0 (flatK encP 3 d) cur) e (0, 0)) := by
  have hg : g < w.heap.size := (Array.getElem?_eq_some_iff.1 hb).1
  unfold sortWorldK putRowK
  rw [heap_grow_old _ _ (by simpa using hg)]
  simp [putRow, mapBlock, Sort.ahead, Array.getElem?_modify, hb, onCells]
theorem grown_srt {w : World} {g n : Nat} {os : Array Obj} (d : Array PKey) : w.grownBy (sortWorldK encP 3 w g 0 n d os) (some g) := by
  unfold sortWorldK putRowK
  refine ⟨rfl, rfl, rfl, by simp, fun k hk hne => ?_⟩
  rw [heap_grow_old _ _ (by simpa using hk)]
  have : g ≠ k := fun e => hne (by rw [e])
  simp [putRow, mapBlock, Sort.ahead, Array.getElem?_modify, this]
theorem take_srt (cur : Array Value) (d : Array PKey) (h : d.size * 3 ≤ cur.size) : (putCells id 0 (flatK encP 3 d) cur).toList.take (d.size * 3) = pCells d.toList := by
  rw [← flat_p]
  apply List.ext_getElem?
  intro j
  by_cases hj : j < d.size * 3
  · rw [List.getElem?_take_of_lt hj, Array.getElem?_toList, Array.getElem?_toList]
    have h2 : (flatK encP 3 d)[j]! = (flatK encP 3 d)[j]'(by simpa using hj) := getElem!_pos _ j (by simpa using hj)
    rw [Array.getElem?_eq_getElem (xs := flatK encP 3 d) (by simpa using hj), ← h2]
    simp [putCells, hj, show j < cur.size by omega]
  · rw [List.getElem?_take_eq_none (by omega), List.getElem?_eq_none (by simp; omega)]
theorem cmpLays31 (blk off size : Nat) (w : World) : CmpLays Try.prog 31 #[] encP 3 cmpP blk off size w := fun m os dk _ x y => by
  refine (compare_any x y _).mono ?_
  rintro e w' ⟨rfl, n, os', rfl⟩
  exact ⟨rfl, n, os', rfl⟩
theorem ltP (x y : PKey) : ltOf cmpP x y = decide (x.1 < y.1 ∨ x.1 = y.1 ∧ (x.2.1 < y.2.1 ∨ x.2.1 = y.2.1 ∧ x.2.2 < y.2.2)) := by
  unfold ltOf cmpP orI Lib.compareInt
  apply decide_eq_decide.2
  repeat' split
  all_goals (first | omega | (simp at *; omega))
theorem swoP : SWO (ltOf cmpP) where
  irrefl x := by rw [ltP]; simp
  trans x y z h1 h2 := by rw [ltP] at *; simp at *; omega
  ntrans x y z h1 h2 := by rw [ltP] at *; simp at *; omega
theorem ins_none (p : Option Addr) (cap : Nat) (fv : Value) (w : World) :
    Calls Try.prog 44 #[.slice p 0 cap, .int .i64 0, .int .i64 0, fv] w fun e w' => e = .returned (.tuple #[]) ∧ w' = w := by
  go_enter Try.func44, Try.ntmps44
  go_wp2
  refine wp_loop_rounds 1 ?_
  rw [rounds_succ]
  go_wp2
  go_end0
  exact ⟨rfl, rfl⟩
theorem pdq_none (p : Option Addr) (cap : Nat) (lim : Int) (fv : Value) (w : World) :
    Calls Try.prog 41 #[.slice p 0 cap, .int .i64 0, .int .i64 0, .int .i64 lim, fv] w fun e w' => e = .returned (.tuple #[]) ∧ w' = w := by
  have hi := fun W => ins_none p cap fv W
  go_enter Try.func41, Try.ntmps41
  go_wp2
  refine wp_loop_rounds 1 ?_
  rw [rounds_succ]
  go_wp2_with (go_at_call 44; refine (hi _).mono ?_; rintro e w' ⟨rfl, rfl⟩)
  (try simp only [Exit.inBlock, Exit.then]); refine bodyPost_ret (results_none rfl _ _ _) rfl ?_
  exact ⟨rfl, rfl⟩
theorem sort_none (p : Option Addr) (cap : Nat) (fv : Value) (w : World) :
    Calls Try.prog 35 #[.slice p 0 cap, fv] w fun e w' => e = .returned (.tuple #[]) ∧ w' = w := by
  have hp := fun lim W => pdq_none p cap lim fv W
  have hl := fun W => Try.bits_Len 0 W (by omega) (by omega)
  go_enter Try.func35, Try.ntmps35
  go_wp2_with (first | (go_at_call 42; refine (hl _).mono ?_; rintro e w' ⟨rfl, rfl⟩) | (go_at_call 41; refine (hp _ _).mono ?_; rintro e w' ⟨rfl, rfl⟩))
  go_end0
  exact ⟨rfl, rfl⟩
/-- slices.SortFunc of places. -/
theorem sort_any (blk cap : Nat) (ss : List PKey) (w : World) (cur : Array Value) (hb : w.heap[blk]? = some (.cells cur 28 (0, 0))) (ht : cur.toList.take (ss.length * 3) = pCells ss) (h12 : ss.length ≤ 1000000) :
    Calls Try.prog 35 #[.slice (some ⟨blk, 0, none⟩) ss.length cap, .func (.func 31) #[] #[]] w fun e w' => e = .returned (.tuple #[]) ∧ ∃ ts : List PKey, ts.Perm ss ∧ ts.Pairwise (fun a b => ltOf cmpP b a = false) ∧ w'.heap[blk]? = some (.cells (putCells id 0 (flatK encP 3 ts.toArray) cur) 28 (0, 0)) ∧ w.grownBy w' (some blk) := by
  have eg : ∀ args w, (callFunc 31 args).run Try.prog w = .ok (.enter 31 args) w := enters_of Try.func31 (by kernel_rfl) rfl
  have hcon := AnyQ.slices_SortFunc Try.sortP 3 Try.isAgg28 Try.sizeOf28 encP (fun _ => rfl) (fun x v hv => by simp [encP] at hv; rcases hv with rfl | rfl | rfl <;> rfl) cmpP swoP 31 #[] blk 0 cap ss.toArray w eg (cmpLays31 blk 0 _ w) (holds_p hb ht) (heap_lt hb) (by simp; omega)
  change Calls Try.prog 35 _ _ _ at hcon
  refine hcon.mono ?_
  rintro e w' ⟨rfl, d', n, os, hp, hs, rfl⟩
  obtain ⟨h1, _, h2⟩ := hp
  have h3 : d'.toList.Perm ss := by
    rw [show d'.extract 0 ss.toArray.size = d' by rw [← h1]; simp, show ss.toArray.extract 0 ss.toArray.size = ss.toArray by simp] at h2
    simpa using h2
  refine ⟨rfl, d'.toList, h3, ?_, ?_, grown_srt d'⟩
  · rw [List.pairwise_iff_getElem]
    intro i j hi hj hij
    have hj' : j < d'.size := by simpa using hj
    have := hs i j (Nat.zero_le _) hij (by rw [← h1]; exact hj')
    rw [getElem!_pos d' j hj', getElem!_pos d' i (by omega)] at this
    simpa using this
  · exact heap_srt d' hb
/-- slices.SortedFunc of places. -/
theorem sorted_any (w : World) (g : Nat) (lb : Array Value) (eg : ∀ args w, (callFunc g args).run Try.prog w = .ok (.enter g args) w) (S : List PKey → Prop) (N : Nat) (hN : N ≤ 1000000) (hS : ∀ ss, S ss → ss.length ≤ N) (hseq : SeqGives Fence.wide 1 Try.prog g lb P.hK S N w) :
    Calls Try.prog 29 #[.func (.func g) #[] lb, .func (.func 31) #[] #[]] w fun e' w' => ∃ v ss ts, e' = .returned v ∧ S ss ∧ ts.Perm ss ∧ ts.Pairwise (fun a b => ltOf cmpP b a = false) ∧ w'.ownsRow w.heap.size 28 3 v ts.length (pCells ts) ∧ Below w.heap.size w w' := by
  have k1 := collect_any w g lb eg S N hN hseq
  clear hseq
  go_enter Try.func29, Try.ntmps29
  go_wp2_with (go_at_call 34; refine k1.mono ?_; rintro e w1 ⟨v, ss, rfl, hSs, hr, hb⟩)
  have hlen := hS ss hSs
  rcases hr.2 with ⟨rfl, hz⟩ | ⟨gb, cap, cur, rfl, hbase, hgb, r1, r2, r3, r4⟩
  · have hss : ss = [] := List.eq_nil_of_length_eq_zero hz
    subst hss
    have k2 := sort_none none 0 (.func (.func 31) #[] #[]) w1
    go_wp2_with (go_at_call 35; refine k2.mono ?_; rintro e w' ⟨rfl, hw⟩; rw [hw]; clear hw)
    all_goals go_returns
    all_goals exact ⟨.slice none 0 0, [], [], rfl, hSs, .refl _, .nil, hr, hb⟩
  · have k2 := sort_any gb cap ss w1 cur hgb r4 (by omega)
    go_wp2_with (go_at_call 35; refine k2.mono ?_; rintro e w' ⟨rfl, ts, t1, t2, t3, t4⟩)
    all_goals go_returns
    have hl := t1.length_eq
    refine ⟨.slice (some ⟨gb, 0, none⟩) ss.length cap, ss, ts, rfl, hSs, t1, t2, ⟨by rw [pCells_len], .inr ⟨gb, cap, _, by rw [hl], hbase, t3, by omega, r2, by simp [putCells, r3], ?_⟩⟩, hb.grown t4 hb.size (fun k q => by cases q; exact hbase)⟩
    have := take_srt cur ts.toArray (by simp [hl, r3]; omega)
    simpa using this
end Go.Proofs.Ythgpbbpmfpfjnaa
