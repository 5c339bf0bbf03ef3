/- Towards the statements of package graph (layer 17): Drain. -/
import Derived.Test.YthgpbbpmfpfjnaaGO
namespace Go.Proofs.Ythgpbbpmfpfjnaa
open Go.ChangeShapes Go.WideShapes Go.ChangeAt Go.RowKit
set_option linter.unusedVariables false
set_option linter.unusedSimpArgs false
set_option maxRecDepth 20000
def keysY (Y : Ys) (p : PKey) : List HKey := ((Y p).map fun y => y.2.map Prod.fst).getD []
def dY (Y : Ys) (p : PKey) (tr : Bool) (L : List FKey) (k : Nat) : Ys := updY Y p (if L.drop k = [] then none else some (tr, L.drop k))
theorem dY_zero {Y : Ys} {p : PKey} {tr : Bool} {L : List FKey} (h : Y p = some (tr, L)) (hL : L ≠ []) : dY Y p tr L 0 = Y := by
  funext q
  unfold dY updY
  rw [List.drop_zero, if_neg hL]
  split
  · rename_i e; rw [e, h]
  · rfl
theorem dY_at {Y : Ys} {p : PKey} {tr : Bool} {L : List FKey} {k : Nat} (hk : k < L.length) : dY Y p tr L k p = some (tr, L.drop k) := by
  unfold dY updY
  rw [if_pos rfl, if_neg]
  intro e
  have := congrArg List.length e
  simp at this
  omega
theorem dY_succ {Y : Ys} {p : PKey} {tr : Bool} {L : List FKey} {k : Nat} (hk : k < L.length) : cutY (dY Y p tr L k) p L[k] = dY Y p tr L (k + 1) := by
  have e : L.drop k = L[k] :: L.drop (k + 1) := List.drop_eq_getElem_cons hk
  unfold cutY
  rw [dY_at hk]
  simp only
  rw [show (L.drop k).erase L[k] = L.drop (k + 1) by rw [e, List.erase_cons_head]]
  funext q
  unfold dY updY
  split <;> rfl
theorem dY_end (Y : Ys) (p : PKey) (tr : Bool) (L : List FKey) : dY Y p tr L L.length = updY Y p none := by
  unfold dY
  rw [if_pos (by simp)]
theorem upd_none {Y : Ys} {p : PKey} (h : Y p = none) : updY Y p none = Y := by
  funext q
  unfold updY
  split
  · rename_i e; rw [e, h]
  · rfl
set_option maxHeartbeats 2000000 in
theorem gdrain_any (w : World) (B g N : Nat) (Y : Ys) (A : Nat → Prop) (h : Gi w B g N Y A) (hN : N ≤ 2000) (p : PKey) :
    Calls Try.prog 13 #[.pointer (some ⟨g, 0, none⟩), pK p] w fun e w' => ∃ v A', e = .returned v ∧ w'.ownsRow w.heap.size 31 2 v (keysY Y p).length (hCells (keysY Y p)) ∧ Gi w' B g N (updY Y p none) A' ∧ FG B A A' w w' ∧ ∀ j, v.ownBlock = some j → ¬ A' j := by
  obtain ⟨m1, m2, Z, h, rfl, rfl⟩ := h
  have hb1 := (Below.refl _ w).alloc (Nat.le_refl _) (.cells #[.int .i64 p.1, .int .i64 p.2.1, .int .i64 p.2.2] 28)
  have y3 := heap_alloc_new w (.cells #[.int .i64 p.1, .int .i64 p.2.1, .int .i64 p.2.2] 28)
  have hBw := h.size
  have hltw := h.lt
  have g1 := h.bel hb1
  obtain ⟨r0, r1⟩ := grow_any _ B g m1 m2 N Z g1 p
  cases hz : Z p with
  | none =>
    have k1 := r0 hz
    unfold pK P.hK at *
    go_enter Try.func13, Try.ntmps13
    go_upto_region 1 with fail
    generalize w.alloc (.cells #[.int .i64 p.1, .int .i64 p.2.1, .int .i64 p.2.2] 28) = W at hb1 y3 g1 k1 ⊢
    obtain ⟨d0, d1, d2⟩ := pl_cells y3
    go_wp2_with (first | (go_at_call 27; refine k1.mono ?_; rintro e w1 ⟨rfl, hb2⟩; unfold none94) | (go_at_call 77; refine (all_nil _).mono ?_; rintro e w2 ⟨rfl, hw⟩; rw [hw]; clear hw))
    go_loopw [14] (fun n14 wr => n14 = .int .i64 0 ∧ wr = w1) (fun _ _ => 0)
    case atStart => exact ⟨rfl, rfl⟩
    case round =>
      obtain ⟨rfl, rfl⟩ := hrel
      go_wp2
      all_goals go_returns
      all_goals exact ⟨_, _, rfl, by rw [show keysY (yOf Z) p = [] by simp [keysY, yOf, hz]]; exact Go.World.ownsRow_nil _ _ _ _, ⟨m1, m2, Z, h.bel (hb1.trans (hb2.mono hb1.size)), (upd_none (by simp [yOf, hz])).symm, rfl⟩, FG.of (hb1.trans (hb2.mono hb1.size)) hBw, by intro j e; cases e⟩
  | some x =>
    have k1 := r1 x hz
    have hat := g1.at_ p x hz
    have hne := h.ne p x hz
    have hxl := h.len p x hz
    rw [show keysY (yOf Z) p = x.K by simp [keysY, yOf, hz, Sp.K]]
    cases ht : x.tr with
    | false =>
      unfold pK P.hK at *
      go_enter Try.func13, Try.ntmps13
      go_upto_region 1 with fail
      generalize w.alloc (.cells #[.int .i64 p.1, .int .i64 p.2.1, .int .i64 p.2.2] 28) = W at hb1 y3 g1 k1 hat ⊢
      obtain ⟨d0, d1, d2⟩ := pl_cells y3
      go_upto_region 2 with (first | (go_at_call 27; refine k1.mono ?_; rintro e w1 ⟨rfl, hb2⟩; have hs := hat.bel hb2; have cs := hs.c0; simp only [ht, Bool.false_eq_true, if_false, if_true] at cs; have hm := s87_All x.s x.l w1 cs; have hx := hs.li ht; have k2 := all_li w1 B x.l x.K x.S hx (by rw [x.klen]; omega)) | (go_at_call 77; refine k2.mono ?_; rintro e w2 ⟨v, rfl, hrow, hb3⟩))
      clear k1 r0 r1 d0 d1 d2
      rw [x.klen] at hrow
      have hw2 : Below w.heap.size w w2 := hb1.trans ((hb2.trans (hb3.mono hb2.size)).mono hb1.size)
      have hw1s : w.heap.size ≤ w1.heap.size := (hb1.trans (hb2.mono hb1.size)).size
      have y3 := (hb2.trans (hb3.mono hb2.size)).block _ (heap_lt y3) |>.trans y3
      have g2 := h.bel hw2
      have hlt3 := heap_lt y3
      obtain ⟨pp, cap, rfl⟩ := own_shape hrow
      have hYp : yOf Z p = some (false, x.L) := by simp [yOf, hz, ht]
      generalize hwz : w.heap.size = wz at *
      go_wp2
      go_loopw [14] (fun n14 wr => ∃ (k : Nat) (Zk : Zs), n14 = .int .i64 k ∧ k ≤ x.L.length ∧ Gr wr B g m1 m2 N Zk ∧ yOf Zk = dY (yOf Z) p false x.L k ∧ FG B (Fp g m1 m2 Z) (Fp g m1 m2 Zk) w wr ∧ w2.heap.size ≤ wr.heap.size ∧ ∀ j, wz ≤ j → j < w2.heap.size → ¬ Fp g m1 m2 Zk j ∧ wr.heap[j]? = w2.heap[j]?) (fun n14 _ => x.L.length - (valOf n14).toNat)
      case atStart => exact ⟨0, Z, rfl, Nat.zero_le _, g2, (dY_zero hYp hne).symm, FG.of (hwz ▸ hw2) (by omega), Nat.le_refl _, fun j a b => ⟨fun q => by have := (hltw j q).2; omega, rfl⟩⟩
      case round =>
        obtain ⟨k, Zk, rfl, hk, hGk, hYk, hFk, hsk, hseg⟩ := hrel
        have hrk : wr.ownsRow w1.heap.size 31 2 (.slice pp x.L.length cap) x.L.length (hCells x.K) := row_kept hrow fun j hj => (hseg j (by have := (hrow.lt j hj).1; omega) (hrow.lt j hj).2).2
        by_cases hlt : k < x.L.length
        · have d1 : decide ((k : Int) < x.L.length) = true := by simpa using hlt
          have e9 : IntKind.i64.wrap ((k : Int) + 1) = (k : Int) + 1 := IntWalk.i64_in _ (by omega)
          have yk := (hseg wz (Nat.le_refl _) hlt3).2.trans y3
          obtain ⟨b0, b1, b2⟩ := pl_cells yk
          obtain ⟨c, hd, hhd, hcl, hob, a0, a1, hix⟩ := idx34 (A := x.K) (by rw [x.klen]; exact hrk) (j := k) (by rw [x.klen]; exact hlt) (by rw [x.klen]; omega)
          rw [x.klen] at hix hob
          have hhd2 : x.L[k].1 = hd := by
            simp only [Sp.K, List.getElem?_map, List.getElem?_eq_getElem hlt, Option.map_some, Option.some.injEq] at hhd
            exact hhd
          obtain ⟨z, hzk, hzy⟩ := Option.map_eq_some_iff.1 (show (Zk p).map (fun x => (x.tr, x.L)) = some (false, x.L.drop k) from (congrFun hYk p).trans (dY_at hlt))
          have hzL : z.L = x.L.drop k := congrArg Prod.snd hzy
          have hm3 : x.L[k] ∈ z.L := by rw [hzL, List.drop_eq_getElem_cons hlt]; exact .head _
          have bb : Below wr.heap.size wr (wr.alloc (.cells #[.int .i64 hd.1, .int .u64 hd.2] 31)) := (Below.refl _ wr).alloc (Nat.le_refl _) _
          have k3 := leave_gr (wr.alloc (.cells #[.int .i64 hd.1, .int .u64 hd.2] 31)) B g m1 m2 N Zk (hGk.bel bb) p z hzk x.L[k] hm3
          rw [hhd2] at k3
          have b0' := cell_al b0 (.cells #[.int .i64 hd.1, .int .u64 hd.2] 31)
          have b1' := cell_al b1 (.cells #[.int .i64 hd.1, .int .u64 hd.2] 31)
          have b2' := cell_al b2 (.cells #[.int .i64 hd.1, .int .u64 hd.2] 31)
          unfold pK P.hK hK2 at k3
          go_wp2_with (go_at_call 26; refine k3.mono ?_; rintro e w4 ⟨rfl, Z', hG, hF, hY⟩)
          rw [hYk, dY_succ hlt] at hY
          have hF2 := (FG.of bb hGk.size).trans hF
          have hs2 := hF2.bel.size
          exact ⟨⟨k + 1, Z', by simp, by omega, hG, hY, hFk.trans hF2, by omega, fun j ja jb => by
            obtain ⟨q1, q2⟩ := hseg j ja jb
            refine ⟨fun q => ?_, (hF2.keep j (by omega) q1).trans q2⟩
            rcases hF2.sub j q with a | a
            · exact q1 a
            · omega⟩, by simp [valOf]; omega⟩
        · have d1 : decide ((k : Int) < x.L.length) = false := by simpa using hlt
          obtain rfl : k = x.L.length := by omega
          rw [dY_end] at hYk
          go_wp2
          all_goals go_returns
          all_goals exact ⟨_, _, rfl, by rw [x.klen]; exact row_base hrk (by omega), ⟨m1, m2, Zk, hGk, hYk, rfl⟩, hFk, fun j hj => (hseg j (by have := (hrow.lt j hj).1; omega) (hrow.lt j hj).2).1⟩
    | true =>
      unfold pK P.hK at *
      go_enter Try.func13, Try.ntmps13
      go_upto_region 1 with fail
      generalize w.alloc (.cells #[.int .i64 p.1, .int .i64 p.2.1, .int .i64 p.2.2] 28) = W at hb1 y3 g1 k1 hat ⊢
      obtain ⟨d0, d1, d2⟩ := pl_cells y3
      go_upto_region 2 with (first | (go_at_call 27; refine k1.mono ?_; rintro e w1 ⟨rfl, hb2⟩; have hs := hat.bel hb2; have cs := hs.c0; simp only [ht, Bool.false_eq_true, if_false, if_true] at cs; have hm := s91_All x.s x.l w1 cs; have hx := hs.ti ht; have k2 := T.all_ti w1 B x.l x.K x.S hx) | (go_at_call 93; refine k2.mono ?_; rintro e w2 ⟨v, rfl, hrow, hb3⟩))
      clear k1 r0 r1 d0 d1 d2
      rw [x.klen] at hrow
      have hw2 : Below w.heap.size w w2 := hb1.trans ((hb2.trans (hb3.mono hb2.size)).mono hb1.size)
      have hw1s : w.heap.size ≤ w1.heap.size := (hb1.trans (hb2.mono hb1.size)).size
      have y3 := (hb2.trans (hb3.mono hb2.size)).block _ (heap_lt y3) |>.trans y3
      have g2 := h.bel hw2
      have hlt3 := heap_lt y3
      obtain ⟨pp, cap, rfl⟩ := own_shape hrow
      have hYp : yOf Z p = some (true, x.L) := by simp [yOf, hz, ht]
      generalize hwz : w.heap.size = wz at *
      go_wp2
      go_loopw [14] (fun n14 wr => ∃ (k : Nat) (Zk : Zs), n14 = .int .i64 k ∧ k ≤ x.L.length ∧ Gr wr B g m1 m2 N Zk ∧ yOf Zk = dY (yOf Z) p true x.L k ∧ FG B (Fp g m1 m2 Z) (Fp g m1 m2 Zk) w wr ∧ w2.heap.size ≤ wr.heap.size ∧ ∀ j, wz ≤ j → j < w2.heap.size → ¬ Fp g m1 m2 Zk j ∧ wr.heap[j]? = w2.heap[j]?) (fun n14 _ => x.L.length - (valOf n14).toNat)
      case atStart => exact ⟨0, Z, rfl, Nat.zero_le _, g2, (dY_zero hYp hne).symm, FG.of (hwz ▸ hw2) (by omega), Nat.le_refl _, fun j a b => ⟨fun q => by have := (hltw j q).2; omega, rfl⟩⟩
      case round =>
        obtain ⟨k, Zk, rfl, hk, hGk, hYk, hFk, hsk, hseg⟩ := hrel
        have hrk : wr.ownsRow w1.heap.size 31 2 (.slice pp x.L.length cap) x.L.length (hCells x.K) := row_kept hrow fun j hj => (hseg j (by have := (hrow.lt j hj).1; omega) (hrow.lt j hj).2).2
        by_cases hlt : k < x.L.length
        · have d1 : decide ((k : Int) < x.L.length) = true := by simpa using hlt
          have e9 : IntKind.i64.wrap ((k : Int) + 1) = (k : Int) + 1 := IntWalk.i64_in _ (by omega)
          have yk := (hseg wz (Nat.le_refl _) hlt3).2.trans y3
          obtain ⟨b0, b1, b2⟩ := pl_cells yk
          obtain ⟨c, hd, hhd, hcl, hob, a0, a1, hix⟩ := idx34 (A := x.K) (by rw [x.klen]; exact hrk) (j := k) (by rw [x.klen]; exact hlt) (by rw [x.klen]; omega)
          rw [x.klen] at hix hob
          have hhd2 : x.L[k].1 = hd := by
            simp only [Sp.K, List.getElem?_map, List.getElem?_eq_getElem hlt, Option.map_some, Option.some.injEq] at hhd
            exact hhd
          obtain ⟨z, hzk, hzy⟩ := Option.map_eq_some_iff.1 (show (Zk p).map (fun x => (x.tr, x.L)) = some (true, x.L.drop k) from (congrFun hYk p).trans (dY_at hlt))
          have hzL : z.L = x.L.drop k := congrArg Prod.snd hzy
          have hm3 : x.L[k] ∈ z.L := by rw [hzL, List.drop_eq_getElem_cons hlt]; exact .head _
          have bb : Below wr.heap.size wr (wr.alloc (.cells #[.int .i64 hd.1, .int .u64 hd.2] 31)) := (Below.refl _ wr).alloc (Nat.le_refl _) _
          have k3 := leave_gr (wr.alloc (.cells #[.int .i64 hd.1, .int .u64 hd.2] 31)) B g m1 m2 N Zk (hGk.bel bb) p z hzk x.L[k] hm3
          rw [hhd2] at k3
          have b0' := cell_al b0 (.cells #[.int .i64 hd.1, .int .u64 hd.2] 31)
          have b1' := cell_al b1 (.cells #[.int .i64 hd.1, .int .u64 hd.2] 31)
          have b2' := cell_al b2 (.cells #[.int .i64 hd.1, .int .u64 hd.2] 31)
          unfold pK P.hK hK2 at k3
          go_wp2_with (go_at_call 26; refine k3.mono ?_; rintro e w4 ⟨rfl, Z', hG, hF, hY⟩)
          rw [hYk, dY_succ hlt] at hY
          have hF2 := (FG.of bb hGk.size).trans hF
          have hs2 := hF2.bel.size
          exact ⟨⟨k + 1, Z', by simp, by omega, hG, hY, hFk.trans hF2, by omega, fun j ja jb => by
            obtain ⟨q1, q2⟩ := hseg j ja jb
            refine ⟨fun q => ?_, (hF2.keep j (by omega) q1).trans q2⟩
            rcases hF2.sub j q with a | a
            · exact q1 a
            · omega⟩, by simp [valOf]; omega⟩
        · have d1 : decide ((k : Int) < x.L.length) = false := by simpa using hlt
          obtain rfl : k = x.L.length := by omega
          rw [dY_end] at hYk
          go_wp2
          all_goals go_returns
          all_goals exact ⟨_, _, rfl, by rw [x.klen]; exact row_base hrk (by omega), ⟨m1, m2, Zk, hGk, hYk, rfl⟩, hFk, fun j hj => (hseg j (by have := (hrow.lt j hj).1; omega) (hrow.lt j hj).2).1⟩
end Go.Proofs.Ythgpbbpmfpfjnaa
