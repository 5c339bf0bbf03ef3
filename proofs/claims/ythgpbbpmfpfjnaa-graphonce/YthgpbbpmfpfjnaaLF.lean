/- Towards the statements of package list (layer 15): Remove, Pop. -/
import Derived.Test.YthgpbbpmfpfjnaaLE
namespace Go.Proofs.Ythgpbbpmfpfjnaa
open Go.ChangeShapes Go.WideShapes Go.ChangeAt Go.RowKit
set_option linter.unusedVariables false
set_option linter.unusedSimpArgs false
set_option maxRecDepth 20000
theorem Ls.removed {w w' : World} {B b m e x : Nat} {nx pv : Nat → Nat} {ky : Nat → HKey} {N L M : List Nat} (h : Ls w B b m e nx pv ky N) (hN : N = L ++ x :: M) {n : Nat} {F : HKey → Option Value}
    (hF2 : ∀ h v, F h = some v ↔ ∃ x ∈ N, ky x = h ∧ v = .pointer (some ⟨x, 0, none⟩)) (hm : HM w' m n (updH F (ky x) none)) (hb : w'.heap[b]? = w.heap[b]?)
    {nx' pv' : Nat → Nat} (hl : ∀ y ∈ e :: N, Lk w' nx' pv' ky y) (hs : Seg nx' pv' e (L ++ M) e) : Ls w' B b m e nx' pv' ky (L ++ M) := by
  subst hN
  have hsub : ∀ y ∈ L ++ M, y ∈ L ++ x :: M := fun y hy => by simp at hy ⊢; rcases hy with q | q <;> simp [q]
  have hsl : (L ++ M).Sublist (L ++ x :: M) := (List.Sublist.refl L).append (List.sublist_cons_self x M)
  have hkd := h.kd
  have hinj : ∀ y ∈ L ++ M, ky y ≠ ky x := by
    intro y hy q
    rw [List.map_append, List.map_cons, (List.perm_middle).nodup_iff, List.nodup_cons, ← List.map_append] at hkd
    exact hkd.1 (List.mem_map.2 ⟨y, hy, q⟩)
  refine ⟨hb.trans h.cells, h.bB, h.mB, fun y hy => ?_, ⟨n, _, hm, fun k v => ?_⟩, hs, h.nd.sublist (hsl.cons_cons e), fun y hy => ?_, h.kd.sublist (hsl.map ky)⟩
  · rcases List.mem_cons.1 hy with rfl | hy
    · exact h.eB _ (.head _)
    · exact h.eB _ (.tail _ (hsub y hy))
  · by_cases e1 : k = ky x
    · subst e1
      rw [updH_self]
      constructor
      · intro q; cases q
      · rintro ⟨y, hy, q, _⟩; exact absurd q (hinj y hy)
    · rw [updH_ne _ _ e1, hF2]
      constructor
      · rintro ⟨y, hy, q, hv⟩
        refine ⟨y, ?_, q, hv⟩
        simp at hy ⊢
        rcases hy with r | r | r
        · exact .inl r
        · subst r; exact absurd q.symm e1
        · exact .inr r
      · rintro ⟨y, hy, q, hv⟩; exact ⟨y, hsub y hy, q, hv⟩
  · rcases List.mem_cons.1 hy with rfl | hy
    · exact hl _ (.head _)
    · exact hl _ (.tail _ (hsub y hy))
theorem remove_nil (k : HKey) (w : World) : Calls Try.prog 91 #[.pointer none, .agg #[.int .i64 k.1, .int .u64 k.2]] w fun e w' => e = .returned (.bool false) ∧ Below w.heap.size w w' := by
  have k1 := fun W => link_nil k W
  have q1 := eqp_no
  go_enter Try.func91, Try.ntmps91
  go_wp2_with (go_at_call 85; refine (k1 _).mono ?_; rintro e w' ⟨rfl, hw⟩; rw [hw]; clear hw)
  all_goals go_returns
  all_goals exact ⟨rfl, ((Below.refl _ w).alloc (Nat.le_refl _) _).alloc (by simp) _⟩
set_option maxHeartbeats 1000000 in
theorem remove_any (w : World) (B b m e : Nat) (nx pv : Nat → Nat) (ky : Nat → HKey) (N : List Nat) (hL : Ls w B b m e nx pv ky N) (k : HKey) :
    Calls Try.prog 91 #[.pointer (some ⟨b, 0, none⟩), .agg #[.int .i64 k.1, .int .u64 k.2]] w fun e' w' => e' = .returned (.bool (decide (k ∈ N.map ky))) ∧ ∃ S', Li w' B b ((N.map ky).erase k) S' ∧ FL B (b :: m :: e :: N) S' w w' := by
  have hb1 := (Below.refl _ w).alloc (Nat.le_refl _) (.cells #[.int .i64 k.1, .int .u64 k.2] 31)
  have h1 := hL.bel hb1
  have y1 := heap_alloc_new w (.cells #[.int .i64 k.1, .int .u64 k.2] 31)
  have k1 := link_any _ B b m e nx pv ky N h1 k
  go_enter Try.func91, Try.ntmps91
  go_upto_region 2 with (go_at_call 85; refine k1.mono ?_; rintro e1 w1 ⟨v, rfl, hv, hb2⟩)
  have y2 := (hb2.block _ (by simp)).trans y1
  have hbw : Below w.heap.size w w1 := hb1.trans (hb2.mono hb1.size)
  have h2 := hL.bel hbw
  have hyl : w.heap.size < w1.heap.size := heap_lt y2
  clear k1 hb2 y1 h1 hb1
  rcases hv with ⟨rfl, hv⟩ | ⟨x, hx, hxk, rfl⟩
  · have q1 := eqp_no w1
    go_wp2
    all_goals go_returns
    refine ⟨by rw [decide_eq_false hv]; rfl, b :: m :: e :: N, ⟨m, e, nx, pv, ky, N, rfl, List.erase_of_not_mem hv, h2⟩, hbw.mono hL.size, fun k hk _ => hbw.block k hk, fun x hx => .inl hx⟩
  · have q1 := eqp_yes x w1
    obtain ⟨n, F, hF, hF2⟩ := h2.map
    obtain ⟨hbn, hmn, hbm⟩ := h2.mem_ne
    have hlt0 : ∀ x ∈ e :: N, x < w.heap.size := fun x hx => hL.lt x (.tail _ (.tail _ hx))
    have hbl : b < w.heap.size := hL.lt b (by simp)
    have hml : m < w.heap.size := hL.lt m (by simp)
    have hsz := hbw.size
    obtain ⟨L, M, hN⟩ := List.append_of_mem hx
    have hr := h2.ring
    rw [hN] at hr
    obtain ⟨s1, s2⟩ := Seg.app.1 hr
    have hnd := h2.nd
    rw [hN] at hnd
    have hpm := s1.pv_mem
    have hxp : x ≠ pv x := by
      intro q
      rw [← q] at hpm
      have h3 : (e :: L ++ x :: M).Nodup := hnd
      rw [List.nodup_append] at h3
      exact h3.2.2 x hpm x (.head _) rfl
    have hxe : x ∈ e :: N := .tail _ hx
    have hpi := h2.pv_in hxe
    have hni := h2.nx_in hxe
    have k2 := leave_any w1 B x nx pv ky (e :: N) h2.lk hxe hni hpi hxp h2.eB
    have hseg : Seg (upd nx (pv x) (nx x)) (upd pv (nx x) (pv x)) e (L ++ M) e := s1.cut s2 hnd (by simp only [List.nodup_cons] at hnd; exact hnd.1) (upd_self _ _ _) (upd_self _ _ _) (fun y hy => upd_ne _ _ hy) (fun y hy => upd_ne _ _ hy)
    go_upto_region 5 with (go_at_call 92; refine k2.mono ?_; rintro e1 w2 ⟨rfl, hl, hb3, hk3, hs3⟩)
    have y3 := (hk3 _ (by have := hlt0 _ hpi; omega) (by have := hlt0 _ hni; omega)).trans y2
    have bc := (hk3 b (fun q => hbn (by rw [q]; exact hpi)) (fun q => hbn (by rw [q]; exact hni))).trans h2.cells
    have hm3 : w2.heap[m]? = w1.heap[m]? := hk3 m (fun q => hmn (by rw [q]; exact hpi)) (fun q => hmn (by rw [q]; exact hni))
    obtain ⟨v2, p2, i2, tt2⟩ := HM.del (w := w2.drew) Try.underlying100 (hF.keep hm3) k 0
    unfold hK at p2
    have z0 := cell_of y3 0
    have z1 := cell_of y3 1
    simp at z0 z1
    have c0 : w2.cell? ⟨b, 0, none⟩ = some (.map (some m)) := by rw [cell_of bc]; rfl
    clear k2 q1
    go_region
    go_wp2
    all_goals go_returns
    have hk4 : ∀ i, i < w2.heap.size → i ≠ m → v2.heap[i]? = w2.heap[i]? := fun i hi hne => tt2.grown.block i hi (by simp; exact hne)
    have hkk : ∀ i, i < w1.heap.size → i ≠ m → i ∉ e :: N → v2.heap[i]? = w1.heap[i]? := fun i hi h1 h2' => (hk4 i (by omega) h1).trans (hk3 i (fun q => h2' (by rw [q]; exact hpi)) (fun q => h2' (by rw [q]; exact hni)))
    subst hxk
    refine ⟨by rw [decide_eq_true (List.mem_map.2 ⟨x, hx, rfl⟩)]; rfl, b :: m :: e :: (L ++ M), ⟨m, e, _, _, ky, L ++ M, rfl, ?_, h2.removed hN hF2 i2 (hkk b (by omega) hbm hbn) (fun y hy => (hl y hy).keep (hk4 y (hl y hy).lt (fun q => hmn (q ▸ hy)))) hseg⟩, ?_, ?_, ?_⟩
    · have hkd := h2.kd
      rw [hN, List.map_append, List.map_cons, (List.perm_middle).nodup_iff, List.nodup_cons] at hkd
      rw [hN, List.map_append, List.map_cons, List.erase_append_right _ (fun q => hkd.1 (List.mem_append.2 (.inl q))), List.erase_cons_head, List.map_append]
    · exact ((hbw.mono hL.size).trans hb3).drew.trans ((Below.refl B w2.drew).grown tt2.grown (by show B ≤ w2.heap.size; have := hL.size; omega) (fun k q => by cases q; exact hL.mB))
    · intro i hi hni'
      simp only [List.mem_cons, not_or] at hni'
      exact (hkk i (by omega) hni'.2.1 (by simp only [List.mem_cons, not_or]; exact hni'.2.2)).trans (hbw.block i hi)
    · intro y hy
      left
      rw [hN]
      simp only [List.mem_cons, List.mem_append] at hy ⊢
      rcases hy with q | q | q | q | q <;> simp [q]
end Go.Proofs.Ythgpbbpmfpfjnaa
