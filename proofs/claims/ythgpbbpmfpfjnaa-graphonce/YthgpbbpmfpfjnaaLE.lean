/- Towards the statements of package list (layer 15): Push. -/
import Derived.Test.YthgpbbpmfpfjnaaLD
import Derived.Deep.RegionHeld
namespace Go.Proofs.Ythgpbbpmfpfjnaa
open Go.ChangeShapes Go.WideShapes Go.ChangeAt Go.RowKit
set_option linter.unusedVariables false
set_option linter.unusedSimpArgs false
set_option maxRecDepth 20000
theorem cell_dr {w : World} {p : Addr} {v : Value} (h : w.cell? p = some v) : w.drew.cell? p = some v := h
theorem Ls.mem_ne {w : World} {B b m e : Nat} {nx pv : Nat → Nat} {ky : Nat → HKey} {N : List Nat} (h : Ls w B b m e nx pv ky N) : b ∉ e :: N ∧ m ∉ e :: N ∧ b ≠ m := by
  refine ⟨fun hb => ?_, fun hm => ?_, ?_⟩
  · have := h.lk b hb
    unfold Lk at this
    rw [h.cells] at this
    simp at this
  · have := h.lk m hm
    obtain ⟨n, F, hF, _⟩ := h.map
    exact hF.notcells this
  · rintro rfl
    obtain ⟨n, F, hF, _⟩ := h.map
    exact hF.notcells h.cells
theorem Ls.nx_in {w : World} {B b m e : Nat} {nx pv : Nat → Nat} {ky : Nat → HKey} {N : List Nat} (h : Ls w B b m e nx pv ky N) {x : Nat} (hx : x ∈ e :: N) : nx x ∈ e :: N := by
  obtain ⟨j, hj⟩ := List.getElem?_of_mem hx
  have hm := List.mem_of_getElem? (h.ring.at j x hj)
  simp at hm ⊢
  exact hm.symm
theorem Ls.pv_in {w : World} {B b m e : Nat} {nx pv : Nat → Nat} {ky : Nat → HKey} {N : List Nat} (h : Ls w B b m e nx pv ky N) {x : Nat} (hx : x ∈ e :: N) : pv x ∈ e :: N := by
  have hx' : x ∈ N ++ [e] := by simp at hx ⊢; exact hx.symm
  obtain ⟨j, hj⟩ := List.getElem?_of_mem hx'
  exact List.mem_of_getElem? (h.ring.back j x hj)
theorem Ls.nx_pv {w : World} {B b m e : Nat} {nx pv : Nat → Nat} {ky : Nat → HKey} {N : List Nat} (h : Ls w B b m e nx pv ky N) : nx (pv e) = e := by
  have h1 := h.ring.back N.length e (by simp)
  have h2 := h.ring.at N.length _ h1
  simp at h2
  exact h2.symm
theorem Ls.pushed {w w' : World} {B b m e : Nat} {nx pv : Nat → Nat} {ky : Nat → HKey} {N : List Nat} (h : Ls w B b m e nx pv ky N) {k : HKey} (hk : k ∉ N.map ky) {g n : Nat} (hg : w.heap.size ≤ g) {F : HKey → Option Value}
    (hF2 : ∀ h v, F h = some v ↔ ∃ x ∈ N, ky x = h ∧ v = .pointer (some ⟨x, 0, none⟩)) (hm : HM w' m n (updH F k (some (.pointer (some ⟨g, 0, none⟩))))) (hb : w'.heap[b]? = w.heap[b]?)
    {nx' pv' : Nat → Nat} (hl : ∀ x ∈ g :: e :: N, Lk w' nx' pv' (kyIn ky g k) x) {N' : List Nat} (hN : N' = g :: N ∨ N' = N ++ [g]) (hs : Seg nx' pv' e N' e) : Ls w' B b m e nx' pv' (kyIn ky g k) N' := by
  have hlt : ∀ x ∈ e :: N, x < w.heap.size := fun x hx => h.lt x (.tail _ (.tail _ hx))
  have hne : ∀ x ∈ e :: N, x ≠ g := fun x hx => by have := hlt x hx; omega
  have hgn : g ∉ N := fun q => hne g (.tail _ q) rfl
  have hmem : ∀ x, x ∈ N' ↔ x = g ∨ x ∈ N := by
    intro x
    rcases hN with rfl | rfl
    · simp
    · simp [or_comm]
  have hkyN : ∀ x ∈ N, kyIn ky g k x = ky x := fun x hx => upd_ne _ _ (hne x (.tail _ hx))
  have hkyg : kyIn ky g k g = k := upd_self _ _ _
  have hmapN : N.map (kyIn ky g k) = N.map ky := List.map_congr_left hkyN
  refine ⟨hb.trans h.cells, h.bB, h.mB, ?_, ⟨n, _, hm, fun k' v => ?_⟩, hs, ?_, ?_, ?_⟩
  · intro x hx
    rcases List.mem_cons.1 hx with rfl | hx
    · exact h.eB _ (.head _)
    · rcases (hmem x).1 hx with rfl | hx
      · exact Nat.le_trans h.size hg
      · exact h.eB _ (.tail _ hx)
  · by_cases e1 : k' = k
    · subst e1
      rw [updH_self]
      constructor
      · intro q; cases q; exact ⟨g, (hmem g).2 (.inl rfl), hkyg, rfl⟩
      · rintro ⟨x, hx, hxk, rfl⟩
        rcases (hmem x).1 hx with rfl | hx
        · rfl
        · rw [hkyN x hx] at hxk
          exact absurd (List.mem_map.2 ⟨x, hx, hxk⟩) hk
    · rw [updH_ne _ _ e1, hF2]
      constructor
      · rintro ⟨x, hx, hxk, hv⟩
        exact ⟨x, (hmem x).2 (.inr hx), (hkyN x hx).trans hxk, hv⟩
      · rintro ⟨x, hx, hxk, hv⟩
        rcases (hmem x).1 hx with rfl | hx
        · rw [hkyg] at hxk; exact absurd hxk.symm e1
        · exact ⟨x, hx, (hkyN x hx).symm.trans hxk, hv⟩
  · have hnd := h.nd
    rcases hN with rfl | rfl
    · simp only [List.nodup_cons, List.mem_cons, not_or] at hnd ⊢
      exact ⟨⟨hne e (.head _), hnd.1⟩, hgn, hnd.2⟩
    · have hp : (e :: (N ++ [g])).Perm (g :: e :: N) := by
        refine ((List.perm_append_comm (l₁ := N) (l₂ := [g])).cons e).trans ?_
        exact List.Perm.swap _ _ _
      rw [hp.nodup_iff, List.nodup_cons]
      exact ⟨fun q => hne g q rfl, hnd⟩
  · intro x hx
    refine hl x ?_
    rcases List.mem_cons.1 hx with rfl | hx
    · simp
    · rcases (hmem x).1 hx with rfl | hx
      · simp
      · simp [hx]
  · rcases hN with rfl | rfl
    · rw [List.map_cons, hkyg, hmapN, List.nodup_cons]
      exact ⟨hk, h.kd⟩
    · rw [List.map_append, List.map_cons, List.map_nil, hkyg, hmapN, (List.perm_append_comm).nodup_iff]
      rw [List.singleton_append, List.nodup_cons]
      exact ⟨hk, h.kd⟩
/-- A list at block b that holds K, all its blocks S. -/
def Li (w : World) (B b : Nat) (K : List HKey) (S : List Nat) : Prop := ∃ m e nx pv ky N, S = b :: m :: e :: N ∧ K = N.map ky ∧ Ls w B b m e nx pv ky N
/-- What a call of a list leaves. -/
structure FL (B : Nat) (S S' : List Nat) (w w' : World) : Prop where
  bel : Below B w w'
  keep : ∀ k, k < w.heap.size → k ∉ S → w'.heap[k]? = w.heap[k]?
  new : ∀ x ∈ S', x ∈ S ∨ w.heap.size ≤ x
theorem push_nil (k : HKey) (q : Bool) (w : World) : Calls Try.prog 80 #[.pointer none, .agg #[.int .i64 k.1, .int .u64 k.2], .bool q] w fun e w' => e = .returned (.int .i64 1) ∧ Below w.heap.size w w' := by
  have k1 := fun W => made_nil W
  go_enter Try.func80, Try.ntmps80
  go_wp2_with (go_at_call 81; refine (k1 _).mono ?_; rintro e w' ⟨rfl, hw⟩; rw [hw]; clear hw)
  all_goals go_returns
  all_goals exact ⟨rfl, (Below.refl _ w).alloc (Nat.le_refl _) _⟩
theorem push_there (w : World) (B b m e : Nat) (nx pv : Nat → Nat) (ky : Nat → HKey) (N : List Nat) (h : Ls w B b m e nx pv ky N) (k : HKey) (hk : k ∈ N.map ky) (q : Bool) :
    Calls Try.prog 80 #[.pointer (some ⟨b, 0, none⟩), .agg #[.int .i64 k.1, .int .u64 k.2], .bool q] w fun e' w' => e' = .returned (.int .i64 7) ∧ Below w.heap.size w w' := by
  have h1 := h.alloc (.cells #[.int .i64 k.1, .int .u64 k.2] 31)
  have hb1 := (Below.refl _ w).alloc (Nat.le_refl _) (.cells #[.int .i64 k.1, .int .u64 k.2] 31)
  have k1 := made_yes (w.alloc (.cells #[.int .i64 k.1, .int .u64 k.2] 31)) b m h1.cB.1
  have k2 := has_any _ B b m e nx pv ky N h1 k
  rw [decide_eq_true hk] at k2
  go_enter Try.func80, Try.ntmps80
  go_wp2_with (first | (go_at_call 81; refine k1.mono ?_; rintro e w' ⟨rfl, hw⟩; rw [hw]; clear hw) | (go_at_call 83; refine k2.mono ?_; rintro e w1 ⟨rfl, hb2⟩))
  all_goals go_returns
  all_goals exact ⟨rfl, hb1.trans (hb2.mono (by simp))⟩
theorem push_end {w w1 v1 v2 : World} {B b m e : Nat} {nx pv : Nat → Nat} {ky : Nat → HKey} {N : List Nat} (h : Ls w B b m e nx pv ky N) (hbw : Below w.heap.size w w1) {k : HKey} (hk : k ∉ N.map ky) {g k0 n : Nat} {F : HKey → Option Value} (hk0 : k0 ∈ e :: N) (hg : w1.heap.size ≤ g)
    (hF2 : ∀ h v, F h = some v ↔ ∃ x ∈ N, ky x = h ∧ v = .pointer (some ⟨x, 0, none⟩)) {nx' pv' : Nat → Nat} (hl : ∀ x ∈ g :: e :: N, Lk v1 nx' pv' (kyIn ky g k) x) (hb3 : Below B w1.drew v1) (hk3 : ∀ i, i < w1.drew.heap.size → i ≠ k0 → i ≠ nx k0 → v1.heap[i]? = w1.drew.heap[i]?)
    (i2 : HM v2 m n (updH F k (some (.pointer (some ⟨g, 0, none⟩))))) (tt2 : v1.mapTurned v2 m) {N' : List Nat} (hN : N' = g :: N ∨ N' = N ++ [g]) (hs : Seg nx' pv' e N' e) :
    ∃ S', Li v2 B b (N'.map (kyIn ky g k)) S' ∧ FL B (b :: m :: e :: N) S' w v2 := by
  have h2 := h.bel hbw
  have hsz := hbw.size
  obtain ⟨hbn, hmn, hbm⟩ := h2.mem_ne
  have hn0 := h2.nx_in hk0
  have hbl : b < w.heap.size := h.lt b (by simp)
  have hml : m < w.heap.size := h.lt m (by simp)
  have hlt0 : ∀ x ∈ e :: N, x < w.heap.size := fun x hx => h.lt x (.tail _ (.tail _ hx))
  have hv1 : w1.heap.size ≤ v1.heap.size := hb3.size
  have hk4 : ∀ i, i < v1.heap.size → i ≠ m → v2.heap[i]? = v1.heap[i]? := fun i hi hne => tt2.grown.block i hi (by simp; exact hne)
  have hkk : ∀ i, i < w1.heap.size → i ≠ m → i ∉ e :: N → v2.heap[i]? = w1.heap[i]? := fun i hi h1 h2' => (hk4 i (by omega) h1).trans (hk3 i hi (fun q => h2' (q ▸ hk0)) (fun q => h2' (q ▸ hn0)))
  have hmem : ∀ x, x ∈ N' ↔ x = g ∨ x ∈ N := by
    intro x
    rcases hN with rfl | rfl
    · simp
    · simp [or_comm]
  refine ⟨b :: m :: e :: N', ⟨m, e, nx', pv', kyIn ky g k, N', rfl, rfl, h2.pushed hk hg hF2 i2 (hkk b (by omega) hbm hbn) (fun x hx => (hl x hx).keep (hk4 x (hl x hx).lt ?_)) hN hs⟩, ⟨?_, ?_, ?_⟩⟩
  · rintro rfl
    rcases List.mem_cons.1 hx with q | q
    · omega
    · exact hmn q
  · exact ((hbw.mono h.size).drew.trans hb3).trans ((Below.refl B v1).grown tt2.grown (by have := h.size; omega) (fun k q => by cases q; exact h.mB))
  · intro i hi hni
    simp only [List.mem_cons, not_or] at hni
    exact (hkk i (by omega) hni.2.1 (by simp only [List.mem_cons, not_or]; exact hni.2.2)).trans (hbw.block i hi)
  · intro x hx
    rcases List.mem_cons.1 hx with rfl | hx
    · simp
    rcases List.mem_cons.1 hx with rfl | hx
    · simp
    rcases List.mem_cons.1 hx with rfl | hx
    · simp
    rcases (hmem x).1 hx with rfl | hx
    · right; omega
    · left; simp [hx]
theorem map_in {ky : Nat → HKey} {N : List Nat} {g : Nat} (k : HKey) (hg : g ∉ N) : N.map (kyIn ky g k) = N.map ky := List.map_congr_left fun x hx => upd_ne _ _ (fun q => hg (q ▸ hx))
set_option maxHeartbeats 1000000 in
theorem push_ok (w : World) (B b m e : Nat) (nx pv : Nat → Nat) (ky : Nat → HKey) (N : List Nat) (hL : Ls w B b m e nx pv ky N) (k : HKey) (hk : k ∉ N.map ky) (q : Bool) :
    Calls Try.prog 80 #[.pointer (some ⟨b, 0, none⟩), .agg #[.int .i64 k.1, .int .u64 k.2], .bool q] w fun e' w' => e' = .returned (.int .i64 0) ∧ ∃ S', Li w' B b (if q then k :: N.map ky else N.map ky ++ [k]) S' ∧ FL B (b :: m :: e :: N) S' w w' := by
  have hb1 := (Below.refl _ w).alloc (Nat.le_refl _) (.cells #[.int .i64 k.1, .int .u64 k.2] 31)
  have h1 := hL.bel hb1
  have y1 := heap_alloc_new w (.cells #[.int .i64 k.1, .int .u64 k.2] 31)
  have k1 := made_yes (w.alloc (.cells #[.int .i64 k.1, .int .u64 k.2] 31)) b m h1.cB.1
  have k2 := has_any _ B b m e nx pv ky N h1 k
  rw [decide_eq_false hk] at k2
  go_enter Try.func80, Try.ntmps80
  go_upto_region 5 with (first | (go_at_call 81; refine k1.mono ?_; rintro e w' ⟨rfl, hw⟩; rw [hw]; clear hw) | (go_at_call 83; refine k2.mono ?_; rintro e w1 ⟨rfl, hb2⟩))
  have y2 := (hb2.block _ (by simp)).trans y1
  have hbw : Below w.heap.size w w1 := hb1.trans (hb2.mono hb1.size)
  have h2 := hL.bel hbw
  have hyl : w.heap.size < w1.heap.size := heap_lt y2
  clear k1 k2 hb2 y1 h1 hb1
  have z0 := cell_of y2 0
  have z1 := cell_of y2 1
  simp at z0 z1
  obtain ⟨c0, c1⟩ := h2.cB
  have e2 := (h2.lk e (.head _)).c2
  obtain ⟨n, F, hF, hF2⟩ := h2.map
  obtain ⟨hbn, hmn, hbm⟩ := h2.mem_ne
  have hlt0 : ∀ x ∈ e :: N, x < w.heap.size := fun x hx => hL.lt x (.tail _ (.tail _ hx))
  have hbl : b < w1.heap.size := heap_lt h2.cells
  have hml : m < w1.heap.size := hF.lt
  have hml0 : m < w.heap.size := hL.lt m (by simp)
  cases q with
  | true =>
    have k3 := follow_any w1.drew B e nx pv ky (e :: N) h2.drew.lk (.head _) (h2.nx_in (.head _)) h2.eB h2.size k
    have hel := hlt0 e (.head _)
    have hnl := hlt0 _ (h2.nx_in (.head _))
    have hb1 : b ≠ e := fun q => hbn (q ▸ .head _)
    have hb2 : b ≠ nx e := fun q => hbn (by rw [q]; exact h2.nx_in (.head _))
    have hm1 : m ≠ e := fun q => hmn (q ▸ .head _)
    have hm2 : m ≠ nx e := fun q => hmn (by rw [q]; exact h2.nx_in (.head _))
    go_upto_region 6 with fail
    go_region_held3 (fun w' => w'.cell? ⟨w.heap.size, 0, none⟩ = some (.int .i64 k.1) ∧ w'.cell? ⟨w.heap.size, 1, none⟩ = some (.int .u64 k.2) ∧ w'.cell? ⟨b, 0, none⟩ = some (.map (some m)) ∧ w'.cell? ⟨b, 1, none⟩ = some (.pointer (some ⟨e, 0, none⟩))) ((refine ⟨?_, ?_, ?_, ?_⟩ <;> repeat (with_reducible (first | assumption | apply cell_dr)))) (first | (go_at_call 84; go_loud (refine k3.mono ?_; rintro e' v1 ⟨g, rfl, hg, hl, hb3, hk3⟩; have y3 := (hk3 w.heap.size hyl (by omega) (by omega)).trans y2; have t0 := cell_of y3 0; have t1 := cell_of y3 1; simp at t0 t1; have bc := (hk3 b hbl hb1 hb2).trans h2.cells; have t2 : v1.cell? ⟨b, 0, none⟩ = some (.map (some m)) := (by rw [cell_of bc]; rfl); have t3 : v1.cell? ⟨b, 1, none⟩ = some (.pointer (some ⟨e, 0, none⟩)) := (by rw [cell_of bc]; rfl); obtain ⟨v2, p2, i2, tt2⟩ := HM.put Try.underlying100 (hF.keep (hk3 m hml hm1 hm2)) (k := k) trivial (.pointer (some ⟨g, 0, none⟩)); unfold hK at p2; have hk4 : ∀ i, i < v1.heap.size → i ≠ m → v2.heap[i]? = v1.heap[i]? := (fun i hi hne => tt2.grown.block i hi (by simp; exact hne)); have y4 := (hk4 _ (heap_lt y3) (by omega)).trans y3; have bc4 := (hk4 _ (heap_lt bc) hbm).trans bc; have u0 := cell_of y4 0; have u1 := cell_of y4 1; simp at u0 u1; have u2 : v2.cell? ⟨b, 0, none⟩ = some (.map (some m)) := (by rw [cell_of bc4]; rfl); have u3 : v2.cell? ⟨b, 1, none⟩ = some (.pointer (some ⟨e, 0, none⟩)) := (by rw [cell_of bc4]; rfl))))
    go_wp2
    all_goals go_returns
    have hge : g ∉ e :: N := fun q => by have := hlt0 g q; have : w1.heap.size ≤ g := hg; have := hbw.size; omega
    have hgN : g ∉ N := fun q => hge (.tail _ q)
    have hxg : nx e ≠ g := fun q => hge (q ▸ h2.nx_in (.head _))
    have hne : e ≠ g := fun q => hge (q ▸ .head _)
    have := push_end hL hbw hk (.head _) hg hF2 hl hb3 hk3 i2 tt2 (.inl rfl) (h2.ring.first h2.nd hge rfl (upd_self _ _ _) ((upd_ne _ _ hne.symm).trans (upd_self _ _ _)) ((upd_ne _ _ hxg.symm).trans (upd_self _ _ _)) (upd_self _ _ _) (fun x h5 h6 => (upd_ne _ _ h5).trans (upd_ne _ _ h6)) (fun x h5 h6 => (upd_ne _ _ h5).trans (upd_ne _ _ h6)))
    rw [List.map_cons, map_in k hgN, show kyIn ky g k g = k from upd_self _ _ _] at this
    exact ⟨rfl, this⟩
  | false =>
    have hp := h2.pv_in (.head _)
    have hnp := h2.nx_pv
    have k3 := follow_any w1.drew B (pv e) nx pv ky (e :: N) h2.drew.lk hp (h2.nx_in hp) h2.eB h2.size k
    rw [hnp] at k3
    have hel := hlt0 e (.head _)
    have hnl := hlt0 _ hp
    have hb1 : b ≠ pv e := fun q => hbn (by rw [q]; exact hp)
    have hb2 : b ≠ e := fun q => hbn (q ▸ .head _)
    have hm1 : m ≠ pv e := fun q => hmn (by rw [q]; exact hp)
    have hm2 : m ≠ e := fun q => hmn (q ▸ .head _)
    go_upto_region 7 with fail
    refine wp_region_held_drew (S := fun w' : World => w'.cell? ⟨w.heap.size, 0, none⟩ = some (.int .i64 k.1) ∧ w'.cell? ⟨w.heap.size, 1, none⟩ = some (.int .u64 k.2) ∧ w'.cell? ⟨b, 0, none⟩ = some (.map (some m)) ∧ w'.cell? ⟨b, 1, none⟩ = some (.pointer (some ⟨e, 0, none⟩))) (by kernel_rfl) ⟨z0, z1, c0, c1⟩ (fun hHeld => ?_)
    refine wpAnyH_take (i := 0) (oi := { dst := some 25, op := Go.Op.move (Go.Operand.tmp 0), type := 84, pos := "list.go:28", after := #[], guard := none }) (v := ?v0) rfl (by kernel_rfl) (by kernel_rfl) (by kernel_rfl) (fun _ _ _ h => h) (Or.inl ⟨by rfl, ?hy0⟩) (by assumption) ?rest0
    case hy0 => (intro w hSw; (try dsimp only at hSw); first | (go_simp; done) | (go_simp; with_reducible rfl))
    try simp only [Act.put, List.setIfInBounds_toArray, List.set_cons_zero, List.set_cons_succ]
    refine wpAnyH_take (i := 1) (oi := { dst := some 26, op := Go.Op.nilCheck (Go.Operand.tmp 25), type := 0, pos := "list.go:28", after := #[{ on := 0, ground := Go.Ground.data }], guard := none }) (v := ?v1) rfl (by kernel_rfl) (by kernel_rfl) (by kernel_rfl) (fun _ _ _ h => h) (Or.inl ⟨by rfl, ?hy1⟩) (by assumption) ?rest1
    case hy1 => (intro w hSw; (try dsimp only at hSw); first | (go_simp; done) | (go_simp; with_reducible rfl))
    try simp only [Act.put, List.setIfInBounds_toArray, List.set_cons_zero, List.set_cons_succ]
    refine wpAnyH_take (i := 2) (oi := { dst := some 27, op := Go.Op.fieldAddr 104 (Go.Operand.tmp 26) 0, type := 0, pos := "list.go:28", after := #[{ on := 1, ground := Go.Ground.data }], guard := none }) (v := ?v2) rfl (by kernel_rfl) (by kernel_rfl) (by kernel_rfl) (fun _ _ _ h => h) (Or.inl ⟨by rfl, ?hy2⟩) (by assumption) ?rest2
    case hy2 => (intro w hSw; (try dsimp only at hSw); first | (go_simp; done) | (go_simp; with_reducible rfl))
    try simp only [Act.put, List.setIfInBounds_toArray, List.set_cons_zero, List.set_cons_succ]
    refine wpAnyH_take (i := 3) (oi := { dst := some 28, op := Go.Op.load 100 (Go.Operand.tmp 27), type := 100, pos := "list.go:28", after := #[{ on := 2, ground := Go.Ground.data }], guard := none }) (v := ?v3) rfl (by kernel_rfl) (by kernel_rfl) (by kernel_rfl) (fun _ _ _ h => h) (Or.inl ⟨by rfl, ?hy3⟩) (by assumption) ?rest3
    case hy3 => (intro w hSw; (try dsimp only at hSw); first | (go_simp; done) | (go_simp; with_reducible rfl))
    try simp only [Act.put, List.setIfInBounds_toArray, List.set_cons_zero, List.set_cons_succ]
    refine wpAnyH_take (i := 4) (oi := { dst := some 29, op := Go.Op.load 31 (Go.Operand.tmp 4), type := 31, pos := "list.go:28", after := #[], guard := none }) (v := ?v4) rfl (by kernel_rfl) (by kernel_rfl) (by kernel_rfl) (fun _ _ _ h => h) (Or.inl ⟨by rfl, ?hy4⟩) (by assumption) ?rest4
    case hy4 => (intro w hSw; (try dsimp only at hSw); first | (go_simp; done) | (go_simp; with_reducible rfl))
    try simp only [Act.put, List.setIfInBounds_toArray, List.set_cons_zero, List.set_cons_succ]
    refine wpAnyH_take (i := 5) (oi := { dst := some 30, op := Go.Op.move (Go.Operand.tmp 0), type := 84, pos := "list.go:28", after := #[], guard := none }) (v := ?v5) rfl (by kernel_rfl) (by kernel_rfl) (by kernel_rfl) (fun _ _ _ h => h) (Or.inl ⟨by rfl, ?hy5⟩) (by assumption) ?rest5
    case hy5 => (intro w hSw; (try dsimp only at hSw); first | (go_simp; done) | (go_simp; with_reducible rfl))
    try simp only [Act.put, List.setIfInBounds_toArray, List.set_cons_zero, List.set_cons_succ]
    refine wpAnyH_take (i := 6) (oi := { dst := some 31, op := Go.Op.nilCheck (Go.Operand.tmp 30), type := 0, pos := "list.go:28", after := #[{ on := 5, ground := Go.Ground.data }], guard := none }) (v := ?v6) rfl (by kernel_rfl) (by kernel_rfl) (by kernel_rfl) (fun _ _ _ h => h) (Or.inl ⟨by rfl, ?hy6⟩) (by assumption) ?rest6
    case hy6 => (intro w hSw; (try dsimp only at hSw); first | (go_simp; done) | (go_simp; with_reducible rfl))
    try simp only [Act.put, List.setIfInBounds_toArray, List.set_cons_zero, List.set_cons_succ]
    refine wpAnyH_take (i := 7) (oi := { dst := some 32, op := Go.Op.fieldAddr 104 (Go.Operand.tmp 31) 1, type := 0, pos := "list.go:28", after := #[{ on := 6, ground := Go.Ground.data }], guard := none }) (v := ?v7) rfl (by kernel_rfl) (by kernel_rfl) (by kernel_rfl) (fun _ _ _ h => h) (Or.inl ⟨by rfl, ?hy7⟩) (by assumption) ?rest7
    case hy7 => (intro w hSw; (try dsimp only at hSw); first | (go_simp; done) | (go_simp; with_reducible rfl))
    try simp only [Act.put, List.setIfInBounds_toArray, List.set_cons_zero, List.set_cons_succ]
    refine wpAnyH_take (i := 8) (oi := { dst := some 33, op := Go.Op.load 101 (Go.Operand.tmp 32), type := 101, pos := "list.go:28", after := #[{ on := 7, ground := Go.Ground.data }], guard := none }) (v := ?v8) rfl (by kernel_rfl) (by kernel_rfl) (by kernel_rfl) (fun _ _ _ h => h) (Or.inl ⟨by rfl, ?hy8⟩) (by assumption) ?rest8
    case hy8 => (intro w hSw; (try dsimp only at hSw); first | (go_simp; done) | (go_simp; with_reducible rfl))
    try simp only [Act.put, List.setIfInBounds_toArray, List.set_cons_zero, List.set_cons_succ]
    refine wpAnyH_take (i := 9) (oi := { dst := some 34, op := Go.Op.nilCheck (Go.Operand.tmp 33), type := 0, pos := "list.go:28", after := #[{ on := 8, ground := Go.Ground.data }], guard := none }) (v := ?v9) rfl (by kernel_rfl) (by kernel_rfl) (by kernel_rfl) (fun _ _ _ h => h) (Or.inl ⟨by rfl, ?hy9⟩) (by assumption) ?rest9
    case hy9 => (intro w hSw; (try dsimp only at hSw); first | (go_simp; done) | (go_simp; with_reducible rfl))
    try simp only [Act.put, List.setIfInBounds_toArray, List.set_cons_zero, List.set_cons_succ]
    refine wpAnyH_take (i := 10) (oi := { dst := some 35, op := Go.Op.fieldAddr 119 (Go.Operand.tmp 34) 1, type := 0, pos := "list.go:28", after := #[{ on := 9, ground := Go.Ground.data }], guard := none }) (v := ?v10) rfl (by kernel_rfl) (by kernel_rfl) (by kernel_rfl) (fun _ _ _ h => h) (Or.inl ⟨by rfl, ?hy10⟩) (by assumption) ?rest10
    case hy10 => (intro w hSw; (try dsimp only at hSw); first | (go_simp; done) | (go_simp; with_reducible rfl))
    try simp only [Act.put, List.setIfInBounds_toArray, List.set_cons_zero, List.set_cons_succ]
    refine wpAnyH_take (i := 12) (oi := { dst := some 37, op := Go.Op.load 31 (Go.Operand.tmp 4), type := 31, pos := "list.go:28", after := #[], guard := none }) (v := ?v12) rfl (by kernel_rfl) (by kernel_rfl) (by kernel_rfl) (fun _ _ _ h => h) (Or.inl ⟨by rfl, ?hy12⟩) (by assumption) ?rest12
    case hy12 => (intro w hSw; (try dsimp only at hSw); first | (go_simp; done) | (go_simp; with_reducible rfl))
    try simp only [Act.put, List.setIfInBounds_toArray, List.set_cons_zero, List.set_cons_succ]
    refine wpAnyH_ready (rs := [11]) (by kernel_rfl) (by simp) ?_
    refine AllReadyH.cons (o := { dst := some 36, op := Go.Op.load 101 (Go.Operand.tmp 35), type := 101, pos := "list.go:28", after := #[{ on := 10, ground := Go.Ground.data }], guard := none }) rfl (fun Kr hKr => ?_) AllReadyH.nil
    go_simp
    refine hKr.out _ _ ?_ (fun hHeld => ?_)
    · exact ⟨z0, z1, c0, c1⟩
    clear hKr Kr
    try simp only [Act.put, List.setIfInBounds_toArray, List.set_cons_zero, List.set_cons_succ]
    refine wpAnyH_ready (rs := [13]) (by kernel_rfl) (by simp) ?_
    refine AllReadyH.cons (o := { dst := some 38, op := Go.Op.call { callee := Go.Callee.value (Go.Operand.func 84), args := #[Go.Operand.tmp 36, Go.Operand.tmp 37], argTypes := #[101, 31] }, type := 101, pos := "list.go:28", after := #[{ on := 11, ground := Go.Ground.data }, { on := 12, ground := Go.Ground.data }], guard := none }) rfl (fun Kr hKr => ?_) AllReadyH.nil
    go_simp
    refine k3.mono ?_
    rintro e' v1 ⟨g, rfl, hg, hl, hb3, hk3⟩
    have y3 := (hk3 w.heap.size hyl (by omega) (by omega)).trans y2
    have t0 := cell_of y3 0
    have t1 := cell_of y3 1
    simp at t0 t1
    have bc := (hk3 b hbl hb1 hb2).trans h2.cells
    have t2 : v1.cell? ⟨b, 0, none⟩ = some (.map (some m)) := (by rw [cell_of bc]; rfl)
    have t3 : v1.cell? ⟨b, 1, none⟩ = some (.pointer (some ⟨e, 0, none⟩)) := (by rw [cell_of bc]; rfl)
    obtain ⟨v2, p2, i2, tt2⟩ := HM.put Try.underlying100 (hF.keep (hk3 m hml hm1 hm2)) (k := k) trivial (.pointer (some ⟨g, 0, none⟩))
    unfold hK at p2
    have hk4 : ∀ i, i < v1.heap.size → i ≠ m → v2.heap[i]? = v1.heap[i]? := (fun i hi hne => tt2.grown.block i hi (by simp; exact hne))
    have y4 := (hk4 _ (heap_lt y3) (by omega)).trans y3
    have bc4 := (hk4 _ (heap_lt bc) hbm).trans bc
    have u0 := cell_of y4 0
    have u1 := cell_of y4 1
    simp at u0 u1
    have u2 : v2.cell? ⟨b, 0, none⟩ = some (.map (some m)) := (by rw [cell_of bc4]; rfl)
    have u3 : v2.cell? ⟨b, 1, none⟩ = some (.pointer (some ⟨e, 0, none⟩)) := (by rw [cell_of bc4]; rfl)
    go_wp2_with fail
    refine hKr.out _ _ ?_ (fun hHeld => ?_)
    · exact ⟨t0, t1, t2, t3⟩
    clear hKr Kr
    try simp only [Act.put, List.setIfInBounds_toArray, List.set_cons_zero, List.set_cons_succ]
    refine wpAnyH_ready (rs := [14]) (by kernel_rfl) (by simp) ?_
    refine AllReadyH.cons (o := { dst := none, op := Go.Op.mapUpdate 100 (Go.Operand.tmp 28) (Go.Operand.tmp 29) (Go.Operand.tmp 38), type := 0, pos := "list.go:28", after := #[{ on := 3, ground := Go.Ground.data }, { on := 4, ground := Go.Ground.data }, { on := 13, ground := Go.Ground.data }, { on := 13, ground := Go.Ground.chain }, { on := 0, ground := Go.Ground.phase }, { on := 1, ground := Go.Ground.phase }, { on := 2, ground := Go.Ground.phase }, { on := 3, ground := Go.Ground.phase }, { on := 4, ground := Go.Ground.phase }, { on := 5, ground := Go.Ground.phase }, { on := 6, ground := Go.Ground.phase }, { on := 7, ground := Go.Ground.phase }, { on := 8, ground := Go.Ground.phase }, { on := 9, ground := Go.Ground.phase }, { on := 10, ground := Go.Ground.phase }, { on := 11, ground := Go.Ground.phase }, { on := 12, ground := Go.Ground.phase }, { on := 13, ground := Go.Ground.phase }], guard := none }) rfl (fun Kr hKr => ?_) AllReadyH.nil
    go_simp
    refine hKr.out _ _ ?_ (fun hHeld => ?_)
    · exact ⟨u0, u1, u2, u3⟩
    clear hKr Kr
    try simp only [Act.put, List.setIfInBounds_toArray, List.set_cons_zero, List.set_cons_succ]
    refine wpAnyH_done (by kernel_rfl) ?_ _
    go_wp2
    all_goals go_returns
    have hge : g ∉ e :: N := fun q => by have := hlt0 g q; have : w1.heap.size ≤ g := hg; have := hbw.size; omega
    have hgN : g ∉ N := fun q => hge (.tail _ q)
    have hxg : pv e ≠ g := fun q => hge (q ▸ hp)
    have hne : e ≠ g := fun q => hge (q ▸ .head _)
    have := push_end hL hbw hk hp hg hF2 hl hb3 (by rw [hnp]; exact hk3) i2 tt2 (.inr rfl) (h2.ring.last h2.nd hge rfl (by unfold pvIn; rw [hnp]; exact upd_self _ _ _) (by unfold pvIn; rw [hnp]; exact (upd_ne _ _ hne.symm).trans (upd_self _ _ _)) ((upd_ne _ _ hxg.symm).trans ((upd_self _ _ _).trans hnp)) (upd_self _ _ _) (fun x h5 h6 => by unfold pvIn; rw [hnp]; exact (upd_ne _ _ h5).trans (upd_ne _ _ h6)) (fun x h5 h6 => (upd_ne _ _ h5).trans (upd_ne _ _ h6)))
    rw [List.map_append, List.map_cons, List.map_nil, map_in k hgN, show kyIn ky g k g = k from upd_self _ _ _] at this
    exact ⟨rfl, this⟩
end Go.Proofs.Ythgpbbpmfpfjnaa
