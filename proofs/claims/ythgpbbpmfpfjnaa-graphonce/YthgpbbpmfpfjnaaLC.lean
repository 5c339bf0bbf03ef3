/- Towards the statements of package list (layer 15): follow, leave, New, Len. -/
import Derived.Test.YthgpbbpmfpfjnaaLB
namespace Go.Proofs.Ythgpbbpmfpfjnaa
open Go.ChangeShapes Go.WideShapes Go.ChangeAt Go.RowKit
set_option linter.unusedVariables false
set_option linter.unusedSimpArgs false
set_option maxRecDepth 20000
/-- The ring with g behind k. -/
def nxIn (nx : Nat → Nat) (k g : Nat) : Nat → Nat := upd (upd nx g (nx k)) k g
def pvIn (nx pv : Nat → Nat) (k g : Nat) : Nat → Nat := upd (upd pv g k) (nx k) g
def kyIn (ky : Nat → HKey) (g : Nat) (h : HKey) : Nat → HKey := upd ky g h
theorem follow_any (w : World) (B k : Nat) (nx pv : Nat → Nat) (ky : Nat → HKey) (S : List Nat) (hS : ∀ x ∈ S, Lk w nx pv ky x) (hk : k ∈ S) (hn : nx k ∈ S) (hB : ∀ x ∈ S, B ≤ x) (hBw : B ≤ w.heap.size) (h : HKey) :
    Calls Try.prog 84 #[.pointer (some ⟨k, 0, none⟩), .agg #[.int .i64 h.1, .int .u64 h.2]] w fun e w' => ∃ g, e = .returned (.pointer (some ⟨g, 0, none⟩)) ∧ w.heap.size ≤ g ∧ (∀ x ∈ g :: S, Lk w' (nxIn nx k g) (pvIn nx pv k g) (kyIn ky g h) x) ∧ Below B w w' ∧ (∀ i, i < w.heap.size → i ≠ k → i ≠ nx k → w'.heap[i]? = w.heap[i]?) := by
  have l1 : ∀ x ∈ S, Lk (w.alloc (.cells #[.int .i64 h.1, .int .u64 h.2] 31)) nx pv ky x := fun x hx => (hS x hx).keep (Below.heap_alloc _ _ _ (hS x hx).lt)
  have y1 := heap_alloc_new w (.cells #[.int .i64 h.1, .int .u64 h.2] 31)
  have b1 : Below B w (w.alloc (.cells #[.int .i64 h.1, .int .u64 h.2] 31)) := (Below.refl _ w).alloc hBw _
  have s1 : (w.alloc (.cells #[.int .i64 h.1, .int .u64 h.2] 31)).heap.size = w.heap.size + 1 := by simp
  have k1 : ∀ i, i < w.heap.size → (w.alloc (.cells #[.int .i64 h.1, .int .u64 h.2] 31)).heap[i]? = w.heap[i]? := fun i hi => Below.heap_alloc _ _ _ hi
  have hS0 : ∀ x ∈ S, x < w.heap.size := fun x hx => (hS x hx).lt
  go_enter Try.func84, Try.ntmps84
  go_upto_region 1 with fail
  generalize w.alloc (.cells #[.int .i64 h.1, .int .u64 h.2] 31) = W1 at l1 y1 b1 s1 k1 ⊢
  have t0 := cell_of y1 0
  have t1 := cell_of y1 1
  simp at t0 t1
  have t3 := (l1 k hk).c3
  have hkl := hS0 k hk
  have hnl := hS0 _ hn
  go_region
  have l2 : ∀ x ∈ (w.heap.size + 1) :: S, Lk (W1.alloc (.cells #[.int .i64 h.1, .int .u64 h.2, .pointer (some ⟨k, 0, none⟩), .pointer (some ⟨nx k, 0, none⟩)] 119)).drew (upd nx (w.heap.size + 1) (nx k)) (upd pv (w.heap.size + 1) k) (upd ky (w.heap.size + 1) h) x := by
    intro x hx
    rcases List.mem_cons.1 hx with rfl | hx
    · unfold Lk
      simp only [upd_self]
      rw [← s1]
      exact heap_alloc_new W1 _
    · have hxl := hS0 x hx
      unfold Lk
      rw [upd_ne _ _ (by omega), upd_ne _ _ (by omega), upd_ne _ _ (by omega)]
      exact (Below.heap_alloc _ _ _ (l1 x hx).lt).trans (l1 x hx)
  have b2 : Below B w (W1.alloc (.cells #[.int .i64 h.1, .int .u64 h.2, .pointer (some ⟨k, 0, none⟩), .pointer (some ⟨nx k, 0, none⟩)] 119)).drew := (b1.alloc (by omega) _).drew
  have k2 : ∀ i, i < w.heap.size → (W1.alloc (.cells #[.int .i64 h.1, .int .u64 h.2, .pointer (some ⟨k, 0, none⟩), .pointer (some ⟨nx k, 0, none⟩)] 119)).drew.heap[i]? = w.heap[i]? := fun i hi => (Below.heap_alloc _ _ _ (by omega)).trans (k1 i hi)
  have hg : w.heap.size ≤ w.heap.size + 1 := by omega
  clear t0 t1 t3 y1 l1 k1 b1
  generalize (W1.alloc (.cells #[.int .i64 h.1, .int .u64 h.2, .pointer (some ⟨k, 0, none⟩), .pointer (some ⟨nx k, 0, none⟩)] 119)).drew = W2 at l2 b2 k2 ⊢
  generalize w.heap.size + 1 = g at l2 hg ⊢
  have u3 := (l2 k (.tail _ hk)).c3
  rw [upd_ne _ _ (by omega)] at u3
  have u2 := (l2 _ (.tail _ hn)).c2
  have f2 := (l2 _ (.tail _ hn)).fr 2
  have l3 := lk_set2 l2 (g := g) (.tail _ hn)
  go_upto_region 3 with fail
  have b3 : Below B w (W2.setCell ⟨nx k, 2, none⟩ (.pointer (some ⟨g, 0, none⟩))) := b2.setCell (hB _ hn) _
  have k3 : ∀ i, i < w.heap.size → i ≠ nx k → (W2.setCell ⟨nx k, 2, none⟩ (.pointer (some ⟨g, 0, none⟩))).heap[i]? = w.heap[i]? := fun i hi e => (Below.heap_setCell _ _ _ _ (by simpa using e)).trans (k2 i hi)
  clear u3 u2 f2
  generalize W2.setCell ⟨nx k, 2, none⟩ (.pointer (some ⟨g, 0, none⟩)) = W3 at l3 b3 k3 ⊢
  have u3 := (l3 k (.tail _ hk)).c3
  have f3 := (l3 k (.tail _ hk)).fr 3
  have l4 := lk_set3 l3 (g := g) (.tail _ hk)
  have b4 : Below B w (W3.setCell ⟨k, 3, none⟩ (.pointer (some ⟨g, 0, none⟩))) := b3.setCell (hB _ hk) _
  have k4 : ∀ i, i < w.heap.size → i ≠ k → i ≠ nx k → (W3.setCell ⟨k, 3, none⟩ (.pointer (some ⟨g, 0, none⟩))).heap[i]? = w.heap[i]? := fun i hi e1 e2 => (Below.heap_setCell _ _ _ _ (by simpa using e1)).trans (k3 i hi e2)
  go_wp2
  all_goals go_returns
  all_goals exact ⟨g, rfl, hg, l4, b4, k4⟩
theorem leave_any (w : World) (B k : Nat) (nx pv : Nat → Nat) (ky : Nat → HKey) (S : List Nat) (hS : ∀ x ∈ S, Lk w nx pv ky x) (hk : k ∈ S) (hn : nx k ∈ S) (hp : pv k ∈ S) (hpk : k ≠ pv k) (hB : ∀ x ∈ S, B ≤ x) :
    Calls Try.prog 92 #[.pointer (some ⟨k, 0, none⟩)] w fun e w' => e = .returned (.tuple #[]) ∧ (∀ x ∈ S, Lk w' (upd nx (pv k) (nx k)) (upd pv (nx k) (pv k)) ky x) ∧ Below B w w' ∧ (∀ i, i ≠ pv k → i ≠ nx k → w'.heap[i]? = w.heap[i]?) ∧ w'.heap.size = w.heap.size := by
  have c2 := (hS k hk).c2
  have c3 := (hS k hk).c3
  have p3 := (hS _ hp).c3
  have f3 := (hS _ hp).fr 3
  have l1 : ∀ x ∈ S, Lk (w.setCell ⟨pv k, 3, none⟩ (.pointer (some ⟨nx k, 0, none⟩))).drew (upd nx (pv k) (nx k)) pv ky x := lk_set3 (w := w) (nx := nx) (pv := pv) (ky := ky) (fun x hx => hS x hx) (g := nx k) hp
  have b1 : Below B w (w.setCell ⟨pv k, 3, none⟩ (.pointer (some ⟨nx k, 0, none⟩))).drew := ((Below.refl _ w).setCell (hB _ hp) _).drew
  have k1 : ∀ i, i ≠ pv k → (w.setCell ⟨pv k, 3, none⟩ (.pointer (some ⟨nx k, 0, none⟩))).drew.heap[i]? = w.heap[i]? := fun i e => Below.heap_setCell _ _ _ _ (by simpa using e)
  have s1 : (w.setCell ⟨pv k, 3, none⟩ (.pointer (some ⟨nx k, 0, none⟩))).drew.heap.size = w.heap.size := by simp [World.setCell]
  go_enter Try.func92, Try.ntmps92
  go_upto_region 0 with fail
  go_region
  clear c2 c3 p3 f3
  generalize (w.setCell ⟨pv k, 3, none⟩ (.pointer (some ⟨nx k, 0, none⟩))).drew = W1 at l1 b1 k1 s1 ⊢
  have c2 := (l1 k hk).c2
  have c3 := (l1 k hk).c3
  rw [upd_ne _ _ hpk] at c3
  have p2 := (l1 _ hn).c2
  have f2 := (l1 _ hn).fr 2
  have l2 : ∀ x ∈ S, Lk (W1.setCell ⟨nx k, 2, none⟩ (.pointer (some ⟨pv k, 0, none⟩))).drew (upd nx (pv k) (nx k)) (upd pv (nx k) (pv k)) ky x := lk_set2 (w := W1) (nx := upd nx (pv k) (nx k)) (pv := pv) (ky := ky) (fun x hx => l1 x hx) (g := pv k) hn
  have b2 : Below B w (W1.setCell ⟨nx k, 2, none⟩ (.pointer (some ⟨pv k, 0, none⟩))).drew := (b1.setCell (hB _ hn) _).drew
  have k2 : ∀ i, i ≠ pv k → i ≠ nx k → (W1.setCell ⟨nx k, 2, none⟩ (.pointer (some ⟨pv k, 0, none⟩))).drew.heap[i]? = w.heap[i]? := fun i e1 e2 => (Below.heap_setCell _ _ _ _ (by simpa using e2)).trans (k1 i e1)
  have s2 : (W1.setCell ⟨nx k, 2, none⟩ (.pointer (some ⟨pv k, 0, none⟩))).drew.heap.size = w.heap.size := by rw [← s1]; simp [World.setCell]
  go_upto_region 1 with fail
  go_region
  go_wp2
  all_goals go_returns
  all_goals exact ⟨rfl, l2, b2, k2, s2⟩
/-- What New answers. -/
theorem ends_any (w : World) : Calls Try.prog 39 #[] w fun e w' => e = .returned (.pointer (some ⟨w.heap.size, 0, none⟩)) ∧ Lk w' (fun _ => w.heap.size) (fun _ => w.heap.size) (fun _ => (0, 0)) w.heap.size ∧ Below w.heap.size w w' ∧ w'.heap.size = w.heap.size + 1 := by
  have l1 : ∀ x ∈ [w.heap.size], Lk (w.alloc (.cells #[.int .i64 0, .int .u64 0, .pointer none, .pointer none] 119)) (fun _ => w.heap.size) (fun _ => w.heap.size) (fun _ => (0, 0)) x → True := fun _ _ _ => trivial
  have y0 := heap_alloc_new w (.cells #[.int .i64 0, .int .u64 0, .pointer none, .pointer none] 119)
  have b1 : Below w.heap.size w (w.alloc (.cells #[.int .i64 0, .int .u64 0, .pointer none, .pointer none] 119)) := (Below.refl _ w).alloc (Nat.le_refl _) _
  have s1 : (w.alloc (.cells #[.int .i64 0, .int .u64 0, .pointer none, .pointer none] 119)).heap.size = w.heap.size + 1 := by simp
  go_enter Try.func39, Try.ntmps39
  go_upto_region 2 with fail
  clear l1
  generalize w.alloc (.cells #[.int .i64 0, .int .u64 0, .pointer none, .pointer none] 119) = W at y0 b1 s1 ⊢
  have h1 := heap_setCell_same W w.heap.size 2 _ _ (.pointer (some ⟨w.heap.size, 0, none⟩)) y0
  have h2 := heap_setCell_same _ w.heap.size 3 _ _ (.pointer (some ⟨w.heap.size, 0, none⟩)) h1
  have c2 : W.cell? ⟨w.heap.size, 2, none⟩ = some (.pointer none) := by rw [cell_of y0]; rfl
  have c3 : (W.setCell ⟨w.heap.size, 2, none⟩ (.pointer (some ⟨w.heap.size, 0, none⟩))).cell? ⟨w.heap.size, 3, none⟩ = some (.pointer none) := by rw [cell_of h1]; rfl
  have g2 := froz_of y0 2
  have g3 := froz_of h1 3
  have b3 : Below w.heap.size w ((W.setCell ⟨w.heap.size, 2, none⟩ (.pointer (some ⟨w.heap.size, 0, none⟩))).setCell ⟨w.heap.size, 3, none⟩ (.pointer (some ⟨w.heap.size, 0, none⟩))) := (b1.setCell (Nat.le_refl _) _).setCell (Nat.le_refl _) _
  have s3 : ((W.setCell ⟨w.heap.size, 2, none⟩ (.pointer (some ⟨w.heap.size, 0, none⟩))).setCell ⟨w.heap.size, 3, none⟩ (.pointer (some ⟨w.heap.size, 0, none⟩))).heap.size = w.heap.size + 1 := by rw [← s1]; simp [World.setCell]
  go_wp2
  all_goals go_returns
  all_goals exact ⟨rfl, h2, b3, s3⟩
theorem new_any (w : World) : Calls Try.prog 32 #[] w fun e w' => ∃ b m en, e = .returned (.pointer (some ⟨b, 0, none⟩)) ∧ Ls w' w.heap.size b m en (fun _ => en) (fun _ => en) (fun _ => (0, 0)) [] ∧ Below w.heap.size w w' := by
  have hmm := @run_makeMap Try.prog
  have k1 := ends_any (w.alloc (.map #[] 0))
  go_enter Try.func32, Try.ntmps32
  go_wp2_with (go_at_call 39; refine k1.mono ?_; rintro e1 w1 ⟨rfl, hl, hb, hs⟩)
  all_goals go_returns
  have s0 : (w.alloc (.map #[] 0)).heap.size = w.heap.size + 1 := by simp
  have hm0 : HM w1 w.heap.size 0 (fun _ => none) := (HM.new w).keep (hb.block _ (by simp))
  refine ⟨_, w.heap.size, w.heap.size + 1, rfl, ⟨?_, by omega, Nat.le_refl _, by simp, ⟨0, _, hm0.alloc _, by simp⟩, ⟨rfl, rfl⟩, by simp, ?_, by simp⟩, ?_⟩
  · rw [show w.heap.size + 1 + 1 = w1.heap.size by omega]
    exact heap_alloc_new w1 _
  · intro x hx
    obtain rfl : x = w.heap.size + 1 := by simpa using hx
    rw [← s0]
    exact hl.keep (Below.heap_alloc _ _ _ (by omega))
  · exact (((Below.refl _ w).alloc (Nat.le_refl _) _).trans (hb.mono (by simp))).alloc (by omega) _
end Go.Proofs.Ythgpbbpmfpfjnaa
