/- Towards the statements of package graph (layer 17): trees beside one another, each with its own blocks. -/
import Derived.Test.YthgpbbpmfpfjnaaTQ
import Derived.Test.YthgpbbpmfpfjnaaLJ
namespace Go.Proofs.Ythgpbbpmfpfjnaa.T
open Go.ChangeShapes Go.WideShapes Go.ChangeAt Go.RowKit
set_option linter.unusedVariables false
set_option linter.unusedSimpArgs false
set_option maxRecDepth 20000
def far0 : FarT := ⟨fun _ => False, 0, fun _ h => h.elim⟩
def farS (w : World) (S : List Nat) : FarT := ⟨fun k => k < w.heap.size ∧ k ∉ S, w.heap.size, fun _ h => h.1⟩
/-- A tree at block b, in the blocks S. -/
def Ti (w : World) (B b : Nat) (K : List HKey) (S : List Nat) : Prop := ∃ m top M T, @Tw ⟨far0⟩ w B b m top M T ∧ T.keys = K ∧ S = b :: m :: top :: T.adds
section
variable {w w' : World} {B b : Nat} {K K' : List HKey} {S : List Nat}
theorem tw_move (i j : FarT) {m top : Nat} {M : MN} {T : Tr} (h : @Tw ⟨i⟩ w B b m top M T) (hY : ∀ k ∈ b :: m :: top :: T.adds, ¬ j.Y k) (hT : j.top ≤ w.heap.size) : ∃ M', @Tw ⟨j⟩ w B b m top M' T := by
  have key : ∀ a ∈ top :: T.adds, (if a ∈ top :: T.adds then M a else none) = M a := fun a ha => if_pos ha
  obtain ⟨h1, h2, h3, h4, h5, h6, h7, h8, h9, h10, _, _, _⟩ := h
  letI : Inhabited FarT := ⟨j⟩
  refine ⟨fun a => if a ∈ top :: T.adds then M a else none, h1, h2, h3, ?_, ⟨(key top (.head _)).trans h5.top', h5.sub.frame fun a ha => key a (.tail _ ha)⟩, h6, h7, h8, h9, h10, hY b (by simp), hY m (by simp), hT⟩
  intro a x hx
  simp only at hx
  split at hx
  · rename_i ha
    have := h4 a x hx
    exact ⟨⟨this.1.1, hY a (.tail _ (.tail _ ha))⟩, this.2⟩
  · cases hx
/-- What a tree's relation says, without its instance. -/
theorem tw_open (i : FarT) {m top : Nat} {M : MN} {T : Tr} (h : @Tw ⟨i⟩ w B b m top M T) : w.heap[b]? = some (.cells #[.map (some m), .pointer (some ⟨top, 0, none⟩)] 111 (0, 0)) ∧ B ≤ b ∧ B ≤ m ∧ (∀ a x, M a = some x → (B ≤ a ∧ ¬ i.Y a) ∧ w.heap[a]? = some (.cells (ndC x) 109 (0, 0))) ∧ Wh M top T ∧ T.avl ∧ (∃ nn F, HM w m nn F ∧ ∀ h v, F h = some v ↔ ∃ a, (a, h) ∈ T.rows ∧ v = .pointer (some ⟨a, 0, none⟩)) ∧ (top :: T.adds).Nodup ∧ T.keys.Nodup ∧ T.size ≤ 2000 ∧ ¬ i.Y b ∧ ¬ i.Y m := by
  obtain ⟨h1, h2, h3, h4, h5, h6, h7, h8, h9, h10, h11, h12, _⟩ := h
  exact ⟨h1, h2, h3, h4, h5, h6, h7, h8, h9, h10, h11, h12⟩
theorem tw_shut {m top : Nat} {M : MN} {T : Tr} (h1 : w.heap[b]? = some (.cells #[.map (some m), .pointer (some ⟨top, 0, none⟩)] 111 (0, 0))) (h2 : B ≤ b) (h3 : B ≤ m) (h4 : ∀ a x, M a = some x → B ≤ a ∧ w.heap[a]? = some (.cells (ndC x) 109 (0, 0))) (h5 : Wh M top T) (h6 : T.avl) (h7 : ∃ nn F, HM w m nn F ∧ ∀ h v, F h = some v ↔ ∃ a, (a, h) ∈ T.rows ∧ v = .pointer (some ⟨a, 0, none⟩)) (h8 : (top :: T.adds).Nodup) (h9 : T.keys.Nodup) (h10 : T.size ≤ 2000) : @Tw ⟨far0⟩ w B b m top M T := by
  letI : Inhabited FarT := ⟨far0⟩
  exact ⟨h1, h2, h3, fun a x hx => ⟨⟨(h4 a x hx).1, id⟩, (h4 a x hx).2⟩, h5, h6, h7, h8, h9, h10, id, id, Nat.zero_le _⟩
theorem Ti.use (h : Ti w B b K S) : @Tk ⟨farS w S⟩ w B b K := by
  obtain ⟨m, top, M, T, h, rfl, rfl⟩ := h
  obtain ⟨M', h'⟩ := tw_move far0 (farS w (b :: m :: top :: T.adds)) h (fun k hk q => q.2 hk) (Nat.le_refl _)
  exact ⟨m, top, M', T, h', rfl⟩
theorem Ti.back (hk : @Tk ⟨farS w S⟩ w' B b K') (hf : @Ft ⟨farS w S⟩ B w w') : ∃ S', Ti w' B b K' S' ∧ FL B S S' w w' := by
  obtain ⟨m, top, M, T, hT, rfl⟩ := hk
  obtain ⟨M', h'⟩ := tw_move (farS w S) far0 hT (fun k hk q => q) (Nat.zero_le _)
  obtain ⟨g1, g2, g3⟩ := hf
  refine ⟨b :: m :: top :: T.adds, ⟨m, top, M', T, h', rfl, rfl⟩, ⟨g1, fun k hk hn => g3 k ⟨hk, hn⟩ hk, ?_⟩⟩
  obtain ⟨-, -, -, t4, t5, -, -, -, -, -, t11, t12⟩ := tw_open _ hT
  have key : ∀ x, ¬ (farS w S).Y x → x ∈ S ∨ w.heap.size ≤ x := by
    intro x hx
    by_cases e : x ∈ S
    · exact .inl e
    · right
      by_cases e2 : w.heap.size ≤ x
      · exact e2
      · exact absurd ⟨by omega, e⟩ hx
  intro x hx
  refine key x ?_
  simp only [List.mem_cons] at hx
  rcases hx with rfl | rfl | rfl | hx
  · exact t11
  · exact t12
  · exact (t4 _ _ t5.top').1.2
  · obtain ⟨⟨a, k⟩, ha, rfl⟩ := List.mem_map.1 hx
    obtain ⟨y, hy, _⟩ := t5.sub.all a k ha
    exact (t4 _ _ hy).1.2
theorem Ti.lt (h : Ti w B b K S) : ∀ x ∈ S, B ≤ x ∧ x < w.heap.size := by
  obtain ⟨m, top, M, T, hT, rfl, rfl⟩ := h
  obtain ⟨t1, t2, t3, t4, t5, -, ⟨nn, F, hF, _⟩, -⟩ := tw_open _ hT
  intro x hx
  simp only [List.mem_cons] at hx
  rcases hx with rfl | rfl | rfl | hx
  · exact ⟨t2, heap_lt t1⟩
  · exact ⟨t3, hF.lt⟩
  · exact ⟨(t4 _ _ t5.top').1.1, heap_lt (t4 _ _ t5.top').2⟩
  · obtain ⟨⟨a, k⟩, ha, rfl⟩ := List.mem_map.1 hx
    obtain ⟨y, hy, _⟩ := t5.sub.all a k ha
    exact ⟨(t4 _ _ hy).1.1, heap_lt (t4 _ _ hy).2⟩
theorem Ti.keep (h : Ti w B b K S) (hk : ∀ k ∈ S, w'.heap[k]? = w.heap[k]?) : Ti w' B b K S := by
  obtain ⟨m, top, M, T, hT, rfl, rfl⟩ := h
  obtain ⟨t1, t2, t3, t4, t5, t6, ⟨nn, F, hF, hF2⟩, t8, t9, t10, -⟩ := tw_open _ hT
  have hk2 : ∀ a ∈ top :: T.adds, (if a ∈ top :: T.adds then M a else none) = M a := fun a ha => if_pos ha
  refine ⟨m, top, fun a => if a ∈ top :: T.adds then M a else none, T, tw_shut ((hk b (by simp)).trans t1) t2 t3 ?_ ⟨(hk2 top (.head _)).trans t5.top', t5.sub.frame fun a ha => hk2 a (.tail _ ha)⟩ t6 ⟨nn, F, hF.keep (hk m (by simp)), hF2⟩ t8 t9 t10, rfl, rfl⟩
  intro a x hx
  change (if a ∈ top :: T.adds then M a else none) = some x at hx
  split at hx
  · rename_i ha
    have := t4 a x hx
    exact ⟨this.1.1, (hk a (.tail _ (.tail _ ha))).trans this.2⟩
  · cases hx
theorem Ti.bel (h : Ti w B b K S) (hb : Below w.heap.size w w') : Ti w' B b K S := h.keep fun k hk => hb.block k (h.lt k hk).2
theorem Ti.nd (h : Ti w B b K S) : K.Nodup := by
  obtain ⟨m, top, M, T, hT, rfl, rfl⟩ := h
  obtain ⟨t1, t2, t3, t4, t5, t6, -, t8, t9, t10, -⟩ := tw_open _ hT
  exact t9
theorem Ti.nob (h : Ti w B b K S) : b ∈ S := by
  obtain ⟨m, top, M, T, hT, rfl, rfl⟩ := h
  simp
theorem Ti.base {B' : Nat} (h : Ti w B b K S) (hB : B' ≤ B) : Ti w B' b K S := by
  obtain ⟨m, top, M, T, hT, rfl, rfl⟩ := h
  obtain ⟨t1, t2, t3, t4, t5, t6, t7, t8, t9, t10, -⟩ := tw_open _ hT
  exact ⟨m, top, M, T, tw_shut t1 (Nat.le_trans hB t2) (Nat.le_trans hB t3) (fun a x hx => ⟨Nat.le_trans hB (t4 a x hx).1.1, (t4 a x hx).2⟩) t5 t6 t7 t8 t9 t10, rfl, rfl⟩
end
theorem new_ti (w : World) : Calls Try.prog 33 #[] w fun e w' => ∃ b S, e = .returned (.pointer (some ⟨b, 0, none⟩)) ∧ Ti w' w.heap.size b [] S ∧ Below w.heap.size w w' :=
  (@tnew_any ⟨far0⟩ w (Nat.zero_le _)).mono fun e w' ⟨b, m, top, M, h1, h2, h3⟩ => ⟨b, _, h1, ⟨m, top, M, .nil, h2, rfl, rfl⟩, h3⟩
theorem ins_ti (w : World) (B b : Nat) (K : List HKey) (S : List Nat) (h : Ti w B b K S) (hl : K.length + 1 ≤ 2000) (i : Int) (k : HKey) :
    Calls Try.prog 96 #[.pointer (some ⟨b, 0, none⟩), .int .i64 i, .agg #[.int .i64 k.1, .int .u64 k.2]] w fun e w' => e = .returned (.int .i64 (insR K i k)) ∧ ∃ S', Ti w' B b (insK K i k) S' ∧ FL B S S' w w' :=
  (@ins_tk ⟨farS w S⟩ w B b K h.use hl i k).mono fun e w' ⟨e1, e2, e3⟩ => ⟨e1, Ti.back e2 e3⟩
theorem rem_ti (w : World) (B b : Nat) (K : List HKey) (S : List Nat) (h : Ti w B b K S) (k : HKey) :
    Calls Try.prog 115 #[.pointer (some ⟨b, 0, none⟩), .agg #[.int .i64 k.1, .int .u64 k.2]] w fun e w' => e = .returned (.tuple #[.int .i64 (idxR K k), .bool (decide (k ∈ K))]) ∧ ∃ S', Ti w' B b (K.erase k) S' ∧ FL B S S' w w' :=
  (@rem_tk ⟨farS w S⟩ w B b K h.use k).mono fun e w' ⟨e1, e2, e3⟩ => ⟨e1, Ti.back e2 e3⟩
theorem at_ti (w : World) (B b : Nat) (K : List HKey) (S : List Nat) (h : Ti w B b K S) (i : Int) :
    Calls Try.prog 94 #[.pointer (some ⟨b, 0, none⟩), .int .i64 i] w fun e w' => e = .returned (.tuple #[oV (atM K i), .bool (atM K i).isSome]) ∧ Below w.heap.size w w' := @at_tk ⟨farS w S⟩ w B b K h.use i
theorem len_ti (w : World) (B b : Nat) (K : List HKey) (S : List Nat) (h : Ti w B b K S) :
    Calls Try.prog 97 #[.pointer (some ⟨b, 0, none⟩)] w fun e w' => e = .returned (.int .i64 (K.length : Int)) ∧ w' = w := @len_tk ⟨farS w S⟩ w B b K h.use
theorem all_ti (w : World) (B b : Nat) (K : List HKey) (S : List Nat) (h : Ti w B b K S) :
    Calls Try.prog 93 #[.pointer (some ⟨b, 0, none⟩)] w fun e' w' => ∃ v, e' = .returned v ∧ w'.ownsRow w.heap.size 31 2 v K.length (hCells K) ∧ Below w.heap.size w w' := @all_tk ⟨farS w S⟩ w B b K h.use
end Go.Proofs.Ythgpbbpmfpfjnaa.T
