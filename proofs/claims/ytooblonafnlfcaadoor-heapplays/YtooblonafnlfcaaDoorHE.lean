/- Towards the statements of package handle (layer 13): the keys of a map, sorted. -/
import Derived.Test.YtooblonafnlfcaaDoorHD
import Derived.Test.YtooblonafnlfcaaDoorShelf
import Derived.Deep.AppendLies
import Derived.OwnWalk
import Derived.Laws.OwnMore
import Derived.Maps.AppendAt
namespace Go.Proofs.YtooblonafnlfcaaDoor.H
open Go.ChangeShapes Go.WideShapes Go.ChangeAt Go.RowKit Go.Maps Go.WideElems
set_option linter.unusedVariables false
set_option linter.unusedSimpArgs false
set_option maxRecDepth 20000
/-- The keys of a map, rising. -/
structure AllK (F : Int → Option Value) (K : List Int) : Prop where
  up : K.Pairwise (· < ·)
  mem : ∀ k, k ∈ K ↔ (F k).isSome = true
def anyR : Value → Option (DataW Unit × List MemPlace) := fun _ => some (.nil, [])
def keyI (x : MapEntry) : Int := match x.key with
  | .int _ a => a
  | _ => 0
theorem i64_wf {k : Int} (h : I64 k) : (Lit.int .i64 k).wf = true := by
  simpa [I64, Lit.wf, IntKind.min, IntKind.max, IntKind.signed, IntKind.bits] using h
theorem _root_.Go.Proofs.YtooblonafnlfcaaDoor.IM.owns {w : World} {m n : Nat} {F : Int → Option Value} (h : IM w m n F) (hn : n ≤ 1000000) : ∃ D0 : DataW Unit, w.ownsMap Tryd.prog 3 anyR m n D0 ∧ Maps.size D0 ≤ n ∧ ∀ ss : List Int, ss.Perm (intKeys D0) → ss.Nodup ∧ ∀ k, k ∈ ss ↔ (F k).isSome = true := by
  obtain ⟨es, c, h1, h2, h3, h4, h5⟩ := h
  have hrd : ∀ x ∈ es.toList, ∃ k, x.key = .int .i64 k ∧ rd Tryd.prog 3 anyR x = some (.int .i64 k, .nil) := by
    intro x hx
    obtain ⟨k, hk, hi⟩ := h4 x hx
    exact ⟨k, hk, by unfold rd; rw [hk, keyOf_int_mk Tryd.underlying3 (i64_wf hi)]; rfl⟩
  have hFit : Fit Tryd.prog 3 anyR es c := ⟨by unfold maxLen; omega, h2, fun x hx => by obtain ⟨k, _, e⟩ := hrd x hx; exact ⟨_, e⟩⟩
  have hown : w.ownsMap Tryd.prog 3 anyR m n (.map ((es.toList.map (rg Tryd.prog 3 anyR)).foldr DataW.insert [])) := ⟨es, c, h1, hFit, h3, rfl⟩
  refine ⟨_, hown, hown.size_le, fun ss hss => ?_⟩
  have hp : (intKeys (DataW.map ((es.toList.map (rg Tryd.prog 3 anyR)).foldr DataW.insert []))).Perm (es.toList.map keyI) := by
    have e1 : (intKeys (DataW.map ((es.toList.map (rg Tryd.prog 3 anyR)).foldr DataW.insert []))) = ((es.toList.map (rg Tryd.prog 3 anyR)).foldr DataW.insert []).map fun p => Go.intOf p.1 := rfl
    rw [e1]
    refine ((sorted_perm _).map _).trans ?_
    rw [List.map_map]
    refine List.Perm.of_eq (List.map_congr_left fun x hx => ?_)
    obtain ⟨k, hk, e⟩ := hrd x hx
    simp only [Function.comp, rg, e, Option.getD_some, keyI, hk]
    rfl
  have hq := hss.trans hp
  have hnd : (es.toList.map keyI).Nodup := by
    have h0 := h2.2.2
    rw [List.Nodup, List.pairwise_map] at h0 ⊢
    refine h0.imp_of_mem fun {a b} ha hb hne e => hne ?_
    obtain ⟨k, hk, _⟩ := h4 a ha
    obtain ⟨k', hk', _⟩ := h4 b hb
    simp only [keyI, hk, hk'] at e
    rw [hk, hk', e]
  refine ⟨hq.nodup_iff.2 hnd, fun k => ?_⟩
  rw [hq.mem_iff, List.mem_map]
  constructor
  · rintro ⟨x, hx, e⟩
    obtain ⟨k', hk, _⟩ := h4 x hx
    simp only [keyI, hk] at e
    subst e
    rw [(h5 k' x.val).2 ⟨x, hx, hk, rfl⟩]
    rfl
  · intro e
    obtain ⟨v, hv⟩ := Option.isSome_iff_exists.1 e
    obtain ⟨x, hx, hk, _⟩ := (h5 k v).1 hv
    exact ⟨x, hx, by simp [keyI, hk]⟩
theorem sort_up {ss : List Int} (h : ss.Nodup) : (ss.mergeSort fun x y => decide (x ≤ y)).Pairwise (· < ·) := by
  have h1 : (ss.mergeSort fun x y => decide (x ≤ y)).Pairwise (fun a b => decide (a ≤ b) = true) := List.pairwise_mergeSort (fun a b c h1 h2 => by simp at *; omega) (fun a b => by simp; omega) ss
  have h2 : (ss.mergeSort fun x y => decide (x ≤ y)).Nodup := (List.mergeSort_perm ss _).nodup_iff.2 h
  have h3 := h1.and h2
  exact h3.imp fun {a b} ⟨p, q⟩ => by simp at p; omega
theorem sortsA (m : Nat) : AnyZI.SortsIn Tryd.prog Tryd.sortedA_ren Fence.wide m :=
  ⟨fun blk off cap ss W hH hblk hsz => callsIn_wide.2 (AnyM.slices_Sort_int Tryd.sortA blk off cap ss W hH hblk hsz),
   fun p cap W => callsIn_wide.2 (AnyM.slices_Sort_int_none Tryd.sortA p cap W)⟩
theorem keys_any (mb : Option Nat) (W : World) : Calls Tryd.prog 68 #[.map mb] W fun e w' => e = .returned (.func (.func 77) #[] #[.pointer (some ⟨W.heap.size, 0, none⟩)]) ∧ w' = W.alloc (.cells #[.map mb] 102) :=
  (callsIn_wide (n := 5)).1 (AnyZI.keys_in Tryd.keysA Fence.wide 5 trivial rfl mb W)
set_option maxHeartbeats 1000000 in
theorem sorted_any (w : World) (b n : Nat) (F : Int → Option Value) (h : IM w b n F) (hn : n ≤ 1000000) :
    Calls Tryd.prog 67 #[.func (.func 77) #[] #[.pointer (some ⟨w.heap.size, 0, none⟩)]] (w.alloc (.cells #[.map (some b)] 102)) fun e w' => ∃ (v : Value) (K : List Int), e = .returned v ∧ AllK F K ∧ K.length ≤ n ∧
      w'.ownsRow (w.heap.size + 1) 3 1 v K.length (K.map encZ) ∧ Below (w.heap.size + 1) (w.alloc (.cells #[.map (some b)] 102)) w' := by
  obtain ⟨D0, hown, hsz, hD⟩ := h.owns hn
  have hbl := hown.lt
  have hseq : SeqGives Fence.wide 2 Tryd.prog 77 #[.pointer (some ⟨w.heap.size, 0, none⟩)] encZ (fun ss => ss.Perm (intKeys D0)) (Maps.size D0) (w.alloc (.cells #[.map (some b)] 102)) :=
    AnyZI.keys_gives (ρ := Tryd.keysA_ren) { Tryd.keysA with } Fence.wide _ trivial rfl (by omega) w.heap.size b n D0 _ (by simp) (by simp) (by
      obtain ⟨es, clock, hb, Ft, hs, hD⟩ := hown
      exact ⟨es, clock, (Below.heap_alloc _ _ b hbl).trans hb, Ft, hs, hD⟩)
  have cS := AnyZI.sorted_in Tryd.sortedA Fence.wide 5 trivial trivial trivial trivial rfl (by omega) (sortsA _) (enters_of Tryd.func76 (by kernel_rfl) rfl) 77 #[.pointer (some ⟨w.heap.size, 0, none⟩)] trivial (enters_of Tryd.func77 (by kernel_rfl) rfl) _ _ (by unfold maxLen; omega) (by omega) _ hseq
  change CallsIn _ _ Tryd.prog 67 _ _ _ at cS
  refine (callsIn_wide.1 cS).mono fun e w' ⟨v, ss, he, hS, hrow, hnil, hb⟩ => ?_
  have hs1 : (w.alloc (.cells #[.map (some b)] 102)).heap.size = w.heap.size + 1 := by simp
  rw [hs1] at hrow hb
  obtain ⟨hnd, hmem⟩ := hD ss hS
  have hl : (ss.mergeSort fun x y => decide (x ≤ y)).length = ss.length := (List.mergeSort_perm ss _).length_eq
  refine ⟨v, ss.mergeSort fun x y => decide (x ≤ y), he, ⟨sort_up hnd, fun k => by rw [(List.mergeSort_perm ss _).mem_iff]; exact hmem k⟩, ?_, by rw [hl]; exact hrow, hb⟩
  rw [hl, hS.length_eq]
  have e1 : (intKeys D0).length = Maps.size D0 := by
    obtain ⟨es, clock, hb, Ft, hs, rfl⟩ := hown
    simp [intKeys, Maps.size]
  omega
end Go.Proofs.YtooblonafnlfcaaDoor.H
