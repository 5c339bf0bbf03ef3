/- Towards the statements of package types (layer 10): what is written is read. -/
import Derived.Test.YtmcjmdoeafhjpaaTS
namespace Go.Proofs.Ytmcjmdoeafhjpaa
set_option linter.unusedVariables false
set_option linter.unusedSimpArgs false
set_option maxRecDepth 20000
theorem toU8_nat {x : Int} (h0 : 0 ≤ x) (h1 : x ≤ 255) : ((toU8 x).toNat : Int) = x := by
  unfold toU8
  have h : (UInt8.ofNat x.toNat).toNat = x.toNat % 256 := by simp
  rw [h]
  omega
theorem toU8_of (x : UInt8) : toU8 (x.toNat : Int) = x := by
  unfold toU8
  simp
theorem num_app {x : Int} (h0 : 0 ≤ x) (h1 : x ≤ 255) (r : List UInt8) : numM (some (toU8 x :: r)) = (x, some r) := by
  unfold numM
  dsimp only
  rw [toU8_nat h0 h1]
theorem txt_app {n : ByteArray} (h : n.size ≤ 255) (r : List UInt8) : txtD (some (txtM n ++ r)) = (n.data.toList, some r) := by
  have hl : n.data.toList.length = n.size := rfl
  unfold txtD txtM
  rw [List.cons_append, num_app (by omega) (by omega)]
  dsimp only
  rw [Int.toNat_natCast, takeM, if_neg (by rw [List.length_append]; omega), ← hl, List.take_left, List.drop_left]
theorem ba_eta (n : ByteArray) : (⟨n.data.toList.toArray⟩ : ByteArray) = n := rfl
theorem fld_app {x : Fd} (h : fldB x = true) (hk : 0 ≤ x.k ∧ x.k ≤ 255) (r : List UInt8) : fldD (some (encF x ++ r)) = (x, some r) := by
  simp only [fldB, Bool.and_eq_true, inB_iff] at h
  obtain ⟨⟨⟨⟨n0, n1⟩, ⟨a0, a1⟩⟩, ⟨o0, o1⟩⟩, ⟨d0, d1⟩⟩ := h
  unfold fldD encF
  simp only [List.map_cons, List.map_nil, List.append_assoc, List.cons_append, List.nil_append]
  rw [txt_app (by omega)]
  dsimp only
  rw [num_app hk.1 hk.2]
  dsimp only
  rw [num_app a0 a1]
  dsimp only
  rw [num_app o0 o1]
  dsimp only
  rw [num_app d0 d1, ba_eta]
theorem sev_app {α : Type} {f : St → α × St} {enc : α → List UInt8} : ∀ (xs : List α) (r : List UInt8), (∀ x ∈ xs, ∀ r, f (some (enc x ++ r)) = (x, some r)) → sevD f xs.length (some (xs.flatMap enc ++ r)) = (xs, some r)
  | [], r, _ => rfl
  | x :: xs, r, h => by
    rw [List.length_cons, sevD, List.flatMap_cons, List.append_assoc, h x (by simp)]
    dsimp only
    rw [sev_app xs r fun y hy => h y (by simp [hy])]
def encC (c : Core) : List UInt8 := txtM c.1 ++ [c.2.1, (c.2.2.length : Int)].map toU8 ++ c.2.2.flatMap encF
theorem encT_core (t : Ty) : encT t = encC t.core := rfl
theorem encM_core (L : List Ty) : encM L = toU8 L.length :: (L.map Ty.core).flatMap encC := by
  rw [encM]
  congr 1
  induction L with
  | nil => rfl
  | cons t L ih => rw [List.flatMap_cons, List.map_cons, List.flatMap_cons, ih]; rfl
def Kinds (L : List Ty) : Prop := ∀ t ∈ L, ∀ x ∈ t.fs, 0 ≤ x.k ∧ x.k ≤ 255
theorem ty_app {t : Ty} (h : tyB t = true) (hk : ∀ x ∈ t.fs, 0 ≤ x.k ∧ x.k ≤ 255) (r : List UInt8) : tyD (some (encC t.core ++ r)) = (t.core, some r) := by
  simp only [tyB, Bool.and_eq_true, inB_iff, List.all_eq_true] at h
  obtain ⟨⟨⟨⟨n0, n1⟩, ⟨s0, s1⟩⟩, ⟨l0, l1⟩⟩, hf⟩ := h
  unfold tyD encC Ty.core
  dsimp only
  simp only [List.map_cons, List.map_nil, List.append_assoc, List.cons_append, List.nil_append]
  rw [txt_app (by omega)]
  dsimp only
  rw [num_app s0 s1]
  dsimp only
  rw [num_app l0 l1]
  dsimp only
  rw [Int.toNat_natCast, sev_app t.fs r fun x hx r => fld_app (hf x hx) (hk x hx) r, ba_eta]
theorem sev_tys {L : List Ty} (h : areB L = true) (hk : Kinds L) (r : List UInt8) : sevD tyD L.length (some ((L.map Ty.core).flatMap encC ++ r)) = (L.map Ty.core, some r) := by
  simp only [areB, Bool.and_eq_true, inB_iff, List.all_eq_true] at h
  have := sev_app (f := tyD) (enc := encC) (L.map Ty.core) r (fun c hc r => by
    obtain ⟨t, ht, rfl⟩ := List.mem_map.1 hc
    exact ty_app (h.2 t ht) (hk t ht) r)
  rwa [List.length_map] at this
theorem len_le {L : List Ty} (h : areB L = true) : L.length ≤ 255 := by
  simp only [areB, Bool.and_eq_true, inB_iff] at h
  omega
theorem dec_enc {L : List Ty} (h : areB L = true) (hk : Kinds L) : decM (encM L) = some (L.map Ty.core) := by
  have hl := len_le h
  unfold decM
  rw [encM_core, num_app (by omega) (by omega)]
  dsimp only
  have := sev_tys h hk []
  rw [List.append_nil] at this
  rw [Int.toNat_natCast, this]
  rfl
theorem enc_pre {L M : List Ty} (h : areB L = true) (hk : Kinds L) (h' : areB M = true) (hk' : Kinds M) {r : List UInt8} (e : encM M = encM L ++ r) : L.map Ty.core = M.map Ty.core ∧ r = [] := by
  have hl := len_le h
  have hm := len_le h'
  rw [encM_core, encM_core, List.cons_append] at e
  injection e with e1 e2
  have hlen : M.length = L.length := by
    have a := toU8_nat (x := (M.length : Int)) (by omega) (by omega)
    have b := toU8_nat (x := (L.length : Int)) (by omega) (by omega)
    rw [e1] at a
    omega
  have p1 := sev_tys h' hk' []
  rw [List.append_nil, e2, hlen, sev_tys h hk r] at p1
  injection p1 with p2 p3
  injection p3 with p4
  exact ⟨p2, p4⟩
theorem enc_same {L M : List Ty} (h : L.map Ty.core = M.map Ty.core) : encM L = encM M := by
  rw [encM_core, encM_core, h]
  congr 2
  have := congrArg List.length h
  simp at this
  omega
theorem num_inv {st : St} {v : Int} {r : List UInt8} (h : numM st = (v, some r)) : st = some (toU8 v :: r) ∧ 0 ≤ v ∧ v ≤ 255 := by
  unfold numM at h
  split at h
  · injection h with _ h; cases h
  · injection h with _ h; cases h
  · rename_i x r'
    injection h with h1 h2
    injection h2 with h2
    subst h1 h2
    have := x.toNat_lt
    exact ⟨by rw [toU8_of], by omega, by omega⟩
theorem num_inv' {st : St} {r : List UInt8} (h : (numM st).2 = some r) : st = some (toU8 (numM st).1 :: r) ∧ 0 ≤ (numM st).1 ∧ (numM st).1 ≤ 255 := num_inv (v := (numM st).1) (r := r) (by rw [← h])
theorem txt_inv {st : St} {r : List UInt8} (h : (txtD st).2 = some r) : st = some (txtM ⟨(txtD st).1.toArray⟩ ++ r) ∧ (txtD st).1.length ≤ 255 := by
  unfold txtD at h ⊢
  cases hn : (numM st).2 with
  | none => rw [hn] at h; simp [takeM] at h
  | some q =>
    obtain ⟨e, b0, b1⟩ := num_inv' hn
    rw [hn] at h
    unfold takeM at h ⊢
    dsimp only at h ⊢
    split at h
    · cases h
    · rename_i hl
      injection h with h
      rw [if_neg hl]
      dsimp only
      have hlen : (q.take (numM st).1.toNat).length = (numM st).1.toNat := by rw [List.length_take]; omega
      refine ⟨?_, by omega⟩
      have hsz : (((⟨(q.take (numM st).1.toNat).toArray⟩ : ByteArray).size : Nat) : Int) = (numM st).1 := by
        show (((q.take (numM st).1.toNat).toArray.size : Nat) : Int) = _
        rw [List.size_toArray, hlen]; omega
      rw [txtM, hsz, ← h]
      show st = some (toU8 (numM st).1 :: (q.take (numM st).1.toNat ++ q.drop (numM st).1.toNat))
      rw [List.take_append_drop]
      exact e
theorem fld_inv {st : St} {r : List UInt8} (h : (fldD st).2 = some r) : st = some (encF (fldD st).1 ++ r) ∧ fldB (fldD st).1 = true ∧ 0 ≤ (fldD st).1.k ∧ (fldD st).1.k ≤ 255 := by
  unfold fldD at h ⊢
  dsimp only at h ⊢
  obtain ⟨e4, d0, d1⟩ := num_inv' h
  obtain ⟨e3, o0, o1⟩ := num_inv' e4
  obtain ⟨e2, a0, a1⟩ := num_inv' e3
  obtain ⟨e1, k0, k1⟩ := num_inv' e2
  obtain ⟨e0, hl⟩ := txt_inv e1
  refine ⟨?_, ?_, k0, k1⟩
  · rw [encF]
    simp only [List.map_cons, List.map_nil, List.append_assoc, List.cons_append, List.nil_append]
    exact e0
  · have hs : (⟨(txtD st).1.toArray⟩ : ByteArray).size = (txtD st).1.length := by show (txtD st).1.toArray.size = _; rw [List.size_toArray]
    simp only [fldB, Bool.and_eq_true, inB_iff]
    refine ⟨⟨⟨⟨by omega, by omega⟩, a0, a1⟩, o0, o1⟩, d0, d1⟩
theorem sev_inv {α : Type} {f : St → α × St} {enc : α → List UInt8} {good : α → Prop} (hf : ∀ st r, (f st).2 = some r → st = some (enc (f st).1 ++ r) ∧ good (f st).1) : ∀ (n : Nat) (st : St) (r : List UInt8), (sevD f n st).2 = some r → st = some ((sevD f n st).1.flatMap enc ++ r) ∧ ∀ x ∈ (sevD f n st).1, good x
  | 0, st, r, h => by
    simp only [sevD] at h ⊢
    exact ⟨by rw [h]; rfl, by simp⟩
  | n + 1, st, r, h => by
    simp only [sevD] at h ⊢
    obtain ⟨e, g⟩ := sev_inv hf n _ r h
    obtain ⟨e', g'⟩ := hf st _ e
    refine ⟨by rw [List.flatMap_cons, List.append_assoc]; exact e', fun x hx => ?_⟩
    rcases List.mem_cons.1 hx with rfl | hx
    · exact g'
    · exact g x hx
def goodC (c : Core) : Prop := c.1.size ≤ 255 ∧ (0 ≤ c.2.1 ∧ c.2.1 ≤ 255) ∧ c.2.2.length ≤ 255 ∧ ∀ x ∈ c.2.2, fldB x = true ∧ 0 ≤ x.k ∧ x.k ≤ 255
theorem ty_inv {st : St} {r : List UInt8} (h : (tyD st).2 = some r) : st = some (encC (tyD st).1 ++ r) ∧ goodC (tyD st).1 := by
  unfold tyD at h ⊢
  dsimp only at h ⊢
  obtain ⟨e3, g⟩ := sev_inv (enc := encF) (good := fun x => fldB x = true ∧ 0 ≤ x.k ∧ x.k ≤ 255) (fun st r h => ⟨(fld_inv h).1, (fld_inv h).2⟩) _ _ _ h
  obtain ⟨e2, n0, n1⟩ := num_inv' e3
  obtain ⟨e1, s0, s1⟩ := num_inv' e2
  obtain ⟨e0, hl⟩ := txt_inv e1
  have hlen := sevD_len fldD (numM (numM (txtD st).2).2).1.toNat (numM (numM (txtD st).2).2).2
  have hs : (⟨(txtD st).1.toArray⟩ : ByteArray).size = (txtD st).1.length := by show (txtD st).1.toArray.size = _; rw [List.size_toArray]
  refine ⟨?_, by dsimp only; omega, ⟨s0, s1⟩, by dsimp only; omega, g⟩
  rw [encC]
  dsimp only
  rw [hlen]
  simp only [List.map_cons, List.map_nil, List.append_assoc, List.cons_append, List.nil_append]
  rw [Int.toNat_of_nonneg n0]
  exact e0
theorem dec_inv {b : List UInt8} {l : List Core} (h : decM b = some l) : b = toU8 l.length :: l.flatMap encC ∧ l.length ≤ 255 ∧ ∀ c ∈ l, goodC c := by
  unfold decM at h
  split at h
  · rename_i he
    injection h with h
    obtain ⟨e, g⟩ := sev_inv (enc := encC) (good := goodC) (fun st r h => ty_inv h) _ _ _ he
    obtain ⟨e0, n0, n1⟩ := num_inv' e
    have hlen := sevD_len tyD (numM (some b)).1.toNat (numM (some b)).2
    rw [h] at e0 g hlen
    injection e0 with e0
    rw [List.append_nil] at e0
    refine ⟨?_, by omega, g⟩
    rw [hlen, Int.toNat_of_nonneg n0]
    exact e0
  · cases h
theorem dec_back {b : List UInt8} {L : List Ty} (h : decM b = some (L.map Ty.core)) : areB L = true ∧ encM L = b := by
  obtain ⟨e, hl, g⟩ := dec_inv h
  rw [List.length_map] at e hl
  refine ⟨?_, by rw [encM_core]; exact e.symm⟩
  simp only [areB, Bool.and_eq_true, inB_iff, List.all_eq_true]
  refine ⟨⟨by omega, by omega⟩, fun t ht => ?_⟩
  obtain ⟨g1, g2, g3, g4⟩ := g t.core (List.mem_map.2 ⟨t, ht, rfl⟩)
  simp only [tyB, Bool.and_eq_true, inB_iff, List.all_eq_true]
  exact ⟨⟨⟨⟨by omega, by have : t.n.size ≤ 255 := g1; omega⟩, g2⟩, ⟨by omega, by have : t.fs.length ≤ 255 := g3; omega⟩⟩, fun x hx => (g4 x hx).1⟩
end Go.Proofs.Ytmcjmdoeafhjpaa
