/- Towards the statements of package code (layer 8): what a program that may be is like, as mathematics: its subprograms one behind the other. Towards the statements of package code (layer 8): chains of calls, as mathematics. Towards CodeMoves: instructions that are gone through, put ahead of a program: what Check asks of it. Towards CodeMoves: heads, subprograms and homes of a program that has moved. Towards CodeMoves: Check of a program that has moved. Towards CodeMoves: rows of numbers; where a moved instruction leads. Towards CodeMoves: its walk. -/
import Derived.Test.YtdmdmbcapjmnlabCV
import Derived.Test.YtdmdmbcapjmnlabCW
import Derived.Test.YtdmdmbcapjmnlabSL
import Derived.Laws.AppendOwnNone
import Derived.Lib.AppendZeros
import Derived.BigQuiet
section
namespace Go.Proofs.Ytdmdmbcapjmnlab
set_option linter.unusedVariables false
set_option linter.unusedSimpArgs false
set_option linter.unusedSectionVars false
section
variable {L : List Sl} (hp : Passed L 8)
include hp
theorem may_len : (slM L).length = (hsM L).length := subF_len _ _ _
theorem may_pos : 0 < (slM L).length := by rw [may_len hp]; exact List.length_pos_iff.2 (pass_heads hp (by decide)).ne
theorem may_get (k : Nat) (hk : k < (slM L).length) : ∃ x y, (slM L)[k]? = some (x, y) ∧ (hsM L)[k]? = some x ∧ y = toOf (hsM L) L.length k ∧ x < y ∧ y ≤ L.length := by
  have ho := pass_heads hp (by decide : 4 ≤ 8)
  rw [may_len hp] at hk
  have h1 : (hsM L)[k]? = some (hsM L)[k] := List.getElem?_eq_getElem hk
  refine ⟨(hsM L)[k], toOf (hsM L) L.length k, ?_, h1, rfl, ho.ltTo k _ h1, ho.toLe k⟩
  rw [slM, subF_get _ _ _ _ hk, h1]; rfl
theorem may_zero : ∃ y, (slM L)[0]? = some (0, y) := by
  obtain ⟨x, y, h1, h2, _⟩ := may_get hp 0 (may_pos hp)
  have ho := pass_heads hp (by decide : 4 ≤ 8)
  rw [ho.zero] at h2
  cases h2
  exact ⟨y, h1⟩
theorem may_next (k x y x' y' : Nat) (h : (slM L)[k]? = some (x, y)) (h' : (slM L)[k + 1]? = some (x', y')) : y = x' := by
  obtain ⟨a, b, h1, h2, h3, _⟩ := may_get hp k (List.getElem?_eq_some_iff.1 h).1
  obtain ⟨a', b', h1', h2', h3', _⟩ := may_get hp (k + 1) (List.getElem?_eq_some_iff.1 h').1
  rw [h] at h1; cases h1
  rw [h'] at h1'; cases h1'
  rw [h3, toOf, h2']; rfl
theorem may_last (k x y : Nat) (h : (slM L)[k]? = some (x, y)) (hk : k + 1 = (slM L).length) : y = L.length := by
  obtain ⟨a, b, h1, h2, h3, _⟩ := may_get hp k (List.getElem?_eq_some_iff.1 h).1
  rw [h] at h1; cases h1
  rw [h3, toOf, List.getElem?_eq_none (by rw [← may_len hp]; omega)]; rfl
end
/-- The subprogram of a slot is the one in which it lies. -/
theorem home_in (hs : List Nat) (len : Nat) (hup : hs.Pairwise (· < ·)) (hlt : ∀ x ∈ hs, x < len) : ∀ (n j : Nat), n ≤ hs.length → j < len → ∀ (i : Nat), i < n → hs[i]?.getD 0 ≤ j → j < toOf hs len i → (homeF hs len n)[j]? = some i
  | 0, j, _, _, i, h, _, _ => by omega
  | n + 1, j, hn, hj, i, hi, h1, h2 => by
    have hl : j < (homeF hs len n).length := by rw [homeF_len]; exact hj
    have hval : (homeF hs len (n + 1))[j]? = some (if hs[n]?.getD 0 ≤ j ∧ j < toOf hs len n then n else (homeF hs len n)[j]) := by
      rw [homeF, setR, List.getElem?_mapIdx, List.getElem?_eq_getElem hl]; rfl
    rw [hval]
    by_cases hin : i = n
    · subst hin; rw [if_pos ⟨h1, h2⟩]
    · have hlt' : i < n := by omega
      have : ¬ (hs[n]?.getD 0 ≤ j ∧ j < toOf hs len n) := by
        rintro ⟨h3, _⟩
        have hn' : n < hs.length := by omega
        have hi1 : i + 1 < hs.length := by omega
        have e1 : toOf hs len i = hs[i + 1] := by rw [toOf, List.getElem?_eq_getElem hi1]; rfl
        have e2 : hs[n]?.getD 0 = hs[n] := by rw [List.getElem?_eq_getElem hn']; rfl
        have : hs[i + 1] ≤ hs[n] := by
          by_cases h : i + 1 = n
          · subst h; exact Nat.le_refl _
          · exact Nat.le_of_lt (List.pairwise_iff_getElem.1 hup (i + 1) n hi1 hn' (by omega))
        omega
      rw [if_neg this]
      have := home_in hs len hup hlt n j (by omega) hj i hlt' h1 h2
      rw [List.getElem?_eq_getElem hl] at this
      exact this
theorem walkF_kind (L : List Sl) : ∀ (f k : Nat) (Bg : List Bool), (∀ j : Nat, Bg[j]?.getD false = true → kindM L j ≠ 0) → ∀ j : Nat, (walkF L f k Bg).2[j]?.getD false = true → kindM L j ≠ 0
  | 0, k, Bg, h, j, hj => h j hj
  | f + 1, k, Bg, h, j, hj => by
    have hset : kindM L k ≠ 0 → ∀ j : Nat, (Bg.set k true)[j]?.getD false = true → kindM L j ≠ 0 := fun hk j hj => by
      rcases getD_set.1 hj with ⟨rfl, _⟩ | hj
      · exact hk
      · exact h j hj
    rw [walkF] at hj
    split at hj
    · split at hj
      · exact h j hj
      · rename_i h0
        split at hj
        · split at hj
          · exact walkF_kind L f _ _ (hset h0) j hj
          · exact h j hj
        · exact walkF_kind L f _ _ (hset h0) j hj
    · exact h j hj
theorem beg_kind (L : List Sl) (j : Nat) (h : (bgM L)[j]?.getD false = true) : kindM L j ≠ 0 := walkF_kind L _ _ _ (fun j hj => by
  by_cases h : j < L.length
  · simp [h] at hj
  · simp [h] at hj) j h
/-- Slots at which instructions begin. -/
def isBeg (L : List Sl) (u : Nat) : Prop := u < L.length ∧ (bgM L)[u]?.getD false = true
section
variable {L : List Sl} (hp : Passed L 8)
include hp
theorem may_home (k x y : Nat) (h : (slM L)[k]? = some (x, y)) (u : Nat) (h1 : x ≤ u) (h2 : u < y) : (hlM L)[u]? = some k := by
  have ho := pass_heads hp (by decide : 4 ≤ 8)
  obtain ⟨a, b, g1, g2, g3, g4, g5⟩ := may_get hp k (List.getElem?_eq_some_iff.1 h).1
  rw [h] at g1; cases g1
  refine home_in (hsM L) L.length ho.up ho.lt _ u (Nat.le_refl _) (by omega) k (List.getElem?_eq_some_iff.1 g2).1 ?_ (by rw [← g3]; exact h2)
  rw [g2]; exact h1
theorem may_leads (k x y : Nat) (h : (slM L)[k]? = some (x, y)) (u : Nat) (h1 : x ≤ u) (h2 : u < y) (hu : isBeg L u) : ∀ t ∈ leadsM L u, 0 ≤ t ∧ x ≤ t.toNat ∧ t.toNat < y ∧ isBeg L t.toNat := by
  intro t ht
  have ho := pass_heads hp (by decide : 4 ≤ 8)
  obtain ⟨a, b, c⟩ := ho.leadsIn (bg_len L) (pass3 hp (by decide)) (pass5 hp (by decide)) u hu t ht
  have hm : (u : Int) ∈ begL (bgM L) 0 L.length := by
    unfold begL
    refine List.mem_map.2 ⟨u, List.mem_filter.2 ⟨?_, hu.2⟩, rfl⟩
    rw [List.mem_range']
    exact ⟨u, by have := hu.1; omega, by omega⟩
  have hl := pass5 hp (by decide) _ hm
  unfold leaveB at hl
  have h4 := List.any_eq_false.1 hl t ht
  rw [Int.toNat_natCast, subOf, may_home hp k x y h u h1 h2, Option.getD_some, h, Option.getD_some] at h4
  simp [outB] at h4
  exact ⟨a, by omega, by omega, b, c⟩
theorem may_exit (u : Nat) (hu : isBeg L u) (h : leadsM L u = []) : kindM L u = 8 := by
  have h0 := beg_kind L u hu.2
  unfold leadsM at h
  unfold kindM at h0 ⊢
  rw [slotAt_nat hu.1] at h h0 ⊢
  dsimp only at h h0 ⊢
  split at h
  · rename_i h'
    rcases h' with h' | h'
    · exact absurd h' h0
    · exact h'
  · split at h
    · cases h
    · split at h
      · cases h
      · split at h <;> cases h
theorem may_callee (u : Nat) (hu : isBeg L u) (t : Int) (ht : calleeM L u = some t) : 0 ≤ t ∧ ∃ (j y : Nat), (slM L)[j]? = some (t.toNat, y) := by
  have ho := pass_heads hp (by decide : 4 ≤ 8)
  have hm : (u : Int) ∈ begL (bgM L) 0 L.length := by
    unfold begL
    refine List.mem_map.2 ⟨u, List.mem_filter.2 ⟨?_, hu.2⟩, rfl⟩
    rw [List.mem_range']
    exact ⟨u, by have := hu.1; omega, by omega⟩
  obtain ⟨a, b, c⟩ := ho.all _ hm t ht
  obtain ⟨j, hj, e⟩ := List.getElem_of_mem c
  obtain ⟨x, y, g1, g2, _⟩ := may_get hp j (by rw [may_len hp]; exact hj)
  rw [List.getElem?_eq_getElem hj, e] at g2
  cases g2
  exact ⟨a, j, y, g1⟩
theorem may_beg (k x y : Nat) (h : (slM L)[k]? = some (x, y)) : isBeg L x := by
  have ho := pass_heads hp (by decide : 4 ≤ 8)
  exact ho.subBeg (walkM_zero (pass0 hp (by decide)) (pass2 hp (by decide))) (x, y) (List.mem_of_getElem? h)
end
end Go.Proofs.Ytdmdmbcapjmnlab
end
section
namespace Go.Proofs.Ytdmdmbcapjmnlab
set_option linter.unusedVariables false
set_option linter.unusedSimpArgs false
set_option linter.unusedSectionVars false
abbrev callsM (L : List Sl) : Nat → List Nat := callsN L (bgM L) (slM L) (hlM L)
theorem nodup_len : ∀ (n : Nat) (p : List Nat), p.Nodup → (∀ j ∈ p, j < n) → p.length ≤ n
  | 0, p, _, h2 => by
    cases p with
    | nil => simp
    | cons a t => have := h2 a (by simp); omega
  | n + 1, p, h1, h2 => by
    by_cases hm : n ∈ p
    · have := nodup_len n (p.erase n) (h1.erase n) (fun j hj => by
        have h3 := (h1.mem_erase_iff).1 hj
        have := h2 j h3.2
        have := h3.1
        omega)
      rw [List.length_erase_of_mem hm] at this
      omega
    · have := nodup_len n p h1 (fun j hj => by
        have := h2 j hj
        have : j ≠ n := fun e => hm (e ▸ hj)
        omega)
      omega
section
variable {L : List Sl} (hp : Passed L 8)
include hp
theorem beg_mem (u : Nat) (hu : isBeg L u) : (u : Int) ∈ begM L := by
  rw [begM, bg_len]
  unfold begL
  refine List.mem_map.2 ⟨u, List.mem_filter.2 ⟨?_, hu.2⟩, rfl⟩
  rw [List.mem_range']
  exact ⟨u, by have := hu.1; omega, by omega⟩
theorem no_loop (k x y : Nat) (h : (slM L)[k]? = some (x, y)) : ¬ Rch (callsM L) [k] k := by
  classical
  intro hr
  have h7 : (leastX (begM L) (fun x => loopB L (bgM L) (slM L) (hlM L) x.toNat) 83).2 = 0 := hp 7 (by decide)
  have hb := may_beg hp k x y h
  have hl := least_zero (by decide) h7 _ (beg_mem hp x hb)
  rw [Int.toNat_natCast] at hl
  obtain ⟨a, b, g1, g2, g3, g4, g5⟩ := may_get hp k (List.getElem?_eq_some_iff.1 h).1
  rw [h] at g1; cases g1
  have hh := may_home hp k x y h x (Nat.le_refl _) g4
  have : loopB L (bgM L) (slM L) (hlM L) x = true := by
    refine loopB_yes ?_ ?_
    · rw [hh, Option.getD_some, h]; rfl
    · rw [hh]; exact hr
  rw [this] at hl
  cases hl
/-- So far a chain of calls has come: the subprograms on it, none of them twice. -/
structure Chain (L : List Sl) (d cur : Nat) (p : List Nat) : Prop where
  len : p.length = d + 1
  nodup : p.Nodup
  lt : ∀ j ∈ p, j < (slM L).length
  thr : ∀ j ∈ p, j = cur ∨ Rch (callsM L) [j] cur
  cur : cur ∈ p
theorem chain_one (k : Nat) (hk : k < (slM L).length) : Chain L 0 k [k] := ⟨rfl, by simp, by simpa using hk, by simp, by simp⟩
theorem Chain.depth {d cur : Nat} {p : List Nat} (h : Chain L d cur p) : d + 1 ≤ (slM L).length := by
  rw [← h.len]; exact nodup_len _ _ h.nodup h.lt
theorem Chain.step {d cur nxt : Nat} {p : List Nat} (h : Chain L d cur p) (hn : nxt ∈ callsM L cur) (hlt : nxt < (slM L).length) : Chain L (d + 1) nxt (nxt :: p) := by
  have hno : nxt ∉ p := by
    intro hm
    obtain ⟨z, hz⟩ : ∃ z, (slM L)[nxt]? = some z := ⟨_, List.getElem?_eq_getElem hlt⟩
    refine no_loop hp nxt z.1 z.2 hz ?_
    rcases h.thr nxt hm with e | e
    · exact .one nxt nxt (by simp) (by rw [← e] at hn; exact hn)
    · exact .more cur nxt e hn
  refine ⟨by simp [h.len], List.nodup_cons.2 ⟨hno, h.nodup⟩, ?_, ?_, by simp⟩
  · intro j hj
    rcases List.mem_cons.1 hj with rfl | hj
    · exact hlt
    · exact h.lt j hj
  · intro j hj
    rcases List.mem_cons.1 hj with rfl | hj
    · exact .inl rfl
    · rcases h.thr j hj with e | e
      · exact .inr (.one j nxt (by simp) (by rw [e]; exact hn))
      · exact .inr (.more cur nxt e hn)
theorem may_calls (k x y : Nat) (h : (slM L)[k]? = some (x, y)) (u : Nat) (h1 : x ≤ u) (h2 : u < y) (hu : isBeg L u) (t : Int) (ht : calleeM L u = some t) (hf : funB L u = false) : 0 ≤ t ∧ ∃ (j y' : Nat), (slM L)[j]? = some (t.toNat, y') ∧ j ∈ callsM L k := by
  obtain ⟨h0, j, y', hj⟩ := may_callee hp u hu t ht
  refine ⟨h0, j, y', hj, ?_⟩
  obtain ⟨a, b, g1, g2, g3, g4, g5⟩ := may_get hp j (List.getElem?_eq_some_iff.1 hj).1
  rw [hj] at g1; cases g1
  have hh := may_home hp j _ _ hj t.toNat (Nat.le_refl _) g4
  unfold callsM callsN
  rw [h, Option.getD_some]
  refine List.mem_filterMap.2 ⟨(u : Int), ?_, ?_⟩
  · unfold begL
    refine List.mem_map.2 ⟨u, List.mem_filter.2 ⟨?_, hu.2⟩, rfl⟩
    rw [List.mem_range']
    exact ⟨u - x, by omega, by omega⟩
  · rw [callN, ht]
    simp [hf, hh]
end
end Go.Proofs.Ytdmdmbcapjmnlab
end
section
namespace Go.Proofs.Ytdmdmbcapjmnlab
open Go.ChangeShapes Go.WideShapes Go.ChangeAt
open Go.RowKit Go.Shelf
set_option linter.unusedVariables false
set_option linter.unusedSimpArgs false
set_option linter.unusedSectionVars false
set_option maxRecDepth 100000
def Mv (k : Nat) (L : List Sl) : List Sl := List.replicate k slMov ++ L
section
variable {k : Nat} {L : List Sl}
theorem mv_len : (Mv k L).length = k + L.length := by simp [Mv]
theorem mv_get (i : Nat) : (Mv k L)[k + i]? = L[i]? := by
  unfold Mv
  rw [List.getElem?_append_right (by simp), List.length_replicate, Nat.add_sub_cancel_left]
theorem mv_slot {a : Int} (h : 0 ≤ a) : slotAt (Mv k L) (k + a) = slotAt L a := by
  obtain ⟨i, rfl⟩ : ∃ i : Nat, a = i := ⟨a.toNat, (Int.toNat_of_nonneg h).symm⟩
  unfold slotAt
  rw [if_pos (by omega), if_pos (by omega), show ((k : Int) + (i : Int)).toNat = k + i by omega, mv_get, Int.toNat_natCast]
theorem mv_low {j : Nat} (h : j < k) : slotAt (Mv k L) j = some slMov := by
  unfold slotAt Mv
  rw [if_pos (by omega), Int.toNat_natCast, List.getElem?_append_left (by simpa using h), List.getElem?_replicate, if_pos h]
theorem mov_k : slMov.k = 1 := by decide +kernel
theorem mv_kind {a : Int} (h : 0 ≤ a) : kindM (Mv k L) (k + a) = kindM L a := by unfold kindM; rw [mv_slot h]
theorem mv_kind_low {j : Nat} (h : j < k) : kindM (Mv k L) j = 1 := by unfold kindM; rw [mv_low h]; exact mov_k
theorem mv_sec {a : Int} (h : 0 ≤ a) : secB (Mv k L) (k + a) = secB L a := by unfold secB; rw [mv_slot h]
theorem mv_leads {a : Int} (h : 0 ≤ a) : leadsM (Mv k L) (k + a) = (leadsM L a).map ((k : Int) + ·) := by
  unfold leadsM
  rw [mv_slot h]
  cases slotAt L a with
  | none => rfl
  | some x =>
    simp only
    (repeat' split) <;> simp <;> omega
theorem mv_leads_low {j : Nat} (h : j < k) : leadsM (Mv k L) j = [(j : Int) + 1] := by
  unfold leadsM
  rw [mv_low h]
  simp [mov_k]
theorem mv_callee {a : Int} (h : 0 ≤ a) : calleeM (Mv k L) (k + a) = (calleeM L a).map ((k : Int) + ·) := by
  unfold calleeM
  rw [mv_slot h]
  cases slotAt L a with
  | none => rfl
  | some x =>
    simp only
    (repeat' split) <;> simp <;> omega
theorem mv_callee_low {j : Nat} (h : j < k) : calleeM (Mv k L) j = none := by
  unfold calleeM
  rw [mv_low h]
  simp [mov_k]
theorem mv_fun {a : Int} (h : 0 ≤ a) : funB (Mv k L) (k + a) = funB L a := by unfold funB; rw [mv_slot h]
theorem mv_fun_low {j : Nat} (h : j < k) : funB (Mv k L) j = false := by unfold funB; rw [mv_low h]; simp [mov_k]
theorem mv_snd {a : Int} (h : 0 ≤ a) : sndI (Mv k L) (k + a) = sndI L a := by
  unfold sndI; rw [show (k : Int) + a + 1 = k + (a + 1) by omega, mv_slot (by omega)]
theorem set_shift (Bg : List Bool) (i : Nat) (b : Bool) : (List.replicate k true ++ Bg).set (k + i) b = List.replicate k true ++ Bg.set i b := by
  rw [List.set_append_right _ _ (by simp), List.length_replicate, Nat.add_sub_cancel_left]
theorem mv_walkF : ∀ (f i : Nat) (Bg : List Bool), walkF (Mv k L) f (k + i) (List.replicate k true ++ Bg) = (k + (walkF L f i Bg).1, List.replicate k true ++ (walkF L f i Bg).2) := by
  intro f
  induction f with
  | zero => intro i Bg; rfl
  | succ f ih =>
    intro i Bg
    rw [walkF, walkF, mv_len]
    have e1 : kindM (Mv k L) ((k + i : Nat) : Int) = kindM L i := by
      rw [show ((k + i : Nat) : Int) = (k : Int) + (i : Int) by omega, mv_kind (by omega)]
    have e2 : secB (Mv k L) (((k + i : Nat) : Int) + 1) = secB L ((i : Int) + 1) := by
      rw [show ((k + i : Nat) : Int) + 1 = (k : Int) + ((i : Int) + 1) by omega, mv_sec (by omega)]
    rw [e1, e2]
    by_cases h : i < L.length
    · rw [if_pos (by omega), if_pos h]
      split
      · rfl
      · split
        · split
          · rw [set_shift, show k + i + 2 = k + (i + 2) by omega, ih]
          · rfl
        · rw [set_shift, show k + i + 1 = k + (i + 1) by omega, ih]
    · rw [if_neg (by omega), if_neg h]
theorem mv_walk_low (f : Nat) : ∀ (d i : Nat), i + d = k → walkF (Mv k L) (d + f) i (List.replicate i true ++ List.replicate (d + L.length) false) = walkF (Mv k L) f k (List.replicate k true ++ List.replicate L.length false) := by
  intro d
  induction d with
  | zero =>
    intro i h
    have e : i = k := by omega
    rw [e, Nat.zero_add, Nat.zero_add]
  | succ d ih =>
    intro i h
    rw [show d + 1 + f = (d + f) + 1 by omega, walkF, mv_len, if_pos (by omega), mv_kind_low (by omega), if_neg (by decide), if_neg (by decide)]
    rw [← ih (i + 1) (by omega)]
    congr 1
    rw [List.set_append_right _ _ (by simp), List.length_replicate, Nat.sub_self, show d + 1 + L.length = (d + L.length) + 1 by omega, List.replicate_succ, List.set_cons_zero, List.replicate_succ', List.append_assoc]
    rfl
theorem mv_walk : walkM (Mv k L) = (k + (walkM L).1, List.replicate k true ++ (walkM L).2) := by
  unfold walkM
  have h := mv_walk_low (k := k) (L := L) (L.length + 1) k 0 (by omega)
  rw [mv_len, show k + L.length + 1 = k + (L.length + 1) by omega]
  rw [List.replicate_zero, List.nil_append] at h
  rw [h]
  exact mv_walkF (L.length + 1) 0 _
theorem mv_bg : bgM (Mv k L) = List.replicate k true ++ bgM L := by rw [bgM, mv_walk]
theorem beg_shift (Bg : List Bool) (a b : Nat) : begL (List.replicate k true ++ Bg) (k + a) (k + b) = (begL Bg a b).map ((k : Int) + ·) := by
  unfold begL
  rw [show k + b - (k + a) = b - a by omega, List.map_map]
  have e : List.range' (k + a) (b - a) = (List.range' a (b - a)).map (k + ·) := by rw [List.map_add_range']
  rw [e, List.filter_map, List.map_map]
  have e2 : ((fun j => (List.replicate k true ++ Bg)[j]?.getD false) ∘ (k + ·)) = fun j => Bg[j]?.getD false := by
    funext j
    simp only [Function.comp]
    rw [List.getElem?_append_right (by simp), List.length_replicate, Nat.add_sub_cancel_left]
  rw [e2]
  apply List.map_congr_left
  intro x _
  simp
theorem beg_low (Bg : List Bool) : begL (List.replicate k true ++ Bg) 0 k = (List.range k).map Int.ofNat := by
  unfold begL
  rw [Nat.sub_zero, ← List.range_eq_range']
  congr 1
  rw [List.filter_eq_self]
  intro a ha
  have := List.mem_range.1 ha
  rw [List.getElem?_append_left (by simpa using this), List.getElem?_replicate, if_pos this]; rfl
theorem beg_cut (Bg : List Bool) {a b c : Nat} (h1 : a ≤ b) (h2 : b ≤ c) : begL Bg a c = begL Bg a b ++ begL Bg b c := by
  unfold begL
  rw [show c - a = (b - a) + (c - b) by omega, ← List.range'_append_1, List.filter_append, List.map_append, show a + (b - a) = b by omega]
theorem mv_beg : begM (Mv k L) = (List.range k).map Int.ofNat ++ (begM L).map ((k : Int) + ·) := by
  rw [begM, mv_bg, List.length_append, List.length_replicate, beg_cut _ (Nat.zero_le k) (by omega), beg_low]
  have := beg_shift (k := k) (bgM L) 0 (bgM L).length
  rw [Nat.add_zero] at this
  rw [this]
theorem begB_shift {Bg : List Bool} {t : Int} (h : begB L Bg t = true) : begB (Mv k L) (List.replicate k true ++ Bg) (k + t) = true := by
  unfold begB at h ⊢
  rw [thereB_iff, Bool.and_eq_true] at h
  obtain ⟨h1, h2⟩ := h
  have h0 : 0 ≤ t := by
    cases e : slotAt L t with
    | none => rw [e] at h1; cases h1
    | some x => exact (slotAt_some e).1
  rw [thereB_iff, mv_slot h0, h1, Bool.true_and, show ((k : Int) + t).toNat = k + t.toNat by omega, List.getElem?_append_right (by simp), List.length_replicate, Nat.add_sub_cancel_left, h2]
end
theorem up_unique : ∀ (l m : List Nat), l.Pairwise (· < ·) → m.Pairwise (· < ·) → (∀ x, x ∈ l ↔ x ∈ m) → l = m
  | [], [], _, _, _ => rfl
  | [], y :: m, _, _, h => by have := (h y).2 (by simp); cases this
  | x :: l, [], _, _, h => by have := (h x).1 (by simp); cases this
  | x :: l, y :: m, h1, h2, h => by
    rw [List.pairwise_cons] at h1 h2
    have hxy : x = y := by
      rcases List.mem_cons.1 ((h x).1 (by simp)) with e | e
      · exact e
      · rcases List.mem_cons.1 ((h y).2 (by simp)) with e' | e'
        · exact e'.symm
        · have a := h2.1 x e; have b := h1.1 y e'; omega
    subst hxy
    rw [up_unique l m h1.2 h2.2 fun z => ?_]
    constructor
    · intro hz
      rcases List.mem_cons.1 ((h z).1 (by simp [hz])) with e | e
      · have := h1.1 z hz; omega
      · exact e
    · intro hz
      rcases List.mem_cons.1 ((h z).2 (by simp [hz])) with e | e
      · have := h2.1 z hz; omega
      · exact e
end Go.Proofs.Ytdmdmbcapjmnlab
end
section
namespace Go.Proofs.Ytdmdmbcapjmnlab
open Go.ChangeShapes Go.WideShapes Go.ChangeAt
open Go.RowKit Go.Shelf
set_option linter.unusedVariables false
set_option linter.unusedSimpArgs false
set_option linter.unusedSectionVars false
set_option maxRecDepth 100000
def phi (k x : Nat) : Nat := if x = 0 then 0 else k + x
theorem phi_pos {k x : Nat} (h : x ≠ 0) : phi k x = k + x := if_neg h
theorem phi_zero (k : Nat) : phi k 0 = 0 := if_pos rfl
theorem phi_lt {k x y : Nat} (h : x < y) : phi k x < phi k y := by
  rw [phi_pos (show y ≠ 0 by omega)]
  unfold phi; split <;> omega
theorem phi_le (k x : Nat) : phi k x ≤ k + x := by unfold phi; split <;> omega
theorem heads_mem (L : List Sl) (Bg : List Bool) (x : Int) : x ∈ headsM L Bg ↔ x = 0 ∨ ∃ y ∈ begL Bg 0 L.length, calleeM L y = some x := by
  have hsort : ((namedL L (begL Bg 0 L.length)).mergeSort fun x y => decide (x ≤ y)).Pairwise (· ≤ ·) := by
    have := List.pairwise_mergeSort (le := fun x y : Int => decide (x ≤ y)) (fun a b c h1 h2 => by simp at *; omega) (fun a b => by simp; omega) (namedL L (begL Bg 0 L.length))
    exact this.imp fun h => by simpa using h
  obtain ⟨hp, hm⟩ := compact_sorted hsort
  show x ∈ Lib.compact _ ↔ _
  rw [hm x, List.mem_mergeSort, namedL, List.mem_cons, List.mem_filterMap]
section
variable {k : Nat} {L : List Sl} (hp : Passed L 8) (hk : k + L.length ≤ 1024) (hz : ∀ u, isBeg L u → calleeM L u ≠ some 0)
include hp
theorem beg_is {x : Int} (h : x ∈ begM L) : ∃ u : Nat, x = u ∧ isBeg L u := by
  obtain ⟨u, rfl, _, h2, h3⟩ := begL_mem h
  exact ⟨u, rfl, by rw [bg_len] at h2; exact h2, h3⟩
theorem beg_true {u : Nat} (h : isBeg L u) : begB L (bgM L) u = true := by
  unfold begB
  rw [thereB_iff, Int.toNat_natCast, h.2, Bool.and_true]
  unfold slotAt
  rw [if_pos (by omega), Int.toNat_natCast, List.getElem?_eq_getElem h.1]; rfl
theorem zero_beg : isBeg L 0 := by
  obtain ⟨y, h⟩ := may_zero hp
  exact may_beg hp 0 0 y h
include hk
theorem mv_pass4 : Passed (Mv k L) 4 := by
  have h0 := zero_beg hp
  have hst := pass3 hp (by decide : 4 ≤ 8)
  intro m hm
  rcases (show m = 0 ∨ m = 1 ∨ m = 2 ∨ m = 3 by omega) with rfl | rfl | rfl | rfl
  · show (if (Mv k L).length = 0 then (2 : Int) else 0) = 0
    rw [mv_len, if_neg (by have := h0.1; omega)]
  · show (if 1024 < (Mv k L).length then (4 : Int) else 0) = 0
    rw [mv_len, if_neg (by omega)]
  · show (if (walkM (Mv k L)).1 < (Mv k L).length then (80 : Int) else 0) = 0
    have := pass2 hp (by decide : 3 ≤ 8)
    rw [mv_len, mv_walk, if_neg (by simp only; omega)]
  · show (leastX (begM (Mv k L)) (strayB (Mv k L) (bgM (Mv k L))) 81).2 = 0
    rw [leastX_none]
    rw [mv_beg, mv_bg]
    intro x hx
    rcases List.mem_append.1 hx with hx | hx
    · obtain ⟨j, hj, rfl⟩ := List.mem_map.1 hx
      have hj := List.mem_range.1 hj
      show strayB (Mv k L) _ (j : Int) = false
      unfold strayB namesBad
      rw [mv_leads_low hj, mv_fun_low hj, mv_callee_low hj]
      have e : begB (Mv k L) (List.replicate k true ++ bgM L) ((j : Int) + 1) = true := by
        by_cases h1 : j + 1 < k
        · unfold begB
          rw [thereB_iff, show ((j : Int) + 1) = ((j + 1 : Nat) : Int) by omega, mv_low h1, Int.toNat_natCast, List.getElem?_append_left (by simpa using h1), List.getElem?_replicate, if_pos h1]; rfl
        · have := begB_shift (k := k) (beg_true hp h0)
          rwa [show ((k : Int) + ((0 : Nat) : Int)) = (j : Int) + 1 by omega] at this
      simp [badB, e]
    · obtain ⟨y, hy, rfl⟩ := List.mem_map.1 hx
      obtain ⟨u, rfl, hu⟩ := beg_is hp hy
      have hs := hst u (by have := hy; rwa [begM, bg_len] at this)
      show strayB (Mv k L) _ ((k : Int) + (u : Int)) = false
      unfold strayB namesBad at hs ⊢
      simp only [Bool.or_eq_false_iff] at hs ⊢
      obtain ⟨s1, s2, s3⟩ := hs
      rw [mv_leads (by omega), mv_fun (by omega), mv_snd (by omega), mv_callee (by omega)]
      refine ⟨?_, s2, ?_⟩
      · rw [List.any_map, List.any_eq_false]
        intro t ht
        have := List.any_eq_false.1 s1 t ht
        simp only [Function.comp, badB, mv_len, Bool.and_eq_true, decide_eq_true_eq, Bool.not_eq_true', not_and, Bool.not_eq_false] at this ⊢
        intro h
        exact begB_shift (this (by omega))
      · cases e : calleeM L u with
        | none => rfl
        | some t =>
          rw [e] at s3
          simp only [Bool.not_eq_false'] at s3
          show (!begB _ _ ((k : Int) + t)) = false
          rw [begB_shift s3]; rfl
theorem hs_pos {n x : Nat} (h : (hsM L)[n + 1]? = some x) : x ≠ 0 := by
  have H := pass_heads hp (by decide : 4 ≤ 8)
  have h0 := H.zero
  obtain ⟨a, b⟩ := List.getElem?_eq_some_iff.1 h
  obtain ⟨a0, b0⟩ := List.getElem?_eq_some_iff.1 h0
  have := List.pairwise_iff_getElem.1 H.up 0 (n + 1) a0 a (by omega)
  omega
include hz
theorem mv_hs : hsM (Mv k L) = (hsM L).map (phi k) := by
  have H := pass_heads hp (by decide : 4 ≤ 8)
  have HM := pass_heads (mv_pass4 (k := k) hp hk) (by decide : 4 ≤ 4)
  have hbl : begL (bgM (Mv k L)) 0 (Mv k L).length = (List.range k).map Int.ofNat ++ (begM L).map ((k : Int) + ·) := by
    have := mv_beg (k := k) (L := L)
    rwa [begM, bg_len] at this
  have hbl0 : begL (bgM L) 0 L.length = begM L := by rw [begM, bg_len]
  refine up_unique _ _ HM.up (List.pairwise_map.2 (H.up.imp fun h => phi_lt h)) fun x => ?_
  constructor
  · intro hx
    obtain ⟨z, hz', rfl⟩ := List.mem_map.1 hx
    rcases (heads_mem _ _ _).1 hz' with rfl | ⟨y, hy, hc⟩
    · exact List.mem_map.2 ⟨0, List.mem_of_getElem? H.zero, by rw [phi_zero]; rfl⟩
    · rw [hbl] at hy
      rcases List.mem_append.1 hy with hy | hy
      · obtain ⟨j, hj, rfl⟩ := List.mem_map.1 hy
        have := mv_callee_low (L := L) (List.mem_range.1 hj)
        rw [show (Int.ofNat j) = (j : Int) from rfl, this] at hc
        cases hc
      · obtain ⟨y0, hy0, rfl⟩ := List.mem_map.1 hy
        obtain ⟨u, rfl, hu⟩ := beg_is hp hy0
        rw [mv_callee (by omega)] at hc
        cases e : calleeM L u with
        | none => rw [e] at hc; cases hc
        | some t =>
          rw [e] at hc
          cases hc
          obtain ⟨h1, h2, h3⟩ := H.all u (by rw [hbl0]; exact hy0) t e
          refine List.mem_map.2 ⟨t.toNat, h3, ?_⟩
          have ht : t ≠ 0 := fun h => hz u hu (by rw [e, h])
          show phi k t.toNat = ((k : Int) + t).toNat
          rw [phi_pos (by omega)]
          omega
  · intro hx
    obtain ⟨x0, hx0, rfl⟩ := List.mem_map.1 hx
    by_cases h0 : x0 = 0
    · subst h0
      rw [phi_zero]
      exact List.mem_of_getElem? HM.zero
    · obtain ⟨z, hz', rfl⟩ := List.mem_map.1 hx0
      rcases (heads_mem _ _ _).1 hz' with rfl | ⟨y, hy, hc⟩
      · exact absurd rfl h0
      · rw [hbl0] at hy
        obtain ⟨u, rfl, hu⟩ := beg_is hp hy
        have h1 := (H.all u (by rw [hbl0]; exact hy) z hc).1
        refine List.mem_map.2 ⟨(k : Int) + z, (heads_mem _ _ _).2 (.inr ⟨(k : Int) + u, ?_, ?_⟩), ?_⟩
        · rw [hbl]
          exact List.mem_append_right _ (List.mem_map.2 ⟨_, hy, rfl⟩)
        · rw [mv_callee (by omega), hc]; rfl
        · rw [phi_pos h0]; omega
theorem mv_toOf (n : Nat) : toOf ((hsM L).map (phi k)) (k + L.length) n = k + toOf (hsM L) L.length n := by
  unfold toOf
  rw [List.getElem?_map]
  cases e : (hsM L)[n + 1]? with
  | none => rfl
  | some x =>
    have := hs_pos hp hk e
    show phi k x = k + x
    exact phi_pos this
theorem mv_sl : slM (Mv k L) = (slM L).map fun p => (phi k p.1, k + p.2) := by
  rw [slM, mv_hs hp hk hz, mv_len, List.length_map]
  have key : ∀ n, subF ((hsM L).map (phi k)) (k + L.length) n = (subF (hsM L) L.length n).map fun p => (phi k p.1, k + p.2) := by
    intro n
    induction n with
    | zero => rfl
    | succ n ih =>
      have e : (((hsM L).map (phi k))[n]?).getD 0 = phi k (((hsM L)[n]?).getD 0) := by
        rw [List.getElem?_map]
        generalize (hsM L)[n]? = o
        cases o with
        | none => exact (phi_zero k).symm
        | some x => rfl
      rw [subF, subF, ih, mv_toOf hp hk hz, List.map_append, e]
      rfl
  exact key _
theorem mv_hl : hlM (Mv k L) = List.replicate k 0 ++ hlM L := by
  have H := pass_heads hp (by decide : 4 ≤ 8)
  rw [hlM, mv_hs hp hk hz, mv_len, List.length_map]
  have key : ∀ n, n ≤ (hsM L).length → homeF ((hsM L).map (phi k)) (k + L.length) n = List.replicate k 0 ++ homeF (hsM L) L.length n := by
    intro n
    induction n with
    | zero => intro _; simp [homeF]
    | succ n ih =>
      intro hn
      rw [homeF, homeF, ih (by omega), mv_toOf hp hk hz]
      obtain ⟨x, hx⟩ : ∃ x, (hsM L)[n]? = some x := ⟨_, List.getElem?_eq_getElem (by omega)⟩
      rw [List.getElem?_map, hx]
      show setR _ (phi k x) _ n = _ ++ setR _ x _ n
      have hn0 : n ≠ 0 → x ≠ 0 := fun h => by
        obtain ⟨m, rfl⟩ : ∃ m, n = m + 1 := ⟨n - 1, by omega⟩
        exact hs_pos hp hk hx
      generalize toOf (hsM L) L.length n = b
      generalize homeF (hsM L) L.length n = HL
      unfold setR
      apply List.ext_getElem?
      intro j
      rw [List.getElem?_mapIdx]
      rcases Nat.lt_or_ge j k with h | h
      · rw [List.getElem?_append_left (by simpa using h), List.getElem?_append_left (by simpa using h), List.getElem?_replicate, if_pos h]
        simp only [Option.map_some]
        congr 1
        by_cases h0 : n = 0
        · subst h0; split <;> rfl
        · rw [phi_pos (hn0 h0), if_neg (by omega)]
      · rw [List.getElem?_append_right (by simpa using h), List.getElem?_append_right (by simpa using h), List.length_replicate, List.getElem?_mapIdx]
        cases HL[j - k]? with
        | none => rfl
        | some y =>
          simp only [Option.map_some]
          congr 1
          by_cases hx0 : x = 0
          · subst hx0
            rw [phi_zero]
            by_cases hb : j < k + b
            · rw [if_pos ⟨by omega, hb⟩, if_pos ⟨by omega, by omega⟩]
            · rw [if_neg (by omega), if_neg (by omega)]
          · rw [phi_pos hx0]
            by_cases hb : k + x ≤ j ∧ j < k + b
            · rw [if_pos hb, if_pos ⟨by omega, by omega⟩]
            · rw [if_neg hb, if_neg (by omega)]
  exact key _ (Nat.le_refl _)
end
end Go.Proofs.Ytdmdmbcapjmnlab
end
section
namespace Go.Proofs.Ytdmdmbcapjmnlab
open Go.ChangeShapes Go.WideShapes Go.ChangeAt
open Go.RowKit Go.Shelf
set_option linter.unusedVariables false
set_option linter.unusedSimpArgs false
set_option linter.unusedSectionVars false
set_option maxRecDepth 100000
theorem fm_congr {α β : Type} {f g : α → Option β} : ∀ {l : List α}, (∀ x ∈ l, f x = g x) → l.filterMap f = l.filterMap g
  | [], _ => rfl
  | x :: l, h => by rw [List.filterMap_cons, List.filterMap_cons, h x (by simp), fm_congr (l := l) fun y hy => h y (by simp [hy])]
theorem missC_cases {L : List Sl} {u : Nat} (h : missC L u = false) : Rch (leadsN L) ((slM L).map (·.1)) u ∨ u = (subOf (slM L) (hlM L) u).1 := by
  classical
  unfold missC at h
  have := of_decide_eq_false h
  by_cases h1 : Rch (leadsN L) ((slM L).map (·.1)) u
  · exact .inl h1
  · by_cases h2 : u = (subOf (slM L) (hlM L) u).1
    · exact .inr h2
    · exact absurd ⟨h1, h2⟩ this
section
variable {k : Nat} {L : List Sl} (hp : Passed L 8) (hk : k + L.length ≤ 1024) (hz : ∀ u, isBeg L u → calleeM L u ≠ some 0)
include hp
theorem sub_ok : SubOk L (bgM L) (slM L) (hlM L) := (pass_heads hp (by decide : 4 ≤ 8)).sub (bg_len L)
theorem sub_at {u : Nat} (hu : u < L.length) : ∃ h a b, (hlM L)[u]? = some h ∧ (slM L)[h]? = some (a, b) ∧ subOf (slM L) (hlM L) u = (a, b) ∧ b ≤ L.length := by
  have ok := sub_ok hp
  obtain ⟨h, hh⟩ : ∃ h, (hlM L)[u]? = some h := ⟨_, List.getElem?_eq_getElem (by rw [ok.hl]; exact hu)⟩
  have hlt := ok.hin h (List.mem_of_getElem? hh)
  have hs : (slM L)[h]? = some ((slM L)[h]'hlt) := List.getElem?_eq_getElem hlt
  generalize (slM L)[h]'hlt = p at hs
  obtain ⟨a, b⟩ := p
  refine ⟨h, a, b, hh, hs, ?_, (ok.up _ (List.mem_of_getElem? hs)).2⟩
  unfold subOf
  rw [hh]
  show (slM L)[h]?.getD (0, 0) = _
  rw [hs]; rfl
theorem lead_beg {u : Nat} (hu : isBeg L u) {t : Int} (ht : t ∈ leadsM L u) : 0 ≤ t ∧ isBeg L t.toNat ∧ outB (subOf (slM L) (hlM L) u) t = false := by
  have hm := beg_mem hp u hu
  have h5 := pass5 hp (by decide : 6 ≤ 8) u (by rwa [begM, bg_len] at hm)
  have h3 := pass3 hp (by decide : 4 ≤ 8) u (by rwa [begM, bg_len] at hm)
  unfold leaveB at h5
  have ho := List.any_eq_false.1 h5 t ht
  rw [Int.toNat_natCast] at ho
  obtain ⟨h, a, b, _, _, hs, hb⟩ := sub_at hp hu.1
  rw [hs] at ho ⊢
  simp only [outB, Bool.or_eq_true, decide_eq_true_eq, not_or] at ho
  unfold strayB at h3
  simp only [Bool.or_eq_false_iff] at h3
  have hbd := List.any_eq_false.1 h3.1 t ht
  simp only [badB, Bool.and_eq_true, decide_eq_true_eq, Bool.not_eq_true', not_and, Bool.not_eq_false] at hbd
  have hb1 := begB_iff.1 (hbd (by omega))
  refine ⟨hb1.1, ⟨by have := hb1.2.1; omega, hb1.2.2⟩, ?_⟩
  simp only [outB, Bool.or_eq_false_iff, decide_eq_false_iff_not]
  exact ho
include hk hz
theorem mv_sub {u : Nat} (hu : u < L.length) : subOf (slM (Mv k L)) (hlM (Mv k L)) (k + u) = (phi k (subOf (slM L) (hlM L) u).1, k + (subOf (slM L) (hlM L) u).2) := by
  obtain ⟨h, a, b, hh, hs, he, _⟩ := sub_at hp hu
  rw [he, mv_sl hp hk hz, mv_hl hp hk hz]
  unfold subOf
  rw [List.getElem?_append_right (by simp), List.length_replicate, Nat.add_sub_cancel_left, hh]
  show ((slM L).map _)[h]?.getD (0, 0) = _
  rw [List.getElem?_map, hs]; rfl
theorem mv_sub_low {j : Nat} (h : j < k) : ∃ y, 0 < y ∧ subOf (slM (Mv k L)) (hlM (Mv k L)) j = (0, k + y) := by
  obtain ⟨x, y, h1, _, _, h2, _⟩ := may_get hp 0 (may_pos hp)
  obtain ⟨y', h3⟩ := may_zero hp
  rw [h1] at h3
  cases h3
  refine ⟨y, h2, ?_⟩
  rw [mv_sl hp hk hz, mv_hl hp hk hz]
  unfold subOf
  rw [List.getElem?_append_left (by simpa using h), List.getElem?_replicate, if_pos h]
  show ((slM L).map _)[0]?.getD (0, 0) = _
  rw [List.getElem?_map, h1]
  show (phi k 0, k + y) = _
  rw [phi_zero]
theorem mv_head {s : Nat} (h : s ∈ (slM L).map (·.1)) : phi k s ∈ (slM (Mv k L)).map (·.1) := by
  obtain ⟨p, hp', rfl⟩ := List.mem_map.1 h
  rw [mv_sl hp hk hz, List.map_map]
  exact List.mem_map.2 ⟨p, hp', rfl⟩
theorem mv_chain : ∀ j, 1 ≤ j → j ≤ k → Rch (leadsN (Mv k L)) ((slM (Mv k L)).map (·.1)) j := by
  have key : ∀ j, j < k → j + 1 ∈ leadsN (Mv k L) j := fun j h => by
    unfold leadsN
    rw [mv_leads_low h]
    simp
  have h0 : 0 ∈ (slM (Mv k L)).map (·.1) := by
    obtain ⟨y, h⟩ := may_zero hp
    have := mv_head hp hk hz (s := 0) (List.mem_map.2 ⟨(0, y), List.mem_of_getElem? h, rfl⟩)
    rwa [phi_zero] at this
  intro j
  induction j with
  | zero => intro h; omega
  | succ j ih =>
    intro _ h
    by_cases hj : j = 0
    · subst hj; exact .one 0 1 h0 (key 0 (by omega))
    · exact .more j (j + 1) (ih (by omega) (by omega)) (key j (by omega))
theorem mv_lead {u t : Nat} (hu : isBeg L u) (h : t ∈ leadsN L u) : isBeg L t ∧ k + t ∈ leadsN (Mv k L) (k + u) := by
  obtain ⟨t0, ht0, rfl⟩ := List.mem_map.1 h
  obtain ⟨h1, h2, _⟩ := lead_beg hp hu ht0
  refine ⟨h2, List.mem_map.2 ⟨(k : Int) + t0, ?_, by omega⟩⟩
  rw [show ((k + u : Nat) : Int) = (k : Int) + (u : Int) by omega, mv_leads (by omega)]
  exact List.mem_map.2 ⟨t0, ht0, rfl⟩
theorem head_beg {s : Nat} (h : s ∈ (slM L).map (·.1)) : isBeg L s := by
  obtain ⟨p, hp', rfl⟩ := List.mem_map.1 h
  obtain ⟨i, hi⟩ := List.getElem?_of_mem hp'
  exact may_beg hp i p.1 p.2 hi
theorem mv_rch {u : Nat} (h : Rch (leadsN L) ((slM L).map (·.1)) u) : isBeg L u ∧ Rch (leadsN (Mv k L)) ((slM (Mv k L)).map (·.1)) (k + u) := by
  induction h with
  | one s t hs ht =>
    obtain ⟨h1, h2⟩ := mv_lead hp hk hz (head_beg hp hk hz hs) ht
    refine ⟨h1, ?_⟩
    by_cases h0 : s = 0
    · subst h0
      by_cases hk0 : k = 0
      · have := mv_head hp hk hz hs
        rw [phi_zero] at this
        exact .one (k + 0) (k + t) (by rw [hk0] at this ⊢; exact this) h2
      · exact .more (k + 0) (k + t) (mv_chain hp hk hz k (by omega) (Nat.le_refl _)) h2
    · have := mv_head hp hk hz hs
      rw [phi_pos h0] at this
      exact .one (k + s) (k + t) this h2
  | more u t _ ht ih =>
    obtain ⟨h1, h2⟩ := mv_lead hp hk hz ih.1 ht
    exact ⟨h1, .more (k + u) (k + t) ih.2 h2⟩
theorem mv_calls (u : Nat) : callsN (Mv k L) (bgM (Mv k L)) (slM (Mv k L)) (hlM (Mv k L)) u = callsN L (bgM L) (slM L) (hlM L) u := by
  have hcn : ∀ v : Nat, callN (Mv k L) (hlM (Mv k L)) ((k : Int) + (v : Int)) = callN L (hlM L) v ∨ ¬ isBeg L v := fun v => by
    by_cases hv : isBeg L v
    · left
      unfold callN
      rw [mv_callee (by omega)]
      cases e : calleeM L v with
      | none => rfl
      | some t =>
        have h0 := (may_callee hp v hv t e).1
        simp only [Option.map_some]
        rw [mv_hl hp hk hz, show ((k : Int) + t).toNat = k + t.toNat by omega, List.getElem?_append_right (by simp), List.length_replicate, Nat.add_sub_cancel_left, mv_fun (by omega)]
    · exact .inr hv
  have hseg : ∀ a b, (begL (List.replicate k true ++ bgM L) (k + a) (k + b)).filterMap (callN (Mv k L) (hlM (Mv k L))) = (begL (bgM L) a b).filterMap (callN L (hlM L)) := fun a b => by
    rw [beg_shift, List.filterMap_map]
    refine fm_congr fun x hx => ?_
    obtain ⟨v, rfl, _, _, h3⟩ := begL_mem hx
    have hv : isBeg L v := by
      refine ⟨?_, h3⟩
      rcases Nat.lt_or_ge v (bgM L).length with h | h
      · rwa [bg_len] at h
      · rw [List.getElem?_eq_none h] at h3; cases h3
    rcases hcn v with h | h
    · exact h
    · exact absurd hv h
  have hlow : (begL (List.replicate k true ++ bgM L) 0 k).filterMap (callN (Mv k L) (hlM (Mv k L))) = [] := by
    rw [beg_low, List.filterMap_eq_nil_iff]
    intro x hx
    obtain ⟨j, hj, rfl⟩ := List.mem_map.1 hx
    unfold callN
    rw [show Int.ofNat j = (j : Int) from rfl, mv_callee_low (List.mem_range.1 hj)]
  unfold callsN
  rw [mv_bg]
  have hs : (slM (Mv k L))[u]? = ((slM L)[u]?).map fun p => (phi k p.1, k + p.2) := by rw [mv_sl hp hk hz, List.getElem?_map]
  rw [hs]
  cases e : (slM L)[u]? with
  | none => rfl
  | some p =>
    obtain ⟨a, b⟩ := p
    show (begL _ (phi k a) (k + b)).filterMap _ = (begL _ a b).filterMap _
    by_cases h0 : a = 0
    · subst h0
      rw [phi_zero, beg_cut _ (Nat.zero_le k) (show k ≤ k + b by omega), List.filterMap_append, hlow, List.nil_append]
      exact hseg 0 b
    · rw [phi_pos h0]
      exact hseg a b
theorem mv_ok : chkM (Mv k L) = (0, 0) := by
  have h4 := mv_pass4 (k := k) hp hk
  refine chk_all fun m hm => ?_
  by_cases hm4 : m < 4
  · exact h4 m hm4
  rcases (show m = 4 ∨ m = 5 ∨ m = 6 ∨ m = 7 by omega) with rfl | rfl | rfl | rfl
  · have := hp 4 (by decide)
    show (partX (Mv k L)).2 = 0
    change (partX L).2 = 0 at this
    unfold partX at this ⊢
    rw [mv_hs hp hk hz, List.getElem?_map]
    cases e : (hsM L)[32]? with
    | none => rfl
    | some x => rw [e] at this; cases this
  · show (leastX (begM (Mv k L)) (leaveB (Mv k L) (slM (Mv k L)) (hlM (Mv k L))) 82).2 = 0
    rw [leastX_none]
    rw [mv_beg]
    intro x hx
    rcases List.mem_append.1 hx with hx | hx
    · obtain ⟨j, hj, rfl⟩ := List.mem_map.1 hx
      have hj := List.mem_range.1 hj
      show leaveB (Mv k L) _ _ (j : Int) = false
      obtain ⟨y, hy, hs⟩ := mv_sub_low hp hk hz hj
      unfold leaveB
      rw [mv_leads_low hj, Int.toNat_natCast, hs]
      simp [outB]; omega
    · obtain ⟨y, hy, rfl⟩ := List.mem_map.1 hx
      obtain ⟨u, rfl, hu⟩ := beg_is hp hy
      show leaveB (Mv k L) _ _ ((k : Int) + (u : Int)) = false
      unfold leaveB
      rw [mv_leads (by omega), show ((k : Int) + (u : Int)).toNat = k + u by omega, mv_sub hp hk hz hu.1, List.any_map, List.any_eq_false]
      intro t ht
      obtain ⟨h1, _, h3⟩ := lead_beg hp hu ht
      generalize subOf (slM L) (hlM L) u = p at h3
      have := phi_le k p.1
      simp only [outB, Bool.or_eq_false_iff, decide_eq_false_iff_not] at h3
      simp only [Function.comp, outB, Bool.or_eq_true, decide_eq_true_eq]
      omega
  · show (leastX (begM (Mv k L)) (fun x => missC (Mv k L) x.toNat) 84).2 = 0
    rw [leastX_none]
    rw [mv_beg]
    intro x hx
    rcases List.mem_append.1 hx with hx | hx
    · obtain ⟨j, hj, rfl⟩ := List.mem_map.1 hx
      have hj := List.mem_range.1 hj
      show missC (Mv k L) j = false
      by_cases h0 : j = 0
      · obtain ⟨y, hy, hs⟩ := mv_sub_low hp hk hz hj
        exact missC_head (by rw [hs]; exact h0)
      · exact missC_led (mv_chain hp hk hz j (by omega) (by omega))
    · obtain ⟨y, hy, rfl⟩ := List.mem_map.1 hx
      obtain ⟨u, rfl, hu⟩ := beg_is hp hy
      show missC (Mv k L) ((k : Int) + (u : Int)).toNat = false
      rw [show ((k : Int) + (u : Int)).toNat = k + u by omega]
      have h6 : missC L u = false := by
        have := least_zero (by decide) (show (leastX (begM L) (fun x => missC L x.toNat) 84).2 = 0 from hp 6 (by decide)) u hy
        simpa using this
      rcases missC_cases h6 with h | h
      · exact missC_led (mv_rch hp hk hz h).2
      · by_cases h0 : u = 0
        · subst h0
          by_cases hk0 : k = 0
          · refine missC_head ?_
            rw [mv_sub hp hk hz hu.1, ← h, phi_zero, hk0]
          · exact missC_led (mv_chain hp hk hz k (by omega) (Nat.le_refl _))
        · refine missC_head ?_
          rw [mv_sub hp hk hz hu.1, ← h, phi_pos h0]
  · show (leastX (begM (Mv k L)) (fun x => loopB (Mv k L) (bgM (Mv k L)) (slM (Mv k L)) (hlM (Mv k L)) x.toNat) 83).2 = 0
    rw [leastX_none]
    intro x hx
    show loopB (Mv k L) _ _ _ x.toNat = false
    refine loopB_not ?_
    generalize (hlM (Mv k L))[x.toNat]?.getD 0 = h
    intro hr
    rw [show callsN (Mv k L) (bgM (Mv k L)) (slM (Mv k L)) (hlM (Mv k L)) = callsN L (bgM L) (slM L) (hlM L) from funext (mv_calls hp hk hz)] at hr
    cases e : (slM L)[h]? with
    | none =>
      have hc : callsN L (bgM L) (slM L) (hlM L) h = [] := by
        unfold callsN
        rw [e]
        exact congrArg (List.filterMap _) (begL_nil _ _)
      have hlt := callsN_lt (sub_ok hp)
      have : ∀ j, Rch (callsN L (bgM L) (slM L) (hlM L)) [h] j → False := by
        intro j hj
        induction hj with
        | one s t hs ht => rw [List.mem_singleton.1 hs, hc] at ht; cases ht
        | more _ _ _ _ ih => exact ih
      exact this h hr
    | some p => exact no_loop hp h p.1 p.2 e hr
end
end Go.Proofs.Ytdmdmbcapjmnlab
end
section
namespace Go.Proofs.Ytdmdmbcapjmnlab
open Go.ChangeShapes Go.WideShapes Go.ChangeAt
open Go.RowKit Go.Shelf
set_option linter.unusedVariables false
set_option linter.unusedSimpArgs false
set_option maxRecDepth 20000
theorem slots_row {w : World} {base : Nat} {v : Value} {L : List Sl} (hl : L.length ≤ 4096) (hok : ∀ x ∈ L, x.ok) (h : w.ownsRow base 30 5 v L.length (L.flatMap Sl.cells)) : Slots AnyB w v L := by
  refine ⟨hok, hl, ?_⟩
  rcases h.2 with ⟨rfl, h0⟩ | ⟨g, cap, cur, rfl, hb, hg, hn, _, hs, ht⟩
  · exact .inl ⟨⟨none, 0, rfl⟩, List.eq_nil_of_length_eq_zero h0⟩
  · refine .inr ⟨g, 0, cap, rfl, trivial, (Array.getElem?_eq_some_iff.1 hg).1, fun j x hx => ?_⟩
    have hj := (List.getElem?_eq_some_iff.1 hx).1
    have key : ∀ (m : Nat) (u : Value), (L.flatMap Sl.cells)[m]? = some u → w.cell? ⟨g, 0 + m, none⟩ = some u := fun m u hu => by
      rw [Nat.zero_add]
      refine cellOf hg ?_
      rw [← ht, List.getElem?_take] at hu
      split at hu
      · simpa using hu
      · cases hu
    obtain ⟨f0, f1, f2, f3, f4⟩ := fl5_get L j x hx
    have q0 := key _ _ f0
    have q1 := key _ _ f1
    have q2 := key _ _ f2
    have q3 := key _ _ f3
    have q4 := key _ _ f4
    exact ⟨q0, q1, q2, q3, q4⟩
theorem flat5_len (L : List Sl) : (L.flatMap Sl.cells).length = L.length * 5 := by
  induction L with
  | nil => rfl
  | cons x L ih => rw [List.flatMap_cons, List.length_append, ih]; simp [Sl.cells]; omega

theorem news_sl {w : World} {b : Nat} : ∀ (L : List Sl) (off : Nat), (∀ (j : Nat) (x : Sl), L[j]? = some x → Cell5 w b (off + j * 5) x) → ∀ (j : Nat) (u : Value), (L.flatMap Sl.cells)[j]? = some u → w.cell? ((⟨b, off, none⟩ : Addr).add j) = some u
  | [], off, _, j, u, h => by simp at h
  | t :: L, off, hc, j, u, h => by
    obtain ⟨h1, h2, h3, h4, h5⟩ := hc 0 t rfl
    rw [Nat.zero_mul, Nat.add_zero] at h1 h2 h3 h4 h5
    rw [add_of rfl]
    match j, h with
    | 0, h => cases h; exact h1
    | 1, h => cases h; exact h2
    | 2, h => cases h; exact h3
    | 3, h => cases h; exact h4
    | 4, h => cases h; exact h5
    | j + 5, h =>
      have h' : (L.flatMap Sl.cells)[j]? = some u := h
      have := news_sl (w := w) (b := b) L (off + 5) (fun k s hs => by
        have := hc (k + 1) s hs
        rwa [show off + (k + 1) * 5 = off + 5 + k * 5 by omega] at this) j u h'
      rw [add_of rfl] at this
      rwa [show off + (j + 5) = off + 5 + j by omega]
theorem one_sl (L : List Sl) : ∀ u ∈ L.flatMap Sl.cells, u.oneCell' = true := by
  intro u hu
  obtain ⟨t, _, ht⟩ := List.mem_flatMap.1 hu
  simp [Sl.cells] at ht
  rcases ht with rfl | rfl | rfl | rfl | rfl <;> rfl
theorem Slots.news {w : World} {ad : Addr} {c : Nat} {L : List Sl} (h : Slots AnyB w (.slice (some ad) L.length c) L) : ∀ (j : Nat) (u : Value), (L.flatMap Sl.cells)[j]? = some u → w.cell? (ad.add j) = some u := by
  rcases h.at' with ⟨_, rfl⟩ | ⟨b, off, cap, e, _, _, hc⟩
  · intro j u hu; simp at hu
  · cases e
    exact news_sl L off hc
section
variable {H : Type} {enc : TypeId × Value → H} {w : World} {spare : Nat → Bool} {held : Bool}
theorem none_cap {r : Reach} {b0 : Nat} {v : Value} {d : DataW H} {p : List MemPlace} (hv : Value.okWide Try.prog w r b0 22 v) (h : DataW.Trod enc Try.prog w 0 spare held 22 v d p) : ∀ n c, v = .slice none n c → c = 0 := by
  intro n c hvv
  obtain ⟨a, len, cap, rfl⟩ := okWide_slice Try.underlying22 hv
  obtain ⟨fuel, hf⟩ := h
  rcases DataW.trod_slice Try.underlying22 hf with ⟨h0, _⟩ | ⟨a', len', cap', elems, rest, n, _, h0, _, _, hlc, hcm, hel, hget, _⟩
  · simp [Value.cells] at h0
    obtain ⟨rfl, rfl, rfl⟩ := h0
    cases hvv; rfl
  · simp [Value.cells] at h0
    obtain ⟨rfl, rfl, rfl⟩ := h0
    cases hvv
end
theorem app_any {w : World} {base : Nat} {v : Value} {n : Nat} {xs : List Value} (hown : w.ownsRow base 30 5 v n xs) {p : Option Addr} {c : Nat} {M : List Sl} (hM : Slots AnyB w (.slice p M.length c) M) (hn : p = none → c = 0) (hlen : n ≤ 4096) (hbase : base ≤ w.heap.size) {B : Nat} (hB : B ≤ base) :
    ∃ v' w', (Builtin.append_ #[22, 22] 22 #[v, .slice p M.length c]).run Try.prog w = .ok v' w' ∧ w'.ownsRow base 30 5 v' (n + M.length) (xs ++ M.flatMap Sl.cells) ∧ Below B w w' := by
  obtain ⟨i26, hi, hz0, hz1, hz2⟩ := info_parts info53
  have hml := hM.len
  cases p with
  | some ad =>
    obtain ⟨v', w', h1, h2, h3, _⟩ := run_append_own (P := Try.prog) (w := w) base 22 22 30 i26 (.agg #[.int .u8 0, .int .u8 0, .int .u8 0, .int .i16 0, .int .i32 0]) 5 12 Try.underlying22 hi hz0 hz1 hz2 rfl (by decide) v n xs hown ad M.length c (M.flatMap Sl.cells) (flat5_len M) hM.news (one_sl M) (by simp [maxLen]; omega) (by omega) hbase
    exact ⟨v', w', h1, h2, (Below.refl B w).grown h3 (by omega) fun k hk => by have := (hown.lt k hk).1; omega⟩
  | none =>
    obtain rfl : M = [] := by
      rcases hM.at' with ⟨_, e⟩ | ⟨b, off, cap, e, _⟩
      · exact e
      · cases e
    obtain rfl := hn rfl
    have h := run_append_owned_none (P := Try.prog) (w := w) base 22 22 30 i26 5 Try.underlying22 hi v n xs hown
    exact ⟨v, w, h, by simpa using hown, Below.refl _ _⟩
def NRow (w : World) (v : Value) (xs : List Int) : Prop := (xs = [] ∧ ∃ p c, v = .slice p 0 c) ∨ ∃ g cap, v = .slice (some ⟨g, 0, none⟩) xs.length cap ∧ g < w.heap.size ∧ ∀ (j : Nat) (x : Int), xs[j]? = some x → w.cell? ⟨g, j, none⟩ = some (.int .i64 x)
theorem NRow.gr {w w' : World} {v : Value} {xs : List Int} (h : NRow w v xs) (hb : Below w.heap.size w w') : NRow w' v xs := by
  rcases h with h | ⟨g, cap, e, hg, hc⟩
  · exact .inl h
  · exact .inr ⟨g, cap, e, Nat.lt_of_lt_of_le hg hb.size, fun j x hx => (hb.cell (p := ⟨g, j, none⟩) hg).trans (hc j x hx)⟩
theorem NRow.shape {w : World} {v : Value} {xs : List Int} (h : NRow w v xs) : ∃ p cap, v = .slice p xs.length cap := by
  rcases h with ⟨rfl, p, c, e⟩ | ⟨g, cap, e, _⟩
  · exact ⟨p, c, e⟩
  · exact ⟨_, _, e⟩
theorem NRow.get {w : World} {p : Option Addr} {n c : Nat} {xs : List Int} (h : NRow w (.slice p n c) xs) {i : Nat} {x : Int} (hx : xs[i]? = some x) : ∃ g, p = some ⟨g, 0, none⟩ ∧ w.cell? ⟨g, i, none⟩ = some (.int .i64 x) ∧ g < w.heap.size := by
  rcases h with ⟨e2, _⟩ | ⟨g, cap, e, hlt, hc⟩
  · rw [e2] at hx; simp at hx
  · cases e; exact ⟨g, rfl, hc i x hx, hlt⟩
theorem own_nil {w w' : World} {v : Value} {xs : List Int} (h : Own w w' v xs) (hx : xs = []) : ∃ p cap, v = .slice p 0 cap := by
  subst hx
  rcases h.1.2 with ⟨e, _⟩ | ⟨g, cap, cur, e, _⟩
  · exact ⟨none, 0, e⟩
  · exact ⟨_, _, e⟩
theorem own_get {w w' : World} {v : Value} {xs : List Int} (h : Own w w' v xs) (hx : xs ≠ []) : ∃ g cap, v = .slice (some ⟨g, 0, none⟩) xs.length cap ∧ ∀ (j : Nat) (x : Int), xs[j]? = some x → w'.cell? ⟨g, j, none⟩ = some (.int .i64 x) := by
  rcases h.1.2 with ⟨_, h0⟩ | ⟨g, cap, cur, e, hb, hg, hn, _, hs', ht⟩
  · simp at h0; exact absurd h0 hx
  · refine ⟨g, cap, e, fun j x hj => ?_⟩
    unfold World.cell?
    rw [hg]
    have h1 : (xs.map (Value.int .i64))[j]? = some (.int .i64 x) := by simp [hj]
    rw [← ht, List.getElem?_take] at h1
    split at h1
    · simpa using h1
    · cases h1
theorem nrow_own {w w' : World} {v : Value} {xs : List Int} (h : Own w w' v xs) : NRow w' v xs := by
  by_cases hx : xs = []
  · obtain ⟨p, c, e⟩ := own_nil h hx
    exact .inl ⟨hx, p, c, e⟩
  · obtain ⟨g, cap, e, hc⟩ := own_get h hx
    refine .inr ⟨g, cap, e, ?_, hc⟩
    obtain ⟨x, hx0⟩ : ∃ x, xs[0]? = some x := ⟨xs[0]'(List.length_pos_iff.2 hx), List.getElem?_eq_getElem _⟩
    have := hc 0 x hx0
    unfold World.cell? at this
    split at this
    · rename_i hh; exact (Array.getElem?_eq_some_iff.1 hh).1
    · cases this

theorem passed_of {L : List Sl} (h : (chkM L).2 = 0) : Passed L 8 := by
  have key : ∀ n, n ≤ 8 → Passed L n := by
    intro n
    induction n with
    | zero => intro _ m hm; omega
    | succ n ih =>
      intro hn
      have hp := ih (by omega)
      refine hp.snoc ?_
      by_cases he : (chkX L n).2 = 0
      · exact he
      · rw [chk_err (by omega) hp he] at h; exact absurd h he
  exact key 8 (Nat.le_refl _)
theorem up_uniqueI : ∀ (l m : List Int), l.Pairwise (· < ·) → m.Pairwise (· < ·) → (∀ x, x ∈ l ↔ x ∈ m) → l = m
  | [], [], _, _, _ => rfl
  | [], y :: m, _, _, h => by have := (h y).2 (by simp); cases this
  | x :: l, [], _, _, h => by have := (h x).1 (by simp); cases this
  | x :: l, y :: m, h1, h2, h => by
    rw [List.pairwise_cons] at h1 h2
    have hxy : x = y := by
      rcases List.mem_cons.1 ((h x).1 (by simp)) with e | e
      · exact e
      · rcases List.mem_cons.1 ((h y).2 (by simp)) with e' | e'
        · exact e'.symm
        · have a := h2.1 x e; have b := h1.1 y e'; omega
    subst hxy
    rw [up_uniqueI l m h1.2 h2.2 fun z => ?_]
    constructor
    · intro hz
      rcases List.mem_cons.1 ((h z).1 (by simp [hz])) with e | e
      · have := h1.1 z hz; omega
      · exact e
    · intro hz
      rcases List.mem_cons.1 ((h z).2 (by simp [hz])) with e | e
      · have := h2.1 z hz; omega
      · exact e
theorem next_ok (L : List Sl) (a : Int) : (nextM L a).Pairwise (· < ·) ∧ ∀ x, x ∈ nextM L a ↔ x ∈ leadsM L a := by
  have hsort : ((leadsM L a).mergeSort fun x y => decide (x ≤ y)).Pairwise (· ≤ ·) := by
    have := List.pairwise_mergeSort (le := fun x y : Int => decide (x ≤ y)) (fun a b c h1 h2 => by simp at *; omega) (fun a b => by simp; omega) (leadsM L a)
    exact this.imp fun h => by simpa using h
  obtain ⟨hp, hm⟩ := compact_sorted hsort
  exact ⟨hp, fun x => (hm x).trans List.mem_mergeSort⟩
theorem next_shift {k : Nat} {L : List Sl} {a : Int} (h : 0 ≤ a) : nextM (Mv k L) (k + a) = (nextM L a).map ((k : Int) + ·) := by
  obtain ⟨h1, h2⟩ := next_ok (Mv k L) (k + a)
  obtain ⟨h3, h4⟩ := next_ok L a
  refine up_uniqueI _ _ h1 (List.pairwise_map.2 (h3.imp fun h => by omega)) fun x => ?_
  rw [h2, mv_leads h, List.mem_map, List.mem_map]
  constructor
  · rintro ⟨y, hy, rfl⟩; exact ⟨y, (h4 y).2 hy, rfl⟩
  · rintro ⟨y, hy, rfl⟩; exact ⟨y, (h4 y).1 hy, rfl⟩
theorem next_bd {L : List Sl} (hok : ∀ x ∈ L, x.ok) {a : Int} {x : Int} (h : x ∈ nextM L a) (h0 : a ≤ 4096) : -40000 ≤ x ∧ x ≤ 40000 := by
  have hx := ((next_ok L a).2 x).1 h
  unfold leadsM at hx
  cases e : slotAt L a with
  | none => rw [e] at hx; cases hx
  | some y =>
    obtain ⟨h1, h2⟩ := slotAt_some e
    obtain ⟨_, _, _, ⟨f0, f1⟩, _⟩ := hok y (List.mem_of_getElem? h2)
    rw [e] at hx
    simp only at hx
    split at hx
    · cases hx
    · split at hx
      · rw [List.mem_singleton.1 hx]; omega
      · split at hx
        · rcases List.mem_cons.1 hx with rfl | hx
          · omega
          · rw [List.mem_singleton.1 hx]; omega
        · split at hx
          · rw [List.mem_singleton.1 hx]; omega
          · rw [List.mem_singleton.1 hx]; omega
end Go.Proofs.Ytdmdmbcapjmnlab
end
section
namespace Go.Proofs.Ytdmdmbcapjmnlab
open Go.ChangeShapes Go.WideShapes Go.ChangeAt
open Go.RowKit Go.Shelf
set_option linter.unusedVariables false
set_option linter.unusedSimpArgs false
set_option maxRecDepth 100000
theorem mov_ok : slMov.ok := by refine ⟨⟨?_, ?_⟩, ⟨?_, ?_⟩, ⟨?_, ?_⟩, ⟨?_, ?_⟩, ⟨?_, ?_⟩⟩ <;> decide
theorem push1_any {W : World} {base : Nat} {v : Value} {n : Nat} {xs : List Value} (hown : W.ownsRow base 30 5 v n xs) (hlen : n ≤ 4000) (hbase : base ≤ W.heap.size) :
    ∃ v' w', (Builtin.append_ #[22, 22] 22 #[v, .slice (some ⟨W.heap.size, 0, none⟩) 1 1]).run Try.prog (W.alloc (.cells #[.int .u8 183, .int .u8 0, .int .u8 0, .int .i16 0, .int .i32 0] 30)) = .ok v' w' ∧ w'.ownsRow base 30 5 v' (n + 1) (xs ++ slMov.cells) ∧ Below base W w' := by
  have hS := slots_blk (cap := 1) (L := [slMov]) (World.alloc_heap_new W (.cells #[.int .u8 183, .int .u8 0, .int .u8 0, .int .i16 0, .int .i32 0] 30)) (fun x hx => by rw [List.mem_singleton.1 hx]; exact mov_ok) (by simp)
  obtain ⟨v', w', h1, h2, h3⟩ := app_any (hown.alloc (.cells #[.int .u8 183, .int .u8 0, .int .u8 0, .int .i16 0, .int .i32 0] 30)) hS (fun h => by cases h) (by omega) (by simp; omega) (Nat.le_refl base)
  exact ⟨v', w', h1, by simpa using h2, ((Below.refl base W).alloc (by omega) _).trans h3⟩
set_option maxHeartbeats 16000000 in
theorem moves_any (p0 : Option Addr) (c0 : Nat) (L : List Sl) (a1 : Int) (ha0 : 0 ≤ a1) (ha1 : a1 ≤ 255) (w : World) (hL : Slots AnyB w (.slice p0 L.length c0) L) (hn0 : p0 = none → c0 = 0) (q0 : L.length ≤ 200) (q1 : L.length ≠ 0) :
    Calls Try.prog 3 #[.slice p0 L.length c0, .int .u8 a1] w fun e w' => e = .returned (.bool true) ∧ Below w.heap.size w w' := by
  have hal := fun W => alive_any W
  have hmv := fun W => mov_any W
  have hok := hL.ok
  have d0 : decide ((200 : Int) < L.length) = false := by simp; omega
  have d1 : ((L.length : Int) == 0) = false := by rw [beq_eq_false_iff_ne]; omega
  obtain ⟨k, hk⟩ : ∃ k : Nat, a1 % 20 = k := ⟨(a1 % 20).toNat, (Int.toNat_of_nonneg (Int.emod_nonneg _ (by decide))).symm⟩
  have hk1 : k ≤ 19 := by omega
  have r1 : a1.tmod 20 = k := by rw [Int.tmod_eq_emod_of_nonneg ha0]; exact hk
  have r2 : IntKind.i64.wrap a1 = a1 := IntWalk.i64_in _ (by omega)
  have r3 : IntKind.i64.wrap (k : Int) = k := IntWalk.i64_in _ (by omega)
  have kc := check_any _ L w hL
  have hL0 : isBeg L 0 ∨ True := .inr trivial
  clear hL0
  by_cases hc : (chkM L).2 = 0
  · have hp := passed_of hc
    rw [hc] at kc
    have kc2 : Calls Try.prog 5 #[.slice p0 L.length c0] w fun e w' => ∃ (v : Value) (at_ : Int) (sb : Nat), e = .returned (.tuple #[v, .int .i64 at_, .int .i64 0]) ∧ SubsAt w' sb v (slM L) ∧ Below w.heap.size w w' := kc.mono fun e w' h => by
      obtain ⟨v, rfl, h1, _, hb⟩ := h
      obtain ⟨sb, _, hS⟩ := h1 rfl
      exact ⟨v, _, sb, rfl, hS, hb⟩
    clear kc hc
    go_enter Try.func3, Try.ntmps3
    go_upto_region 4 with (go_at_call 5; refine kc2.mono ?_; rintro e w1 ⟨v1, at1, sb1, rfl, hS1, HB⟩)
    clear kc2
    go_upto_region 9 with fail
    replace hL := hL.gr HB
    go_wp2
    go_loopw [9, 10] (fun v i wr => ∃ (j : Nat), i = .int .i64 j ∧ j ≤ k ∧ wr.ownsRow w1.heap.size 30 5 v j ((List.replicate j slMov).flatMap Sl.cells) ∧ Below w1.heap.size w1 wr) (fun _ i _ => k - (intOf i).toNat)
    case atStart => exact ⟨0, rfl, by omega, World.ownsRow_nil _ _ _ _, Below.refl _ _⟩
    case round =>
      obtain ⟨j, rfl, hjk, hrow, HC⟩ := hrel
      have e1 : IntKind.i64.wrap ((j : Int) + 1) = (j : Int) + 1 := IntWalk.i64_in _ (by omega)
      by_cases hj : j < k
      · have hd : decide ((j : Int) < k) = true := by simp; omega
        have hd' : decide (j < k) = true := by simp; omega
        go_wp2_with first | (go_at_call 6; refine (hmv _).mono ?_; rintro e W4 ⟨rfl, hg⟩; replace HC := HC.trans (hg.mono HC.size); obtain ⟨v2, wa, ra, hrow2, hba⟩ := push1_any (ownsRow_gr hrow hg) (by omega) HC.size) | (refine Lib.wpList_append_run _ rfl _ _ 22 22 rfl _ _ rfl rfl v2 wa ra ?_; skip)
        refine ⟨⟨j + 1, by simp, by omega, ?_, HC.trans hba⟩, by simp [intOf]; omega⟩
        rw [List.replicate_succ', List.flatMap_append]
        simpa using hrow2
      · have hd : decide ((j : Int) < k) = false := by simp; omega
        have hd' : decide (j < k) = false := by simp; omega
        obtain rfl : j = k := by omega
        clear hjk hj
        have hLc := hL.gr HC
        obtain ⟨v2, wa, ra, hrow2, hba⟩ := app_any hrow hLc hn0 (by omega) HC.size (Nat.le_refl _)
        go_upto_region 13 with (refine Lib.wpList_append_run _ rfl _ _ 22 22 rfl _ _ rfl rfl v2 wa ra ?_; skip)
        replace HC := HC.trans hba
        have hSM : Slots AnyB wa v2 (Mv j L) := by
          refine slots_row (base := w1.heap.size) (by rw [mv_len]; omega) (fun x hx => ?_) ?_
          · rcases List.mem_append.1 hx with h | h
            · rw [(List.mem_replicate.1 h).2]; exact mov_ok
            · exact hok x h
          · rw [mv_len]
            unfold Mv
            rw [List.flatMap_append]
            exact hrow2
        obtain ⟨pM, cM, hvM⟩ := hSM.shape
        rw [mv_len] at hvM
        subst hvM
        have hS1a := hS1.gr HC
        have hLa := hL.gr HC
        clear hrow hrow2 ra hba hLc hL hd hd' e1 hS1 d0 d1
        have HB2 := HB.trans (HC.mono HB.size)
        clear HB HC
        have hHC : Below wa.heap.size wa wa := Below.refl _ _
        go_wp2
        go_loopw [11, 12, 13, 14, 15, 16] (fun i _ _ _ _ _ wr => ∃ (a : Nat), i = .int .i64 a ∧ a ≤ L.length ∧ Hid (∀ u : Nat, u < a → calleeM L u ≠ some 0) ∧ Below wa.heap.size wa wr) (fun i _ _ _ _ _ _ => L.length - (intOf i).toNat)
        case atStart => exact ⟨0, rfl, by omega, fun u hu => by omega, hHC⟩
        case round =>
          clear hHC
          obtain ⟨a, rfl, haL, hcal, HC⟩ := hrel
          have e1 : IntKind.i64.wrap ((a : Int) + 1) = (a : Int) + 1 := IntWalk.i64_in _ (by omega)
          by_cases ha : a < L.length
          · have hd : decide ((a : Int) < L.length) = true := by simp; omega
            have hd' : decide (a < L.length) = true := by simp; omega
            have e2 : IntKind.i64.wrap ((a : Int) + (j : Int)) = (j : Int) + (a : Int) := by rw [IntWalk.i64_in _ (by omega)]; omega
            have kca := callee_any AnyB _ L a wr (hLa.gr HC)
            unfold calleeV at kca
            have kn1 := fun W (h : Below wa.heap.size wa W) => next_any AnyB _ L a W (hLa.gr h)
            have kn2 := fun W (h : Below wa.heap.size wa W) => next_any AnyB _ (Mv j L) ((j : Int) + (a : Int)) W (hSM.gr h)
            rw [next_shift (by omega)] at kn2
            cases hca : calleeM L a with
            | none =>
              rw [hca] at kca
              go_upto_region 17 with (go_at_call 7; refine kca.mono ?_; rintro e W4 ⟨rfl, hg⟩; replace HC := HC.trans (hg.below.mono HC.size); clear hg)
              clear kca
              have hcal2 : Hid (∀ u : Nat, u < a + 1 → calleeM L u ≠ some 0) := fun u hu => by
                by_cases h : u < a
                · exact hcal.out u h
                · rw [show u = a by omega, hca]; simp
              go_upto_region 20 with first | (go_at_call_of 8 c0; refine (kn1 _ HC).mono ?_; rintro e W5 ⟨x5, rfl, ho⟩; have hb5 := ho.2; replace ho := nrow_own ho; replace HC := HC.trans (hb5.mono HC.size)) | (go_at_call_of 8 cM; refine (kn2 _ HC).mono ?_; rintro e W6 ⟨x6, rfl, hq⟩; have hb6 := hq.2; replace hq := nrow_own hq; replace ho := ho.gr hb6; replace HC := HC.trans (hb6.mono HC.size))
              clear kn1 kn2 hb5 hb6
              obtain ⟨p5, c5, rfl⟩ := ho.shape
              obtain ⟨p6, c6, rfl⟩ := hq.shape
              simp only [List.length_map] at hq ⊢
              have hxl : (nextM L a).length ≤ 2 := Nat.le_trans (by unfold nextM; exact Nat.le_trans (Lib.compact_length_le _) (by rw [List.length_mergeSort]; exact Nat.le_refl _)) (leadsM_len L a)
              have hbd : ∀ x ∈ nextM L a, -40000 ≤ x ∧ x ≤ 40000 := fun x hx => next_bd hok hx (by omega)
              generalize nextM L a = xs at ho hq hxl hbd ⊢
              have hself : ((xs.length : Int) != (xs.length : Int)) = false := by simp
              go_wp2
              go_loopw [16] (fun i wr => ∃ q : Nat, i = .int .i64 q ∧ q ≤ xs.length ∧ Below W6.heap.size W6 wr) (fun i _ => xs.length - (intOf i).toNat)
              case atStart => exact ⟨0, rfl, by omega, Below.refl _ _⟩
              case round =>
                obtain ⟨q, rfl, hj, hBq⟩ := hrel
                replace ho := ho.gr hBq
                replace hq := hq.gr hBq
                by_cases hq2 : q < xs.length
                · have g1 : decide ((q : Int) < xs.length) = true := by simp; omega
                  have g1' : decide (q < xs.length) = true := by simp; omega
                  have g2 : decide ((0 : Int) ≤ (q : Int) ∧ (q : Int) < (xs.length : Int)) = true := by simp; omega
                  have g3 : IntKind.i64.wrap ((q : Int) + 1) = (q : Int) + 1 := IntWalk.i64_in _ (by omega)
                  obtain ⟨x, hx⟩ : ∃ x, xs[q]? = some x := ⟨_, List.getElem?_eq_getElem hq2⟩
                  have hxb := hbd x (List.mem_of_getElem? hx)
                  obtain ⟨g5, he, k5, _⟩ := ho.get hx
                  subst he
                  obtain ⟨g6, he, k6, _⟩ := hq.get (i := q) (x := (j : Int) + x) (by rw [List.getElem?_map, hx]; rfl)
                  subst he
                  have g4 : IntKind.i64.wrap (x + (j : Int)) = (j : Int) + x := by rw [IntWalk.i64_in _ (by omega)]; omega
                  have g5' : (((j : Int) + x) != ((j : Int) + x)) = false := by simp
                  clear hx ho hq hbd
                  go_upto_region 25 with fail
                  go_quiet (fail)
                  go_wp2
                  exact ⟨⟨q + 1, by simp, by omega, hBq.trans ⟨rfl, rfl, rfl, Nat.le_refl _, fun _ _ => rfl⟩⟩, by simp [intOf]; omega⟩
                · have g1 : decide ((q : Int) < xs.length) = false := by simp; omega
                  have g1' : decide (q < xs.length) = false := by simp; omega
                  go_wp2
                  exact ⟨⟨a + 1, by simp, by omega, hcal2, HC.trans (hBq.mono HC.size)⟩, by simp [intOf]; omega⟩
            | some t =>
              rw [hca] at kca
              by_cases ht : t = 0
              · subst ht
                go_wp2_with first | (go_at_call 7; refine kca.mono ?_; rintro e W4 ⟨rfl, hg⟩; replace HC := HC.trans (hg.below.mono HC.size); clear hg) | (go_at_call 4; refine (hal _).mono ?_; rintro e V6 ⟨rfl, hb⟩; replace HC := HC.trans (hb.mono HC.size); clear hb)
                go_returns
                exact ⟨rfl, HB2.trans (HC.mono HB2.size)⟩
              · have ht0 : (t == 0) = false := by simpa using ht
                go_upto_region 17 with (go_at_call 7; refine kca.mono ?_; rintro e W4 ⟨rfl, hg⟩; replace HC := HC.trans (hg.below.mono HC.size); clear hg)
                clear kca
                have hcal2 : Hid (∀ u : Nat, u < a + 1 → calleeM L u ≠ some 0) := fun u hu => by
                  by_cases h : u < a
                  · exact hcal.out u h
                  · rw [show u = a by omega, hca]; simpa using ht
                go_upto_region 20 with first | (go_at_call_of 8 c0; refine (kn1 _ HC).mono ?_; rintro e W5 ⟨x5, rfl, ho⟩; have hb5 := ho.2; replace ho := nrow_own ho; replace HC := HC.trans (hb5.mono HC.size)) | (go_at_call_of 8 cM; refine (kn2 _ HC).mono ?_; rintro e W6 ⟨x6, rfl, hq⟩; have hb6 := hq.2; replace hq := nrow_own hq; replace ho := ho.gr hb6; replace HC := HC.trans (hb6.mono HC.size))
                clear kn1 kn2 hb5 hb6
                obtain ⟨p5, c5, rfl⟩ := ho.shape
                obtain ⟨p6, c6, rfl⟩ := hq.shape
                simp only [List.length_map] at hq ⊢
                have hxl : (nextM L a).length ≤ 2 := Nat.le_trans (by unfold nextM; exact Nat.le_trans (Lib.compact_length_le _) (by rw [List.length_mergeSort]; exact Nat.le_refl _)) (leadsM_len L a)
                have hbd : ∀ x ∈ nextM L a, -40000 ≤ x ∧ x ≤ 40000 := fun x hx => next_bd hok hx (by omega)
                generalize nextM L a = xs at ho hq hxl hbd ⊢
                have hself : ((xs.length : Int) != (xs.length : Int)) = false := by simp
                go_wp2
                go_loopw [16] (fun i wr => ∃ q : Nat, i = .int .i64 q ∧ q ≤ xs.length ∧ Below W6.heap.size W6 wr) (fun i _ => xs.length - (intOf i).toNat)
                case atStart => exact ⟨0, rfl, by omega, Below.refl _ _⟩
                case round =>
                  obtain ⟨q, rfl, hj, hBq⟩ := hrel
                  replace ho := ho.gr hBq
                  replace hq := hq.gr hBq
                  by_cases hq2 : q < xs.length
                  · have g1 : decide ((q : Int) < xs.length) = true := by simp; omega
                    have g1' : decide (q < xs.length) = true := by simp; omega
                    have g2 : decide ((0 : Int) ≤ (q : Int) ∧ (q : Int) < (xs.length : Int)) = true := by simp; omega
                    have g3 : IntKind.i64.wrap ((q : Int) + 1) = (q : Int) + 1 := IntWalk.i64_in _ (by omega)
                    obtain ⟨x, hx⟩ : ∃ x, xs[q]? = some x := ⟨_, List.getElem?_eq_getElem hq2⟩
                    have hxb := hbd x (List.mem_of_getElem? hx)
                    obtain ⟨g5, he, k5, _⟩ := ho.get hx
                    subst he
                    obtain ⟨g6, he, k6, _⟩ := hq.get (i := q) (x := (j : Int) + x) (by rw [List.getElem?_map, hx]; rfl)
                    subst he
                    have g4 : IntKind.i64.wrap (x + (j : Int)) = (j : Int) + x := by rw [IntWalk.i64_in _ (by omega)]; omega
                    have g5' : (((j : Int) + x) != ((j : Int) + x)) = false := by simp
                    clear hx ho hq hbd
                    go_upto_region 25 with fail
                    go_quiet (fail)
                    go_wp2
                    exact ⟨⟨q + 1, by simp, by omega, hBq.trans ⟨rfl, rfl, rfl, Nat.le_refl _, fun _ _ => rfl⟩⟩, by simp [intOf]; omega⟩
                  · have g1 : decide ((q : Int) < xs.length) = false := by simp; omega
                    have g1' : decide (q < xs.length) = false := by simp; omega
                    go_wp2
                    exact ⟨⟨a + 1, by simp, by omega, hcal2, HC.trans (hBq.mono HC.size)⟩, by simp [intOf]; omega⟩
          · have hd : decide ((a : Int) < L.length) = false := by simp; omega
            have hd' : decide (a < L.length) = false := by simp; omega
            obtain rfl : a = L.length := by omega
            have hz : ∀ u, isBeg L u → calleeM L u ≠ some 0 := fun u hu => hcal.out u hu.1
            have kc := check_any _ (Mv j L) wr (hSM.gr HC)
            rw [mv_ok hp (by omega) hz] at kc
            have kc2 : Calls Try.prog 5 #[.slice pM (j + L.length) cM] wr fun e w' => ∃ (v : Value) (at_ : Int) (sb : Nat), e = .returned (.tuple #[v, .int .i64 at_, .int .i64 0]) ∧ SubsAt w' sb v (slM (Mv j L)) ∧ Below wr.heap.size wr w' := kc.mono fun e w' h => by
              obtain ⟨v, rfl, h1, _, hb⟩ := h
              obtain ⟨sb, _, hS⟩ := h1 rfl
              exact ⟨v, _, sb, rfl, hS, hb⟩
            clear kc
            have hS1b := hS1a.gr HC
            go_upto_region 28 with (go_at_call 5; refine kc2.mono ?_; rintro e w7 ⟨v7, at7, sb7, rfl, hS7, hb7⟩; replace HC := HC.trans (hb7.mono HC.size); replace hS1b := hS1b.gr hb7; clear hb7)
            clear kc2
            obtain ⟨cp1, rfl⟩ := hS1b.val
            obtain ⟨cp7, rfl⟩ := hS7.val
            have hln : (slM (Mv j L)).length = (slM L).length := by rw [mv_sl hp (by omega) hz, List.length_map]
            have hcell7 : ∀ (i : Nat) (x y : Nat), (slM L)[i]? = some (x, y) → w7.cell? ⟨sb7, i * 2, none⟩ = some (.int .i64 ((phi j x : Nat) : Int)) ∧ w7.cell? ⟨sb7, i * 2 + 1, none⟩ = some (.int .i64 ((j + y : Nat) : Int)) := fun i x y h => hS7.cell i (phi j x, j + y) (by rw [mv_sl hp (by omega) hz, List.getElem?_map, h]; rfl)
            have hpos : ∀ (i x y : Nat), (slM L)[i + 1]? = some (x, y) → x ≠ 0 := fun i x y h => by
              obtain ⟨x', y', h1, h2, _⟩ := may_get hp (i + 1) (List.getElem?_eq_some_iff.1 h).1
              rw [h] at h1
              cases h1
              exact hs_pos hp (k := j) (by omega) h2
            have hzero : ∀ (x y : Nat), (slM L)[0]? = some (x, y) → x = 0 := fun x y h => by
              obtain ⟨y', h1⟩ := may_zero hp
              rw [h] at h1; cases h1; rfl
            have hcell1 := hS1b.cell
            have hlt1 := hS1b.lt
            have hlt7 := hS7.lt
            have hsm := hS1b.small
            have hnl := hS1b.len
            rw [hln]
            have hHB := HB2.trans (HC.mono HB2.size)
            have hself : (((slM L).length : Int) != ((slM L).length : Int)) = false := by simp
            clear hS7 hS1b hln hp hz hcal HC HB2 hSM hLa hS1a
            replace hcell1 : Hid _ := hcell1
            replace hcell7 : Hid _ := hcell7
            replace hpos : Hid _ := hpos
            replace hzero : Hid _ := hzero
            replace hsm : Hid _ := hsm
            generalize slM L = S at hcell1 hcell7 hpos hzero hsm hnl hself ⊢
            go_wp2
            go_loopw [20] (fun i wr => ∃ m : Nat, i = .int .i64 m ∧ m ≤ S.length ∧ Below w7.heap.size w7 wr) (fun i _ => S.length - (intOf i).toNat)
            case atStart => exact ⟨0, rfl, by omega, Below.refl _ _⟩
            case round =>
              obtain ⟨m, rfl, hm, hBm⟩ := hrel
              by_cases hm2 : m < S.length
              · obtain ⟨x, y, hxy⟩ : ∃ x y, S[m]? = some (x, y) := ⟨_, _, List.getElem?_eq_getElem hm2⟩
                obtain ⟨b0, b1⟩ := hcell1.out m (x, y) hxy
                obtain ⟨b2, b3⟩ := hcell7.out m x y hxy
                have hsb := hsm.out (x, y) (List.mem_of_getElem? hxy)
                simp only at b0 b1 hsb
                replace b0 := (World.cell?_of_block (w := w7) (hBm.block sb1 hlt1)).trans b0
                replace b1 := (World.cell?_of_block (w := w7) (hBm.block sb1 hlt1)).trans b1
                replace b2 := (World.cell?_of_block (w := w7) (hBm.block sb7 hlt7)).trans b2
                replace b3 := (World.cell?_of_block (w := w7) (hBm.block sb7 hlt7)).trans b3
                have g4 : IntKind.i64.wrap ((y : Int) + (j : Int)) = ((j + y : Nat) : Int) := by rw [IntWalk.i64_in _ (by omega)]; omega
                have g5 : (((j + y : Nat) : Int) != ((j + y : Nat) : Int)) = false := by simp
                cases m with
                | zero =>
                  obtain rfl := hzero.out x y hxy
                  rw [phi_zero] at b2
                  have g1 : decide ((0 : Int) < S.length) = true := by simp; omega
                  have g1' : decide (0 < S.length) = true := by simp; omega
                  clear hxy
                  simp only [Nat.zero_mul, Nat.zero_add] at b0 b1 b2 b3
                  have g6 : decide ((0 : Int) ≤ (0 : Int) ∧ (0 : Int) < (S.length : Int)) = true := by simp; omega
                  go_upto_region 33 with fail
                  go_quiet (fail)
                  go_wp2
                  exact ⟨⟨1, by simp, by omega, hBm.trans ⟨rfl, rfl, rfl, Nat.le_refl _, fun _ _ => rfl⟩⟩, by simp [intOf]; omega⟩
                | succ m =>
                  have hx0 := hpos.out m x y hxy
                  rw [phi_pos hx0] at b2
                  clear hxy
                  have g1 : decide (((m + 1 : Nat) : Int) < S.length) = true := by simp; omega
                  have g1' : decide (m + 1 < S.length) = true := by simp; omega
                  have g6 : decide ((0 : Int) ≤ ((m + 1 : Nat) : Int) ∧ ((m + 1 : Nat) : Int) < (S.length : Int)) = true := by simp; omega
                  have g7 : IntKind.i64.wrap ((x : Int) + (j : Int)) = ((j + x : Nat) : Int) := by rw [IntWalk.i64_in _ (by omega)]; omega
                  have g8 : (((j + x : Nat) : Int) != ((j + x : Nat) : Int)) = false := by simp
                  have g9 : decide ((0 : Int) < ((m + 1 : Nat) : Int)) = true := decide_eq_true (by omega)
                  have g10 : (((m + 1 : Nat) : Int) == 0) = false := by rw [beq_eq_false_iff_ne]; omega
                  have g11 : IntKind.i64.wrap (((m + 1 : Nat) : Int) + 1) = ((m + 1 + 1 : Nat) : Int) := by rw [IntWalk.i64_in _ (by omega)]; omega
                  have g12 : decide (0 < m + 1) = true := by simp
                  have g13 : (m + 1 == 0) = false := by simp
                  have g14 : decide (m + 1 = 0) = false := by simp
                  have g15 : ¬ m + 1 = 0 := by omega
                  have g16 : 0 < m + 1 := by omega
                  generalize hmm : m + 1 = M at *
                  clear hmm
                  go_upto_region 33 with fail
                  go_quiet (fail)
                  go_wp2
                  exact ⟨⟨M + 1, by simp, by omega, hBm.trans ⟨rfl, rfl, rfl, Nat.le_refl _, fun _ _ => rfl⟩⟩, by simp [intOf]; omega⟩
              · replace hHB := hHB.trans (hBm.mono hHB.size)
                have g1 : decide ((m : Int) < S.length) = false := by simp; omega
                have g1' : decide (m < S.length) = false := by simp; omega
                go_wp2_with (go_at_call 4; refine (hal _).mono ?_; rintro e V6 ⟨rfl, hb⟩; replace hHB := hHB.trans (hb.mono hHB.size); clear hb)
                go_returns
                exact ⟨rfl, hHB⟩
  · generalize (chkM L).1 = at1 at kc
    generalize (chkM L).2 = e1 at kc hc
    have kc2 : Calls Try.prog 5 #[.slice p0 L.length c0] w fun e w' => ∃ v : Value, e = .returned (.tuple #[v, .int .i64 at1, .int .i64 e1]) ∧ Below w.heap.size w w' := kc.mono fun e w' h => by
      obtain ⟨v, rfl, _, _, hb⟩ := h
      exact ⟨v, rfl, hb⟩
    have hne : (e1 != 0) = true := by simpa using hc
    clear kc hc
    go_enter Try.func3, Try.ntmps3
    go_wp2_with first | (go_at_call 5; refine kc2.mono ?_; rintro e w1 ⟨v1, rfl, HB⟩) | (go_at_call 4; refine (hal _).mono ?_; rintro e V6 ⟨rfl, hb⟩; replace HB := HB.trans (hb.mono HB.size); clear hb)
    go_returns
    exact ⟨rfl, HB⟩
end Go.Proofs.Ytdmdmbcapjmnlab
end
