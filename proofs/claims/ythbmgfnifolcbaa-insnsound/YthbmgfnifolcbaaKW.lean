/- Towards the statements of package insn (layer 7): which registers an instruction reads: contract of Reads, the program's, for every instruction. -/
import Derived.Test.YthbmgfnifolcbaaRI
import Derived.Laws.OwnMore
import Derived.Lib.SmallJoins
namespace Go.Proofs.Ythbmgfnifolcbaa
open Go.ChangeShapes Go.WideShapes Go.ChangeAt Go.RowKit Go.Joins
set_option linter.unusedVariables false
set_option linter.unusedSimpArgs false
set_option maxRecDepth 20000

/-- A slice of bytes in a row of its own, of blocks from B on. -/
def Sec (B : Nat) (w : World) (v : Value) (xs : List Int) : Prop := w.ownsRow B 5 1 v xs.length (xs.map (Value.int .u8))
theorem Sec.bytes {B : Nat} {w : World} {v : Value} {xs : List Int} (h : Sec B w v xs) : Bytes8 w.heap.size w v xs := by
  obtain ⟨_, h⟩ := h
  rcases h with ⟨rfl, h⟩ | ⟨g, cap, cur, hv, hb, hg, hc, _, hs, ht⟩
  · exact .inl ⟨rfl, List.length_eq_zero_iff.1 h⟩
  · refine .inr ⟨g, 0, cap, hv, ?_, fun j hj => ?_⟩
    · rcases Nat.lt_or_ge g w.heap.size with h | h
      · exact h
      · rw [Array.getElem?_eq_none h] at hg; cases hg
    · rw [Nat.zero_add]
      refine cell_of hg ?_
      have := congrArg (fun l => l[j]?) ht
      simp only [Nat.mul_one, List.getElem?_take, hj, if_true, List.getElem?_map] at this
      rw [← Array.getElem?_toList, this]
      simp [hj]
theorem Sec.mono {B B' : Nat} {w : World} {v : Value} {xs : List Int} (h : Sec B w v xs) (hb : B' ≤ B) : Sec B' w v xs := ownsRow_le h hb
theorem Sec.below {B : Nat} {w w' : World} {v : Value} {xs : List Int} (h : Sec B w v xs) (hb : Below w.heap.size w w') : Sec B w' v xs := by
  obtain ⟨h0, h⟩ := h
  refine ⟨h0, ?_⟩
  rcases h with h | ⟨g, cap, cur, hv, hbb, hg, rest⟩
  · exact .inl h
  · refine .inr ⟨g, cap, cur, hv, hbb, (hb.block g ?_).trans hg, rest⟩
    rcases Nat.lt_or_ge g w.heap.size with h | h
    · exact h
    · rw [Array.getElem?_eq_none h] at hg; cases hg
def secL (o s : Int) : List Int := if xB o = true then [s] else []
theorem secL_len (o s : Int) : (secL o s).length ≤ 1 := by rw [secL]; split <;> simp
theorem second_any (o d s f i : Int) (h0 : 0 ≤ o) (h1 : o ≤ 255) (w : World) : Calls Try.prog 41 #[ins o d s f i] w fun e w' => ∃ v, e = .returned v ∧ Sec w.heap.size w' v (secL o s) ∧ Below w.heap.size w w' := by
  cases hx : xB o with
  | true =>
    have e1 : secL o s = [s] := by simp [secL, hx]
    rw [e1]
    clear e1
    go_enter Try.func41, Try.ntmps41
    go_wp2_with (first | (go_at_call 57; refine (hasX_any _ h0 h1 _).mono ?_; rw [hx]; rintro e w' ⟨rfl, hw⟩; rw [hw]; clear hw w'))
    go_returns
    refine ⟨_, rfl, ⟨by simp, .inr ⟨w.heap.size + 1, 1, #[.int .u8 s], rfl, by omega, ?_, by simp, by decide, by simp, by simp⟩⟩, ((Below.refl _ w).alloc (Nat.le_refl _) _).alloc (by simp) _⟩
    show ((w.heap.push _).push _)[w.heap.size + 1]? = _
    rw [show w.heap.size + 1 = (w.heap.push (Obj.cells #[Value.int IntKind.u8 o, Value.int IntKind.u8 d, Value.int IntKind.u8 s, Value.int IntKind.i16 f, Value.int IntKind.i32 i] 24)).size by simp, Array.getElem?_push_size]
  | false =>
    have e1 : secL o s = [] := by simp [secL, hx]
    rw [e1]
    clear e1
    go_enter Try.func41, Try.ntmps41
    go_wp2_with (first | (go_at_call 57; refine (hasX_any _ h0 h1 _).mono ?_; rw [hx]; rintro e w' ⟨rfl, hw⟩; rw [hw]; clear hw w'))
    go_returns
    exact ⟨_, rfl, World.ownsRow_nil _ _ _ _, (Below.refl _ w).alloc (Nat.le_refl _) _⟩
theorem At5.lt {w : World} {b : Nat} {o d s f i : Int} (h : At5 w b o d s f i) : b < w.heap.size := by
  rcases Nat.lt_or_ge b w.heap.size with h' | h'
  · exact h'
  · rw [At5, Array.getElem?_eq_none h'] at h; cases h
theorem At5.below {w w' : World} {b : Nat} {o d s f i : Int} (h : At5 w b o d s f i) (hb : Below w.heap.size w w') : At5 w' b o d s f i := (hb.block _ h.lt).trans h

/-- The slot of the region's operation j. -/
def dst10 : Nat → Nat
  | 0 => 23 | 1 => 24 | 2 => 25 | 3 => 26 | 4 => 27 | 5 => 28 | 6 => 29 | _ => 2
def P10 (W : World) (B : Nat) (o d s f i : Int) (j : Nat) (v : Value) (w : World) : Prop :=
  match j with
  | 0 => v = ins o d s f i
  | 1 => Sec W.heap.size w v (secL o s)
  | 2 => v = .pointer (some ⟨B, 1, none⟩)
  | 3 => v = .int .u8 d
  | 4 => ∃ g, v = .slice (some ⟨g, 0, none⟩) 1 1 ∧ g < w.heap.size ∧ w.cell? ⟨g, 0, none⟩ = some (.int .u8 d)
  | 5 => Bytes8 w.heap.size w v (secL o s ++ [d])
  | _ => Bytes8 w.heap.size w v (riseL (secL o s ++ [d]))
theorem bytes_grow {w w' : World} {v : Value} {xs : List Int} (h : Bytes8 w.heap.size w v xs) (hb : Below w.heap.size w w') : Bytes8 w'.heap.size w' v xs := bytes_mono (h.below hb) hb.size
theorem P10.below {W : World} {B : Nat} {o d s f i : Int} {j : Nat} {v : Value} {w w' : World} (h : P10 W B o d s f i j v w) (hb : Below w.heap.size w w') : P10 W B o d s f i j v w' := by
  unfold P10 at h ⊢
  split at h
  · exact h
  · exact Sec.below h hb
  · exact h
  · exact h
  · obtain ⟨g, hv, hg, hc⟩ := h
    exact ⟨g, hv, Nat.lt_of_lt_of_le hg hb.size, (hb.cell (p := ⟨g, 0, none⟩) hg).trans hc⟩
  · exact bytes_grow h hb
  · exact bytes_grow h hb
/-- Whom the region's operations wait for. -/
def depE (j k : Nat) : Bool := [(1, 0), (3, 2), (4, 3), (5, 1), (5, 4), (6, 5), (7, 6)].contains (j, k)
/-- Where the region of 'append(second(i), i.Dst)' stands, whatever of it has been done. -/
structure At10 (W : World) (B : Nat) (o d s f i : Int) (L : Nat → Bool) (a : Act) (w : World) : Prop where
  size : a.tmps.size = 46
  defs : a.defers = []
  t1 : a.tmps[1]? = some (.pointer (some ⟨B, 0, none⟩))
  bel : Below W.heap.size W w
  dep : ∀ j k, depE j k = true → L j = true → L k = true
  sl : ∀ j, j < 8 → L j = true → (L 5 = true → 5 ≤ j) → ∃ v, a.tmps[dst10 j]? = some v ∧ P10 W B o d s f i j v w
theorem dst10_ne {i j : Nat} (hi : i < 8) (hj : j < 8) (h : j ≠ i) : dst10 j ≠ dst10 i ∧ dst10 i ≠ 1 ∧ dst10 i < 46 := by
  have : ∀ i : Fin 8, ∀ j : Fin 8, j ≠ i → dst10 j.val ≠ dst10 i.val ∧ dst10 i.val ≠ 1 ∧ dst10 i.val < 46 := by decide
  exact this ⟨i, hi⟩ ⟨j, hj⟩ (by simpa using h)
theorem dst10_lt {i : Nat} (hi : i < 8) : dst10 i ≠ 1 ∧ dst10 i < 46 := by
  have : ∀ i : Fin 8, dst10 i.val ≠ 1 ∧ dst10 i.val < 46 := by decide
  exact this ⟨i, hi⟩
section
variable {W : World} {B : Nat} {o d s f i : Int} {L : Nat → Bool} {a : Act} {w w' : World}
theorem At10.get (h : At10 W B o d s f i L a w) (j : Nat) (hj : j < 8) (hL : L j = true) (h5 : L 5 = true → 5 ≤ j) : ∃ v, a.eval (.tmp (dst10 j)) = v ∧ P10 W B o d s f i j v w := by
  obtain ⟨v, h1, h2⟩ := h.sl j hj hL h5
  exact ⟨v, by simp [Act.eval, h1], h2⟩
theorem At10.free (h : At10 W B o d s f i L a w) (k : Nat) (hk : k < 5) (hL : L k = false) : L 5 = false := by
  cases h5 : L 5 with
  | false => rfl
  | true =>
    have e1 := h.dep 5 1 rfl h5
    have e4 := h.dep 5 4 rfl h5
    have e0 := h.dep 1 0 rfl e1
    have e3 := h.dep 4 3 rfl e4
    have e2 := h.dep 3 2 rfl e3
    rcases (show k = 0 ∨ k = 1 ∨ k = 2 ∨ k = 3 ∨ k = 4 by omega) with rfl | rfl | rfl | rfl | rfl
    all_goals simp_all
theorem dep_upd (h : ∀ j k, depE j k = true → L j = true → L k = true) (n : Nat) (hn : ∀ k, depE n k = true → L k = true) : ∀ j k, depE j k = true → upd L n j = true → upd L n k = true := by
  intro j k hjk hj
  have : L k = true := by
    by_cases e : j = n
    · subst e; exact hn k hjk
    · rw [upd_other L e] at hj; exact h j k hjk hj
  by_cases e : k = n
  · subst e; exact upd_same L k
  · rw [upd_other L e]; exact this
theorem At10.step (h : At10 W B o d s f i L a w) (k : Nat) (hk : k < 8) (v : Value) (hb : Below w.heap.size w w') (hd : ∀ j, depE k j = true → L j = true) (hp : P10 W B o d s f i k v w') : At10 W B o d s f i (upd L k) (a.put (some (dst10 k)) v) w' := by
  obtain ⟨n1, n2⟩ := dst10_lt hk
  refine ⟨by simp [Act.put, h.size], by simp [Act.put, h.defs], ?_, h.bel.trans (hb.mono h.bel.size), dep_upd h.dep k hd, ?_⟩
  · simp only [Act.put]
    rw [Array.getElem?_setIfInBounds_ne n1]
    exact h.t1
  · intro j hj hL h5
    by_cases e : j = k
    · subst e
      exact ⟨v, by simp [Act.put, h.size, n2], hp⟩
    · rw [upd_other L e] at hL
      have h5' : L 5 = true → 5 ≤ j := fun h' => h5 (by by_cases e5 : k = 5; subst e5; simp [upd]; rw [upd_other L (fun h => e5 h.symm)]; exact h')
      obtain ⟨v', h1, h2⟩ := h.sl j hj hL h5'
      refine ⟨v', ?_, h2.below hb⟩
      simp only [Act.put]
      rw [Array.getElem?_setIfInBounds_ne (dst10_ne hk hj e).1.symm]
      exact h1
/-- The append itself: what lay ahead of it is asked no more. -/
theorem At10.step5 (h : At10 W B o d s f i L a w) (h5 : L 5 = false) (v : Value) (hb : Below W.heap.size W w') (hd : ∀ j, depE 5 j = true → L j = true) (hp : P10 W B o d s f i 5 v w') : At10 W B o d s f i (upd L 5) (a.put (some 28) v) w' := by
  refine ⟨by simp [Act.put, h.size], by simp [Act.put, h.defs], ?_, hb, dep_upd h.dep 5 hd, ?_⟩
  · simp only [Act.put]
    rw [Array.getElem?_setIfInBounds_ne (by omega)]
    exact h.t1
  · intro j hj hL h5'
    have hj5 := h5' (by simp [upd])
    by_cases e : j = 5
    · subst e
      exact ⟨v, by simp [Act.put, h.size, dst10], hp⟩
    · rw [upd_other L e] at hL
      exfalso
      have : L 5 = true := by
        rcases (show j = 6 ∨ j = 7 by omega) with rfl | rfl
        · exact h.dep 6 5 rfl hL
        · exact h.dep 6 5 rfl (h.dep 7 6 rfl hL)
      rw [this] at h5; cases h5
theorem dep_none {n : Nat} (hn : ∀ k, depE n k = false) (j : Nat) (h : depE n j = true) : L j = true := by rw [hn j] at h; cases h
end

theorem reg10 (W : World) (B : Nat) (o d s f i : Int) (h0 : 0 ≤ o) (h1 : o ≤ 255) (HB : At5 W B o d s f i) (Q : Exit → Act → World → Prop) (a : Act) (hsz : a.tmps.size = 46) (hdf : a.defers = []) (ht1 : a.tmps[1]? = some (.pointer (some ⟨B, 0, none⟩)))
    (hQ : ∀ a' w' v, a'.tmps.size = 46 → a'.defers = [] → a'.tmps[2]? = some v → Bytes8 w'.heap.size w' v (riseL (secL o s ++ [d])) → Below W.heap.size W w' → Q .normal a' w') :
    (Code.region 10 #[{ dst := some 23, op := Op.load 24 (Operand.tmp 1), type := 24, pos := "insn.go:92", after := #[], guard := none }, { dst := some 24, op := Op.call { callee := Callee.value (Operand.func 41), args := #[Operand.tmp 23], argTypes := #[24] }, type := 39, pos := "insn.go:92", after := #[{ on := 0, ground := Ground.data }], guard := none }, { dst := some 25, op := Op.fieldAddr 24 (Operand.tmp 1) 1, type := 0, pos := "insn.go:92", after := #[], guard := none }, { dst := some 26, op := Op.load 5 (Operand.tmp 25), type := 5, pos := "insn.go:92", after := #[{ on := 2, ground := Ground.data }], guard := none }, { dst := some 27, op := Op.buildSlice 39 1 #[(0, Operand.tmp 26)], type := 39, pos := "insn.go:92", after := #[{ on := 3, ground := Ground.data }], guard := none }, { dst := some 28, op := Op.call { callee := Callee.builtin Builtin.append, args := #[Operand.tmp 24, Operand.tmp 27], argTypes := #[39, 39] }, type := 39, pos := "insn.go:92", after := #[{ on := 1, ground := Ground.data }, { on := 4, ground := Ground.data }, { on := 1, ground := Ground.chain }], guard := none }, { dst := some 29, op := Op.call { callee := Callee.value (Operand.func 40), args := #[Operand.tmp 28], argTypes := #[39] }, type := 39, pos := "insn.go:92", after := #[{ on := 5, ground := Ground.data }, { on := 5, ground := Ground.chain }], guard := none }, { dst := some 2, op := Op.assign (Operand.tmp 29), type := 39, pos := "insn.go:92", after := #[{ on := 6, ground := Ground.data }, { on := 6, ground := Ground.chain }, { on := 0, ground := Ground.phase }, { on := 1, ground := Ground.phase }, { on := 2, ground := Ground.phase }, { on := 3, ground := Ground.phase }, { on := 4, ground := Ground.phase }, { on := 5, ground := Ground.phase }, { on := 6, ground := Ground.phase }], guard := none }] true).wp Try.prog Q a W := by
  refine wp_region_inv (by kernel_rfl) (At10 W B o d s f i) (by kernel_rfl) ⟨hsz, hdf, ht1, (Below.refl _ _).drew, fun j k _ h => by simp at h, fun j _ h => by simp at h⟩ ?step ?fin
  case fin =>
    intro L a' w' hL h
    obtain ⟨v, hv, hp⟩ := h.sl 7 (by omega) (hL 7 (by decide)) (fun _ => by omega)
    exact hQ a' w' v h.size h.defs hv hp h.bel
  case step =>
    refine allOps_cons 0 ?_ ?_
    · refine keeps_free rfl ?_
      intro L a w hL hd h
      obtain ⟨c0, c1, c2, c3, c4⟩ := (At5.below HB h.bel).cells
      refine wp_load_ins rfl (by simp [Act.eval, h.t1]) c0 c1 c2 c3 c4 ?_
      exact h.step 0 (by omega) _ (Below.refl _ _) (fun j hj => by simp [depE] at hj) rfl
    refine allOps_cons 1 ?_ ?_
    · refine keeps_free rfl ?_
      intro L a w hL hd h
      have h5 := h.free 1 (by omega) hL
      obtain ⟨e0, -⟩ := hd
      obtain ⟨v, hv, rfl⟩ := h.get 0 (by omega) (e0 rfl) (fun h => by rw [h5] at h; cases h)
      refine wp_call1 rfl hv (by go_simp) ?_
      refine (second_any o d s f i h0 h1 w).mono ?_
      rintro e w' ⟨v, rfl, hs, hb⟩
      exact ⟨v, rfl, h.step 1 (by omega) v hb (fun j hj => by simp [depE] at hj; subst hj; exact e0 rfl) (hs.mono h.bel.size)⟩
    refine allOps_cons 2 ?_ ?_
    · refine keeps_free rfl ?_
      intro L a w hL hd h
      refine wp_fld rfl (b := B) (by simp [Act.eval, h.t1]) ?_
      exact h.step 2 (by omega) _ (Below.refl _ _) (fun j hj => by simp [depE] at hj) rfl
    refine allOps_cons 3 ?_ ?_
    · refine keeps_free rfl ?_
      intro L a w hL hd h
      have h5 := h.free 3 (by omega) hL
      obtain ⟨e0, -⟩ := hd
      obtain ⟨v, hv, rfl⟩ := h.get 2 (by omega) (e0 rfl) (fun h => by rw [h5] at h; cases h)
      obtain ⟨c0, c1, c2, c3, c4⟩ := (At5.below HB h.bel).cells
      refine wp_load_u8 rfl hv c1 ?_
      exact h.step 3 (by omega) _ (Below.refl _ _) (fun j hj => by simp [depE] at hj; subst hj; exact e0 rfl) rfl
    refine allOps_cons 4 ?_ ?_
    · refine keeps_free rfl ?_
      intro L a w hL hd h
      have h5 := h.free 4 (by omega) hL
      obtain ⟨e0, -⟩ := hd
      obtain ⟨v, hv, rfl⟩ := h.sl 3 (by omega) (e0 rfl) (fun h => by rw [h5] at h; cases h)
      refine wp_lit1 rfl hv ?_
      exact h.step 4 (by omega) _ ((Below.refl _ w).alloc (Nat.le_refl _) _) (fun j hj => by simp [depE] at hj; subst hj; exact e0 rfl) ⟨w.heap.size, rfl, by simp, by simp⟩
    refine allOps_cons 5 ?_ ?_
    · refine keeps_free rfl ?_
      intro L a w hL hd h
      obtain ⟨e0, e1, -⟩ := hd
      obtain ⟨v1, hv1, hs⟩ := h.get 1 (by omega) (e0 rfl) (fun h => by rw [hL] at h; cases h)
      obtain ⟨v4, hv4, g, rfl, hg, hc⟩ := h.get 4 (by omega) (e1 rfl) (fun h => by rw [hL] at h; cases h)
      obtain ⟨i0, hi, hz0, hz1, hz2⟩ := info_parts info5
      have hl := secL_len o s
      have hmx : (4 : Nat) ≤ maxLen := by decide
      refine wp_append_own w (.tmp 24) (.tmp 27) 39 rfl W.heap.size 5 i0 (.int .u8 0) 1 1 Try.underlying39 hi hz0 hz1 hz2 rfl (by decide) v1 (secL o s).length ((secL o s).map (Value.int .u8)) hv1 hs ⟨g, 0, none⟩ 1 1 [.int .u8 d] hv4 rfl (fun j u hj => ?_) (by simp [Value.oneCell']) (by omega) (by omega) h.bel.size ?_
      · cases j with
        | zero => simp at hj; subst hj; exact hc
        | succ n => simp at hj
      · intro v' w' hown hgrow _
        refine h.step5 hL v' (h.bel.grown hgrow h.bel.size (fun k hk => (hs.lt k hk).1)) (fun j hj => by simp [depE] at hj; rcases hj with rfl | rfl; exact e0 rfl; exact e1 rfl) ?_
        refine Sec.bytes (B := W.heap.size) ?_
        simpa [Sec] using hown
    refine allOps_cons 6 ?_ ?_
    · refine keeps_free rfl ?_
      intro L a w hL hd h
      obtain ⟨e0, -⟩ := hd
      obtain ⟨v, hv, hp⟩ := h.get 5 (by omega) (e0 rfl) (fun _ => by omega)
      have hl := secL_len o s
      refine wp_call1 rfl hv (by go_simp) ?_
      refine (rising_any v _ (by simp; omega) w hp).mono ?_
      rintro e w' ⟨v', rfl, hs, hb⟩
      exact ⟨v', rfl, h.step 6 (by omega) v' hb (fun j hj => by simp [depE] at hj; subst hj; exact e0 rfl) hs⟩
    refine allOps_cons 7 ?_ ?_
    · refine keeps_free rfl ?_
      intro L a w hL hd h
      obtain ⟨e0, -⟩ := hd
      have h5 : L 5 = true := h.dep 6 5 rfl (e0 rfl)
      obtain ⟨v, hv, hp⟩ := h.get 6 (by omega) (e0 rfl) (fun _ => by omega)
      refine wp_asg rfl hv ?_
      exact h.step 7 (by omega) v (Below.refl _ _) (fun j hj => by simp [depE] at hj; subst hj; exact e0 rfl) hp
    exact allOps_nil 8
end Go.Proofs.Ythbmgfnifolcbaa
