/- Towards the statement InsnTouches: the row of what is read and what is written, asked of both. -/
import Derived.Test.YthbmgfnifolcbaaIN
namespace Go.Proofs.Ythbmgfnifolcbaa
open Go.ChangeShapes Go.WideShapes Go.ChangeAt Go.RowKit
set_option linter.unusedVariables false
set_option linter.unusedSimpArgs false
set_option maxRecDepth 20000

theorem rise_len {l : List Int} (h : l.length ≤ 2) : (riseL l).length ≤ 2 := by
  match l, h with
  | [], _ => simp [riseL]
  | [x], _ => simp [riseL]
  | [x, y], _ => rw [riseL]; split <;> simp
theorem rdL_len (k o d s : Int) : (rdL k o d s).length ≤ 2 := by
  have h := secL_len o s
  have h1 : (riseL (secL o s)).length ≤ 2 := rise_len (by omega)
  have h2 : (riseL (secL o s ++ [d])).length ≤ 2 := rise_len (by simp; omega)
  have h3 : (riseL [d, s]).length ≤ 2 := rise_len (by simp)
  unfold rdL
  repeat' split
  all_goals first | assumption | simp
/-- What operation j of the region leaves. -/
def tcP (B : Nat) (o d s f i wv : Int) (wb : Bool) (j : Nat) (v : Value) (w : World) : Prop :=
  match j with
  | 0 => v = .int .u8 wv
  | 1 => v = .int .u8 wv
  | 2 => v = .bool true
  | 3 => v = .bool true
  | 4 => v = .bool wb
  | 5 => v = .bool wb
  | 6 => v = .bool true
  | 7 => v = .bool true
  | 8 => v = .bool true
  | 9 => v = ins o d s f i
  | 10 => Bytes8 w.heap.size w v (rdL (kV o d s f i) o d s)
  | 11 => v = ins o d s f i
  | 12 => Bytes8 w.heap.size w v (rdL (kV o d s f i) o d s)
  | 13 => v = .bool true
  | 14 => v = .bool true
  | 15 => v = .bool true
  | 16 => v = .bool true
  | 17 => v = .bool true
  | 18 => v = .bool true
  | _ => True
def tcD : Nat → Nat
  | 0 => 17 | 1 => 18 | 2 => 19 | 3 => 20 | 4 => 21 | 5 => 22 | 6 => 23 | 7 => 24 | 8 => 25 | 9 => 26 | 10 => 27 | 11 => 28 | 12 => 29 | 13 => 30 | 14 => 31 | 15 => 32 | 16 => 33 | 17 => 34 | 18 => 2 | _ => 0
def tcB (B : Nat) (o d s f i wv : Int) (wb : Bool) : Nat → Option Value
  | 1 => some (.pointer (some ⟨B, 0, none⟩)) | 3 => some (.int .u8 wv) | 4 => some (.bool wb) | 5 => some (.int .u8 wv) | 6 => some (.bool wb) | _ => none
theorem tc_mono (B : Nat) (o d s f i wv : Int) (wb : Bool) : ∀ jj v w w', tcP B o d s f i wv wb jj v w → Below w.heap.size w w' → tcP B o d s f i wv wb jj v w' := by
  intro jj v w w' h hb
  unfold tcP at h ⊢
  split at h
  · exact h
  · exact h
  · exact h
  · exact h
  · exact h
  · exact h
  · exact h
  · exact h
  · exact h
  · exact h
  · exact bytes_grow h hb
  · exact h
  · exact bytes_grow h hb
  · exact h
  · exact h
  · exact h
  · exact h
  · exact h
  · exact h
  · trivial
theorem tc_ne : ∀ i j, i < 19 → j < 19 → j ≠ i → tcD j ≠ tcD i := by
  have : ∀ i : Fin 19, ∀ j : Fin 19, j ≠ i → tcD j.val ≠ tcD i.val := by decide +kernel
  exact fun i j hi hj h => this ⟨i, hi⟩ ⟨j, hj⟩ (by simpa using h)
theorem tc_no (B : Nat) (o d s f i wv : Int) (wb : Bool) : ∀ jj, jj < 19 → tcB B o d s f i wv wb (tcD jj) = none ∧ tcD jj < 35 := by
  intro jj hi
  rcases (show jj = 0 ∨ jj = 1 ∨ jj = 2 ∨ jj = 3 ∨ jj = 4 ∨ jj = 5 ∨ jj = 6 ∨ jj = 7 ∨ jj = 8 ∨ jj = 9 ∨ jj = 10 ∨ jj = 11 ∨ jj = 12 ∨ jj = 13 ∨ jj = 14 ∨ jj = 15 ∨ jj = 16 ∨ jj = 17 ∨ jj = 18 by omega) with rfl | rfl | rfl | rfl | rfl | rfl | rfl | rfl | rfl | rfl | rfl | rfl | rfl | rfl | rfl | rfl | rfl | rfl | rfl
  all_goals exact ⟨rfl, by decide⟩
set_option maxHeartbeats 4000000 in
theorem tc (B : Nat) (o d s f i wv : Int) (wb : Bool) (h0 : 0 ≤ o) (h1 : o ≤ 255) (d0 : 0 ≤ d) (d1 : d ≤ 255) (s0 : 0 ≤ s) (s1 : s ≤ 255) (W : World) (HB : At5 W B o d s f i) (Q : Exit → Act → World → Prop) (a : Act) (hsz : a.tmps.size = 35) (hdf : a.defers = []) (t1 : a.tmps[1]? = some (.pointer (some ⟨B, 0, none⟩))) (t3 : a.tmps[3]? = some (.int .u8 wv)) (t4 : a.tmps[4]? = some (.bool wb)) (t5 : a.tmps[5]? = some (.int .u8 wv)) (t6 : a.tmps[6]? = some (.bool wb))
    (hQ : ∀ a' w' v, a'.tmps.size = 35 → a'.defers = [] → a'.tmps[2]? = some v → tcP B o d s f i wv wb 18 v w' → Below W.heap.size W w' → Q .normal a' w') :
    (Code.region 3 #[{ dst := some 17, op := Op.move (Operand.tmp 3), type := 5, pos := "law.go:49", after := #[], guard := none }, { dst := some 18, op := Op.move (Operand.tmp 5), type := 5, pos := "law.go:49", after := #[], guard := none }, { dst := some 19, op := Op.binOp BinOp.eql 5 (Operand.tmp 17) (Operand.tmp 18) 5, type := 4, pos := "law.go:49", after := #[{ on := 0, ground := Ground.data }, { on := 1, ground := Ground.data }], guard := none }, { dst := some 20, op := Op.move (Operand.tmp 19), type := 4, pos := "law.go:49", after := #[{ on := 2, ground := Ground.data }], guard := none }, { dst := some 21, op := Op.move (Operand.tmp 4), type := 4, pos := "law.go:49", after := #[{ on := 3, ground := Ground.guard }], guard := some (3, true) }, { dst := some 22, op := Op.move (Operand.tmp 6), type := 4, pos := "law.go:49", after := #[{ on := 3, ground := Ground.guard }], guard := some (3, true) }, { dst := some 23, op := Op.binOp BinOp.eql 4 (Operand.tmp 21) (Operand.tmp 22) 4, type := 4, pos := "law.go:49", after := #[{ on := 4, ground := Ground.data }, { on := 5, ground := Ground.data }, { on := 3, ground := Ground.guard }], guard := some (3, true) }, { dst := some 24, op := Op.pick (Operand.tmp 20) (Operand.tmp 23) (Operand.const (Value.bool false)), type := 4, pos := "law.go:49", after := #[{ on := 3, ground := Ground.data }, { on := 6, ground := Ground.data }], guard := none }, { dst := some 25, op := Op.move (Operand.tmp 24), type := 4, pos := "law.go:49", after := #[{ on := 7, ground := Ground.data }, { on := 3, ground := Ground.chain }], guard := none }, { dst := some 26, op := Op.load 24 (Operand.tmp 1), type := 24, pos := "law.go:49", after := #[{ on := 8, ground := Ground.guard }], guard := some (8, true) }, { dst := some 27, op := Op.call { callee := Callee.value (Operand.func 24), args := #[Operand.tmp 26], argTypes := #[24] }, type := 39, pos := "law.go:49", after := #[{ on := 9, ground := Ground.data }, { on := 8, ground := Ground.chain }, { on := 8, ground := Ground.guard }], guard := some (8, true) }, { dst := some 28, op := Op.load 24 (Operand.tmp 1), type := 24, pos := "law.go:49", after := #[{ on := 8, ground := Ground.guard }], guard := some (8, true) }, { dst := some 29, op := Op.call { callee := Callee.value (Operand.func 25), args := #[Operand.tmp 28], argTypes := #[24] }, type := 39, pos := "law.go:49", after := #[{ on := 11, ground := Ground.data }, { on := 10, ground := Ground.chain }, { on := 8, ground := Ground.guard }], guard := some (8, true) }, { dst := some 30, op := Op.call { callee := Callee.value (Operand.func 23), args := #[Operand.tmp 27, Operand.tmp 29], argTypes := #[39, 39] }, type := 4, pos := "law.go:49", after := #[{ on := 10, ground := Ground.data }, { on := 12, ground := Ground.data }, { on := 12, ground := Ground.chain }, { on := 8, ground := Ground.guard }], guard := some (8, true) }, { dst := some 31, op := Op.pick (Operand.tmp 25) (Operand.tmp 30) (Operand.const (Value.bool false)), type := 4, pos := "law.go:49", after := #[{ on := 8, ground := Ground.data }, { on := 13, ground := Ground.data }], guard := none }, { dst := some 32, op := Op.move (Operand.tmp 31), type := 4, pos := "law.go:49", after := #[{ on := 14, ground := Ground.data }, { on := 13, ground := Ground.chain }], guard := none }, { dst := some 33, op := Op.call { callee := Callee.value (Operand.func 8), args := #[], argTypes := #[] }, type := 4, pos := "law.go:49", after := #[{ on := 15, ground := Ground.chain }, { on := 15, ground := Ground.guard }], guard := some (15, true) }, { dst := some 34, op := Op.pick (Operand.tmp 32) (Operand.tmp 33) (Operand.const (Value.bool false)), type := 4, pos := "law.go:49", after := #[{ on := 15, ground := Ground.data }, { on := 16, ground := Ground.data }], guard := none }, { dst := some 2, op := Op.assign (Operand.tmp 34), type := 4, pos := "law.go:49", after := #[{ on := 17, ground := Ground.data }, { on := 16, ground := Ground.chain }, { on := 0, ground := Ground.phase }, { on := 1, ground := Ground.phase }, { on := 2, ground := Ground.phase }, { on := 3, ground := Ground.phase }, { on := 4, ground := Ground.phase }, { on := 5, ground := Ground.phase }, { on := 6, ground := Ground.phase }, { on := 7, ground := Ground.phase }, { on := 8, ground := Ground.phase }, { on := 9, ground := Ground.phase }, { on := 10, ground := Ground.phase }, { on := 11, ground := Ground.phase }, { on := 12, ground := Ground.phase }, { on := 13, ground := Ground.phase }, { on := 14, ground := Ground.phase }, { on := 15, ground := Ground.phase }, { on := 16, ground := Ground.phase }, { on := 17, ground := Ground.phase }], guard := none }] true).wp Try.prog Q a W := by
  refine wp_region_inv (by kernel_rfl) (Slots 35 (tcB B o d s f i wv wb) 19 tcD (tcP B o d s f i wv wb) W) (by kernel_rfl) ⟨hsz, hdf, ?bs, (Below.refl _ _).drew, fun j _ h => by simp at h⟩ ?step ?fin
  case bs =>
    intro k v hk
    unfold tcB at hk
    split at hk
    · cases hk; exact t1
    · cases hk; exact t3
    · cases hk; exact t4
    · cases hk; exact t5
    · cases hk; exact t6
    · cases hk
  case fin =>
    intro L a' w' hL h
    obtain ⟨v, hv, hp⟩ := h.sl 18 (by omega) (hL 18 (by decide))
    exact hQ a' w' v h.size h.defs hv hp h.bel
  case step =>
    refine allOps_cons 0 ?_ ?_
    · refine keeps_free rfl ?_
      intro L a w hL hd h
      have ev3 := h.base_ev 3 _ rfl
      unfold Oper.wp
      simp only [execOp, ev3]
      go_simp
      exact h.step (tc_mono B o d s f i wv wb) tc_ne (tc_no B o d s f i wv wb) 0 (by omega) _ (Below.refl _ _) rfl
    refine allOps_cons 1 ?_ ?_
    · refine keeps_free rfl ?_
      intro L a w hL hd h
      have ev5 := h.base_ev 5 _ rfl
      unfold Oper.wp
      simp only [execOp, ev5]
      go_simp
      exact h.step (tc_mono B o d s f i wv wb) tc_ne (tc_no B o d s f i wv wb) 1 (by omega) _ (Below.refl _ _) rfl
    refine allOps_cons 2 ?_ ?_
    · refine keeps_free rfl ?_
      intro L a w hL hd h
      obtain ⟨e0, e1, -⟩ := hd
      obtain ⟨v0, ev1017, rfl, t1017⟩ := h.get 0 17 (by omega) (e0 rfl) rfl
      obtain ⟨v1, ev1018, rfl, t1018⟩ := h.get 1 18 (by omega) (e1 rfl) rfl
      unfold Oper.wp
      simp only [execOp, ev1017, ev1018]
      go_simp
      exact h.step (tc_mono B o d s f i wv wb) tc_ne (tc_no B o d s f i wv wb) 2 (by omega) _ (Below.refl _ _) rfl
    refine allOps_cons 3 ?_ ?_
    · refine keeps_free rfl ?_
      intro L a w hL hd h
      obtain ⟨e0, -⟩ := hd
      obtain ⟨v2, ev1019, rfl, t1019⟩ := h.get 2 19 (by omega) (e0 rfl) rfl
      unfold Oper.wp
      simp only [execOp, ev1019]
      go_simp
      exact h.step (tc_mono B o d s f i wv wb) tc_ne (tc_no B o d s f i wv wb) 3 (by omega) _ (Below.refl _ _) rfl
    refine allOps_cons 4 ?_ ?_
    · refine keeps_yes ?_
      intro L a w hL hd h
      have ev4 := h.base_ev 4 _ rfl
      obtain ⟨e0, -⟩ := hd
      obtain ⟨v3, ev1020, rfl, t1020⟩ := h.get 3 20 (by omega) (e0 rfl) rfl
      refine ⟨wanted_of rfl rfl rfl t1020 rfl rfl, ?_⟩
      unfold Oper.wp
      simp only [execOp, ev4]
      go_simp
      exact h.step (tc_mono B o d s f i wv wb) tc_ne (tc_no B o d s f i wv wb) 4 (by omega) _ (Below.refl _ _) rfl
    refine allOps_cons 5 ?_ ?_
    · refine keeps_yes ?_
      intro L a w hL hd h
      have ev6 := h.base_ev 6 _ rfl
      obtain ⟨e0, -⟩ := hd
      obtain ⟨v3, ev1020, rfl, t1020⟩ := h.get 3 20 (by omega) (e0 rfl) rfl
      refine ⟨wanted_of rfl rfl rfl t1020 rfl rfl, ?_⟩
      unfold Oper.wp
      simp only [execOp, ev6]
      go_simp
      exact h.step (tc_mono B o d s f i wv wb) tc_ne (tc_no B o d s f i wv wb) 5 (by omega) _ (Below.refl _ _) rfl
    refine allOps_cons 6 ?_ ?_
    · refine keeps_yes ?_
      intro L a w hL hd h
      obtain ⟨e0, e1, e2, -⟩ := hd
      obtain ⟨v3, ev1020, rfl, t1020⟩ := h.get 3 20 (by omega) (e2 rfl) rfl
      obtain ⟨v4, ev1021, rfl, t1021⟩ := h.get 4 21 (by omega) (e0 rfl) rfl
      obtain ⟨v5, ev1022, rfl, t1022⟩ := h.get 5 22 (by omega) (e1 rfl) rfl
      refine ⟨wanted_of rfl rfl rfl t1020 rfl rfl, ?_⟩
      unfold Oper.wp
      simp only [execOp, ev1021, ev1022]
      go_simp
      exact h.step (tc_mono B o d s f i wv wb) tc_ne (tc_no B o d s f i wv wb) 6 (by omega) _ (Below.refl _ _) rfl
    refine allOps_cons 7 ?_ ?_
    · refine keeps_free rfl ?_
      intro L a w hL hd h
      obtain ⟨e0, e1, -⟩ := hd
      obtain ⟨v3, ev1020, rfl, t1020⟩ := h.get 3 20 (by omega) (e0 rfl) rfl
      obtain ⟨v6, ev1023, rfl, t1023⟩ := h.get 6 23 (by omega) (e1 rfl) rfl
      unfold Oper.wp
      simp only [execOp, ev1020, ev1023]
      go_simp
      exact h.step (tc_mono B o d s f i wv wb) tc_ne (tc_no B o d s f i wv wb) 7 (by omega) _ (Below.refl _ _) rfl
    refine allOps_cons 8 ?_ ?_
    · refine keeps_free rfl ?_
      intro L a w hL hd h
      obtain ⟨e0, -⟩ := hd
      obtain ⟨v7, ev1024, rfl, t1024⟩ := h.get 7 24 (by omega) (e0 rfl) rfl
      unfold Oper.wp
      simp only [execOp, ev1024]
      go_simp
      exact h.step (tc_mono B o d s f i wv wb) tc_ne (tc_no B o d s f i wv wb) 8 (by omega) _ (Below.refl _ _) rfl
    refine allOps_cons 9 ?_ ?_
    · refine keeps_yes ?_
      intro L a w hL hd h
      have ev1 := h.base_ev 1 _ rfl
      obtain ⟨e0, -⟩ := hd
      obtain ⟨v8, ev1025, rfl, t1025⟩ := h.get 8 25 (by omega) (e0 rfl) rfl
      refine ⟨wanted_of rfl rfl rfl t1025 rfl rfl, ?_⟩
      obtain ⟨c0, c1, c2, c3, c4⟩ := (At5.below HB h.bel).cells
      unfold Oper.wp
      simp only [execOp, ev1]
      go_simp
      exact h.step (tc_mono B o d s f i wv wb) tc_ne (tc_no B o d s f i wv wb) 9 (by omega) _ (Below.refl _ _) rfl
    refine allOps_cons 10 ?_ ?_
    · refine keeps_yes ?_
      intro L a w hL hd h
      obtain ⟨e0, e1, -⟩ := hd
      obtain ⟨v8, ev1025, rfl, t1025⟩ := h.get 8 25 (by omega) (e1 rfl) rfl
      obtain ⟨v9, ev1026, rfl, t1026⟩ := h.get 9 26 (by omega) (e0 rfl) rfl
      refine ⟨wanted_of rfl rfl rfl t1025 rfl rfl, ?_⟩
      refine wp_call1 rfl ev1026 (by go_simp) ?_
      refine (reads_any _ _ _ _ _ h0 h1 d0 d1 s0 s1 _).mono ?_
      rintro e w' ⟨v, rfl, hv, hb⟩
      exact ⟨v, rfl, h.step (tc_mono B o d s f i wv wb) tc_ne (tc_no B o d s f i wv wb) 10 (by omega) v hb hv⟩
    refine allOps_cons 11 ?_ ?_
    · refine keeps_yes ?_
      intro L a w hL hd h
      have ev1 := h.base_ev 1 _ rfl
      obtain ⟨e0, -⟩ := hd
      obtain ⟨v8, ev1025, rfl, t1025⟩ := h.get 8 25 (by omega) (e0 rfl) rfl
      refine ⟨wanted_of rfl rfl rfl t1025 rfl rfl, ?_⟩
      obtain ⟨c0, c1, c2, c3, c4⟩ := (At5.below HB h.bel).cells
      unfold Oper.wp
      simp only [execOp, ev1]
      go_simp
      exact h.step (tc_mono B o d s f i wv wb) tc_ne (tc_no B o d s f i wv wb) 11 (by omega) _ (Below.refl _ _) rfl
    refine allOps_cons 12 ?_ ?_
    · refine keeps_yes ?_
      intro L a w hL hd h
      obtain ⟨e0, -, e2, -⟩ := hd
      obtain ⟨v8, ev1025, rfl, t1025⟩ := h.get 8 25 (by omega) (e2 rfl) rfl
      obtain ⟨v11, ev1028, rfl, t1028⟩ := h.get 11 28 (by omega) (e0 rfl) rfl
      refine ⟨wanted_of rfl rfl rfl t1025 rfl rfl, ?_⟩
      refine wp_call1 rfl ev1028 (by go_simp) ?_
      refine (rreads_any _ _ _ _ _ h0 h1 d0 d1 s0 s1 _).mono ?_
      rintro e w' ⟨v, rfl, hv, hb⟩
      exact ⟨v, rfl, h.step (tc_mono B o d s f i wv wb) tc_ne (tc_no B o d s f i wv wb) 12 (by omega) v hb hv⟩
    refine allOps_cons 13 ?_ ?_
    · refine keeps_yes ?_
      intro L a w hL hd h
      obtain ⟨e0, e1, -, e3, -⟩ := hd
      obtain ⟨v8, ev1025, rfl, t1025⟩ := h.get 8 25 (by omega) (e3 rfl) rfl
      obtain ⟨v10, ev1027, hp10, t1027⟩ := h.get 10 27 (by omega) (e0 rfl) rfl
      obtain ⟨v12, ev1029, hp12, t1029⟩ := h.get 12 29 (by omega) (e1 rfl) rfl
      refine ⟨wanted_of rfl rfl rfl t1025 rfl rfl, ?_⟩
      refine wp_call2 rfl ev1027 ev1029 (by go_simp) ?_
      refine (regs_any _ (rdL_len _ _ _ _) _ _ _ hp10 hp12).mono ?_
      rintro e w' ⟨rfl, hb⟩
      exact ⟨_, rfl, h.step (tc_mono B o d s f i wv wb) tc_ne (tc_no B o d s f i wv wb) 13 (by omega) _ hb rfl⟩
    refine allOps_cons 14 ?_ ?_
    · refine keeps_free rfl ?_
      intro L a w hL hd h
      obtain ⟨e0, e1, -⟩ := hd
      obtain ⟨v8, ev1025, rfl, t1025⟩ := h.get 8 25 (by omega) (e0 rfl) rfl
      obtain ⟨v13, ev1030, rfl, t1030⟩ := h.get 13 30 (by omega) (e1 rfl) rfl
      unfold Oper.wp
      simp only [execOp, ev1025, ev1030]
      go_simp
      exact h.step (tc_mono B o d s f i wv wb) tc_ne (tc_no B o d s f i wv wb) 14 (by omega) _ (Below.refl _ _) rfl
    refine allOps_cons 15 ?_ ?_
    · refine keeps_free rfl ?_
      intro L a w hL hd h
      obtain ⟨e0, -⟩ := hd
      obtain ⟨v14, ev1031, rfl, t1031⟩ := h.get 14 31 (by omega) (e0 rfl) rfl
      unfold Oper.wp
      simp only [execOp, ev1031]
      go_simp
      exact h.step (tc_mono B o d s f i wv wb) tc_ne (tc_no B o d s f i wv wb) 15 (by omega) _ (Below.refl _ _) rfl
    refine allOps_cons 16 ?_ ?_
    · refine keeps_yes ?_
      intro L a w hL hd h
      obtain ⟨e0, -⟩ := hd
      obtain ⟨v15, ev1032, rfl, t1032⟩ := h.get 15 32 (by omega) (e0 rfl) rfl
      refine ⟨wanted_of rfl rfl rfl t1032 rfl rfl, ?_⟩
      refine wp_call0 rfl (by go_simp) ?_
      refine (alive_any _).mono ?_
      rintro e w' ⟨rfl, hb⟩
      exact ⟨_, rfl, h.step (tc_mono B o d s f i wv wb) tc_ne (tc_no B o d s f i wv wb) 16 (by omega) _ hb rfl⟩
    refine allOps_cons 17 ?_ ?_
    · refine keeps_free rfl ?_
      intro L a w hL hd h
      obtain ⟨e0, e1, -⟩ := hd
      obtain ⟨v15, ev1032, rfl, t1032⟩ := h.get 15 32 (by omega) (e0 rfl) rfl
      obtain ⟨v16, ev1033, rfl, t1033⟩ := h.get 16 33 (by omega) (e1 rfl) rfl
      unfold Oper.wp
      simp only [execOp, ev1032, ev1033]
      go_simp
      exact h.step (tc_mono B o d s f i wv wb) tc_ne (tc_no B o d s f i wv wb) 17 (by omega) _ (Below.refl _ _) rfl
    refine allOps_cons 18 ?_ ?_
    · refine keeps_free rfl ?_
      intro L a w hL hd h
      obtain ⟨e0, -⟩ := hd
      obtain ⟨v17, ev1034, rfl, t1034⟩ := h.get 17 34 (by omega) (e0 rfl) rfl
      unfold Oper.wp
      simp only [execOp, ev1034]
      go_simp
      exact h.step (tc_mono B o d s f i wv wb) tc_ne (tc_no B o d s f i wv wb) 18 (by omega) _ (Below.refl _ _) rfl
    exact allOps_nil 19
end Go.Proofs.Ythbmgfnifolcbaa
