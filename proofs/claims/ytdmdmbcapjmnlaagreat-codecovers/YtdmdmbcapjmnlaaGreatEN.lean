/- Towards the statements of package insn (layer 7): an instruction's bytes: contracts of Encode, the program's and the document's. -/
import Derived.Test.YtdmdmbcapjmnlaaGreatKZ
namespace Go.Proofs.YtdmdmbcapjmnlaaGreat
open Go.ChangeShapes Go.WideShapes Go.ChangeAt Go.RowKit
open Go.PlainAid (bt get_bt bt_nonneg bt_le bt_end)
set_option linter.unusedVariables false
set_option maxRecDepth 20000
set_option linter.unusedSimpArgs false
set_option maxRecDepth 20000

/-- An instruction's bytes. -/
def encB (o d s f i : Int) : ByteArray := ofB o 1 ++ ofB (d % 16 + 16 * (s % 16)) 1 ++ ofB (f % 18446744073709551616) 2 ++ ofB (i % 18446744073709551616) 4
set_option maxHeartbeats 2000000 in
theorem encode_any (o d s f i : Int) (h0 : 0 ≤ o) (h1 : o ≤ 255) (d0 : 0 ≤ d) (d1 : d ≤ 255) (s0 : 0 ≤ s) (s1 : s ≤ 255) (w : World) : Calls Tryz.prog 35 #[ins o d s f i] w fun e w' => e = .returned (.string (encB o d s f i)) ∧ Gr w w' := by
  have q1 : (ofB o 1).size = 1 := size_ofB (by decide)
  have q2 : (ofB (d % 16 + 16 * (s % 16)) 1).size = 1 := size_ofB (by decide)
  have q3 : (ofB (f % 18446744073709551616) 2).size = 2 := size_ofB (by decide)
  have q4 : (ofB (i % 18446744073709551616) 4).size = 4 := size_ofB (by decide)
  have q5 : (ofB o 1 ++ ofB (d % 16 + 16 * (s % 16)) 1).size = 2 := by rw [ByteArray.size_append, q1, q2]
  have q6 : (ofB o 1 ++ ofB (d % 16 + 16 * (s % 16)) 1 ++ ofB (f % 18446744073709551616) 2).size = 4 := by rw [ByteArray.size_append, q5, q3]
  have wf : IntKind.u64.wrap f = f % 18446744073709551616 := IntKind.wrap_u64 f
  have wi : IntKind.u64.wrap i = i % 18446744073709551616 := IntKind.wrap_u64 i
  go_enter Tryz.func35, Tryz.ntmps35
  go_upto_region 2 with fail
  have HG : Gr w (w.alloc (Obj.cells #[.int .u8 o, .int .u8 d, .int .u8 s, .int .i16 f, .int .i32 i] 53)) := gr1 _ _ _
  have HB := At5.new w o d s f i
  generalize (w.alloc (Obj.cells #[.int .u8 o, .int .u8 d, .int .u8 s, .int .i16 f, .int .i32 i] 53)) = W at HG HB ⊢
  generalize w.heap.size = B at HB ⊢
  have hne : Nonempty (GrBy W) := ⟨⟨W, Gr.refl W⟩⟩
  have c := fun p => (HB.all p).1
  have c' := fun p => (HB.all p).2.1
  have c'' := fun p => (HB.all p).2.2.1
  have c3' := fun p => (HB.all p).2.2.2.1
  have c4' := fun p => (HB.all p).2.2.2.2
  refine wp_region_gr (by kernel_rfl) (by kernel_rfl) ?_
  repeat (first
    | go_big_quiet_skip
    | (go_big_quiet_want; go_big_quiet_op; first
      | go_big_quiet_on
      | (apply Exists.intro
         refine ⟨fun p => ?_, ?_⟩
         · first
           | (go_at_call 60; exact calls_gr (of_any _ (by omega) (by omega) _ _))
         go_big_quiet_on)))
  refine wpQuiet_nil ?_
  intro _ hw'
  obtain ⟨⟨wq, hq⟩, rfl⟩ := hw'
  go_wp2
  go_returns
  exact ⟨rfl, HG.trans hq⟩

theorem conv_row (W : World) (g n c : Nat) (xs : List Int) (hlen : xs.length = n) (hC : ∀ i, i < n → W.cell? ⟨g, i, none⟩ = some (.int .u8 (xs.getD i 0))) :
    (convert 46 9 (.slice (some ⟨g, 0, none⟩) n c)).run Tryz.prog W = .ok (.string (strOfNums xs)) W := by
  refine run_convert_bytes_arg (P := Tryz.prog) _ 46 5 Tryz.underlying46 Tryz.underlying5 _ 0 n c xs hlen (fun i hi => ?_) 9 Tryz.underlying9
  rw [Nat.zero_add]; exact hC i hi
theorem wp_lit2 {o : Oper} {a : Act} {w : World} {K : Act → World → Prop} {Q : Exit → Act → World → Prop} {t u : Nat} {x y : Int} (ho : o.op = .buildSlice 46 2 #[(0, .tmp t), (1, .tmp u)]) (hx : a.tmps[t]? = some (.int .u8 x)) (hy : a.tmps[u]? = some (.int .u8 y))
    (hK : K (a.put o.dst (.slice (some ⟨w.heap.size, 0, none⟩) 2 2)) (w.alloc (.cells #[.int .u8 x, .int .u8 y] 5))) : o.wp Tryz.prog a w K Q := by
  obtain ⟨dst, op, ty, pos, after, guard⟩ := o
  subst ho
  have he : a.eval (.tmp t) = .int .u8 x := by simp [Act.eval, hx]
  have he2 : a.eval (.tmp u) = .int .u8 y := by simp [Act.eval, hy]
  unfold Oper.wp
  simp only [execOp, List.map_toArray, List.map_cons, List.map_nil, he, he2]
  go_simp
  exact hK
theorem wp_conv {o : Oper} {a : Act} {w : World} {K : Act → World → Prop} {Q : Exit → Act → World → Prop} {t : Nat} {g : Nat} {x y : Int} (ho : o.op = .convert 46 9 (.tmp t)) (hx : a.eval (.tmp t) = .slice (some ⟨g, 0, none⟩) 2 2) (hr : R2 w g x y)
    (hK : K (a.put o.dst (.string (strOfNums [x, y]))) w) : o.wp Tryz.prog a w K Q := by
  obtain ⟨dst, op, ty, pos, after, guard⟩ := o
  subst ho
  have hc := conv_row w g 2 2 [x, y] rfl (fun i hi => by
    rcases (show i = 0 ∨ i = 1 by omega) with rfl | rfl
    · simpa using hr.c0
    · simpa using hr.c1)
  unfold Oper.wp
  simp only [execOp, hx, Sem.run_bind, hc, Result.andThen_ok]
  go_simp
  exact hK
theorem wp_call2k {o : Oper} {a : Act} {w : World} {K : Act → World → Prop} {Q : Exit → Act → World → Prop} {f : FuncId} {tys : Array TypeId} {x0 : Operand} {u0 k : Value} (ho : o.op = .call { callee := .value (.func f), args := #[x0, .const k], argTypes := tys }) (e0 : a.eval x0 = u0) (hf : (callFunc f #[u0, k]).run Tryz.prog w = .ok (.enter f #[u0, k]) w)
    (hK : Calls Tryz.prog f #[u0, k] w fun e w' => ∃ v, e = .returned v ∧ K (a.put o.dst v) w') : o.wp Tryz.prog a w K Q := wp_call2 ho e0 rfl hf hK

/-- What operation j of the region leaves. -/
def reP (B : Nat) (o d s f i : Int) (j : Nat) (v : Value) (w : World) : Prop :=
  match j with
  | 0 => v = .pointer (some ⟨B, 0, none⟩)
  | 1 => v = .int .u8 o
  | 2 => v = .pointer (some ⟨B, 1, none⟩)
  | 3 => v = .int .u8 d
  | 4 => v = .int .u8 (d % 16)
  | 5 => v = .pointer (some ⟨B, 2, none⟩)
  | 6 => v = .int .u8 s
  | 7 => v = .int .u8 (s % 16)
  | 8 => v = .int .u8 (s % 16 * 16)
  | 9 => v = .int .u8 (d % 16 + s % 16 * 16)
  | 10 => ∃ g, v = .slice (some ⟨g, 0, none⟩) 2 2 ∧ g < w.heap.size ∧ R2 w g o (d % 16 + s % 16 * 16)
  | 11 => v = .string (strOfNums [o, d % 16 + s % 16 * 16])
  | 12 => v = .pointer (some ⟨B, 3, none⟩)
  | 13 => v = .int .i16 f
  | 14 => v = .int .u64 (f % 18446744073709551616)
  | 15 => v = .string (ofB (f % 18446744073709551616) 2)
  | 16 => v = .string (strOfNums [o, d % 16 + s % 16 * 16] ++ ofB (f % 18446744073709551616) 2)
  | 17 => v = .pointer (some ⟨B, 4, none⟩)
  | 18 => v = .int .i32 i
  | 19 => v = .int .u64 (i % 18446744073709551616)
  | 20 => v = .string (ofB (i % 18446744073709551616) 4)
  | 21 => v = .string (strOfNums [o, d % 16 + s % 16 * 16] ++ ofB (f % 18446744073709551616) 2 ++ ofB (i % 18446744073709551616) 4)
  | 22 => v = .string (strOfNums [o, d % 16 + s % 16 * 16] ++ ofB (f % 18446744073709551616) 2 ++ ofB (i % 18446744073709551616) 4)
  | _ => True
def reD : Nat → Nat
  | 0 => 3 | 1 => 4 | 2 => 5 | 3 => 6 | 4 => 7 | 5 => 8 | 6 => 9 | 7 => 10 | 8 => 11 | 9 => 12 | 10 => 13 | 11 => 14 | 12 => 15 | 13 => 16 | 14 => 17 | 15 => 18 | 16 => 19 | 17 => 20 | 18 => 21 | 19 => 22 | 20 => 23 | 21 => 24 | 22 => 2 | _ => 0
def reB (B : Nat) (o d s f i : Int) : Nat → Option Value
  | 1 => some (.pointer (some ⟨B, 0, none⟩)) | _ => none
theorem re_mono (B : Nat) (o d s f i : Int) : ∀ jj v w w', reP B o d s f i jj v w → Below w.heap.size w w' → reP B o d s f i jj v w' := by
  intro jj v w w' h hb
  unfold reP at h ⊢
  split at h
  · exact h
  · exact h
  · exact h
  · exact h
  · exact h
  · exact h
  · exact h
  · exact h
  · exact h
  · exact h
  · obtain ⟨g, hv, hg, cur, h1, h2, h3⟩ := h; exact ⟨g, hv, Nat.lt_of_lt_of_le hg hb.size, cur, (hb.block g hg).trans h1, h2, h3⟩
  · exact h
  · exact h
  · exact h
  · exact h
  · exact h
  · exact h
  · exact h
  · exact h
  · exact h
  · exact h
  · exact h
  · exact h
  · trivial
theorem re_ne : ∀ i j, i < 23 → j < 23 → j ≠ i → reD j ≠ reD i := by
  have : ∀ i : Fin 23, ∀ j : Fin 23, j ≠ i → reD j.val ≠ reD i.val := by decide +kernel
  exact fun i j hi hj h => this ⟨i, hi⟩ ⟨j, hj⟩ (by simpa using h)
theorem re_no (B : Nat) (o d s f i : Int) : ∀ jj, jj < 23 → reB B o d s f i (reD jj) = none ∧ reD jj < 25 := by
  intro jj hi
  rcases (show jj = 0 ∨ jj = 1 ∨ jj = 2 ∨ jj = 3 ∨ jj = 4 ∨ jj = 5 ∨ jj = 6 ∨ jj = 7 ∨ jj = 8 ∨ jj = 9 ∨ jj = 10 ∨ jj = 11 ∨ jj = 12 ∨ jj = 13 ∨ jj = 14 ∨ jj = 15 ∨ jj = 16 ∨ jj = 17 ∨ jj = 18 ∨ jj = 19 ∨ jj = 20 ∨ jj = 21 ∨ jj = 22 by omega) with rfl | rfl | rfl | rfl | rfl | rfl | rfl | rfl | rfl | rfl | rfl | rfl | rfl | rfl | rfl | rfl | rfl | rfl | rfl | rfl | rfl | rfl | rfl
  all_goals exact ⟨rfl, by decide⟩
set_option maxHeartbeats 4000000 in
theorem re (B : Nat) (o d s f i : Int) (h0 : 0 ≤ o) (h1 : o ≤ 255) (d0 : 0 ≤ d) (d1 : d ≤ 255) (s0 : 0 ≤ s) (s1 : s ≤ 255) (W : World) (HB : At5 W B o d s f i) (Q : Exit → Act → World → Prop) (a : Act) (hsz : a.tmps.size = 25) (hdf : a.defers = []) (t1 : a.tmps[1]? = some (.pointer (some ⟨B, 0, none⟩)))
    (hQ : ∀ a' w' v, a'.tmps.size = 25 → a'.defers = [] → a'.tmps[2]? = some v → reP B o d s f i 22 v w' → Below W.heap.size W w' → Q .normal a' w') :
    (Code.region 1 #[{ dst := some 3, op := Op.fieldAddr 53 (Operand.tmp 1) 0, type := 0, pos := "ref.go:17", after := #[], guard := none }, { dst := some 4, op := Op.load 5 (Operand.tmp 3), type := 5, pos := "ref.go:17", after := #[{ on := 0, ground := Ground.data }], guard := none }, { dst := some 5, op := Op.fieldAddr 53 (Operand.tmp 1) 1, type := 0, pos := "ref.go:17", after := #[], guard := none }, { dst := some 6, op := Op.load 5 (Operand.tmp 5), type := 5, pos := "ref.go:17", after := #[{ on := 2, ground := Ground.data }], guard := none }, { dst := some 7, op := Op.binOp BinOp.rem 5 (Operand.tmp 6) (Operand.const (Value.int IntKind.u8 16)) 5, type := 5, pos := "ref.go:17", after := #[{ on := 3, ground := Ground.data }], guard := none }, { dst := some 8, op := Op.fieldAddr 53 (Operand.tmp 1) 2, type := 0, pos := "ref.go:17", after := #[], guard := none }, { dst := some 9, op := Op.load 5 (Operand.tmp 8), type := 5, pos := "ref.go:17", after := #[{ on := 5, ground := Ground.data }], guard := none }, { dst := some 10, op := Op.binOp BinOp.rem 5 (Operand.tmp 9) (Operand.const (Value.int IntKind.u8 16)) 5, type := 5, pos := "ref.go:17", after := #[{ on := 6, ground := Ground.data }], guard := none }, { dst := some 11, op := Op.binOp BinOp.mul 5 (Operand.tmp 10) (Operand.const (Value.int IntKind.u8 16)) 5, type := 5, pos := "ref.go:17", after := #[{ on := 7, ground := Ground.data }], guard := none }, { dst := some 12, op := Op.binOp BinOp.add 5 (Operand.tmp 7) (Operand.tmp 11) 5, type := 5, pos := "ref.go:17", after := #[{ on := 4, ground := Ground.data }, { on := 8, ground := Ground.data }], guard := none }, { dst := some 13, op := Op.buildSlice 46 2 #[(0, Operand.tmp 4), (1, Operand.tmp 12)], type := 46, pos := "ref.go:17", after := #[{ on := 1, ground := Ground.data }, { on := 9, ground := Ground.data }], guard := none }, { dst := some 14, op := Op.convert 46 9 (Operand.tmp 13), type := 9, pos := "ref.go:17", after := #[{ on := 10, ground := Ground.data }], guard := none }, { dst := some 15, op := Op.fieldAddr 53 (Operand.tmp 1) 3, type := 0, pos := "ref.go:17", after := #[], guard := none }, { dst := some 16, op := Op.load 51 (Operand.tmp 15), type := 51, pos := "ref.go:17", after := #[{ on := 12, ground := Ground.data }], guard := none }, { dst := some 17, op := Op.convert 51 33 (Operand.tmp 16), type := 33, pos := "ref.go:17", after := #[{ on := 13, ground := Ground.data }], guard := none }, { dst := some 18, op := Op.call { callee := Callee.value (Operand.func 61), args := #[Operand.tmp 17, Operand.const (Value.int IntKind.i64 2)], argTypes := #[33, 3] }, type := 9, pos := "ref.go:17", after := #[{ on := 14, ground := Ground.data }], guard := none }, { dst := some 19, op := Op.binOp BinOp.add 9 (Operand.tmp 14) (Operand.tmp 18) 9, type := 9, pos := "ref.go:17", after := #[{ on := 11, ground := Ground.data }, { on := 15, ground := Ground.data }], guard := none }, { dst := some 20, op := Op.fieldAddr 53 (Operand.tmp 1) 4, type := 0, pos := "ref.go:17", after := #[], guard := none }, { dst := some 21, op := Op.load 21 (Operand.tmp 20), type := 21, pos := "ref.go:17", after := #[{ on := 17, ground := Ground.data }], guard := none }, { dst := some 22, op := Op.convert 21 33 (Operand.tmp 21), type := 33, pos := "ref.go:17", after := #[{ on := 18, ground := Ground.data }], guard := none }, { dst := some 23, op := Op.call { callee := Callee.value (Operand.func 61), args := #[Operand.tmp 22, Operand.const (Value.int IntKind.i64 4)], argTypes := #[33, 3] }, type := 9, pos := "ref.go:17", after := #[{ on := 19, ground := Ground.data }, { on := 15, ground := Ground.chain }], guard := none }, { dst := some 24, op := Op.binOp BinOp.add 9 (Operand.tmp 19) (Operand.tmp 23) 9, type := 9, pos := "ref.go:17", after := #[{ on := 16, ground := Ground.data }, { on := 20, ground := Ground.data }], guard := none }, { dst := some 2, op := Op.assign (Operand.tmp 24), type := 9, pos := "ref.go:17", after := #[{ on := 21, ground := Ground.data }, { on := 20, ground := Ground.chain }, { on := 0, ground := Ground.phase }, { on := 1, ground := Ground.phase }, { on := 2, ground := Ground.phase }, { on := 3, ground := Ground.phase }, { on := 4, ground := Ground.phase }, { on := 5, ground := Ground.phase }, { on := 6, ground := Ground.phase }, { on := 7, ground := Ground.phase }, { on := 8, ground := Ground.phase }, { on := 9, ground := Ground.phase }, { on := 10, ground := Ground.phase }, { on := 11, ground := Ground.phase }, { on := 12, ground := Ground.phase }, { on := 13, ground := Ground.phase }, { on := 14, ground := Ground.phase }, { on := 15, ground := Ground.phase }, { on := 16, ground := Ground.phase }, { on := 17, ground := Ground.phase }, { on := 18, ground := Ground.phase }, { on := 19, ground := Ground.phase }, { on := 20, ground := Ground.phase }, { on := 21, ground := Ground.phase }], guard := none }] true).wp Tryz.prog Q a W := by
  have td : d.tmod 16 = d % 16 := Int.tmod_eq_emod_of_nonneg d0
  have ts : s.tmod 16 = s % 16 := Int.tmod_eq_emod_of_nonneg s0
  have w8 : IntKind.u8.wrap (s % 16 * 16) = s % 16 * 16 := IntWalk.u8_in _ (by omega)
  have w9 : IntKind.u8.wrap (d % 16 + s % 16 * 16) = d % 16 + s % 16 * 16 := IntWalk.u8_in _ (by omega)
  have q1 : (strOfNums [o, d % 16 + s % 16 * 16]).size = 2 := by rw [strOfNums_size]; rfl
  have q3 : (ofB (f % 18446744073709551616) 2).size = 2 := size_ofB (by decide)
  have q4 : (ofB (i % 18446744073709551616) 4).size = 4 := size_ofB (by decide)
  have q6 : (strOfNums [o, d % 16 + s % 16 * 16] ++ ofB (f % 18446744073709551616) 2).size = 4 := by rw [ByteArray.size_append, q1, q3]
  have wf : IntKind.u64.wrap f = f % 18446744073709551616 := IntKind.wrap_u64 f
  have wi : IntKind.u64.wrap i = i % 18446744073709551616 := IntKind.wrap_u64 i
  refine wp_region_inv (by kernel_rfl) (RSlots 25 (reB B o d s f i) 23 reD (reP B o d s f i) W) (by kernel_rfl) ⟨hsz, hdf, ?bs, (Below.refl _ _).drew, fun j _ h => by simp at h⟩ ?step ?fin
  case bs =>
    intro k v hk
    unfold reB at hk
    split at hk
    · cases hk; exact t1
    · cases hk
  case fin =>
    intro L a' w' hL h
    obtain ⟨v, hv, hp⟩ := h.sl 22 (by omega) (hL 22 (by decide))
    exact hQ a' w' v h.size h.defs hv hp h.bel
  case step =>
    refine allOps_cons 0 ?_ ?_
    · refine keeps_free rfl ?_
      intro L a w hL hd h
      have ev1 := h.base_ev 1 _ rfl
      unfold Oper.wp
      simp only [execOp, ev1]
      go_simp
      exact h.step (re_mono B o d s f i) re_ne (re_no B o d s f i) 0 (by omega) _ (Below.refl _ _) rfl
    refine allOps_cons 1 ?_ ?_
    · refine keeps_free rfl ?_
      intro L a w hL hd h
      obtain ⟨e0, -⟩ := hd
      obtain ⟨v0, ev1003, rfl, t1003⟩ := h.get 0 3 (by omega) (e0 rfl) rfl
      obtain ⟨c0, c1, c2, c3, c4⟩ := (At5.below HB h.bel).cells
      unfold Oper.wp
      simp only [execOp, ev1003]
      go_simp
      exact h.step (re_mono B o d s f i) re_ne (re_no B o d s f i) 1 (by omega) _ (Below.refl _ _) rfl
    refine allOps_cons 2 ?_ ?_
    · refine keeps_free rfl ?_
      intro L a w hL hd h
      have ev1 := h.base_ev 1 _ rfl
      unfold Oper.wp
      simp only [execOp, ev1]
      go_simp
      exact h.step (re_mono B o d s f i) re_ne (re_no B o d s f i) 2 (by omega) _ (Below.refl _ _) rfl
    refine allOps_cons 3 ?_ ?_
    · refine keeps_free rfl ?_
      intro L a w hL hd h
      obtain ⟨e0, -⟩ := hd
      obtain ⟨v2, ev1005, rfl, t1005⟩ := h.get 2 5 (by omega) (e0 rfl) rfl
      obtain ⟨c0, c1, c2, c3, c4⟩ := (At5.below HB h.bel).cells
      unfold Oper.wp
      simp only [execOp, ev1005]
      go_simp
      exact h.step (re_mono B o d s f i) re_ne (re_no B o d s f i) 3 (by omega) _ (Below.refl _ _) rfl
    refine allOps_cons 4 ?_ ?_
    · refine keeps_free rfl ?_
      intro L a w hL hd h
      obtain ⟨e0, -⟩ := hd
      obtain ⟨v3, ev1006, rfl, t1006⟩ := h.get 3 6 (by omega) (e0 rfl) rfl
      unfold Oper.wp
      simp only [execOp, ev1006]
      go_simp
      exact h.step (re_mono B o d s f i) re_ne (re_no B o d s f i) 4 (by omega) _ (Below.refl _ _) rfl
    refine allOps_cons 5 ?_ ?_
    · refine keeps_free rfl ?_
      intro L a w hL hd h
      have ev1 := h.base_ev 1 _ rfl
      unfold Oper.wp
      simp only [execOp, ev1]
      go_simp
      exact h.step (re_mono B o d s f i) re_ne (re_no B o d s f i) 5 (by omega) _ (Below.refl _ _) rfl
    refine allOps_cons 6 ?_ ?_
    · refine keeps_free rfl ?_
      intro L a w hL hd h
      obtain ⟨e0, -⟩ := hd
      obtain ⟨v5, ev1008, rfl, t1008⟩ := h.get 5 8 (by omega) (e0 rfl) rfl
      obtain ⟨c0, c1, c2, c3, c4⟩ := (At5.below HB h.bel).cells
      unfold Oper.wp
      simp only [execOp, ev1008]
      go_simp
      exact h.step (re_mono B o d s f i) re_ne (re_no B o d s f i) 6 (by omega) _ (Below.refl _ _) rfl
    refine allOps_cons 7 ?_ ?_
    · refine keeps_free rfl ?_
      intro L a w hL hd h
      obtain ⟨e0, -⟩ := hd
      obtain ⟨v6, ev1009, rfl, t1009⟩ := h.get 6 9 (by omega) (e0 rfl) rfl
      unfold Oper.wp
      simp only [execOp, ev1009]
      go_simp
      exact h.step (re_mono B o d s f i) re_ne (re_no B o d s f i) 7 (by omega) _ (Below.refl _ _) rfl
    refine allOps_cons 8 ?_ ?_
    · refine keeps_free rfl ?_
      intro L a w hL hd h
      obtain ⟨e0, -⟩ := hd
      obtain ⟨v7, ev1010, rfl, t1010⟩ := h.get 7 10 (by omega) (e0 rfl) rfl
      unfold Oper.wp
      simp only [execOp, ev1010]
      go_simp
      exact h.step (re_mono B o d s f i) re_ne (re_no B o d s f i) 8 (by omega) _ (Below.refl _ _) rfl
    refine allOps_cons 9 ?_ ?_
    · refine keeps_free rfl ?_
      intro L a w hL hd h
      obtain ⟨e0, e1, -⟩ := hd
      obtain ⟨v4, ev1007, rfl, t1007⟩ := h.get 4 7 (by omega) (e0 rfl) rfl
      obtain ⟨v8, ev1011, rfl, t1011⟩ := h.get 8 11 (by omega) (e1 rfl) rfl
      unfold Oper.wp
      simp only [execOp, ev1007, ev1011]
      go_simp
      exact h.step (re_mono B o d s f i) re_ne (re_no B o d s f i) 9 (by omega) _ (Below.refl _ _) rfl
    refine allOps_cons 10 ?_ ?_
    · refine keeps_free rfl ?_
      intro L a w hL hd h
      obtain ⟨e0, e1, -⟩ := hd
      obtain ⟨v1, ev1004, rfl, t1004⟩ := h.get 1 4 (by omega) (e0 rfl) rfl
      obtain ⟨v9, ev1012, rfl, t1012⟩ := h.get 9 12 (by omega) (e1 rfl) rfl
      refine wp_lit2 rfl t1004 t1012 ?_
      exact h.step (re_mono B o d s f i) re_ne (re_no B o d s f i) 10 (by omega) _ ((Below.refl _ w).alloc (Nat.le_refl _) _) ⟨w.heap.size, rfl, by simp, new2 _ _ _⟩
    refine allOps_cons 11 ?_ ?_
    · refine keeps_free rfl ?_
      intro L a w hL hd h
      obtain ⟨e0, -⟩ := hd
      obtain ⟨v10, ev1013, hp10, t1013⟩ := h.get 10 13 (by omega) (e0 rfl) rfl
      obtain ⟨g, rfl, hg, hr⟩ := hp10
      refine wp_conv rfl ev1013 hr ?_
      exact h.step (re_mono B o d s f i) re_ne (re_no B o d s f i) 11 (by omega) _ (Below.refl _ _) rfl
    refine allOps_cons 12 ?_ ?_
    · refine keeps_free rfl ?_
      intro L a w hL hd h
      have ev1 := h.base_ev 1 _ rfl
      unfold Oper.wp
      simp only [execOp, ev1]
      go_simp
      exact h.step (re_mono B o d s f i) re_ne (re_no B o d s f i) 12 (by omega) _ (Below.refl _ _) rfl
    refine allOps_cons 13 ?_ ?_
    · refine keeps_free rfl ?_
      intro L a w hL hd h
      obtain ⟨e0, -⟩ := hd
      obtain ⟨v12, ev1015, rfl, t1015⟩ := h.get 12 15 (by omega) (e0 rfl) rfl
      obtain ⟨c0, c1, c2, c3, c4⟩ := (At5.below HB h.bel).cells
      unfold Oper.wp
      simp only [execOp, ev1015]
      go_simp
      exact h.step (re_mono B o d s f i) re_ne (re_no B o d s f i) 13 (by omega) _ (Below.refl _ _) rfl
    refine allOps_cons 14 ?_ ?_
    · refine keeps_free rfl ?_
      intro L a w hL hd h
      obtain ⟨e0, -⟩ := hd
      obtain ⟨v13, ev1016, rfl, t1016⟩ := h.get 13 16 (by omega) (e0 rfl) rfl
      unfold Oper.wp
      simp only [execOp, ev1016]
      go_simp
      exact h.step (re_mono B o d s f i) re_ne (re_no B o d s f i) 14 (by omega) _ (Below.refl _ _) rfl
    refine allOps_cons 15 ?_ ?_
    · refine keeps_free rfl ?_
      intro L a w hL hd h
      obtain ⟨e0, -⟩ := hd
      obtain ⟨v14, ev1017, rfl, t1017⟩ := h.get 14 17 (by omega) (e0 rfl) rfl
      refine wp_call2k rfl ev1017 (by go_simp) ?_
      refine (rof_any _ (by omega) (by omega) _ _).mono ?_
      rintro e w' ⟨rfl, hg⟩
      exact ⟨_, rfl, h.step (re_mono B o d s f i) re_ne (re_no B o d s f i) 15 (by omega) _ hg.below rfl⟩
    refine allOps_cons 16 ?_ ?_
    · refine keeps_free rfl ?_
      intro L a w hL hd h
      obtain ⟨e0, e1, -⟩ := hd
      obtain ⟨v11, ev1014, rfl, t1014⟩ := h.get 11 14 (by omega) (e0 rfl) rfl
      obtain ⟨v15, ev1018, rfl, t1018⟩ := h.get 15 18 (by omega) (e1 rfl) rfl
      unfold Oper.wp
      simp only [execOp, ev1014, ev1018]
      go_simp
      exact h.step (re_mono B o d s f i) re_ne (re_no B o d s f i) 16 (by omega) _ (Below.refl _ _) rfl
    refine allOps_cons 17 ?_ ?_
    · refine keeps_free rfl ?_
      intro L a w hL hd h
      have ev1 := h.base_ev 1 _ rfl
      unfold Oper.wp
      simp only [execOp, ev1]
      go_simp
      exact h.step (re_mono B o d s f i) re_ne (re_no B o d s f i) 17 (by omega) _ (Below.refl _ _) rfl
    refine allOps_cons 18 ?_ ?_
    · refine keeps_free rfl ?_
      intro L a w hL hd h
      obtain ⟨e0, -⟩ := hd
      obtain ⟨v17, ev1020, rfl, t1020⟩ := h.get 17 20 (by omega) (e0 rfl) rfl
      obtain ⟨c0, c1, c2, c3, c4⟩ := (At5.below HB h.bel).cells
      unfold Oper.wp
      simp only [execOp, ev1020]
      go_simp
      exact h.step (re_mono B o d s f i) re_ne (re_no B o d s f i) 18 (by omega) _ (Below.refl _ _) rfl
    refine allOps_cons 19 ?_ ?_
    · refine keeps_free rfl ?_
      intro L a w hL hd h
      obtain ⟨e0, -⟩ := hd
      obtain ⟨v18, ev1021, rfl, t1021⟩ := h.get 18 21 (by omega) (e0 rfl) rfl
      unfold Oper.wp
      simp only [execOp, ev1021]
      go_simp
      exact h.step (re_mono B o d s f i) re_ne (re_no B o d s f i) 19 (by omega) _ (Below.refl _ _) rfl
    refine allOps_cons 20 ?_ ?_
    · refine keeps_free rfl ?_
      intro L a w hL hd h
      obtain ⟨e0, -⟩ := hd
      obtain ⟨v19, ev1022, rfl, t1022⟩ := h.get 19 22 (by omega) (e0 rfl) rfl
      refine wp_call2k rfl ev1022 (by go_simp) ?_
      refine (rof_any _ (by omega) (by omega) _ _).mono ?_
      rintro e w' ⟨rfl, hg⟩
      exact ⟨_, rfl, h.step (re_mono B o d s f i) re_ne (re_no B o d s f i) 20 (by omega) _ hg.below rfl⟩
    refine allOps_cons 21 ?_ ?_
    · refine keeps_free rfl ?_
      intro L a w hL hd h
      obtain ⟨e0, e1, -⟩ := hd
      obtain ⟨v16, ev1019, rfl, t1019⟩ := h.get 16 19 (by omega) (e0 rfl) rfl
      obtain ⟨v20, ev1023, rfl, t1023⟩ := h.get 20 23 (by omega) (e1 rfl) rfl
      unfold Oper.wp
      simp only [execOp, ev1019, ev1023]
      go_simp
      exact h.step (re_mono B o d s f i) re_ne (re_no B o d s f i) 21 (by omega) _ (Below.refl _ _) rfl
    refine allOps_cons 22 ?_ ?_
    · refine keeps_free rfl ?_
      intro L a w hL hd h
      obtain ⟨e0, -⟩ := hd
      obtain ⟨v21, ev1024, rfl, t1024⟩ := h.get 21 24 (by omega) (e0 rfl) rfl
      unfold Oper.wp
      simp only [execOp, ev1024]
      go_simp
      exact h.step (re_mono B o d s f i) re_ne (re_no B o d s f i) 22 (by omega) _ (Below.refl _ _) rfl
    exact allOps_nil 23
theorem str_app (xs ys : List Int) : strOfNums xs ++ strOfNums ys = strOfNums (xs ++ ys) := by
  apply ba_ext
  rw [data_append]
  simp [strOfNums]
theorem enc_eq (o d s f i : Int) (h0 : 0 ≤ o) (h1 : o ≤ 255) : strOfNums [o, d % 16 + s % 16 * 16] ++ ofB (f % 18446744073709551616) 2 ++ ofB (i % 18446744073709551616) 4 = encB o d s f i := by
  have e1 : ofB o 1 = strOfNums [o] := by rw [ofB, if_pos (by decide)]; simp [digs]; congr 2; omega
  have e2 : ofB (d % 16 + 16 * (s % 16)) 1 = strOfNums [d % 16 + s % 16 * 16] := by rw [ofB, if_pos (by decide)]; simp [digs]; congr 2; omega
  rw [encB, e1, e2, str_app]; rfl
theorem rencode_any (o d s f i : Int) (h0 : 0 ≤ o) (h1 : o ≤ 255) (d0 : 0 ≤ d) (d1 : d ≤ 255) (s0 : 0 ≤ s) (s1 : s ≤ 255) (w : World) : Calls Tryz.prog 37 #[ins o d s f i] w fun e w' => e = .returned (.string (encB o d s f i)) ∧ Below w.heap.size w w' := by
  rw [← enc_eq o d s f i h0 h1]
  go_enter Tryz.func37, Tryz.ntmps37
  go_upto_region 1 with fail
  have HG : Below w.heap.size w (w.alloc (Obj.cells #[.int .u8 o, .int .u8 d, .int .u8 s, .int .i16 f, .int .i32 i] 53)) := (Below.refl _ w).alloc (Nat.le_refl _) _
  have HB := At5.new w o d s f i
  generalize (w.alloc (Obj.cells #[.int .u8 o, .int .u8 d, .int .u8 s, .int .i16 f, .int .i32 i] 53)) = W at HG HB ⊢
  generalize hBs : w.heap.size = B at HB ⊢
  refine re B o d s f i h0 h1 d0 d1 s0 s1 W HB _ _ rfl rfl rfl ?_
  rintro ⟨tm, df⟩ w2 v2 hsz hdf h2 hv2 hb2
  cases hdf
  cases hv2
  go_wp2
  refine bodyPost_ret (by simp [results, Tryz.results37, go_sem, h2]; rfl) rfl ?_
  rw [hBs] at HG
  refine ⟨rfl, HG.trans (hb2.mono ?_)⟩
  rw [← hBs]; exact HG.size

end Go.Proofs.YtdmdmbcapjmnlaaGreat
