/- Towards the statements of package insn (layer 7): an instruction's bytes: contracts of Encode, the program's and the document's. -/
import Derived.Test.YtdmdmbcapjmnlabKZ
namespace Go.Proofs.Ytdmdmbcapjmnlab
open Go.ChangeShapes Go.WideShapes Go.ChangeAt Go.RowKit
open Go.PlainAid (bt get_bt bt_nonneg bt_le bt_end)
set_option linter.unusedVariables false
set_option maxRecDepth 20000
set_option linter.unusedSimpArgs false
set_option maxRecDepth 20000

/-- An instruction's bytes. -/
def encB (o d s f i : Int) : ByteArray := ofB o 1 ++ ofB (d % 16 + 16 * (s % 16)) 1 ++ ofB (f % 18446744073709551616) 2 ++ ofB (i % 18446744073709551616) 4
set_option maxHeartbeats 2000000 in
theorem encode_any (o d s f i : Int) (h0 : 0 ≤ o) (h1 : o ≤ 255) (d0 : 0 ≤ d) (d1 : d ≤ 255) (s0 : 0 ≤ s) (s1 : s ≤ 255) (w : World) : Calls Try.prog 21 #[ins o d s f i] w fun e w' => e = .returned (.string (encB o d s f i)) ∧ Gr w w' := by
  have q1 : (ofB o 1).size = 1 := size_ofB (by decide)
  have q2 : (ofB (d % 16 + 16 * (s % 16)) 1).size = 1 := size_ofB (by decide)
  have q3 : (ofB (f % 18446744073709551616) 2).size = 2 := size_ofB (by decide)
  have q4 : (ofB (i % 18446744073709551616) 4).size = 4 := size_ofB (by decide)
  have q5 : (ofB o 1 ++ ofB (d % 16 + 16 * (s % 16)) 1).size = 2 := by rw [ByteArray.size_append, q1, q2]
  have q6 : (ofB o 1 ++ ofB (d % 16 + 16 * (s % 16)) 1 ++ ofB (f % 18446744073709551616) 2).size = 4 := by rw [ByteArray.size_append, q5, q3]
  have wf : IntKind.u64.wrap f = f % 18446744073709551616 := IntKind.wrap_u64 f
  have wi : IntKind.u64.wrap i = i % 18446744073709551616 := IntKind.wrap_u64 i
  go_enter Try.func21, Try.ntmps21
  go_upto_region 2 with fail
  have HG : Gr w (w.alloc (Obj.cells #[.int .u8 o, .int .u8 d, .int .u8 s, .int .i16 f, .int .i32 i] 30)) := gr1 _ _ _
  have HB := At5.new w o d s f i
  generalize (w.alloc (Obj.cells #[.int .u8 o, .int .u8 d, .int .u8 s, .int .i16 f, .int .i32 i] 30)) = W at HG HB ⊢
  generalize w.heap.size = B at HB ⊢
  have hne : Nonempty (GrBy W) := ⟨⟨W, Gr.refl W⟩⟩
  have c := fun p => (HB.all p).1
  have c' := fun p => (HB.all p).2.1
  have c'' := fun p => (HB.all p).2.2.1
  have c3' := fun p => (HB.all p).2.2.2.1
  have c4' := fun p => (HB.all p).2.2.2.2
  refine wp_region_gr (by kernel_rfl) (by kernel_rfl) ?_
  repeat (first
    | go_big_quiet_skip
    | (go_big_quiet_want; go_big_quiet_op; first
      | go_big_quiet_on
      | (apply Exists.intro
         refine ⟨fun p => ?_, ?_⟩
         · first
           | (go_at_call 47; exact calls_gr (of_any _ (by omega) (by omega) _ _))
         go_big_quiet_on)))
  refine wpQuiet_nil ?_
  intro _ hw'
  obtain ⟨⟨wq, hq⟩, rfl⟩ := hw'
  go_wp2
  go_returns
  exact ⟨rfl, HG.trans hq⟩

theorem conv_row (W : World) (g n c : Nat) (xs : List Int) (hlen : xs.length = n) (hC : ∀ i, i < n → W.cell? ⟨g, i, none⟩ = some (.int .u8 (xs.getD i 0))) :
    (convert 61 9 (.slice (some ⟨g, 0, none⟩) n c)).run Try.prog W = .ok (.string (strOfNums xs)) W := by
  refine run_convert_bytes_arg (P := Try.prog) _ 61 5 Try.underlying61 Try.underlying5 _ 0 n c xs hlen (fun i hi => ?_) 9 Try.underlying9
  rw [Nat.zero_add]; exact hC i hi
theorem wp_lit2 {o : Oper} {a : Act} {w : World} {K : Act → World → Prop} {Q : Exit → Act → World → Prop} {t u : Nat} {x y : Int} (ho : o.op = .buildSlice 61 2 #[(0, .tmp t), (1, .tmp u)]) (hx : a.tmps[t]? = some (.int .u8 x)) (hy : a.tmps[u]? = some (.int .u8 y))
    (hK : K (a.put o.dst (.slice (some ⟨w.heap.size, 0, none⟩) 2 2)) (w.alloc (.cells #[.int .u8 x, .int .u8 y] 5))) : o.wp Try.prog a w K Q := by
  obtain ⟨dst, op, ty, pos, after, guard⟩ := o
  subst ho
  have he : a.eval (.tmp t) = .int .u8 x := by simp [Act.eval, hx]
  have he2 : a.eval (.tmp u) = .int .u8 y := by simp [Act.eval, hy]
  unfold Oper.wp
  simp only [execOp, List.map_toArray, List.map_cons, List.map_nil, he, he2]
  go_simp
  exact hK
theorem wp_conv {o : Oper} {a : Act} {w : World} {K : Act → World → Prop} {Q : Exit → Act → World → Prop} {t : Nat} {g : Nat} {x y : Int} (ho : o.op = .convert 61 9 (.tmp t)) (hx : a.eval (.tmp t) = .slice (some ⟨g, 0, none⟩) 2 2) (hr : R2 w g x y)
    (hK : K (a.put o.dst (.string (strOfNums [x, y]))) w) : o.wp Try.prog a w K Q := by
  obtain ⟨dst, op, ty, pos, after, guard⟩ := o
  subst ho
  have hc := conv_row w g 2 2 [x, y] rfl (fun i hi => by
    rcases (show i = 0 ∨ i = 1 by omega) with rfl | rfl
    · simpa using hr.c0
    · simpa using hr.c1)
  unfold Oper.wp
  simp only [execOp, hx, Sem.run_bind, hc, Result.andThen_ok]
  go_simp
  exact hK
theorem wp_call2k {o : Oper} {a : Act} {w : World} {K : Act → World → Prop} {Q : Exit → Act → World → Prop} {f : FuncId} {tys : Array TypeId} {x0 : Operand} {u0 k : Value} (ho : o.op = .call { callee := .value (.func f), args := #[x0, .const k], argTypes := tys }) (e0 : a.eval x0 = u0) (hf : (callFunc f #[u0, k]).run Try.prog w = .ok (.enter f #[u0, k]) w)
    (hK : Calls Try.prog f #[u0, k] w fun e w' => ∃ v, e = .returned v ∧ K (a.put o.dst v) w') : o.wp Try.prog a w K Q := wp_call2 ho e0 rfl hf hK

/-- What operation j of the region leaves. -/
def reP (B : Nat) (o d s f i : Int) (j : Nat) (v : Value) (w : World) : Prop :=
  match j with
  | 0 => v = .pointer (some ⟨B, 0, none⟩)
  | 1 => v = .int .u8 o
  | 2 => v = .pointer (some ⟨B, 1, none⟩)
  | 3 => v = .int .u8 d
  | 4 => v = .int .u8 (d % 16)
  | 5 => v = .pointer (some ⟨B, 2, none⟩)
  | 6 => v = .int .u8 s
  | 7 => v = .int .u8 (s % 16)
  | 8 => v = .int .u8 (s % 16 * 16)
  | 9 => v = .int .u8 (d % 16 + s % 16 * 16)
  | 10 => ∃ g, v = .slice (some ⟨g, 0, none⟩) 2 2 ∧ g < w.heap.size ∧ R2 w g o (d % 16 + s % 16 * 16)
  | 11 => v = .string (strOfNums [o, d % 16 + s % 16 * 16])
  | 12 => v = .pointer (some ⟨B, 3, none⟩)
  | 13 => v = .int .i16 f
  | 14 => v = .int .u64 (f % 18446744073709551616)
  | 15 => v = .string (ofB (f % 18446744073709551616) 2)
  | 16 => v = .string (strOfNums [o, d % 16 + s % 16 * 16] ++ ofB (f % 18446744073709551616) 2)
  | 17 => v = .pointer (some ⟨B, 4, none⟩)
  | 18 => v = .int .i32 i
  | 19 => v = .int .u64 (i % 18446744073709551616)
  | 20 => v = .string (ofB (i % 18446744073709551616) 4)
  | 21 => v = .string (strOfNums [o, d % 16 + s % 16 * 16] ++ ofB (f % 18446744073709551616) 2 ++ ofB (i % 18446744073709551616) 4)
  | 22 => v = .string (strOfNums [o, d % 16 + s % 16 * 16] ++ ofB (f % 18446744073709551616) 2 ++ ofB (i % 18446744073709551616) 4)
  | _ => True
def reD : Nat → Nat
  | 0 => 3 | 1 => 4 | 2 => 5 | 3 => 6 | 4 => 7 | 5 => 8 | 6 => 9 | 7 => 10 | 8 => 11 | 9 => 12 | 10 => 13 | 11 => 14 | 12 => 15 | 13 => 16 | 14 => 17 | 15 => 18 | 16 => 19 | 17 => 20 | 18 => 21 | 19 => 22 | 20 => 23 | 21 => 24 | 22 => 2 | _ => 0
def reB (B : Nat) (o d s f i : Int) : Nat → Option Value
  | 1 => some (.pointer (some ⟨B, 0, none⟩)) | _ => none
theorem re_mono (B : Nat) (o d s f i : Int) : ∀ jj v w w', reP B o d s f i jj v w → Below w.heap.size w w' → reP B o d s f i jj v w' := by
  intro jj v w w' h hb
  unfold reP at h ⊢
  split at h
  · exact h
  · exact h
  · exact h
  · exact h
  · exact h
  · exact h
  · exact h
  · exact h
  · exact h
  · exact h
  · obtain ⟨g, hv, hg, cur, h1, h2, h3⟩ := h; exact ⟨g, hv, Nat.lt_of_lt_of_le hg hb.size, cur, (hb.block g hg).trans h1, h2, h3⟩
  · exact h
  · exact h
  · exact h
  · exact h
  · exact h
  · exact h
  · exact h
  · exact h
  · exact h
  · exact h
  · exact h
  · exact h
  · trivial
theorem re_ne : ∀ i j, i < 23 → j < 23 → j ≠ i → reD j ≠ reD i := by
  have : ∀ i : Fin 23, ∀ j : Fin 23, j ≠ i → reD j.val ≠ reD i.val := by decide +kernel
  exact fun i j hi hj h => this ⟨i, hi⟩ ⟨j, hj⟩ (by simpa using h)
theorem re_no (B : Nat) (o d s f i : Int) : ∀ jj, jj < 23 → reB B o d s f i (reD jj) = none ∧ reD jj < 25 := by
  intro jj hi
  rcases (show jj = 0 ∨ jj = 1 ∨ jj = 2 ∨ jj = 3 ∨ jj = 4 ∨ jj = 5 ∨ jj = 6 ∨ jj = 7 ∨ jj = 8 ∨ jj = 9 ∨ jj = 10 ∨ jj = 11 ∨ jj = 12 ∨ jj = 13 ∨ jj = 14 ∨ jj = 15 ∨ jj = 16 ∨ jj = 17 ∨ jj = 18 ∨ jj = 19 ∨ jj = 20 ∨ jj = 21 ∨ jj = 22 by omega) with rfl | rfl | rfl | rfl | rfl | rfl | rfl | rfl | rfl | rfl | rfl | rfl | rfl | rfl | rfl | rfl | rfl | rfl | rfl | rfl | rfl | rfl | rfl
  all_goals exact ⟨rfl, by decide⟩
theorem str_app (xs ys : List Int) : strOfNums xs ++ strOfNums ys = strOfNums (xs ++ ys) := by
  apply ba_ext
  rw [data_append]
  simp [strOfNums]
theorem enc_eq (o d s f i : Int) (h0 : 0 ≤ o) (h1 : o ≤ 255) : strOfNums [o, d % 16 + s % 16 * 16] ++ ofB (f % 18446744073709551616) 2 ++ ofB (i % 18446744073709551616) 4 = encB o d s f i := by
  have e1 : ofB o 1 = strOfNums [o] := by rw [ofB, if_pos (by decide)]; simp [digs]; congr 2; omega
  have e2 : ofB (d % 16 + 16 * (s % 16)) 1 = strOfNums [d % 16 + s % 16 * 16] := by rw [ofB, if_pos (by decide)]; simp [digs]; congr 2; omega
  rw [encB, e1, e2, str_app]; rfl
end Go.Proofs.Ytdmdmbcapjmnlab
