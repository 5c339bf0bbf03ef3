/- Towards the statements of package insn (layer 7): an instruction's bytes: contracts of Encode and Decode, the program's and the document's. -/
import Derived.Test.YtdmdmbcapjmnlabQG
namespace Go.Proofs.Ytdmdmbcapjmnlab
open Go.ChangeShapes Go.WideShapes Go.ChangeAt Go.RowKit
open Go.PlainAid (bt get_bt bt_nonneg bt_le bt_end)
set_option linter.unusedVariables false
set_option maxRecDepth 20000
set_option linter.unusedSimpArgs false
set_option maxRecDepth 20000

theorem decode_short (s : ByteArray) (h : s.size < 8) (w : World) : Calls Try.prog 19 #[.string s] w fun e w' => e = .returned (.tuple #[ins 0 0 0 0 0, .int .i64 10]) ∧ Gr w w' := by
  have hd : decide ((s.size : Int) < 8) = true := by simp; omega
  go_enter Try.func19, Try.ntmps19
  go_wp2
  go_returns
  exact ⟨rfl, by go_grown, by go_grown⟩
theorem decode_long (s : ByteArray) (h : 8 < s.size) (w : World) : Calls Try.prog 19 #[.string s] w fun e w' => e = .returned (.tuple #[ins 0 0 0 0 0, .int .i64 4]) ∧ Gr w w' := by
  have hd : decide ((s.size : Int) < 8) = false := by simp; omega
  have hd2 : decide (8 < (s.size : Int)) = true := by simp; omega
  go_enter Try.func19, Try.ntmps19
  go_wp2
  go_returns
  exact ⟨rfl, by go_grown, by go_grown⟩
theorem num2 (s : ByteArray) (a : Nat) : 0 ≤ numAt s a 2 ∧ numAt s a 2 ≤ 65535 := by
  have h0 := bt_nonneg s a; have h1 := bt_le s a; have h2 := bt_nonneg s (a + 1); have h3 := bt_le s (a + 1)
  simp only [numAt]; omega
theorem num4 (s : ByteArray) (a : Nat) : 0 ≤ numAt s a 4 ∧ numAt s a 4 ≤ 4294967295 := by
  have h0 := bt_nonneg s a; have h1 := bt_le s a; have h2 := bt_nonneg s (a + 1); have h3 := bt_le s (a + 1)
  have h4 := bt_nonneg s (a + 1 + 1); have h5 := bt_le s (a + 1 + 1); have h6 := bt_nonneg s (a + 1 + 1 + 1); have h7 := bt_le s (a + 1 + 1 + 1)
  simp only [numAt]; omega
/-- Off, Imm of eight bytes. -/
def offV (s : ByteArray) : Int := signV (numAt s 2 2) 2
def immV (s : ByteArray) : Int := signV (numAt s 4 4) 4
theorem offV_in (s : ByteArray) : -32768 ≤ offV s ∧ offV s ≤ 32767 := by
  have := num2 s 2
  rw [offV, signV2]; split <;> omega
theorem immV_in (s : ByteArray) : -2147483648 ≤ immV s ∧ immV s ≤ 2147483647 := by
  have := num4 s 4
  rw [immV, signV4]; split <;> omega
theorem get2 (s : ByteArray) (h : s.size = 8) (w : World) : Calls Try.prog 62 #[.string s, .int .i64 2, .int .i64 2] w fun e w' => e = .returned (.tuple #[.int .u64 (numAt s 2 2), .int .i64 0]) ∧ Gr w w' :=
  get_lit s 2 2 (by decide) (by rw [h]; decide) (by rw [h]; decide) w
theorem signed_2 (s : ByteArray) (h : s.size = 8) (w : World) : Calls Try.prog 45 #[.string s, .int .i64 2, .int .i64 2] w fun e w' => e = .returned (.int .i64 (offV s)) ∧ Gr w w' := by
  have hn := num2 s 2
  go_enter Try.func45, Try.ntmps45
  go_wp2_with (first
    | (go_at_call 62; refine (get2 s h _).mono ?_; rintro e w' ⟨rfl, hg⟩)
    | (go_at_call 63; refine (sign_any _ _ hn.1 (by have := hn.2; omega) _).mono ?_; rintro e w2 ⟨rfl, hw⟩; rw [hw]; clear hw w2))
  go_returns
  exact ⟨rfl, hg⟩
theorem get4 (s : ByteArray) (h : s.size = 8) (w : World) : Calls Try.prog 62 #[.string s, .int .i64 4, .int .i64 4] w fun e w' => e = .returned (.tuple #[.int .u64 (numAt s 4 4), .int .i64 0]) ∧ Gr w w' :=
  get_lit s 4 4 (by decide) (by rw [h]; decide) (by rw [h]; decide) w
theorem signed_4 (s : ByteArray) (h : s.size = 8) (w : World) : Calls Try.prog 45 #[.string s, .int .i64 4, .int .i64 4] w fun e w' => e = .returned (.int .i64 (immV s)) ∧ Gr w w' := by
  have hn := num4 s 4
  go_enter Try.func45, Try.ntmps45
  go_wp2_with (first
    | (go_at_call 62; refine (get4 s h _).mono ?_; rintro e w' ⟨rfl, hg⟩)
    | (go_at_call 63; refine (sign_any _ _ hn.1 (by have := hn.2; omega) _).mono ?_; rintro e w2 ⟨rfl, hw⟩; rw [hw]; clear hw w2))
  go_returns
  exact ⟨rfl, hg⟩
theorem set_at {w : World} {b : Nat} {cs : Array Value} {t : TypeId} (h : w.heap[b]? = some (.cells cs t)) (k : Nat) (u : Value) : (w.setCell ⟨b, k, none⟩ u).heap[b]? = some (.cells (cs.setIfInBounds k u) t) := by
  obtain ⟨hlt, hk⟩ := Array.getElem?_eq_some_iff.1 h
  show (w.heap.modify b _)[b]? = _
  rw [Array.getElem?_eq_getElem (by rw [Array.size_modify]; exact hlt), Array.getElem_modify_self, hk]
  rfl
theorem set_gr {w0 w : World} {b : Nat} (h : Gr w0 w) (hb : w0.heap.size ≤ b) (k : Nat) (u : Value) : Gr w0 (w.setCell ⟨b, k, none⟩ u) := by
  have hB : Below w0.heap.size w0 (w.setCell ⟨b, k, none⟩ u) := h.below.setCell (p := ⟨b, k, none⟩) hb u
  exact ⟨hB, hB.frame _, fun x => (World.frozen?_setCell w ⟨b, k, none⟩ x u).trans (h.grown.2.1 x), hB.size⟩
theorem At5.fz {w : World} {b : Nat} {o d s f i : Int} (h : At5 w b o d s f i) (k : Nat) : w.frozen? ⟨b, k, none⟩ = false := by
  simp [World.frozen?, show w.heap[b]? = _ from h]
theorem wp_store_ins {o : Oper} {a : Act} {w : World} {K : Act → World → Prop} {Q : Exit → Act → World → Prop} {p x : Operand} {w0 : World} {b : Nat} {o1 d1 s1 f1 i1 o2 d2 s2 f2 i2 : Int} (ho : o.op = .store 30 p x) (hp : a.eval p = .pointer (some ⟨b, 0, none⟩)) (hx : a.eval x = ins o2 d2 s2 f2 i2) (h : At5 w b o1 d1 s1 f1 i1) (hg : Gr w0 w) (hb : w0.heap.size ≤ b)
    (hK : ∀ w', At5 w' b o2 d2 s2 f2 i2 → Gr w0 w' → K (a.put o.dst undef) w') : o.wp Try.prog a w K Q := by
  obtain ⟨dst, op, ty, pos, after, guard⟩ := o
  subst ho
  obtain ⟨c0, c1, c2, c3, c4⟩ := h.cells
  have z0 := h.fz 0
  have z1 := h.fz 1
  have z2 := h.fz 2
  have z3 := h.fz 3
  have z4 := h.fz 4
  have H := hK _ (set_at (set_at (set_at (set_at (set_at h 0 (.int .u8 o2)) 1 (.int .u8 d2)) 2 (.int .u8 s2)) 3 (.int .i16 f2)) 4 (.int .i32 i2)) (set_gr (set_gr (set_gr (set_gr (set_gr hg hb 0 _) hb 1 _) hb 2 _) hb 3 _) hb 4 _)
  clear h hg
  unfold Oper.wp
  simp only [execOp, hp, hx]
  go_simp
  exact H
theorem wp_asgc {o : Oper} {a : Act} {w : World} {K : Act → World → Prop} {Q : Exit → Act → World → Prop} {v : Value} (ho : o.op = .assign (.const v)) (hK : K (a.put o.dst v) w) : o.wp Try.prog a w K Q := by
  obtain ⟨dst, op, ty, pos, after, guard⟩ := o
  subst ho
  unfold Oper.wp
  simp only [execOp, Act.eval]
  go_simp
  exact hK
set_option maxHeartbeats 2000000 in
theorem decode_8 (s : ByteArray) (h : s.size = 8) (w : World) : Calls Try.prog 19 #[.string s] w fun e w' => e = .returned (.tuple #[ins (bt s 0) (bt s 1 % 16) (bt s 1 / 16) (offV s) (immV s), .int .i64 0]) ∧ Gr w w' := by
  have hd : decide ((s.size : Int) < 8) = false := by simp; omega
  have hd2 : decide (8 < (s.size : Int)) = false := by simp; omega
  have g0 : ((s[0]'(by omega)).toNat : Int) = bt s 0 := get_bt s 0 (by omega)
  have g1 : ((s[1]'(by omega)).toNat : Int) = bt s 1 := get_bt s 1 (by omega)
  have e1 : (bt s 1).tdiv 16 % 256 = bt s 1 / 16 := by have := bt_nonneg s 1; have := bt_le s 1; rw [Int.tdiv_eq_ediv_of_nonneg (by omega)]; omega
  have e2 : IntKind.i16.wrap (offV s) = offV s := by have := offV_in s; exact IntWalk.i16_in _ this
  have e3 : wrap32 (immV s) = immV s := by have := immV_in s; simp only [wrap32]; omega
  go_enter Try.func19, Try.ntmps19
  go_upto_region 6 with fail
  have HG : Gr w (w.alloc (Obj.cells #[.int .u8 0, .int .u8 0, .int .u8 0, .int .i16 0, .int .i32 0] 30)) := gr1 _ _ _
  have HB := At5.new w 0 0 0 0 0
  generalize (w.alloc (Obj.cells #[.int .u8 0, .int .u8 0, .int .u8 0, .int .i16 0, .int .i32 0] 30)) = W at HG HB ⊢
  have hBw : w.heap.size ≤ w.heap.size := Nat.le_refl _
  generalize hBs : w.heap.size = B at HB ⊢
  have hne : Nonempty (GrBy W) := ⟨⟨W, Gr.refl W⟩⟩
  refine wp_region_gn 13 (by kernel_rfl) (by kernel_rfl) (by kernel_rfl) (by kernel_rfl) (by kernel_rfl) ?_
  simp only [List.take_succ_cons, List.take_zero, List.drop_succ_cons, List.drop_zero]
  repeat (first
    | go_big_quiet_skip
    | (go_big_quiet_want; go_big_quiet_op; first
      | go_big_quiet_on
      | (apply Exists.intro
         refine ⟨fun p => ?_, ?_⟩
         · first
           | (go_at_call_of 45 (Value.int IntKind.i64 2); exact calls_gr (signed_2 _ h _))
           | (go_at_call_of 45 (Value.int IntKind.i64 4); exact calls_gr (signed_4 _ h _))
         go_big_quiet_on)))
  refine wpQuiet_nil ?_
  intro w' hw'
  obtain ⟨⟨wq, hq⟩, rfl⟩ := hw'

  refine wp_store_ins (w0 := w) (b := B) (o2 := bt s 0) (d2 := bt s 1 % 16) (s2 := bt s 1 / 16) (f2 := offV s) (i2 := immV s) rfl rfl rfl (HB.gr hq) (HG.trans hq) (by omega) ?_
  intro w2 h2 hg2
  refine wp_asgc rfl ?_
  obtain ⟨c0, c1, c2, c3, c4⟩ := h2.cells
  simp only [seqW]
  go_wp2
  refine bodyPost_ret (by simp [results, Try.results19, go_sem, c0, c1, c2, c3, c4]; try rfl) rfl ?_
  exact ⟨rfl, hg2⟩
end Go.Proofs.Ytdmdmbcapjmnlab
