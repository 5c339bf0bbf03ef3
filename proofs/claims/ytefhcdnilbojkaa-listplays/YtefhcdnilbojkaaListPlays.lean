/- ListPlays: what each call answers, and the row, behind any calls, as the document says, for any script: the statement as given. No condition. -/
import Derived.Test.YtefhcdnilbojkaaRC
import Derived.WalkKit
import Derived.ProofKit
import Derived.OpenShut
import Derived.ShutString
namespace Go.Proofs.Ytefhcdnilbojkaa.listPlays
open Go.ChangeShapes Go.WideShapes Go.ChangeAt Go.RowKit
open Go.ChangeMaps (open_string shut_string)
set_option linter.unusedVariables false
set_option linter.unusedSimpArgs false

theorem own : ownKnob Try.prog.godebug = none := by kernel_rfl

set_option maxRecDepth 100000 in
set_option maxHeartbeats 16000000 in
theorem walk (p0 : Option Addr) (L0 : List St) (c0 : Nat) (w : World) (hL0 : Sts w p0 L0) :
    Calls Try.prog 3 #[.slice p0 L0.length c0] w fun e w' => e = .returned (.bool true) ∧ Below w.heap.size w w' := by
  have kw := fun W => works_any W
  by_cases hlong : 300 < L0.length
  · have d : decide ((300 : Int) < (L0.length : Int)) = true := by simp; omega
    go_enter Try.func3, Try.ntmps3
    go_wp2_with (go_at_call 8; refine (kw _).mono ?_; rintro e w3 ⟨rfl, hb⟩)
    all_goals go_returns
    exact ⟨rfl, hb⟩
  have d1 : decide ((300 : Int) < (L0.length : Int)) = false := by simp; omega
  have k1 := new_li w
  go_enter Try.func3, Try.ntmps3
  go_upto_region 5 with (go_at_call 9; go_loud (refine k1.mono ?_; rintro e w1 ⟨b, S, rfl, h1, hb1⟩))
  have hP0 : Pl (w1.alloc (.cells #[.slice none 0 0] 29)) w.heap.size b w1.heap.size [] S (.slice none 0 0) := ⟨h1.alloc _, ⟨heap_alloc_new w1 _, h1.size, World.ownsRow_nil _ _ _ _, by simp⟩⟩
  have hb0 : Below w.heap.size w (w1.alloc (.cells #[.slice none 0 0] 29)) := hb1.alloc h1.size _
  clear k1 h1 hb1
  generalize w1.alloc (.cells #[.slice none 0 0] 29) = w2 at hP0 hb0 ⊢
  generalize w1.heap.size = r at hP0 ⊢
  generalize hB0 : w.heap.size = B at hP0 hb0 ⊢
  replace hB0 : Hid _ := hB0
  replace hL0 : Hid _ := hL0
  go_wp2
  go_loopw [5] (fun n5 wr => ∃ (i : Nat) (K : List HKey) (S : List Nat) (v : Value), n5 = .int .i64 i ∧ i ≤ L0.length ∧ K.length ≤ i ∧ Pl wr B b r K S v ∧ Below B w wr) (fun n5 _ => L0.length - (valOf n5).toNat)
  case atStart => exact ⟨0, [], S, _, rfl, by omega, by simp, hP0, hb0⟩
  case round =>
    clear hP0 hb0
    obtain ⟨i, K, S, v, rfl, hi, hKi, hP, hbl⟩ := hrel
    by_cases hin : i < L0.length
    · have d : decide ((i : Int) < L0.length) = true := by simp; omega
      have e9 : IntKind.i64.wrap ((i : Int) + 1) = (i : Int) + 1 := IntWalk.i64_in _ (by omega)
      obtain ⟨xb, xo, ⟨xd, xk, xf⟩, hxi, ⟨x0, x1, x2, x3⟩, hxb, hai⟩ := idxS hL0.out hin
      simp only at x0 x1 x2 x3
      have hB1 := hB0.out
      have hbs := hbl.size
      have r0 := (hbl.cell (p := ⟨xb, xo, none⟩) (by simp; omega)).trans x0
      have r1 := (hbl.cell (p := ⟨xb, xo + 1, none⟩) (by simp; omega)).trans x1
      have r2 := (hbl.cell (p := ⟨xb, xo + 2, none⟩) (by simp; omega)).trans x2
      have r3 := (hbl.cell (p := ⟨xb, xo + 3, none⟩) (by simp; omega)).trans x3
      have hai' := hai c0
      clear hai x0 x1 x2 x3 hxi
      go_upto_region 9 with fail
      have yz := heap_alloc_new wr (.cells #[.int .i64 xd, .int .i64 xk.1, .int .u64 xk.2, .bool xf] 34)
      have hbz := (Below.refl _ wr).alloc (Nat.le_refl _) (.cells #[.int .i64 xd, .int .i64 xk.1, .int .u64 xk.2, .bool xf] 34)
      have hPz := hP.below hbz
      have hbZ : Below B w (wr.alloc (.cells #[.int .i64 xd, .int .i64 xk.1, .int .u64 xk.2, .bool xf] 34)) := hbl.alloc hP.l.size _
      have hzS : wr.heap.size ∉ S := fun q => by have := (hP.l.lt _ q).2; omega
      have hzr : wr.heap.size ≠ r := by have := heap_lt hP.r.cells; omega
      clear r0 r1 r2 r3 hai' hP hbl hbz
      generalize wr.alloc (.cells #[.int .i64 xd, .int .i64 xk.1, .int .u64 xk.2, .bool xf] 34) = W at yz hPz hbZ ⊢
      generalize wr.heap.size = z at yz hzS hzr ⊢
      have z0 := cell_of yz 0
      have z1 := cell_of yz 1
      have z2 := cell_of yz 2
      have z3 := cell_of yz 3
      simp at z0 z1 z2 z3
      have kd := does_any W.drew B b r K S v (hPz.below (Below.refl _ _).drew) (by omega) xd xk xf
      try simp only [List.append_eq, List.cons_append, List.nil_append]
      refine wp_region_held_drew (S := fun w' : World => w'.cell? ⟨z, 0, none⟩ = some (.int .i64 xd) ∧ w'.cell? ⟨z, 1, none⟩ = some (.int .i64 xk.1) ∧ w'.cell? ⟨z, 2, none⟩ = some (.int .u64 xk.2) ∧ w'.cell? ⟨z, 3, none⟩ = some (.bool xf)) (by kernel_rfl) ⟨z0, z1, z2, z3⟩ (fun hHeld => ?_)
      refine wpAnyH_take (i := 0) (oi := { dst := some 32, op := Go.Op.move (Go.Operand.tmp 3), type := 24, pos := "law.go:82", after := #[], guard := none }) (v := ?v0) rfl (by kernel_rfl) (by kernel_rfl) (by kernel_rfl) (fun _ _ _ h => h) (Or.inl ⟨by rfl, ?hy0⟩) (by assumption) ?rest0
      case hy0 => (intro w hSw; (try dsimp only at hSw); first | (go_simp; done) | (go_simp; with_reducible rfl))
      try simp only [Act.put, List.setIfInBounds_toArray, List.set_cons_zero, List.set_cons_succ]
      refine wpAnyH_take (i := 1) (oi := { dst := some 33, op := Go.Op.move (Go.Operand.tmp 4), type := 26, pos := "law.go:82", after := #[], guard := none }) (v := ?v1) rfl (by kernel_rfl) (by kernel_rfl) (by kernel_rfl) (fun _ _ _ h => h) (Or.inl ⟨by rfl, ?hy1⟩) (by assumption) ?rest1
      case hy1 => (intro w hSw; (try dsimp only at hSw); first | (go_simp; done) | (go_simp; with_reducible rfl))
      try simp only [Act.put, List.setIfInBounds_toArray, List.set_cons_zero, List.set_cons_succ]
      refine wpAnyH_take (i := 2) (oi := { dst := some 34, op := Go.Op.load 34 (Go.Operand.tmp 6), type := 34, pos := "law.go:82", after := #[], guard := none }) (v := ?v2) rfl (by kernel_rfl) (by kernel_rfl) (by kernel_rfl) (fun _ _ _ h => h) (Or.inl ⟨by rfl, ?hy2⟩) (by assumption) ?rest2
      case hy2 => (intro w hSw; (try dsimp only at hSw); first | (go_simp; done) | (go_simp; with_reducible rfl))
      try simp only [Act.put, List.setIfInBounds_toArray, List.set_cons_zero, List.set_cons_succ]
      refine wpAnyH_ready (rs := [3]) (by kernel_rfl) (by simp) ?_
      refine AllReadyH.cons (o := { dst := some 35, op := Go.Op.call { callee := Go.Callee.value (Go.Operand.func 10), args := #[Go.Operand.tmp 32, Go.Operand.tmp 33, Go.Operand.tmp 34], argTypes := #[24, 26, 34] }, type := 4, pos := "law.go:82", after := #[{ on := 0, ground := Go.Ground.data }, { on := 1, ground := Go.Ground.data }, { on := 2, ground := Go.Ground.data }], guard := none }) rfl (fun Kr hKr => ?_) AllReadyH.nil
      go_simp
      refine kd.mono ?_
      rintro e' w1 ⟨rfl, ⟨K1, S1, v1, hP1, hK1⟩, hb1, hkp1⟩
      have y1 := (hkp1.keep z (heap_lt yz) hzS hzr).trans yz
      have t0 := cell_of y1 0
      have t1 := cell_of y1 1
      have t2 := cell_of y1 2
      have t3 := cell_of y1 3
      simp at t0 t1 t2 t3
      go_wp2_with fail
      refine hKr.out _ _ ?_ (fun hHeld => ?_)
      · exact ⟨t0, t1, t2, t3⟩
      clear hKr Kr
      try simp only [Act.put, List.setIfInBounds_toArray, List.set_cons_zero, List.set_cons_succ]
      have hzl := heap_lt y1
      refine wpAnyH_mono (S' := fun w' => Below w1.heap.size w1 w') (fun w' hw' => ⟨(hw'.cell (p := ⟨z, 0, none⟩) hzl).trans t0, (hw'.cell (p := ⟨z, 1, none⟩) hzl).trans t1, (hw'.cell (p := ⟨z, 2, none⟩) hzl).trans t2, (hw'.cell (p := ⟨z, 3, none⟩) hzl).trans t3⟩) _ _ _ _ ?_
      clear hHeld kd z0 z1 z2 z3
      have hHeld : Below w1.heap.size w1 w1 := Below.refl _ _
      have hl1 : K1.length ≤ 1000 := hP1.r.len
      obtain ⟨pX, cX, rfl⟩ := own_shape hP1.r.row
      have c6 : ∀ w', Below w1.heap.size w1 w' → w'.cell? ⟨r, 0, none⟩ = some (.slice pX K1.length cX) := fun w' hw' => (by rw [cell_of ((hw'.block _ (heap_lt hP1.r.cells)).trans hP1.r.cells)]; rfl)
      have y1a : ∀ w', Below w1.heap.size w1 w' → w'.cell? ⟨z, 1, none⟩ = some (.int .i64 xk.1) := fun w' hw' => (hw'.cell (p := ⟨z, 1, none⟩) hzl).trans t1
      have y1b : ∀ w', Below w1.heap.size w1 w' → w'.cell? ⟨z, 2, none⟩ = some (.int .u64 xk.2) := fun w' hw' => (hw'.cell (p := ⟨z, 2, none⟩) hzl).trans t2
      obtain ⟨mm, hmm⟩ : ∃ mm, decide (xk ∈ K1) = mm := ⟨_, rfl⟩
      have dd : (mm == mm) = true := by simp
      refine wpAnyH_take (i := 4) (oi := { dst := some 36, op := Go.Op.unOp Go.UnOp.not 4 (Go.Operand.tmp 35), type := 4, pos := "law.go:82", after := #[{ on := 3, ground := Go.Ground.data }], guard := none }) (v := ?v4) rfl (by kernel_rfl) (by kernel_rfl) (by kernel_rfl) (fun _ _ _ h => h) (Or.inl ⟨by rfl, ?hy4⟩) (by assumption) ?rest4
      case hy4 => (intro w hSw; (try dsimp only at hSw); first | (go_simp; done) | (go_simp; with_reducible rfl))
      try simp only [Act.put, List.setIfInBounds_toArray, List.set_cons_zero, List.set_cons_succ]
      refine wpAnyH_take (i := 5) (oi := { dst := some 37, op := Go.Op.move (Go.Operand.tmp 36), type := 4, pos := "law.go:82", after := #[{ on := 4, ground := Go.Ground.data }, { on := 3, ground := Go.Ground.chain }], guard := none }) (v := ?v5) rfl (by kernel_rfl) (by kernel_rfl) (by kernel_rfl) (fun _ _ _ h => h) (Or.inl ⟨by rfl, ?hy5⟩) (by assumption) ?rest5
      case hy5 => (intro w hSw; (try dsimp only at hSw); first | (go_simp; done) | (go_simp; with_reducible rfl))
      try simp only [Act.put, List.setIfInBounds_toArray, List.set_cons_zero, List.set_cons_succ]
      refine wpAnyH_take (i := 6) (oi := { dst := some 38, op := Go.Op.move (Go.Operand.tmp 3), type := 24, pos := "law.go:82", after := #[{ on := 5, ground := Go.Ground.guard }], guard := some (5, false) }) (v := ?v6) rfl (by kernel_rfl) (by kernel_rfl) (by kernel_rfl) (fun _ _ _ h => h) (Or.inl ⟨by rfl, ?hy6⟩) (by assumption) ?rest6
      case hy6 => (intro w hSw; (try dsimp only at hSw); first | (go_simp; done) | (go_simp; with_reducible rfl))
      try simp only [Act.put, List.setIfInBounds_toArray, List.set_cons_zero, List.set_cons_succ]
      refine wpAnyH_take (i := 8) (oi := { dst := some 40, op := Go.Op.move (Go.Operand.tmp 4), type := 26, pos := "law.go:82", after := #[{ on := 5, ground := Go.Ground.guard }], guard := some (5, false) }) (v := ?v8) rfl (by kernel_rfl) (by kernel_rfl) (by kernel_rfl) (fun _ _ _ h => h) (Or.inl ⟨by rfl, ?hy8⟩) (by assumption) ?rest8
      case hy8 => (intro w hSw; (try dsimp only at hSw); first | (go_simp; done) | (go_simp; with_reducible rfl))
      try simp only [Act.put, List.setIfInBounds_toArray, List.set_cons_zero, List.set_cons_succ]
      refine wpAnyH_take (i := 9) (oi := { dst := some 41, op := Go.Op.nilCheck (Go.Operand.tmp 40), type := 0, pos := "law.go:82", after := #[{ on := 8, ground := Go.Ground.data }, { on := 5, ground := Go.Ground.guard }], guard := some (5, false) }) (v := ?v9) rfl (by kernel_rfl) (by kernel_rfl) (by kernel_rfl) (fun _ _ _ h => h) (Or.inl ⟨by rfl, ?hy9⟩) (by assumption) ?rest9
      case hy9 => (intro w hSw; (try dsimp only at hSw); first | (go_simp; done) | (go_simp; with_reducible rfl))
      try simp only [Act.put, List.setIfInBounds_toArray, List.set_cons_zero, List.set_cons_succ]
      refine wpAnyH_take (i := 10) (oi := { dst := some 42, op := Go.Op.fieldAddr 29 (Go.Operand.tmp 41) 0, type := 0, pos := "law.go:82", after := #[{ on := 9, ground := Go.Ground.data }, { on := 5, ground := Go.Ground.guard }], guard := some (5, false) }) (v := ?v10) rfl (by kernel_rfl) (by kernel_rfl) (by kernel_rfl) (fun _ _ _ h => h) (Or.inl ⟨by rfl, ?hy10⟩) (by assumption) ?rest10
      case hy10 => (intro w hSw; (try dsimp only at hSw); first | (go_simp; done) | (go_simp; with_reducible rfl))
      try simp only [Act.put, List.setIfInBounds_toArray, List.set_cons_zero, List.set_cons_succ]
      refine wpAnyH_take (i := 11) (oi := { dst := some 43, op := Go.Op.load 27 (Go.Operand.tmp 42), type := 27, pos := "law.go:82", after := #[{ on := 10, ground := Go.Ground.data }, { on := 5, ground := Go.Ground.guard }], guard := some (5, false) }) (v := ?v11) rfl (by kernel_rfl) (by kernel_rfl) (by kernel_rfl) (fun _ _ _ h => h) (Or.inl ⟨by rfl, ?hy11⟩) (by assumption) ?rest11
      case hy11 => (intro w hSw; (try dsimp only at hSw); first | (go_simp; done) | (go_simp; with_reducible rfl))
      try simp only [Act.put, List.setIfInBounds_toArray, List.set_cons_zero, List.set_cons_succ]
      refine wpAnyH_ready (rs := [7]) (by kernel_rfl) (by simp) ?_
      refine AllReadyH.cons (o := { dst := some 39, op := Go.Op.call { callee := Go.Callee.value (Go.Operand.func 12), args := #[Go.Operand.tmp 38], argTypes := #[24] }, type := 27, pos := "law.go:82", after := #[{ on := 6, ground := Go.Ground.data }, { on := 5, ground := Go.Ground.chain }, { on := 5, ground := Go.Ground.guard }], guard := some (5, false) }) rfl (fun Kr hKr => ?_) AllReadyH.nil
      go_simp
      refine (all_li w1 B b K1 S1 hP1.l (by omega)).mono ?_
      rintro e' w2 ⟨va, rfl, hra, hb2⟩
      obtain ⟨pa, ca, rfl⟩ : ∃ p cap, va = .slice p K1.length cap := own_shape hra
      go_wp2_with fail
      refine hKr.out _ _ ?_ (fun hHeld => ?_)
      · exact hb2
      clear hKr Kr
      try simp only [Act.put, List.setIfInBounds_toArray, List.set_cons_zero, List.set_cons_succ]
      refine wpAnyH_ready (rs := [12]) (by kernel_rfl) (by simp) ?_
      refine AllReadyH.cons (o := { dst := some 44, op := Go.Op.call { callee := Go.Callee.value (Go.Operand.func 11), args := #[Go.Operand.tmp 39, Go.Operand.tmp 43], argTypes := #[27, 27] }, type := 4, pos := "law.go:82", after := #[{ on := 7, ground := Go.Ground.data }, { on := 11, ground := Go.Ground.data }, { on := 7, ground := Go.Ground.chain }, { on := 5, ground := Go.Ground.guard }], guard := some (5, false) }) rfl (fun Kr hKr => ?_) AllReadyH.nil
      go_simp
      refine (same_any w2 _ _ K1 pa pX ca cX hra (row_kept hP1.r.row fun g hg => hb2.block g (hP1.r.row.lt g hg).2) (by omega)).mono ?_
      rintro e' w3 ⟨rfl, hb3⟩
      have hb13 : Below w1.heap.size w1 w3 := hb2.trans (hb3.mono hb2.size)
      go_wp2_with fail
      refine hKr.out _ _ ?_ (fun hHeld => ?_)
      · exact hb13
      clear hKr Kr
      try simp only [Act.put, List.setIfInBounds_toArray, List.set_cons_zero, List.set_cons_succ]
      refine wpAnyH_take (i := 13) (oi := { dst := some 45, op := Go.Op.unOp Go.UnOp.not 4 (Go.Operand.tmp 44), type := 4, pos := "law.go:82", after := #[{ on := 12, ground := Go.Ground.data }, { on := 5, ground := Go.Ground.guard }], guard := some (5, false) }) (v := ?v13) rfl (by kernel_rfl) (by kernel_rfl) (by kernel_rfl) (fun _ _ _ h => h) (Or.inl ⟨by rfl, ?hy13⟩) (by assumption) ?rest13
      case hy13 => (intro w hSw; (try dsimp only at hSw); first | (go_simp; done) | (go_simp; with_reducible rfl))
      try simp only [Act.put, List.setIfInBounds_toArray, List.set_cons_zero, List.set_cons_succ]
      refine wpAnyH_take (i := 14) (oi := { dst := some 46, op := Go.Op.pick (Go.Operand.tmp 37) (Go.Operand.const (Go.Value.bool true)) (Go.Operand.tmp 45), type := 4, pos := "law.go:82", after := #[{ on := 5, ground := Go.Ground.data }, { on := 13, ground := Go.Ground.data }], guard := none }) (v := ?v14) rfl (by kernel_rfl) (by kernel_rfl) (by kernel_rfl) (fun _ _ _ h => h) (Or.inl ⟨by rfl, ?hy14⟩) (by assumption) ?rest14
      case hy14 => (intro w hSw; (try dsimp only at hSw); first | (go_simp; done) | (go_simp; with_reducible rfl))
      try simp only [Act.put, List.setIfInBounds_toArray, List.set_cons_zero, List.set_cons_succ]
      refine wpAnyH_take (i := 15) (oi := { dst := some 47, op := Go.Op.move (Go.Operand.tmp 46), type := 4, pos := "law.go:82", after := #[{ on := 14, ground := Go.Ground.data }, { on := 12, ground := Go.Ground.chain }], guard := none }) (v := ?v15) rfl (by kernel_rfl) (by kernel_rfl) (by kernel_rfl) (fun _ _ _ h => h) (Or.inl ⟨by rfl, ?hy15⟩) (by assumption) ?rest15
      case hy15 => (intro w hSw; (try dsimp only at hSw); first | (go_simp; done) | (go_simp; with_reducible rfl))
      try simp only [Act.put, List.setIfInBounds_toArray, List.set_cons_zero, List.set_cons_succ]
      refine wpAnyH_take (i := 16) (oi := { dst := some 48, op := Go.Op.move (Go.Operand.tmp 3), type := 24, pos := "law.go:82", after := #[{ on := 15, ground := Go.Ground.guard }], guard := some (15, false) }) (v := ?v16) rfl (by kernel_rfl) (by kernel_rfl) (by kernel_rfl) (fun _ _ _ h => h) (Or.inl ⟨by rfl, ?hy16⟩) (by assumption) ?rest16
      case hy16 => (intro w hSw; (try dsimp only at hSw); first | (go_simp; done) | (go_simp; with_reducible rfl))
      try simp only [Act.put, List.setIfInBounds_toArray, List.set_cons_zero, List.set_cons_succ]
      refine wpAnyH_take (i := 18) (oi := { dst := some 50, op := Go.Op.move (Go.Operand.tmp 4), type := 26, pos := "law.go:82", after := #[{ on := 15, ground := Go.Ground.guard }], guard := some (15, false) }) (v := ?v18) rfl (by kernel_rfl) (by kernel_rfl) (by kernel_rfl) (fun _ _ _ h => h) (Or.inl ⟨by rfl, ?hy18⟩) (by assumption) ?rest18
      case hy18 => (intro w hSw; (try dsimp only at hSw); first | (go_simp; done) | (go_simp; with_reducible rfl))
      try simp only [Act.put, List.setIfInBounds_toArray, List.set_cons_zero, List.set_cons_succ]
      refine wpAnyH_take (i := 19) (oi := { dst := some 51, op := Go.Op.nilCheck (Go.Operand.tmp 50), type := 0, pos := "law.go:82", after := #[{ on := 18, ground := Go.Ground.data }, { on := 15, ground := Go.Ground.guard }], guard := some (15, false) }) (v := ?v19) rfl (by kernel_rfl) (by kernel_rfl) (by kernel_rfl) (fun _ _ _ h => h) (Or.inl ⟨by rfl, ?hy19⟩) (by assumption) ?rest19
      case hy19 => (intro w hSw; (try dsimp only at hSw); first | (go_simp; done) | (go_simp; with_reducible rfl))
      try simp only [Act.put, List.setIfInBounds_toArray, List.set_cons_zero, List.set_cons_succ]
      refine wpAnyH_take (i := 20) (oi := { dst := some 52, op := Go.Op.fieldAddr 29 (Go.Operand.tmp 51) 0, type := 0, pos := "law.go:82", after := #[{ on := 19, ground := Go.Ground.data }, { on := 15, ground := Go.Ground.guard }], guard := some (15, false) }) (v := ?v20) rfl (by kernel_rfl) (by kernel_rfl) (by kernel_rfl) (fun _ _ _ h => h) (Or.inl ⟨by rfl, ?hy20⟩) (by assumption) ?rest20
      case hy20 => (intro w hSw; (try dsimp only at hSw); first | (go_simp; done) | (go_simp; with_reducible rfl))
      try simp only [Act.put, List.setIfInBounds_toArray, List.set_cons_zero, List.set_cons_succ]
      refine wpAnyH_take (i := 21) (oi := { dst := some 53, op := Go.Op.load 27 (Go.Operand.tmp 52), type := 27, pos := "law.go:82", after := #[{ on := 20, ground := Go.Ground.data }, { on := 15, ground := Go.Ground.guard }], guard := some (15, false) }) (v := ?v21) rfl (by kernel_rfl) (by kernel_rfl) (by kernel_rfl) (fun _ _ _ h => h) (Or.inl ⟨by rfl, ?hy21⟩) (by assumption) ?rest21
      case hy21 => (intro w hSw; (try dsimp only at hSw); first | (go_simp; done) | (go_simp; with_reducible rfl))
      try simp only [Act.put, List.setIfInBounds_toArray, List.set_cons_zero, List.set_cons_succ]
      refine wpAnyH_take (i := 22) (oi := { dst := some 54, op := Go.Op.call { callee := Go.Callee.builtin Go.Builtin.len, args := #[Go.Operand.tmp 53], argTypes := #[27] }, type := 3, pos := "law.go:82", after := #[{ on := 21, ground := Go.Ground.data }, { on := 15, ground := Go.Ground.guard }], guard := some (15, false) }) (v := ?v22) rfl (by kernel_rfl) (by kernel_rfl) (by kernel_rfl) (fun _ _ _ h => h) (Or.inl ⟨by rfl, ?hy22⟩) (by assumption) ?rest22
      case hy22 => (intro w hSw; (try dsimp only at hSw); first | (go_simp; done) | (go_simp; with_reducible rfl))
      try simp only [Act.put, List.setIfInBounds_toArray, List.set_cons_zero, List.set_cons_succ]
      refine wpAnyH_ready (rs := [17]) (by kernel_rfl) (by simp) ?_
      refine AllReadyH.cons (o := { dst := some 49, op := Go.Op.call { callee := Go.Callee.value (Go.Operand.func 13), args := #[Go.Operand.tmp 48], argTypes := #[24] }, type := 3, pos := "law.go:82", after := #[{ on := 16, ground := Go.Ground.data }, { on := 15, ground := Go.Ground.chain }, { on := 15, ground := Go.Ground.guard }], guard := some (15, false) }) rfl (fun Kr hKr => ?_) AllReadyH.nil
      go_simp
      refine (len_li w3 B b K1 S1 (hP1.l.bel hb13)).mono ?_
      rintro e' w' ⟨rfl, hw⟩
      rw [hw]
      clear hw
      go_wp2_with fail
      refine hKr.out _ _ ?_ (fun hHeld => ?_)
      · exact hb13
      clear hKr Kr
      try simp only [Act.put, List.setIfInBounds_toArray, List.set_cons_zero, List.set_cons_succ]
      refine wpAnyH_take (i := 23) (oi := { dst := some 55, op := Go.Op.binOp Go.BinOp.neq 3 (Go.Operand.tmp 49) (Go.Operand.tmp 54) 3, type := 4, pos := "law.go:82", after := #[{ on := 17, ground := Go.Ground.data }, { on := 22, ground := Go.Ground.data }, { on := 15, ground := Go.Ground.guard }], guard := some (15, false) }) (v := ?v23) rfl (by kernel_rfl) (by kernel_rfl) (by kernel_rfl) (fun _ _ _ h => h) (Or.inl ⟨by rfl, ?hy23⟩) (by assumption) ?rest23
      case hy23 => (intro w hSw; (try dsimp only at hSw); first | (go_simp; done) | (go_simp; with_reducible rfl))
      try simp only [Act.put, List.setIfInBounds_toArray, List.set_cons_zero, List.set_cons_succ]
      refine wpAnyH_take (i := 24) (oi := { dst := some 56, op := Go.Op.pick (Go.Operand.tmp 47) (Go.Operand.const (Go.Value.bool true)) (Go.Operand.tmp 55), type := 4, pos := "law.go:82", after := #[{ on := 15, ground := Go.Ground.data }, { on := 23, ground := Go.Ground.data }], guard := none }) (v := ?v24) rfl (by kernel_rfl) (by kernel_rfl) (by kernel_rfl) (fun _ _ _ h => h) (Or.inl ⟨by rfl, ?hy24⟩) (by assumption) ?rest24
      case hy24 => (intro w hSw; (try dsimp only at hSw); first | (go_simp; done) | (go_simp; with_reducible rfl))
      try simp only [Act.put, List.setIfInBounds_toArray, List.set_cons_zero, List.set_cons_succ]
      refine wpAnyH_take (i := 25) (oi := { dst := some 57, op := Go.Op.move (Go.Operand.tmp 56), type := 4, pos := "law.go:82", after := #[{ on := 24, ground := Go.Ground.data }, { on := 17, ground := Go.Ground.chain }], guard := none }) (v := ?v25) rfl (by kernel_rfl) (by kernel_rfl) (by kernel_rfl) (fun _ _ _ h => h) (Or.inl ⟨by rfl, ?hy25⟩) (by assumption) ?rest25
      case hy25 => (intro w hSw; (try dsimp only at hSw); first | (go_simp; done) | (go_simp; with_reducible rfl))
      try simp only [Act.put, List.setIfInBounds_toArray, List.set_cons_zero, List.set_cons_succ]
      refine wpAnyH_take (i := 26) (oi := { dst := some 58, op := Go.Op.move (Go.Operand.tmp 3), type := 24, pos := "law.go:82", after := #[{ on := 25, ground := Go.Ground.guard }], guard := some (25, false) }) (v := ?v26) rfl (by kernel_rfl) (by kernel_rfl) (by kernel_rfl) (fun _ _ _ h => h) (Or.inl ⟨by rfl, ?hy26⟩) (by assumption) ?rest26
      case hy26 => (intro w hSw; (try dsimp only at hSw); first | (go_simp; done) | (go_simp; with_reducible rfl))
      try simp only [Act.put, List.setIfInBounds_toArray, List.set_cons_zero, List.set_cons_succ]
      refine wpAnyH_take (i := 27) (oi := { dst := some 59, op := Go.Op.fieldAddr 34 (Go.Operand.tmp 6) 1, type := 0, pos := "law.go:82", after := #[{ on := 25, ground := Go.Ground.guard }], guard := some (25, false) }) (v := ?v27) rfl (by kernel_rfl) (by kernel_rfl) (by kernel_rfl) (fun _ _ _ h => h) (Or.inl ⟨by rfl, ?hy27⟩) (by assumption) ?rest27
      case hy27 => (intro w hSw; (try dsimp only at hSw); first | (go_simp; done) | (go_simp; with_reducible rfl))
      try simp only [Act.put, List.setIfInBounds_toArray, List.set_cons_zero, List.set_cons_succ]
      refine wpAnyH_take (i := 28) (oi := { dst := some 60, op := Go.Op.load 32 (Go.Operand.tmp 59), type := 32, pos := "law.go:82", after := #[{ on := 27, ground := Go.Ground.data }, { on := 25, ground := Go.Ground.guard }], guard := some (25, false) }) (v := ?v28) rfl (by kernel_rfl) (by kernel_rfl) (by kernel_rfl) (fun _ _ _ h => h) (Or.inl ⟨by rfl, ?hy28⟩) (by assumption) ?rest28
      case hy28 => (intro w hSw; (try dsimp only at hSw); first | (go_simp; done) | (go_simp; with_reducible rfl))
      try simp only [Act.put, List.setIfInBounds_toArray, List.set_cons_zero, List.set_cons_succ]
      refine wpAnyH_take (i := 30) (oi := { dst := some 62, op := Go.Op.move (Go.Operand.tmp 4), type := 26, pos := "law.go:82", after := #[{ on := 25, ground := Go.Ground.guard }], guard := some (25, false) }) (v := ?v30) rfl (by kernel_rfl) (by kernel_rfl) (by kernel_rfl) (fun _ _ _ h => h) (Or.inl ⟨by rfl, ?hy30⟩) (by assumption) ?rest30
      case hy30 => (intro w hSw; (try dsimp only at hSw); first | (go_simp; done) | (go_simp; with_reducible rfl))
      try simp only [Act.put, List.setIfInBounds_toArray, List.set_cons_zero, List.set_cons_succ]
      refine wpAnyH_take (i := 31) (oi := { dst := some 63, op := Go.Op.fieldAddr 34 (Go.Operand.tmp 6) 1, type := 0, pos := "law.go:82", after := #[{ on := 25, ground := Go.Ground.guard }], guard := some (25, false) }) (v := ?v31) rfl (by kernel_rfl) (by kernel_rfl) (by kernel_rfl) (fun _ _ _ h => h) (Or.inl ⟨by rfl, ?hy31⟩) (by assumption) ?rest31
      case hy31 => (intro w hSw; (try dsimp only at hSw); first | (go_simp; done) | (go_simp; with_reducible rfl))
      try simp only [Act.put, List.setIfInBounds_toArray, List.set_cons_zero, List.set_cons_succ]
      refine wpAnyH_take (i := 32) (oi := { dst := some 64, op := Go.Op.load 32 (Go.Operand.tmp 63), type := 32, pos := "law.go:82", after := #[{ on := 31, ground := Go.Ground.data }, { on := 25, ground := Go.Ground.guard }], guard := some (25, false) }) (v := ?v32) rfl (by kernel_rfl) (by kernel_rfl) (by kernel_rfl) (fun _ _ _ h => h) (Or.inl ⟨by rfl, ?hy32⟩) (by assumption) ?rest32
      case hy32 => (intro w hSw; (try dsimp only at hSw); first | (go_simp; done) | (go_simp; with_reducible rfl))
      try simp only [Act.put, List.setIfInBounds_toArray, List.set_cons_zero, List.set_cons_succ]
      refine wpAnyH_ready (rs := [29]) (by kernel_rfl) (by simp) ?_
      refine AllReadyH.cons (o := { dst := some 61, op := Go.Op.call { callee := Go.Callee.value (Go.Operand.func 14), args := #[Go.Operand.tmp 58, Go.Operand.tmp 60], argTypes := #[24, 32] }, type := 4, pos := "law.go:82", after := #[{ on := 26, ground := Go.Ground.data }, { on := 28, ground := Go.Ground.data }, { on := 25, ground := Go.Ground.chain }, { on := 25, ground := Go.Ground.guard }], guard := some (25, false) }) rfl (fun Kr hKr => ?_) AllReadyH.nil
      go_simp
      have kh := has_li w3 B b K1 S1 (hP1.l.bel hb13) xk
      rw [hmm] at kh
      refine kh.mono ?_
      rintro e' w4 ⟨rfl, hb4⟩
      have hb14 : Below w1.heap.size w1 w4 := hb13.trans (hb4.mono hb13.size)
      go_wp2_with fail
      refine hKr.out _ _ ?_ (fun hHeld => ?_)
      · exact hb14
      clear hKr Kr
      try simp only [Act.put, List.setIfInBounds_toArray, List.set_cons_zero, List.set_cons_succ]
      refine wpAnyH_ready (rs := [33]) (by kernel_rfl) (by simp) ?_
      refine AllReadyH.cons (o := { dst := some 65, op := Go.Op.call { callee := Go.Callee.value (Go.Operand.func 15), args := #[Go.Operand.tmp 62, Go.Operand.tmp 64], argTypes := #[26, 32] }, type := 3, pos := "law.go:82", after := #[{ on := 30, ground := Go.Ground.data }, { on := 32, ground := Go.Ground.data }, { on := 29, ground := Go.Ground.chain }, { on := 25, ground := Go.Ground.guard }], guard := some (25, false) }) rfl (fun Kr hKr => ?_) AllReadyH.nil
      go_simp
      refine (rat_any w4 B r K1 _ (hP1.r.below hb14) xk).mono ?_
      rintro e' w5 ⟨jA, rfl, hjA, hb5⟩
      have hb15 : Below w1.heap.size w1 w5 := hb14.trans (hb5.mono hb14.size)
      have dge : decide ((0 : Int) ≤ jA) = mm := by
        rw [← hmm]
        rcases hjA with ⟨h1, rfl⟩ | ⟨i, rfl, h1, _⟩
        · simp [h1]
        · simp [List.mem_of_getElem? h1]
      go_wp2_with fail
      refine hKr.out _ _ ?_ (fun hHeld => ?_)
      · exact hb15
      clear hKr Kr
      try simp only [Act.put, List.setIfInBounds_toArray, List.set_cons_zero, List.set_cons_succ]
      refine wpAnyH_take (i := 34) (oi := { dst := some 66, op := Go.Op.binOp Go.BinOp.geq 3 (Go.Operand.tmp 65) (Go.Operand.const (Go.Value.int Go.IntKind.i64 0)) 3, type := 4, pos := "law.go:82", after := #[{ on := 33, ground := Go.Ground.data }, { on := 25, ground := Go.Ground.guard }], guard := some (25, false) }) (v := ?v34) rfl (by kernel_rfl) (by kernel_rfl) (by kernel_rfl) (fun _ _ _ h => h) (Or.inl ⟨by rfl, ?hy34⟩) (by assumption) ?rest34
      case hy34 => (intro w hSw; (try dsimp only at hSw); first | (go_simp; done) | (go_simp; with_reducible rfl))
      try simp only [Act.put, List.setIfInBounds_toArray, List.set_cons_zero, List.set_cons_succ]
      refine wpAnyH_take (i := 35) (oi := { dst := some 67, op := Go.Op.binOp Go.BinOp.neq 4 (Go.Operand.tmp 61) (Go.Operand.tmp 66) 4, type := 4, pos := "law.go:82", after := #[{ on := 29, ground := Go.Ground.data }, { on := 34, ground := Go.Ground.data }, { on := 25, ground := Go.Ground.guard }], guard := some (25, false) }) (v := ?v35) rfl (by kernel_rfl) (by kernel_rfl) (by kernel_rfl) (fun _ _ _ h => h) (Or.inl ⟨by rfl, ?hy35⟩) (by assumption) ?rest35
      case hy35 => (intro w hSw; (try dsimp only at hSw); first | (go_simp; done) | (go_simp; with_reducible rfl))
      try simp only [Act.put, List.setIfInBounds_toArray, List.set_cons_zero, List.set_cons_succ]
      refine wpAnyH_take (i := 36) (oi := { dst := some 68, op := Go.Op.pick (Go.Operand.tmp 57) (Go.Operand.const (Go.Value.bool true)) (Go.Operand.tmp 67), type := 4, pos := "law.go:82", after := #[{ on := 25, ground := Go.Ground.data }, { on := 35, ground := Go.Ground.data }], guard := none }) (v := ?v36) rfl (by kernel_rfl) (by kernel_rfl) (by kernel_rfl) (fun _ _ _ h => h) (Or.inl ⟨by rfl, ?hy36⟩) (by assumption) ?rest36
      case hy36 => (intro w hSw; (try dsimp only at hSw); first | (go_simp; done) | (go_simp; with_reducible rfl))
      try simp only [Act.put, List.setIfInBounds_toArray, List.set_cons_zero, List.set_cons_succ]
      refine wpAnyH_done (by kernel_rfl) ?_ _
      have hP5 := hP1.below hb15
      have hbW : Below B w w5 := (hbZ.drew.trans hb1).trans (hb15.mono hP1.l.size)
      have y5 := (hb15.block _ hzl).trans y1
      clear hHeld t0 t1 t2 t3 c6 y1a y1b hb5 hb4 hb3 hb2 hb14 hb13 hb15 hra hjA dge dd hP1 y1 hb1 hkp1 hzl
      go_wp2
      go_loopw [7] (fun n7 wk => ∃ k : Nat, n7 = .int .i64 k ∧ k ≤ 2 ∧ Below w5.heap.size w5 wk) (fun n7 _ => 2 - (valOf n7).toNat)
      case atStart => exact ⟨0, rfl, by omega, Below.refl _ _⟩
      case round =>
        obtain ⟨k, rfl, hk, hbk⟩ := hrel
        have hPk := hP5.below hbk
        by_cases hk2 : k < 2
        · have dk : decide ((k : Int) < 2) = true := by simp; omega
          rcases (show k = 0 ∨ k = 1 by omega) with rfl | rfl
          · have e76 : ((0 : Int) == 0) = true := by decide
            have ka := peek_li wr B b K1 S1 hPk.l true
            have ke := fun (u : World) (hu : Rl u B r K1 _) => rend_any u B r K1 (.slice pX K1.length cX) hu true
            by_cases hK : 0 < K1.length
            · obtain ⟨j, ⟨s, g⟩, e1, hj, hjk, e2, e3⟩ := end_some hPk.l.nd hK true
              rw [e2] at ka
              simp only [oV, Option.isSome_some] at ka
              rw [e1] at ke
              go_upto_region 15 with (go_at_call 16; go_loud (refine ka.mono ?_; rintro e v1 ⟨rfl, hb1⟩))
              have ya := heap_alloc_new v1 (.cells #[.int .i64 s, .int .u64 g] 32)
              have hbv : Below wr.heap.size wr (v1.alloc (.cells #[.int .i64 s, .int .u64 g] 32)) := hb1.alloc hb1.size _
              have hP2 := hPk.below hbv
              have hb2 := hbk.trans (hbv.mono hbk.size)
              clear ka hbv hb1
              generalize v1.alloc (.cells #[.int .i64 s, .int .u64 g] 32) = v2 at ya hP2 hb2 ⊢
              generalize v1.heap.size = a at ya ⊢
              have kE := ke v2 hP2.r
              go_upto_region 16 with (go_at_call 17; refine kE.mono ?_; rintro e w' ⟨rfl, hw⟩; rw [hw]; clear hw)
              have a0 := cell_of ya 0
              have a1 := cell_of ya 1
              simp at a0 a1
              have c6' : v2.cell? ⟨r, 0, none⟩ = some (.slice pX K1.length cX) := by rw [cell_of hP2.r.cells]; rfl
              obtain ⟨gX, y, hy, -, -, t0, t1, hai⟩ := idx34 hP2.r.row hj (by omega)
              rw [hjk] at hy
              obtain rfl := Option.some.inj hy
              simp only at t0 t1
              have nq := fun W => neqH s s g g W
              simp only [beq_self_eq_true, Bool.and_self, Bool.not_true] at nq
              have dg : decide ((0 : Int) ≤ j) = true := by simp
              clear kE ke hjk e1 e2 e3 hy
              go_quiet (fail)
              go_wp2
              exact ⟨⟨0 + 1, by simp, by omega, Below.drewN hb2 _⟩, by simp [valOf]⟩
            · obtain ⟨hK0, e1, e2⟩ := end_none hK true
              rw [e2] at ka
              simp only [oV, Option.isSome_none] at ka
              rw [e1] at ke
              clear hK hK0 e1 e2
              go_upto_region 15 with (go_at_call 16; go_loud (refine ka.mono ?_; rintro e v1 ⟨rfl, hb1⟩))
              have ya := heap_alloc_new v1 (.cells #[.int .i64 0, .int .u64 0] 32)
              have hbv : Below wr.heap.size wr (v1.alloc (.cells #[.int .i64 0, .int .u64 0] 32)) := hb1.alloc hb1.size _
              have hP2 := hPk.below hbv
              have hb2 := hbk.trans (hbv.mono hbk.size)
              clear ka hbv hb1
              generalize v1.alloc (.cells #[.int .i64 0, .int .u64 0] 32) = v2 at ya hP2 hb2 ⊢
              generalize v1.heap.size = a at ya ⊢
              have kE := ke v2 hP2.r
              go_upto_region 16 with (go_at_call 17; refine kE.mono ?_; rintro e w' ⟨rfl, hw⟩; rw [hw]; clear hw)
              have a0 := cell_of ya 0
              have a1 := cell_of ya 1
              simp at a0 a1
              have nq := fun W => neqH 0 0 0 0 W
              simp only [beq_self_eq_true, Bool.and_self, Bool.not_true] at nq
              clear kE ke
              go_quiet (fail)
              go_wp2
              exact ⟨⟨0 + 1, by simp, by omega, Below.drewN hb2 _⟩, by simp [valOf]⟩
          · have e76 : ((1 : Int) == 0) = false := by decide
            have ka := peek_li wr B b K1 S1 hPk.l false
            have ke := fun (u : World) (hu : Rl u B r K1 _) => rend_any u B r K1 (.slice pX K1.length cX) hu false
            by_cases hK : 0 < K1.length
            · obtain ⟨j, ⟨s, g⟩, e1, hj, hjk, e2, e3⟩ := end_some hPk.l.nd hK false
              rw [e2] at ka
              simp only [oV, Option.isSome_some] at ka
              rw [e1] at ke
              go_upto_region 15 with (go_at_call 16; go_loud (refine ka.mono ?_; rintro e v1 ⟨rfl, hb1⟩))
              have ya := heap_alloc_new v1 (.cells #[.int .i64 s, .int .u64 g] 32)
              have hbv : Below wr.heap.size wr (v1.alloc (.cells #[.int .i64 s, .int .u64 g] 32)) := hb1.alloc hb1.size _
              have hP2 := hPk.below hbv
              have hb2 := hbk.trans (hbv.mono hbk.size)
              clear ka hbv hb1
              generalize v1.alloc (.cells #[.int .i64 s, .int .u64 g] 32) = v2 at ya hP2 hb2 ⊢
              generalize v1.heap.size = a at ya ⊢
              have kE := ke v2 hP2.r
              go_upto_region 16 with (go_at_call 17; refine kE.mono ?_; rintro e w' ⟨rfl, hw⟩; rw [hw]; clear hw)
              have a0 := cell_of ya 0
              have a1 := cell_of ya 1
              simp at a0 a1
              have c6' : v2.cell? ⟨r, 0, none⟩ = some (.slice pX K1.length cX) := by rw [cell_of hP2.r.cells]; rfl
              obtain ⟨gX, y, hy, -, -, t0, t1, hai⟩ := idx34 hP2.r.row hj (by omega)
              rw [hjk] at hy
              obtain rfl := Option.some.inj hy
              simp only at t0 t1
              have nq := fun W => neqH s s g g W
              simp only [beq_self_eq_true, Bool.and_self, Bool.not_true] at nq
              have dg : decide ((0 : Int) ≤ j) = true := by simp
              clear kE ke hjk e1 e2 e3 hy
              go_quiet (fail)
              go_wp2
              exact ⟨⟨1 + 1, by simp, by omega, Below.drewN hb2 _⟩, by simp [valOf]⟩
            · obtain ⟨hK0, e1, e2⟩ := end_none hK false
              rw [e2] at ka
              simp only [oV, Option.isSome_none] at ka
              rw [e1] at ke
              clear hK hK0 e1 e2
              go_upto_region 15 with (go_at_call 16; go_loud (refine ka.mono ?_; rintro e v1 ⟨rfl, hb1⟩))
              have ya := heap_alloc_new v1 (.cells #[.int .i64 0, .int .u64 0] 32)
              have hbv : Below wr.heap.size wr (v1.alloc (.cells #[.int .i64 0, .int .u64 0] 32)) := hb1.alloc hb1.size _
              have hP2 := hPk.below hbv
              have hb2 := hbk.trans (hbv.mono hbk.size)
              clear ka hbv hb1
              generalize v1.alloc (.cells #[.int .i64 0, .int .u64 0] 32) = v2 at ya hP2 hb2 ⊢
              generalize v1.heap.size = a at ya ⊢
              have kE := ke v2 hP2.r
              go_upto_region 16 with (go_at_call 17; refine kE.mono ?_; rintro e w' ⟨rfl, hw⟩; rw [hw]; clear hw)
              have a0 := cell_of ya 0
              have a1 := cell_of ya 1
              simp at a0 a1
              have nq := fun W => neqH 0 0 0 0 W
              simp only [beq_self_eq_true, Bool.and_self, Bool.not_true] at nq
              clear kE ke
              go_quiet (fail)
              go_wp2
              exact ⟨⟨1 + 1, by simp, by omega, Below.drewN hb2 _⟩, by simp [valOf]⟩
        · have dk : decide ((k : Int) < 2) = false := by simp; omega
          obtain rfl : k = 2 := by omega
          have yk := (hbk.block _ (heap_lt y5)).trans y5
          have z1 := cell_of yk 1
          have z2 := cell_of yk 2
          simp at z1 z2
          have kn := next_li wr B b K1 S1 hPk.l xk
          have hl1' := hl1
          by_cases hxm : xk ∈ K1
          · obtain ⟨i1, hi1⟩ := List.getElem?_of_mem hxm
            have hil := (List.getElem?_eq_some_iff.1 hi1).1
            rw [nextM_at hPk.l.nd hi1, oV_eq] at kn
            obtain ⟨oo, ho⟩ : ∃ oo, K1[i1 + 1]? = oo := ⟨_, rfl⟩
            have hs0 : (K1[i1 + 1]?).isSome = decide (i1 + 1 < K1.length) := by by_cases q : i1 + 1 < K1.length <;> simp [q]
            rw [ho] at kn hs0
            replace ho : Hid _ := ho
            by_cases hlt : i1 + 1 < K1.length
            · have d2 : decide (i1 + 1 < K1.length) = true := by simpa using hlt
              have d3 : decide ((i1 : Int) + 1 < (K1.length : Int)) = true := by simp; omega
              rw [hs0, d2] at kn
              clear d2 d3 hs0
              replace hlt : Hid _ := hlt
              have kA := fun (u : World) (hu : Rl u B r K1 (.slice pX K1.length cX)) => (rat_any u B r K1 _ hu xk).mono (R' := fun e w' => e = .returned (.int .i64 (i1 : Int)) ∧ Below u.heap.size u w') fun e w' ⟨j, h1, h2, h3⟩ => by
                rcases h2 with ⟨h2, _⟩ | ⟨i2, rfl, h4, _⟩
                · exact absurd hxm h2
                · have e1 := idx_atG (x := xk) hPk.l.nd h4
                  have e2 := idx_atG (x := xk) hPk.l.nd hi1
                  rw [e1] at e2
                  subst e2
                  exact ⟨h1, h3⟩
              have d0 : decide ((0 : Int) ≤ (i1 : Int)) = true := by simp
              have e7 : IntKind.i64.wrap ((i1 : Int) + 1) = (i1 : Int) + 1 := IntWalk.i64_in _ (by omega)
              go_upto_region 19 with (go_at_call 18; go_loud (refine kn.mono ?_; rintro e v1 ⟨rfl, hb1⟩))
              have ya := heap_alloc_new v1 (.cells #[.int .i64 (o1 oo), .int .u64 (o2 oo)] 32)
              have hbv : Below wr.heap.size wr (v1.alloc (.cells #[.int .i64 (o1 oo), .int .u64 (o2 oo)] 32)) := hb1.alloc hb1.size _
              have yk2 := (hbv.block _ (heap_lt yk)).trans yk
              have hP2 := hPk.below hbv
              have hb2 := hbk.trans (hbv.mono hbk.size)
              clear kn hbv hb1 z1 z2
              generalize v1.alloc (.cells #[.int .i64 (o1 oo), .int .u64 (o2 oo)] 32) = v2 at ya yk2 hP2 hb2 ⊢
              generalize v1.heap.size = a at ya ⊢
              have z1 := cell_of yk2 1
              have z2 := cell_of yk2 2
              simp at z1 z2
              have kE := kA v2 hP2.r
              go_upto_region 20 with (go_at_call 15; go_loud (refine kE.mono ?_; rintro e v3 ⟨rfl, hb3⟩))
              have hP3 := hP2.below hb3
              have ya3 := (hb3.block _ (heap_lt ya)).trans ya
              have hb4 := hb2.trans (hb3.mono hb2.size)
              have c6' : v3.cell? ⟨r, 0, none⟩ = some (.slice pX K1.length cX) := by rw [cell_of hP3.r.cells]; rfl
              have a0 := cell_of ya3 0
              have a1 := cell_of ya3 1
              simp at a0 a1
              clear kA kE z1 z2
              replace hlt := hlt.out
              have d3 : decide ((i1 : Int) + 1 < (K1.length : Int)) = true := by simp; omega
              obtain ⟨gX, ⟨s, g⟩, hy, -, -, t0, t1, hai⟩ := idx34 hP3.r.row hlt (by omega)
              rw [show ((i1 + 1 : Nat) : Int) = (i1 : Int) + 1 by simp] at hai
              simp only at t0 t1
              have hoy : oo = some (s, g) := ho.out.symm.trans hy
              simp only [hoy, o1, o2, Option.map_some, Option.getD_some] at a0 a1
              clear hoy hlt ho
              have nq := fun W => neqH s s g g W
              simp only [beq_self_eq_true, Bool.and_self, Bool.not_true] at nq
              clear hy hi1
              go_upto_region 21 with fail
              go_quiet (fail)
              go_wp2
              exact ⟨⟨i + 1, K1, S1, _, by simp, by omega, by omega, hP3.below (Below.drewN (Below.refl _ _) _), Below.drewN (hbW.trans (hb4.mono hP5.l.size)) _⟩, by simp [valOf]; omega⟩
            · have d2 : decide (i1 + 1 < K1.length) = false := by simpa using hlt
              have d3 : decide ((i1 : Int) + 1 < (K1.length : Int)) = false := by simp; omega
              rw [hs0, d2] at kn
              clear d2 d3 hs0
              replace hlt : Hid _ := hlt
              have kA := fun (u : World) (hu : Rl u B r K1 (.slice pX K1.length cX)) => (rat_any u B r K1 _ hu xk).mono (R' := fun e w' => e = .returned (.int .i64 (i1 : Int)) ∧ Below u.heap.size u w') fun e w' ⟨j, h1, h2, h3⟩ => by
                rcases h2 with ⟨h2, _⟩ | ⟨i2, rfl, h4, _⟩
                · exact absurd hxm h2
                · have e1 := idx_atG (x := xk) hPk.l.nd h4
                  have e2 := idx_atG (x := xk) hPk.l.nd hi1
                  rw [e1] at e2
                  subst e2
                  exact ⟨h1, h3⟩
              have d0 : decide ((0 : Int) ≤ (i1 : Int)) = true := by simp
              have e7 : IntKind.i64.wrap ((i1 : Int) + 1) = (i1 : Int) + 1 := IntWalk.i64_in _ (by omega)
              go_upto_region 19 with (go_at_call 18; go_loud (refine kn.mono ?_; rintro e v1 ⟨rfl, hb1⟩))
              have ya := heap_alloc_new v1 (.cells #[.int .i64 (o1 oo), .int .u64 (o2 oo)] 32)
              have hbv : Below wr.heap.size wr (v1.alloc (.cells #[.int .i64 (o1 oo), .int .u64 (o2 oo)] 32)) := hb1.alloc hb1.size _
              have yk2 := (hbv.block _ (heap_lt yk)).trans yk
              have hP2 := hPk.below hbv
              have hb2 := hbk.trans (hbv.mono hbk.size)
              clear kn hbv hb1 z1 z2
              generalize v1.alloc (.cells #[.int .i64 (o1 oo), .int .u64 (o2 oo)] 32) = v2 at ya yk2 hP2 hb2 ⊢
              generalize v1.heap.size = a at ya ⊢
              have z1 := cell_of yk2 1
              have z2 := cell_of yk2 2
              simp at z1 z2
              have kE := kA v2 hP2.r
              go_upto_region 20 with (go_at_call 15; go_loud (refine kE.mono ?_; rintro e v3 ⟨rfl, hb3⟩))
              have hP3 := hP2.below hb3
              have ya3 := (hb3.block _ (heap_lt ya)).trans ya
              have hb4 := hb2.trans (hb3.mono hb2.size)
              have c6' : v3.cell? ⟨r, 0, none⟩ = some (.slice pX K1.length cX) := by rw [cell_of hP3.r.cells]; rfl
              have a0 := cell_of ya3 0
              have a1 := cell_of ya3 1
              simp at a0 a1
              clear kA kE z1 z2
              have hlt2 : ¬ i1 + 1 < K1.length := hlt.out
              have d3 : decide ((i1 : Int) + 1 < (K1.length : Int)) = false := decide_eq_false (by omega)
              have hn : oo = none := ho.out.symm.trans (List.getElem?_eq_none (by omega))
              simp only [hn, o1, o2, Option.map_none, Option.getD_none] at a0 a1
              have nq := fun W => neqH 0 0 0 0 W
              simp only [beq_self_eq_true, Bool.and_self, Bool.not_true] at nq
              clear hn hi1 hlt hlt2 ho
              go_upto_region 21 with fail
              go_quiet (fail)
              go_wp2
              exact ⟨⟨i + 1, K1, S1, _, by simp, by omega, by omega, hP3.below (Below.drewN (Below.refl _ _) _), Below.drewN (hbW.trans (hb4.mono hP5.l.size)) _⟩, by simp [valOf]; omega⟩
          · have hn : nextM K1 xk = none := by
              unfold nextM
              rw [List.getElem?_eq_none]
              have := List.idxOf_eq_length hxm
              omega
            rw [hn] at kn
            simp only [oV, Option.isSome_none] at kn
            have kA := fun (u : World) (hu : Rl u B r K1 (.slice pX K1.length cX)) => (rat_any u B r K1 _ hu xk).mono (R' := fun e w' => e = .returned (.int .i64 (-1)) ∧ Below u.heap.size u w') fun e w' ⟨j, h1, h2, h3⟩ => by
              rcases h2 with ⟨_, rfl⟩ | ⟨i2, _, h4, _⟩
              · exact ⟨h1, h3⟩
              · exact absurd (List.mem_of_getElem? h4) hxm
            go_upto_region 19 with (go_at_call 18; go_loud (refine kn.mono ?_; rintro e v1 ⟨rfl, hb1⟩))
            have ya := heap_alloc_new v1 (.cells #[.int .i64 0, .int .u64 0] 32)
            have hbv : Below wr.heap.size wr (v1.alloc (.cells #[.int .i64 0, .int .u64 0] 32)) := hb1.alloc hb1.size _
            have yk2 := (hbv.block _ (heap_lt yk)).trans yk
            have hP2 := hPk.below hbv
            have hb2 := hbk.trans (hbv.mono hbk.size)
            clear kn hbv hb1 z1 z2
            generalize v1.alloc (.cells #[.int .i64 0, .int .u64 0] 32) = v2 at ya yk2 hP2 hb2 ⊢
            generalize v1.heap.size = a at ya ⊢
            have z1 := cell_of yk2 1
            have z2 := cell_of yk2 2
            simp at z1 z2
            have kE := kA v2 hP2.r
            go_upto_region 20 with (go_at_call 15; go_loud (refine kE.mono ?_; rintro e v3 ⟨rfl, hb3⟩))
            have hP3 := hP2.below hb3
            have ya3 := (hb3.block _ (heap_lt ya)).trans ya
            have hb4 := hb2.trans (hb3.mono hb2.size)
            have a0 := cell_of ya3 0
            have a1 := cell_of ya3 1
            simp at a0 a1
            clear kA kE z1 z2 hxm hn
            have nq := fun W => neqH 0 0 0 0 W
            simp only [beq_self_eq_true, Bool.and_self, Bool.not_true] at nq
            go_upto_region 21 with fail
            go_quiet (fail)
            go_wp2
            exact ⟨⟨i + 1, K1, S1, _, by simp, by omega, by omega, hP3.below (Below.drewN (Below.refl _ _) _), Below.drewN (hbW.trans (hb4.mono hP5.l.size)) _⟩, by simp [valOf]; omega⟩
    · have d : decide ((i : Int) < L0.length) = false := by simp; omega
      obtain rfl : i = L0.length := by omega
      go_wp2_with (go_at_call 8; refine (kw _).mono ?_; rintro e w9 ⟨rfl, hb9⟩)
      all_goals go_returns
      have hbe := hbl.trans (hb9.mono hP.l.size)
      exact ⟨rfl, by rw [hB0.out]; exact hbe⟩

theorem readable : ∀ t ∈ Try.f3.params.toList, Try.prog.readableRec t = true ∧ t < Try.prog.types.size := by
  rw [Try.params3]
  intro t ht
  simp at ht
  rcases ht with rfl
  all_goals exact ⟨by kernel_rfl, of_decide_eq_true (by kernel_rfl)⟩
set_option maxRecDepth 100000 in
theorem lifted (os : Os) (started : os.Started) (H : Type) (enc : TypeId × Value → H) :
    ReturnsInHanded {} Try.checked os 3 .any (Rows.listPlaysSpec.pre6 enc Try.prog Try.f3 Rows.listPlaysRow.domain false) (Rows.listPlaysSpec.post enc Try.prog Try.f3 false true false false) := by
  refine returnsInHanded_of_change (C := Try.checked) own started (by kernel_rfl) Try.func3
    (ChangeSpec.witness6 (enc := enc) (C := Try.checked) false ⟨#[], #[.slice none 0 0], []⟩ 8 (by kernel_rfl) (by kernel_rfl) (by kernel_rfl) (by kernel_rfl)) ?_
  intro W base args ds gs before hval0 hW hcnd _
  have hval : ∀ (j : Nat) t v, Try.f3.params[j]? = some t → args[j]? = some v → Value.okWide Try.prog W .any base t v := hval0
  have hW' := hW
  obtain ⟨p, q, hA0, hV, rfl, hfz, hnd⟩ := hW
  have hA : DataW.TrodAll enc Try.prog W 0 (fun _ => true) true Try.f3.params.toList args.toList ds p := hA0
  rw [Try.params3] at hA hval
  obtain ⟨v0, vs0, d0, ds0, p0, q0, hargs, rfl, rfl, h0, r0⟩ := trodAll_cons hA
  obtain ⟨rfl, rfl, rfl⟩ := trodAll_nil r0
  obtain rfl : args = #[v0] := by cases args; simp_all
  obtain ⟨rfl, rfl⟩ := trodVars_none hV
  obtain ⟨p0, L0, c0, rfl, hL0⟩ := open_sts (hval 0 22 v0 rfl rfl) h0
  clear hA0 hval0
  refine (walk p0 L0 c0 W hL0).mono fun e W' ⟨he, hg⟩ => ?_
  subst he
  exact ⟨_, rfl, post_bel readable hW' rfl (fun _ _ _ => (trodAll_cons_mk (shut_bool Try.underlying4 _) trodAll_mk0)) rfl (fun _ => rfl)
    hg (ok_one (by kernel_rfl) rfl (okWide_bool_mk Try.underlying4 _))⟩

theorem over : Rows.listPlaysRow.holds Try.pinned (OpenSpec.ofChange Rows.listPlaysSpec) :=
  OpenClaim.holds_of_wide 3 Try.f3 rfl rfl rfl rfl rfl rfl rfl ⟨rfl, rfl, rfl, rfl, rfl⟩ rfl rfl rfl rfl rfl (by kernel_rfl) Try.func3 (by kernel_rfl)
    (of_decide_eq_true (by kernel_rfl)) (by unfold Func.isWrapper; first | (rw [if_pos (by decide +kernel)]; kernel_rfl) | (rw [if_neg (by decide +kernel)]; exact ⟨rfl, rfl⟩))
    (fun os started H enc _ => lifted os started H enc)

theorem proved : Rows.ListPlaysSaid :=
  over
end Go.Proofs.Ytefhcdnilbojkaa.listPlays
namespace Go.Proofs.Ytefhcdnilbojkaa
theorem listPlays_holds : Rows.ListPlaysSaid :=
  listPlays.proved
#print axioms listPlays_holds
end Go.Proofs.Ytefhcdnilbojkaa
