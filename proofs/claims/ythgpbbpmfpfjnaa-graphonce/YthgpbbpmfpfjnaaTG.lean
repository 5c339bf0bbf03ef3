/- Towards the statements of package tree (layer 16): a tree in memory; at, gap, Index. -/
import Derived.Test.YthgpbbpmfpfjnaaTF
namespace Go.Proofs.Ythgpbbpmfpfjnaa.T
open Go.ChangeShapes Go.WideShapes Go.ChangeAt Go.RowKit
set_option linter.unusedVariables false
set_option linter.unusedSimpArgs false
set_option maxRecDepth 20000
/-- A tree at block b: its map at m, its nodes under top. -/
structure Tw [Inhabited FarT] (w : World) (B b m top : Nat) (M : MN) (T : Tr) : Prop where
  cells : w.heap[b]? = some (.cells #[.map (some m), .pointer (some ⟨top, 0, none⟩)] 111 (0, 0))
  bB : B ≤ b
  mB : B ≤ m
  ms : Ms w B M
  wh : Wh M top T
  avl : T.avl
  map : ∃ nn F, HM w m nn F ∧ ∀ h v, F h = some v ↔ ∃ a, (a, h) ∈ T.rows ∧ v = .pointer (some ⟨a, 0, none⟩)
  nd : (top :: T.adds).Nodup
  kd : T.keys.Nodup
  len : T.size ≤ 2000
  bY : ¬ FY b
  mY : ¬ FY m
  topY : FT ≤ w.heap.size
section
variable {w w' : World} {B b m top : Nat} {M : MN} {T : Tr}
theorem Tw.keep [Inhabited FarT] (h : Tw w B b m top M T) (hb : Below w.heap.size w w') : Tw w' B b m top M T := by
  obtain ⟨nn, F, hF, hF2⟩ := h.map
  exact ⟨(hb.block _ (heap_lt h.cells)).trans h.cells, h.bB, h.mB, h.ms.keep hb, h.wh, h.avl, ⟨nn, F, hF.keep (hb.block _ hF.lt), hF2⟩, h.nd, h.kd, h.len, h.bY, h.mY, Nat.le_trans h.topY hb.size⟩
theorem Tw.alloc [Inhabited FarT] (h : Tw w B b m top M T) (o : Obj) : Tw (w.alloc o) B b m top M T := h.keep ((Below.refl _ w).alloc (Nat.le_refl _) _)
theorem Tw.drew [Inhabited FarT] (h : Tw w B b m top M T) : Tw w.drew B b m top M T := h.keep (Below.refl _ _).drew
theorem Tw.drewN [Inhabited FarT] (h : Tw w B b m top M T) (n : Nat) : Tw (w.drewN n) B b m top M T := h.keep (Below.drewN (Below.refl _ _) n)
theorem Tw.size [Inhabited FarT] (h : Tw w B b m top M T) : B ≤ w.heap.size := Nat.le_trans h.bB (Nat.le_of_lt (heap_lt h.cells))
theorem Tw.c0 [Inhabited FarT] (h : Tw w B b m top M T) : w.cell? ⟨b, 0, none⟩ = some (.map (some m)) := by rw [cell_of h.cells]; rfl
theorem Tw.c1 [Inhabited FarT] (h : Tw w B b m top M T) : w.cell? ⟨b, 1, none⟩ = some (.pointer (some ⟨top, 0, none⟩)) := by rw [cell_of h.cells]; rfl
theorem Tw.look [Inhabited FarT] (h : Tw w B b m top M T) (k : HKey) :
    ∃ v, (∀ w', w'.heap[m]? = w.heap[m]? → (Instr.lookup 105 (.map (some m)) (.agg #[.int .i64 k.1, .int .u64 k.2]) false).run Try.prog w' = .ok v w') ∧ (∀ w', w'.heap[m]? = w.heap[m]? → (Instr.lookup 105 (.map (some m)) (.agg #[.int .i64 k.1, .int .u64 k.2]) true).run Try.prog w' = .ok (.tuple #[v, .bool (decide (k ∈ T.keys))]) w') ∧ ((v = .pointer none ∧ k ∉ T.keys) ∨ ∃ a, (a, k) ∈ T.rows ∧ v = .pointer (some ⟨a, 0, none⟩)) := by
  obtain ⟨n, F, hF, hF2⟩ := h.map
  have z : ∀ w : World, (zeroValue 106).run Try.prog w = .ok (.pointer none) w := fun w => by kernel_rfl
  refine ⟨(F k).getD (.pointer none), fun w' hw => HM.look1 Try.underlying105 (hF.keep hw) k (z w'), fun w' hw => ?_, ?_⟩
  · cases e : F k with
    | none =>
      have : k ∉ T.keys := fun hk => by
        obtain ⟨⟨a, k'⟩, hx, rfl⟩ := List.mem_map.1 hk
        have := (hF2 k' _).2 ⟨a, hx, rfl⟩
        rw [e] at this; cases this
      rw [decide_eq_false this]
      exact HM.look_no Try.underlying105 (hF.keep hw) e (z w')
    | some v =>
      obtain ⟨a, ha, rfl⟩ := (hF2 k v).1 e
      have hk : k ∈ T.keys := List.mem_map.2 ⟨_, ha, rfl⟩
      rw [decide_eq_true hk]
      exact HM.look_yes Try.underlying105 (hF.keep hw) e
  · cases e : F k with
    | none =>
      refine .inl ⟨rfl, fun hk => ?_⟩
      obtain ⟨⟨a, k'⟩, hx, rfl⟩ := List.mem_map.1 hk
      have := (hF2 k' _).2 ⟨a, hx, rfl⟩
      rw [e] at this; cases this
    | some v =>
      obtain ⟨a, ha, rfl⟩ := (hF2 k v).1 e
      exact .inr ⟨a, ha, rfl⟩
theorem Tw.count [Inhabited FarT] (h : Tw w B b m top M T) : ∃ es c, w.heap[m]? = some (.map es c) ∧ es.size = T.size := by
  obtain ⟨n, F, hF, hF2⟩ := h.map
  obtain ⟨es, c, h1, h2⟩ := hF.count h.kd fun k => by
    constructor
    · intro hk
      obtain ⟨⟨a, k'⟩, hx, rfl⟩ := List.mem_map.1 hk
      rw [(hF2 k' _).2 ⟨a, hx, rfl⟩]; rfl
    · intro hs
      obtain ⟨v, hv⟩ := Option.isSome_iff_exists.1 hs
      obtain ⟨a, ha, _⟩ := (hF2 k v).1 hv
      exact List.mem_map.2 ⟨_, ha, rfl⟩
  exact ⟨es, c, h1, by rw [h2, Tr.keys_len]⟩
end
theorem nem_some (m : Nat) (W : World) : (binOp .neq 105 (.map (some m)) (.map none)).run Try.prog W = .ok (.bool true) W := by kernel_rfl
theorem made_nil (w : World) : Calls Try.prog 98 #[.pointer none] w fun e w' => e = .returned (.bool false) ∧ w' = w := by
  go_enter Try.func98, Try.ntmps98
  go_wp2
  all_goals go_returns
  all_goals exact ⟨rfl, rfl⟩
theorem made_yes (w : World) (b m : Nat) (h0 : w.cell? ⟨b, 0, none⟩ = some (.map (some m))) : Calls Try.prog 98 #[.pointer (some ⟨b, 0, none⟩)] w fun e w' => e = .returned (.bool true) ∧ w' = w := by
  have e1 := nem_some m w
  go_enter Try.func98, Try.ntmps98
  go_wp2
  all_goals go_returns
  all_goals exact ⟨rfl, rfl⟩
theorem first_any [Inhabited FarT] (w : World) (B b m top : Nat) (M : MN) (T : Tr) (h : Tw w B b m top M T) : Calls Try.prog 99 #[.pointer (some ⟨b, 0, none⟩)] w fun e w' => e = .returned (pO T.root) ∧ w' = w := by
  have c1 := h.c1
  have c3 := h.ms.c3 h.wh.top'
  simp only at c3
  generalize pO T.root = v at c3
  go_enter Try.func99, Try.ntmps99
  go_wp2
  all_goals go_returns
  all_goals exact ⟨rfl, rfl⟩
theorem len_nil (w : World) : Calls Try.prog 97 #[.pointer none] w fun e w' => e = .returned (.int .i64 0) ∧ w' = w := by
  have k1 := fun W => made_nil W
  go_enter Try.func97, Try.ntmps97
  go_wp2_with (go_at_call 98; refine (k1 _).mono ?_; rintro e w' ⟨rfl, hw⟩; rw [hw]; clear hw)
  all_goals go_returns
  all_goals exact ⟨rfl, rfl⟩
theorem len_any [Inhabited FarT] (w : World) (B b m top : Nat) (M : MN) (T : Tr) (h : Tw w B b m top M T) :
    Calls Try.prog 97 #[.pointer (some ⟨b, 0, none⟩)] w fun e' w' => e' = .returned (.int .i64 (T.size : Int)) ∧ w' = w := by
  have c0 := h.c0
  obtain ⟨es, c, h1, h2⟩ := h.count
  have k1 := made_yes w b m c0
  have q1 : (Builtin.len_ #[105] 3 #[.map (some m)]).run Try.prog w = .ok (.int .i64 (T.size : Int)) w := by rw [run_len_map w 105 3 m es c (by kernel_rfl) h1, h2]; rfl
  go_enter Try.func97, Try.ntmps97
  go_wp2_with (go_at_call 98; refine k1.mono ?_; rintro e w' ⟨rfl, hw⟩; rw [hw]; clear hw)
  all_goals go_returns
  all_goals exact ⟨rfl, rfl⟩
theorem nat_any [Inhabited FarT] (w : World) (B : Nat) (M : MN) (hM : Ms w B M) (o : Option Nat) (t : Tr) (h : Sub M o t) (i : Nat) (hi : i < t.size) (hz : t.size ≤ 100000) :
    Calls Try.prog 101 #[pO t.root, .int .i64 i] w fun e w' => ∃ a k, e = .returned (.pointer (some ⟨a, 0, none⟩)) ∧ t.rows[i]? = some (a, k) ∧ w' = w := by
  generalize ht : t.rows[i]? = Z
  replace ht : Hid (t.rows[i]? = Z) := ht
  go_enter Try.func101, Try.ntmps101
  go_wp2
  go_loopg [0, 1] t.size (fun g v0 v1 wr => wr = w ∧ ∃ (x : Tr) (o : Option Nat) (j : Nat), v0 = pO x.root ∧ v1 = .int .i64 j ∧ Sub M o x ∧ j < x.size ∧ x.size ≤ g ∧ x.size ≤ 100000 ∧ x.rows[j]? = Z)
  case atStart => exact ⟨rfl, t, o, i, rfl, rfl, h, hi, Nat.le_refl _, hz, ht.out⟩
  case round =>
    obtain ⟨rfl, x, o, j, rfl, rfl, hx, hj, hg, hz, hZ⟩ := hrel
    cases x with
    | nil => simp [Tr.size] at hj
    | nd a k l r =>
      obtain ⟨hn, hl, hr⟩ := hx
      have c3 := hM.c3 hn
      have c4 := hM.c4 hn
      simp only at c3 c4
      simp only [Tr.size] at hj hg hz
      simp only [Tr.rows] at hZ
      replace hZ : Hid _ := hZ
      have kL := nlen_any wr B M hM l.root (fun a e => by obtain ⟨x, hx, _⟩ := hl.is e; exact ⟨x, hx⟩)
      rw [hl.sz] at kL
      generalize hvl : pO l.root = vl at c3 kL
      generalize hvr : pO r.root = vr at c4
      have hlr := l.size_rows
      rw [Tr.root, pO_some]
      by_cases h1 : j = l.size
      · have q1 : ((j : Int) == (l.size : Int)) = true := by simp [h1]
        have hZ2 : Hid (Z = some (a, k)) := by
          have := hZ.out
          rw [h1, ← hlr, List.getElem?_append_right (Nat.le_refl _)] at this
          simp at this
          exact this.symm
        clear h1
        go_wp2_with (go_at_call 105; refine kL.mono ?_; rintro e w' ⟨rfl, hw⟩; rw [hw]; clear hw)
        all_goals first | go_end0 | go_returns | skip
        all_goals exact ⟨a, k, rfl, hZ2.out, rfl⟩
      · have q1 : ((j : Int) == (l.size : Int)) = false := beq_false_of_ne (by omega)
        by_cases h2 : j < l.size
        · have q2 : decide ((j : Int) < (l.size : Int)) = true := decide_eq_true (by omega)
          have hZ2 : Hid (l.rows[j]? = Z) := by
            have := hZ.out
            rw [List.getElem?_append_left (by omega)] at this
            exact this
          go_wp2_with (go_at_call 105; refine kL.mono ?_; rintro e w' ⟨rfl, hw⟩; rw [hw]; clear hw)
          go_roundg l.size
          case measure => omega
          case rel => exact ⟨rfl, l, _, j, hvl.symm, rfl, hl, h2, Nat.le_refl _, by omega, hZ2.out⟩
        · have q2 : decide ((j : Int) < (l.size : Int)) = false := decide_eq_false (by omega)
          have e1 : IntKind.i64.wrap ((j : Int) - (l.size : Int)) = (j : Int) - (l.size : Int) := IntWalk.i64_in _ (by omega)
          have e2 : IntKind.i64.wrap ((j : Int) - (l.size : Int) - 1) = ((j - l.size - 1 : Nat) : Int) := by rw [IntWalk.i64_in _ (by omega)]; omega
          have hZ2 : Hid (r.rows[j - l.size - 1]? = Z) := by
            have := hZ.out
            rw [List.getElem?_append_right (by omega), hlr, show j - l.size = (j - l.size - 1) + 1 by omega, List.getElem?_cons_succ] at this
            exact this
          go_wp2_with (go_at_call 105; refine kL.mono ?_; rintro e w' ⟨rfl, hw⟩; rw [hw]; clear hw)
          go_roundg r.size
          case measure => omega
          case rel => exact ⟨rfl, r, _, j - l.size - 1, hvr.symm, rfl, hr, by omega, Nat.le_refl _, by omega, hZ2.out⟩
theorem gap_any [Inhabited FarT] (w : World) (B b m top : Nat) (M : MN) (T : Tr) (h : Tw w B b m top M T) (i : Nat) (hi : i ≤ T.size) :
    Calls Try.prog 102 #[.pointer (some ⟨b, 0, none⟩), .int .i64 i] w fun e w' => ∃ c : List Fra, e = .returned (.tuple #[.pointer (some ⟨hdF top c, 0, none⟩), .int .i64 (sI (sdF c))]) ∧ T = plug c .nil ∧ (bef c).length = i ∧ w' = w := by
  have k2 := first_any w B b m top M T h
  have c1 := h.c1
  have hM := h.ms
  have hlen := h.len
  have hwh : Hid (Wh M top T) := h.wh
  generalize hvT : pO T.root = vT at k2
  clear h
  go_enter Try.func102, Try.ntmps102
  go_upto_region 3 with (go_at_call 99; refine k2.mono ?_; rintro e w' ⟨rfl, hw⟩; rw [hw]; clear hw)
  go_wp2
  go_loopg [1, 6, 7, 8] (T.size + 1) (fun g v1 v6 v7 v8 wr => wr = w ∧ ∃ (c : List Fra) (x : Tr) (j : Nat), v1 = .int .i64 j ∧ v6 = .pointer (some ⟨hdF top c, 0, none⟩) ∧ v7 = .int .i64 (sI (sdF c)) ∧ v8 = pO x.root ∧ Hid (T = plug c x) ∧ j ≤ x.size ∧ Hid ((bef c).length + j = i) ∧ x.size < g ∧ x.size ≤ 2000)
  case atStart => exact ⟨rfl, [], T, i, rfl, rfl, rfl, hvT.symm, rfl, hi, by simp [bef, Hid], by omega, hlen⟩
  case round =>
    obtain ⟨rfl, c, x, j, rfl, rfl, rfl, rfl, hT, hj, hb, hg, hz⟩ := hrel
    have hWx : Wh M top (plug c x) := by rw [← hT.out]; exact hwh.out
    obtain ⟨-, hx⟩ := hWx.open
    cases x with
    | nil =>
      have q := nep_no wr
      rw [Tr.root, pO_none]
      go_wp2
      all_goals first | go_end0 | go_returns | skip
      all_goals exact ⟨c, rfl, hT.out, by have := hb.out; simp only [Tr.size] at hj; omega, rfl⟩
    | nd a k l r =>
      have q := nep_yes a wr
      obtain ⟨hn, hl, hr⟩ := hx
      have c3 := hM.c3 hn
      have c4 := hM.c4 hn
      simp only at c3 c4
      simp only [Tr.size] at hj hg hz
      have kL := nlen_any wr B M hM l.root (fun a e => by obtain ⟨x, hx, _⟩ := hl.is e; exact ⟨x, hx⟩)
      rw [hl.sz] at kL
      generalize hvl : pO l.root = vl at c3 kL
      generalize hvr : pO r.root = vr at c4
      have hlr := l.size_rows
      rw [Tr.root, pO_some]
      clear hn hWx
      by_cases h2 : j ≤ l.size
      · have q2 : decide ((l.size : Int) < (j : Int)) = false := decide_eq_false (by omega)
        have q3 : decide ((j : Int) > (l.size : Int)) = false := decide_eq_false (by omega)
        go_wp2_with (go_at_call 105; refine kL.mono ?_; rintro e w' ⟨rfl, hw⟩; rw [hw]; clear hw)
        go_roundg (l.size + 1)
        case measure => omega
        case rel => exact ⟨rfl, ⟨false, a, k, r⟩ :: c, l, j, rfl, rfl, rfl, hvl.symm, hT.out, h2, by have := hb.out; simpa [bef, Hid] using this, by omega, by omega⟩
      · have q2 : decide ((l.size : Int) < (j : Int)) = true := decide_eq_true (by omega)
        have q3 : decide ((j : Int) > (l.size : Int)) = true := decide_eq_true (by omega)
        have e1 : IntKind.i64.wrap ((j : Int) - (l.size : Int)) = (j : Int) - (l.size : Int) := IntWalk.i64_in _ (by omega)
        have e2 : IntKind.i64.wrap ((j : Int) - (l.size : Int) - 1) = ((j - l.size - 1 : Nat) : Int) := by rw [IntWalk.i64_in _ (by omega)]; omega
        go_wp2_with (go_at_call 105; refine kL.mono ?_; rintro e w' ⟨rfl, hw⟩; rw [hw]; clear hw)
        go_roundg (r.size + 1)
        case measure => omega
        case rel => exact ⟨rfl, ⟨true, a, k, l⟩ :: c, r, j - l.size - 1, rfl, rfl, rfl, hvr.symm, hT.out, by omega, by have := hb.out; simp [bef, Hid, hlr]; omega, by omega, by omega⟩
end Go.Proofs.Ythgpbbpmfpfjnaa.T
