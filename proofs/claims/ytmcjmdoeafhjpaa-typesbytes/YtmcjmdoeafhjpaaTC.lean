/- Towards the statements of package types (layer 10): At, Has, Plain, Of, Object and their like. -/
import Derived.Test.YtmcjmdoeafhjpaaTB
namespace Go.Proofs.Ytmcjmdoeafhjpaa
open Go.ChangeShapes Go.WideShapes Go.ChangeAt Go.RowKit
set_option linter.unusedVariables false
set_option linter.unusedSimpArgs false
set_option maxRecDepth 20000
theorem size_new (W : World) (o : Obj) : (W.alloc o).heap.size = W.heap.size + 1 := by simp
theorem cell_new (W : World) (cs : Array Value) (t : TypeId) (j : Nat) (v : Value) (h : cs[j]? = some v) : (W.alloc (.cells cs t)).cell? ⟨W.heap.size, j, none⟩ = some v := by
  rw [World.cell?_alloc_mark]; exact h
abbrev Ty.cs (t : Ty) : Array Value := #[.string t.n, .int .i64 t.s, .slice t.p t.fs.length t.c]
theorem tcell_new (W : World) (t : Ty) : TCell (W.alloc (.cells t.cs 42)) W.heap.size 0 t := ⟨cell_new _ _ _ _ _ rfl, cell_new _ _ _ _ _ rfl, cell_new _ _ _ _ _ rfl⟩
abbrev Fd.cs (x : Fd) : Array Value := #[.string x.n, .int .u8 x.k, .int .i64 x.a, .int .i64 x.o, .int .i64 x.d]
theorem fcell_new (W : World) (x : Fd) : FCell (W.alloc (.cells x.cs 48)) W.heap.size 0 x := ⟨cell_new _ _ _ _ _ rfl, cell_new _ _ _ _ _ rfl, cell_new _ _ _ _ _ rfl, cell_new _ _ _ _ _ rfl, cell_new _ _ _ _ _ rfl⟩
theorem at_any (t : Ty) (at_ : Int) (w : World) (hf : Flds w t.p t.fs) : Calls Try.prog 21 #[.agg #[.string t.n, .int .i64 t.s, .slice t.p t.fs.length t.c], .int .i64 at_] w fun e w' => e = .returned (.tuple #[.int .i64 (firstI (fun x => x.a == at_) t.fs), .bool (t.fs.any fun x => x.a == at_)]) ∧ Bl w w' := by
  have hb0 : Bl w ((w.alloc (.cells t.cs 42)).alloc (.cells #[.int .i64 at_] 3)) := ((Bl.refl w).alloc _).alloc _
  have hs : ((w.alloc (.cells t.cs 42)).alloc (.cells #[.int .i64 at_] 3)).heap.size = w.heap.size + 2 := by rw [size_new, size_new]
  have hc := cell_new (w.alloc (.cells t.cs 42)) #[.int .i64 at_] 3 0 _ rfl
  rw [size_new] at hc
  have k1 := first_55 (.pointer (some ⟨w.heap.size + 1, 0, none⟩)) (fun x => x.a == at_) t.p t.c t.fs _ (hf.gr hb0) (fun W hW x hx => at1_any x _ at_ W ((hW.cell (by rw [hs]; omega)).trans hc) (by have := hW.size; omega))
  go_enter Try.func21, Try.ntmps21
  go_wp2_with (go_at_call 54; refine k1.mono ?_; rintro e w' ⟨rfl, hb⟩)
  go_returns
  exact ⟨rfl, hb0.trans hb⟩
theorem has_any (t : Ty) (k : Int) (w : World) (hf : Flds w t.p t.fs) : Calls Try.prog 24 #[.agg #[.string t.n, .int .i64 t.s, .slice t.p t.fs.length t.c], .int .u8 k] w fun e w' => e = .returned (.tuple #[.int .i64 (firstI (fun x => x.k == k) t.fs), .bool (t.fs.any fun x => x.k == k)]) ∧ Bl w w' := by
  have hb0 : Bl w ((w.alloc (.cells t.cs 42)).alloc (.cells #[.int .u8 k] 5)) := ((Bl.refl w).alloc _).alloc _
  have hs : ((w.alloc (.cells t.cs 42)).alloc (.cells #[.int .u8 k] 5)).heap.size = w.heap.size + 2 := by rw [size_new, size_new]
  have hc := cell_new (w.alloc (.cells t.cs 42)) #[.int .u8 k] 5 0 _ rfl
  rw [size_new] at hc
  have k1 := first_57 (.pointer (some ⟨w.heap.size + 1, 0, none⟩)) (fun x => x.k == k) t.p t.c t.fs _ (hf.gr hb0) (fun W hW x hx => has1_any x _ k W ((hW.cell (by rw [hs]; omega)).trans hc) (by have := hW.size; omega))
  go_enter Try.func24, Try.ntmps24
  go_wp2_with (go_at_call 54; refine k1.mono ?_; rintro e w' ⟨rfl, hb⟩)
  go_returns
  exact ⟨rfl, hb0.trans hb⟩
theorem of_any' (p : Option Addr) (c : Nat) (L : List Ty) (n : ByteArray) (w : World) (hL : Tys w p L) : Calls Try.prog 18 #[.slice p L.length c, .string n] w fun e w' => e = .returned (.tuple #[.int .i64 (firstI (fun t => t.n.toList == n.toList) L), .bool (L.any fun t => t.n.toList == n.toList)]) ∧ Bl w w' := by
  have hb0 : Bl w (w.alloc (.cells #[.string n] 9)) := (Bl.refl w).alloc _
  have hs : (w.alloc (.cells #[.string n] 9)).heap.size = w.heap.size + 1 := size_new _ _
  have hc := cell_new w #[.string n] 9 0 _ rfl
  have k1 := first_50 (.pointer (some ⟨w.heap.size, 0, none⟩)) (fun t => t.n.toList == n.toList) p c L _ (hL.gr hb0) (fun W hW x hx => of1_any x _ n W ((hW.cell (by rw [hs]; omega)).trans hc) (by have := hW.size; omega))
  go_enter Try.func18, Try.ntmps18
  go_wp2_with (go_at_call 49; refine k1.mono ?_; rintro e w' ⟨rfl, hb⟩)
  go_returns
  exact ⟨rfl, hb0.trans hb⟩
def oneM (K : List Int) (fs : List Fd) : Bool := fs.any fun x => K.any fun y => x.k == y
theorem hasOne_any (t : Ty) (p : Option Addr) (c : Nat) (K : List Int) (w : World) (hf : Flds w t.p t.fs) (hK : Row8 w p K) : Calls Try.prog 56 #[.agg #[.string t.n, .int .i64 t.s, .slice t.p t.fs.length t.c], .slice p K.length c] w fun e w' => e = .returned (.bool (oneM K t.fs)) ∧ Bl w w' := by
  have hb0 : Bl w ((w.alloc (.cells t.cs 42)).alloc (.cells #[.slice p K.length c] 53)) := ((Bl.refl w).alloc _).alloc _
  have hs : ((w.alloc (.cells t.cs 42)).alloc (.cells #[.slice p K.length c] 53)).heap.size = w.heap.size + 2 := by rw [size_new, size_new]
  have hc := cell_new (w.alloc (.cells t.cs 42)) #[.slice p K.length c] 53 0 _ rfl
  rw [size_new] at hc
  have k1 := cont_85 (.pointer (some ⟨w.heap.size + 1, 0, none⟩)) (fun x => K.any fun y => x.k == y) t.p t.c t.fs _ (hf.gr hb0) (fun W hW x hx => one1_any x _ p c K W (hK.gr (hb0.trans hW)) ((hW.cell (by rw [hs]; omega)).trans hc) (by have := hW.size; omega))
  go_enter Try.func56, Try.ntmps56
  go_wp2_with (go_at_call 84; refine k1.mono ?_; rintro e w' ⟨rfl, hb⟩)
  go_returns
  exact ⟨rfl, hb0.trans hb⟩
theorem row_new (W : World) (K : List Int) (hK : K.length ≤ 1000) (t : TypeId) : Row8 (W.alloc (.cells (K.map (Value.int .u8)).toArray t)) (some ⟨W.heap.size, 0, none⟩) K := by
  refine ⟨hK, .inr ⟨_, 0, rfl, by rw [size_new]; omega, fun j x hx => cell_new _ _ _ _ _ ?_⟩⟩
  simp [hx]
def plainM (s : Int) (fs : List Fd) (at_ sz : Int) : Bool := if sz < 1 ∨ s < sz ∨ at_ < 0 ∨ s - sz < at_ then false else !fs.any fun x => coversM x at_ (at_ + sz)
set_option maxHeartbeats 1000000 in
theorem plain_any (t : Ty) (at_ sz : Int) (w : World) (hf : Flds w t.p t.fs) (hs64 : I64 t.s) (ha : I64 at_) : Calls Try.prog 26 #[.agg #[.string t.n, .int .i64 t.s, .slice t.p t.fs.length t.c], .int .i64 at_, .int .i64 sz] w fun e w' => e = .returned (.bool (plainM t.s t.fs at_ sz)) ∧ Bl w w' := by
  obtain ⟨s0, s1⟩ := hs64
  have hb0 : Bl w (((w.alloc (.cells t.cs 42)).alloc (.cells #[.int .i64 at_] 3)).alloc (.cells #[.int .i64 sz] 3)) := (((Bl.refl w).alloc _).alloc _).alloc _
  by_cases h1 : sz < 1
  · have d1 : decide (sz < 1) = true := by simp [h1]
    rw [plainM, if_pos (.inl h1)]
    go_enter Try.func26, Try.ntmps26
    go_wp2
    all_goals go_returns
    all_goals exact ⟨rfl, hb0⟩
  have d1 : decide (sz < 1) = false := by simp; omega
  by_cases h2 : t.s < sz
  · have d2 : decide (t.s < sz) = true := by simp [h2]
    rw [plainM, if_pos (.inr (.inl h2))]
    go_enter Try.func26, Try.ntmps26
    go_wp2
    all_goals go_returns
    all_goals exact ⟨rfl, hb0⟩
  have d2 : decide (t.s < sz) = false := by simp; omega
  by_cases h3 : at_ < 0
  · have d3 : decide (at_ < 0) = true := by simp [h3]
    rw [plainM, if_pos (.inr (.inr (.inl h3)))]
    go_enter Try.func26, Try.ntmps26
    go_wp2
    all_goals go_returns
    all_goals exact ⟨rfl, hb0⟩
  have d3 : decide (at_ < 0) = false := by simp; omega
  have e1 : IntKind.i64.wrap (t.s - sz) = t.s - sz := IntWalk.i64_in _ (by omega)
  by_cases h4 : t.s - sz < at_
  · have d4 : decide (t.s - sz < at_) = true := by simp [h4]
    rw [plainM, if_pos (.inr (.inr (.inr h4)))]
    go_enter Try.func26, Try.ntmps26
    go_wp2
    all_goals go_returns
    all_goals exact ⟨rfl, hb0⟩
  have d4 : decide (t.s - sz < at_) = false := by simp; omega
  rw [plainM, if_neg (by omega)]
  have hs : (((w.alloc (.cells t.cs 42)).alloc (.cells #[.int .i64 at_] 3)).alloc (.cells #[.int .i64 sz] 3)).heap.size = w.heap.size + 3 := by rw [size_new, size_new, size_new]
  have hc1 := cell_new (w.alloc (.cells t.cs 42)) #[.int .i64 at_] 3 0 _ rfl
  rw [size_new] at hc1
  have hc1' := (((Bl.refl ((w.alloc (.cells t.cs 42)).alloc (.cells #[.int .i64 at_] 3))).alloc (.cells #[.int .i64 sz] 3)).cell (k := 0) (b := w.heap.size + 1) (by rw [size_new, size_new]; omega)).trans hc1
  have hc2 := cell_new ((w.alloc (.cells t.cs 42)).alloc (.cells #[.int .i64 at_] 3)) #[.int .i64 sz] 3 0 _ rfl
  rw [size_new, size_new] at hc2
  have k1 := first_58 (.pointer (some ⟨w.heap.size + 1, 0, none⟩)) (.pointer (some ⟨w.heap.size + 1 + 1, 0, none⟩)) (fun x => coversM x at_ (at_ + sz)) t.p t.c t.fs _ (hf.gr hb0) (fun W hW x hx => plain1_any x _ _ at_ sz W (by omega) (by omega) (by omega) ((hW.cell (by rw [hs]; omega)).trans hc1') ((hW.cell (by rw [hs]; omega)).trans hc2) (by have := hW.size; omega) (by have := hW.size; omega))
  clear hc1 hc1' hc2
  go_enter Try.func26, Try.ntmps26
  go_wp2_with (go_at_call 54; refine k1.mono ?_; rintro e w' ⟨rfl, hb⟩)
  go_returns
  exact ⟨rfl, hb0.trans hb⟩
def objM (fs : List Fd) : Bool := !oneM [2, 4, 7] fs
def valM (fs : List Fd) : Bool := !oneM [3, 5, 6] fs
def mixM (fs : List Fd) : Bool := (!objM fs && !valM fs) || (oneM [2, 4] fs && !oneM [7] fs)
theorem obj_any (t : Ty) (w : World) (hf : Flds w t.p t.fs) : Calls Try.prog 23 #[.agg #[.string t.n, .int .i64 t.s, .slice t.p t.fs.length t.c]] w fun e w' => e = .returned (.bool (objM t.fs)) ∧ Bl w w' := by
  have hb0 : Bl w ((w.alloc (.cells t.cs 42)).alloc (.cells #[.int .u8 2, .int .u8 4, .int .u8 7] 5)) := ((Bl.refl w).alloc _).alloc _
  have hr := row_new (w.alloc (.cells t.cs 42)) [2, 4, 7] (by decide) 5
  rw [size_new] at hr
  have k1 := hasOne_any t _ 3 [2, 4, 7] _ (hf.gr hb0) hr
  go_enter Try.func23, Try.ntmps23
  go_wp2_with (go_at_call 56; refine k1.mono ?_; rintro e w' ⟨rfl, hb⟩)
  go_returns
  exact ⟨rfl, hb0.trans hb⟩
theorem val_any (t : Ty) (w : World) (hf : Flds w t.p t.fs) : Calls Try.prog 93 #[.agg #[.string t.n, .int .i64 t.s, .slice t.p t.fs.length t.c]] w fun e w' => e = .returned (.bool (valM t.fs)) ∧ Bl w w' := by
  have hb0 : Bl w ((w.alloc (.cells t.cs 42)).alloc (.cells #[.int .u8 3, .int .u8 5, .int .u8 6] 5)) := ((Bl.refl w).alloc _).alloc _
  have hr := row_new (w.alloc (.cells t.cs 42)) [3, 5, 6] (by decide) 5
  rw [size_new] at hr
  have k1 := hasOne_any t _ 3 [3, 5, 6] _ (hf.gr hb0) hr
  go_enter Try.func93, Try.ntmps93
  go_wp2_with (go_at_call 56; refine k1.mono ?_; rintro e w' ⟨rfl, hb⟩)
  go_returns
  exact ⟨rfl, hb0.trans hb⟩
end Go.Proofs.Ytmcjmdoeafhjpaa
