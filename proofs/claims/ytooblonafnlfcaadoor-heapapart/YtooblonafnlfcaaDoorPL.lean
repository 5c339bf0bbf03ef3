/- Towards HeapApart: two heaps beside one another. -/
import Derived.Test.YtooblonafnlfcaaDoorPI
import Derived.Test.YtooblonafnlfcaaDoorPJ
namespace Go.Proofs.YtooblonafnlfcaaDoor
open Go.ChangeShapes Go.WideShapes Go.ChangeAt Go.RowKit
set_option linter.unusedVariables false
set_option linter.unusedSimpArgs false
set_option maxRecDepth 20000
variable {Yo : Nat → Prop}
theorem SlF.farS {Yo' : Nat → Prop} {w w' : World} {B b : Nat} {room used : Int} {T : Nat → Th} {n : Nat} (h : SlF Yo w B b room used T n)
    (hk : ∀ (k : Nat) (o : Obj), w.heap[k]? = some o → ¬ Yo k → (∀ cs z, o ≠ .cells cs 34 z) → w'.heap[k]? = some o) (hY : ∀ k, Yo' k → k < w'.heap.size) (hd : ∀ k, k < w.heap.size → ¬ Yo k → ¬ Yo' k) : SlF Yo' w' B b room used T n := by
  obtain ⟨v, xs, q, hv, hx⟩ := h.rows
  have K := hk
  have hq := K _ _ q h.off.2.1 (by intro cs z e; cases e)
  refine ⟨h.bB, h.nb, h.rm, h.us, ⟨v, xs, hq, ⟨hv.1, ?_⟩, hx⟩, h.out, fun s hh bs e => ?_, h.apart, hY, hd _ (heap_lt q) h.off.2.1, fun s hh bs e => hd _ (heap_lt (h.th s hh bs e).2.1) (h.off.2.2.1 s hh bs e), fun cs z u e e3 g hg => ?_⟩
  · rcases hv.2 with e | ⟨g, cap, cur, e, a1, a2, a3⟩
    · exact .inl e
    · exact .inr ⟨g, cap, cur, e, a1, K _ _ a2 (h.offr q g (by rw [e]; rfl)) (by intro cs z e; cases e), a3⟩
  · obtain ⟨a1, a2, a3⟩ := h.th s hh bs e
    exact ⟨a1, K _ _ a2 (h.off.2.2.1 s hh bs e) (by intro cs z e; cases e), a3⟩
  · rw [hq] at e
    cases e
    simp at e3
    subst e3
    rcases hv.2 with ⟨e, _⟩ | ⟨g', cap, cur, e, a1, a2, a3⟩
    · subst e; cases hg
    · subst e
      simp only [Value.ownBlock, Option.some.injEq] at hg
      subst hg
      exact hd _ (heap_lt a2) (h.offr q g' rfl)
/-- A heap stays as it is while its own blocks do; whom it is apart from may be told anew. -/
theorem Hp.farK {Yo' : Nat → Prop} {w w' : World} {B : Nat} {q : HQ} {room used : Int} {N : Int → Nat} {M : MJ} {ns : Nat} {A K : Nat → Nat} {n : Nat} (h : Hp Yo w B q room used N M ns A K n)
    (hk : ∀ (k : Nat) (o : Obj), w.heap[k]? = some o → ¬ Yo k → (∀ cs z, o ≠ .cells cs 34 z) → w'.heap[k]? = some o) (hY : ∀ k, Yo' k → k < w'.heap.size) (hd : ∀ k, k < w.heap.size → ¬ Yo k → ¬ Yo' k) : Hp Yo' w' B q room used N M ns A K n := by
  obtain ⟨⟨a1, a2, a3, a4, a5, a6⟩, hsl, htb, us, ne1, ne2, nn, n5, y1, y2, y3, y4, y5⟩ := h
  have KI : ∀ {m n : Nat} {F : Int → Option Value}, IM w m n F → ¬ Yo m → IM w' m n F := fun hI hy => by
    obtain ⟨es, c, e1, e2⟩ := hI
    exact ⟨es, c, hk _ _ e1 hy (by intro cs z e; cases e), e2⟩
  obtain ⟨F, hF1, hF2⟩ := htb.im1
  have l1 := hF1.lt
  have l2 := htb.im2.lt
  have l3 := a4.lt
  refine ⟨⟨a1, hk _ _ a2 y1 (by intro cs z e; cases e), a3, KI a4 y5, fun k o e => ?_, a6⟩, hsl.farS hk hY hd, ?_, us, ne1, ne2, nn, n5, hd _ (heap_lt a2) y1, hd _ (H.heap_lt htb.cells) y2, hd _ l1 y3, hd _ l2 y4, hd _ l3 y5⟩
  · obtain ⟨b1, b2, b3, b4, b5⟩ := a5 k o e
    exact ⟨b1, hk _ _ b2 b5 (by intro cs z e; cases e), b3, b4, hd _ (heap_lt b2) b5⟩
  · exact ⟨hk _ _ htb.cells y2 (by intro cs z e; cases e), htb.bB, htb.b1, htb.b2, htb.ne, htb.nb, ⟨F, KI hF1 y3, hF2⟩, KI htb.im2 y4, htb.bd, htb.gen⟩
theorem Hp.far {Yo' : Nat → Prop} {w w' : World} {B : Nat} {q : HQ} {room used : Int} {N : Int → Nat} {M : MJ} {ns : Nat} {A K : Nat → Nat} {n : Nat} (h : Hp Yo w B q room used N M ns A K n)
    (hk : ∀ k, k < w.heap.size → ¬ Yo k → w'.heap[k]? = w.heap[k]?) (hY : ∀ k, Yo' k → k < w'.heap.size) (hd : ∀ k, k < w.heap.size → ¬ Yo k → ¬ Yo' k) : Hp Yo' w' B q room used N M ns A K n :=
  h.farK (fun k o e hy _ => (hk k (heap_lt e) hy).trans e) hY hd
theorem hold_raw (w : World) (B : Nat) (q : HQ) (room used : Int) (N : Int → Nat) (M : MJ) (ns : Nat) (A K : Nat → Nat) (n : Nat) (h : Hp Yo w B q room used N M ns A K n) (k : Nat) (o : Oj) (hM : M k = some o) (hn : o.c + 1 ≤ n) :
    Calls Tryd.prog 23 #[.pointer (some ⟨q.b, 0, none⟩), .agg #[.int .i64 k, .int .u64 o.g]] w fun e w' => e = .returned (.tuple #[.int .i64 (o.c + 1), .int .i64 0]) ∧ ∃ w1, Below w.heap.size w w1 ∧ w' = w1.setCell ⟨A k, 0, none⟩ (.int .i64 (o.c + 1)) := by
  have hbe := (Below.refl w.heap.size w).alloc (Nat.le_refl _) (.cells #[.int .i64 k, .int .u64 o.g] 34)
  have h1 := h.kept hbe
  have k1 := object_yes _ _ _ _ _ _ _ _ _ _ _ h1 k o hM
  have hn5 := h.n5
  obtain ⟨-, -, hc0, -, -⟩ := h.ow.ob k o hM
  go_enter Tryd.func23, Tryd.ntmps23
  go_upto_region 4 with (go_at_call 41; refine k1.mono ?_; rintro e w1 ⟨rfl, hb⟩)
  have h2 := h1.kept hb
  have hbw := hbe.trans (hb.mono hbe.size)
  obtain ⟨d0, d1, d2, d3⟩ := h2.cellsO hM
  have k2 := hold0 w1 (A k) o.c d0 d2 (by omega) (d3 _)
  clear k1 d0 d1 d2 d3 h1 hbe
  generalize hW : w1.setCell ⟨A k, 0, none⟩ (.int .i64 (o.c + 1)) = W at k2
  replace hW : Hid _ := hW
  go_wp2_with (go_at_call 46; refine k2.mono ?_; rintro e w' ⟨rfl, hw⟩; rw [hw]; clear hw)
  all_goals go_returns
  all_goals exact ⟨rfl, w1, hbw, hW.out.symm⟩
theorem drop_raw (w : World) (B : Nat) (q : HQ) (room used : Int) (N : Int → Nat) (M : MJ) (ns : Nat) (A K : Nat → Nat) (n : Nat) (h : Hp Yo w B q room used N M ns A K n) (k : Nat) (o : Oj) (hM : M k = some o) (hp : 0 < o.c) :
    Calls Tryd.prog 24 #[.pointer (some ⟨q.b, 0, none⟩), .agg #[.int .i64 k, .int .u64 o.g]] w fun e w' => e = .returned (.tuple #[.int .i64 (o.c - 1), .int .i64 0]) ∧ ∃ w1, Below w.heap.size w w1 ∧ w' = w1.setCell ⟨A k, 0, none⟩ (.int .i64 (o.c - 1)) := by
  have hbe := (Below.refl w.heap.size w).alloc (Nat.le_refl _) (.cells #[.int .i64 k, .int .u64 o.g] 34)
  have h1 := h.kept hbe
  have k1 := object_yes _ _ _ _ _ _ _ _ _ _ _ h1 k o hM
  have hn5 := h.n5
  obtain ⟨-, -, hc0, hcn, -⟩ := h.ow.ob k o hM
  go_enter Tryd.func24, Tryd.ntmps24
  go_upto_region 4 with (go_at_call 41; refine k1.mono ?_; rintro e w1 ⟨rfl, hb⟩)
  have h2 := h1.kept hb
  have hbw := hbe.trans (hb.mono hbe.size)
  obtain ⟨d0, d1, d2, d3⟩ := h2.cellsO hM
  have k2 := drop1 w1 (A k) o.c d0 d2 (by omega) (d3 _)
  clear k1 d0 d1 d2 d3 h1 hbe
  generalize hW : w1.setCell ⟨A k, 0, none⟩ (.int .i64 (o.c - 1)) = W at k2
  replace hW : Hid _ := hW
  go_wp2_with (go_at_call 47; refine k2.mono ?_; rintro e w' ⟨rfl, hw⟩; rw [hw]; clear hw)
  all_goals go_returns
  all_goals exact ⟨rfl, w1, hbw, hW.out.symm⟩
/-- Hold and Drop of an object that lives: whom the heap is apart from may be told anew; all but the object's block is as it was. -/
theorem setO_far {Yo' : Nat → Prop} {w w1 : World} {B : Nat} {q : HQ} {room used : Int} {N : Int → Nat} {M : MJ} {ns : Nat} {A K : Nat → Nat} {n : Nat} (h : Hp Yo w B q room used N M ns A K n) {k : Nat} {o : Oj} (hM : M k = some o) {c : Int} (hc : 0 ≤ c ∧ c ≤ n) (hb : Below w.heap.size w w1)
    (hY : ∀ k, Yo' k → k < w1.heap.size) (hd : ∀ k, k < w.heap.size → ¬ Yo k → ¬ Yo' k) : Hp Yo' (w1.setCell ⟨A k, 0, none⟩ (.int .i64 c)) B q room used N (updM M k (some { o with c := c })) ns A K n ∧ Below B w (w1.setCell ⟨A k, 0, none⟩ (.int .i64 c)) ∧ (∀ j, j < w.heap.size → j ≠ A k → (w1.setCell ⟨A k, 0, none⟩ (.int .i64 c)).heap[j]? = w.heap[j]?) := by
  have h1 : Hp Yo' w1 B q room used N M ns A K n := h.far (fun k hk _ => hb.block k hk) hY hd
  obtain ⟨h2, h3⟩ := h1.setO hM c hc
  exact ⟨h2, (hb.mono h.size).trans h3.bel, fun j hj hne => (Below.heap_setCell _ _ _ _ hne).trans (hb.block j hj)⟩
/-- The document's heap without objects. -/
theorem rnew_any (w : World) : Calls Tryd.prog 11 #[.int .i64 0] w fun e w' => (∃ r u v, e = .returned (.pointer (some ⟨r, 0, none⟩)) ∧ w'.heap[r]? = some (.cells #[u, v, .slice none 0 0] 50 (0, 0))) ∧ Below w.heap.size w w' := by
  go_enter Tryd.func11, Tryd.ntmps11
  go_wp2
  all_goals go_returns
  refine ⟨⟨w.heap.size + 1 + 1, .pointer (some ⟨w.heap.size, 0, none⟩), .pointer (some ⟨w.heap.size + 1, 0, none⟩), rfl, ?_⟩, (((Below.refl _ w).alloc (Nat.le_refl _) _).alloc (by simp) _).alloc (by simp <;> omega) _⟩
  have := heap_alloc_new ((w.alloc (.cells #[.int .i64 0, .slice none 0 0] 80)).alloc (.cells #[.slice none 0 0, .slice none 0 0] 54)) (.cells #[.pointer (some ⟨w.heap.size, 0, none⟩), .pointer (some ⟨w.heap.size + 1, 0, none⟩), .slice none 0 0] 50)
  have h2 : ((w.alloc (.cells #[.int .i64 0, .slice none 0 0] 80)).alloc (.cells #[.slice none 0 0, .slice none 0 0] 54)).heap.size = w.heap.size + 1 + 1 := by simp
  rw [h2] at this
  exact this
theorem rat_empty (r : Nat) (s g : Int) (w : World) (hc : w.cell? ⟨r, 2, none⟩ = some (.slice none 0 0)) : Calls Tryd.prog 18 #[.pointer (some ⟨r, 0, none⟩), .agg #[.int .i64 s, .int .u64 g]] w fun e w' => e = .returned (.int .i64 (-1)) ∧ Below w.heap.size w w' := by
  have hc2 : (w.alloc (.cells #[.int .i64 s, .int .u64 g] 34)).cell? ⟨r, 2, none⟩ = some (.slice none 0 0) := H.cell_al hc _
  go_enter Tryd.func18, Tryd.ntmps18
  go_wp2
  go_rounds 2
  all_goals go_returns
  all_goals exact ⟨rfl, (Below.refl _ w).alloc (Nat.le_refl _) _⟩
theorem rhold_empty (r : Nat) (s g : Int) (w : World) (hc : w.cell? ⟨r, 2, none⟩ = some (.slice none 0 0)) : Calls Tryd.prog 36 #[.pointer (some ⟨r, 0, none⟩), .agg #[.int .i64 s, .int .u64 g]] w fun e w' => e = .returned (.tuple #[.int .i64 0, .int .i64 130]) ∧ Below w.heap.size w w' := by
  have hc2 : (w.alloc (.cells #[.int .i64 s, .int .u64 g] 34)).cell? ⟨r, 2, none⟩ = some (.slice none 0 0) := H.cell_al hc _
  have k1 := rat_empty r s g _ hc2
  have hbe := (Below.refl w.heap.size w).alloc (Nat.le_refl _) (.cells #[.int .i64 s, .int .u64 g] 34)
  go_enter Tryd.func36, Tryd.ntmps36
  go_wp2_with (go_at_call 18; refine k1.mono ?_; rintro e w1 ⟨rfl, hb⟩)
  all_goals go_returns
  all_goals exact ⟨rfl, hbe.trans (hb.mono hbe.size)⟩
theorem rdrop_empty (r : Nat) (s g : Int) (w : World) (hc : w.cell? ⟨r, 2, none⟩ = some (.slice none 0 0)) : Calls Tryd.prog 37 #[.pointer (some ⟨r, 0, none⟩), .agg #[.int .i64 s, .int .u64 g]] w fun e w' => e = .returned (.tuple #[.int .i64 0, .int .i64 130]) ∧ Below w.heap.size w w' := by
  have hc2 : (w.alloc (.cells #[.int .i64 s, .int .u64 g] 34)).cell? ⟨r, 2, none⟩ = some (.slice none 0 0) := H.cell_al hc _
  have k1 := rat_empty r s g _ hc2
  have hbe := (Below.refl w.heap.size w).alloc (Nat.le_refl _) (.cells #[.int .i64 s, .int .u64 g] 34)
  go_enter Tryd.func37, Tryd.ntmps37
  go_wp2_with (go_at_call 18; refine k1.mono ?_; rintro e w1 ⟨rfl, hb⟩)
  all_goals go_returns
  all_goals exact ⟨rfl, hbe.trans (hb.mono hbe.size)⟩
theorem rfree_empty (r : Nat) (s g : Int) (w : World) (hc : w.cell? ⟨r, 2, none⟩ = some (.slice none 0 0)) : Calls Tryd.prog 38 #[.pointer (some ⟨r, 0, none⟩), .agg #[.int .i64 s, .int .u64 g]] w fun e w' => e = .returned (.int .i64 130) ∧ Below w.heap.size w w' := by
  have hc2 : (w.alloc (.cells #[.int .i64 s, .int .u64 g] 34)).cell? ⟨r, 2, none⟩ = some (.slice none 0 0) := H.cell_al hc _
  have k1 := rat_empty r s g _ hc2
  have hbe := (Below.refl w.heap.size w).alloc (Nat.le_refl _) (.cells #[.int .i64 s, .int .u64 g] 34)
  go_enter Tryd.func38, Tryd.ntmps38
  go_wp2_with (go_at_call 18; refine k1.mono ?_; rintro e w1 ⟨rfl, hb⟩)
  all_goals go_returns
  all_goals exact ⟨rfl, hbe.trans (hb.mono hbe.size)⟩
theorem rread_empty (r : Nat) (s g a m : Int) (w : World) (hc : w.cell? ⟨r, 2, none⟩ = some (.slice none 0 0)) : Calls Tryd.prog 39 #[.pointer (some ⟨r, 0, none⟩), .agg #[.int .i64 s, .int .u64 g], .int .i64 a, .int .i64 m] w fun e w' => e = .returned (.tuple #[.string ⟨#[]⟩, .int .i64 130]) ∧ Below w.heap.size w w' := by
  have hc2 : (w.alloc (.cells #[.int .i64 s, .int .u64 g] 34)).cell? ⟨r, 2, none⟩ = some (.slice none 0 0) := H.cell_al hc _
  have k1 := rat_empty r s g _ hc2
  have hbe := (Below.refl w.heap.size w).alloc (Nat.le_refl _) (.cells #[.int .i64 s, .int .u64 g] 34)
  go_enter Tryd.func39, Tryd.ntmps39
  go_wp2_with (go_at_call 18; refine k1.mono ?_; rintro e w1 ⟨rfl, hb⟩)
  all_goals go_returns
  all_goals exact ⟨rfl, hbe.trans (hb.mono hbe.size)⟩
theorem rwrite_empty (r : Nat) (s g a : Int) (t : ByteArray) (w : World) (hc : w.cell? ⟨r, 2, none⟩ = some (.slice none 0 0)) : Calls Tryd.prog 40 #[.pointer (some ⟨r, 0, none⟩), .agg #[.int .i64 s, .int .u64 g], .int .i64 a, .string t] w fun e w' => e = .returned (.int .i64 130) ∧ Below w.heap.size w w' := by
  have hc2 : (w.alloc (.cells #[.int .i64 s, .int .u64 g] 34)).cell? ⟨r, 2, none⟩ = some (.slice none 0 0) := H.cell_al hc _
  have k1 := rat_empty r s g _ hc2
  have hbe := (Below.refl w.heap.size w).alloc (Nat.le_refl _) (.cells #[.int .i64 s, .int .u64 g] 34)
  go_enter Tryd.func40, Tryd.ntmps40
  go_wp2_with (go_at_call 18; refine k1.mono ?_; rintro e w1 ⟨rfl, hb⟩)
  all_goals go_returns
  all_goals exact ⟨rfl, hbe.trans (hb.mono hbe.size)⟩
end Go.Proofs.YtooblonafnlfcaaDoor
