/- Towards the statements of package graph (layer 17): what is asked of a graph. -/
import Derived.Test.YthgpbbpmfpfjnaaGC
namespace Go.Proofs.Ythgpbbpmfpfjnaa
open Go.ChangeShapes Go.WideShapes Go.ChangeAt Go.RowKit
set_option linter.unusedVariables false
set_option linter.unusedSimpArgs false
set_option maxRecDepth 20000
theorem tatM (K : List HKey) (i : Int) : T.atM K i = atM K i := rfl
theorem toV (o : Option HKey) : T.oV o = oV o := by cases o <;> rfl
def lenZ (o : Option Sp) : Nat := (o.map fun x => x.L.length).getD 0
def kindZ : Option Sp → Int
  | none => 0
  | some x => if x.tr then 2 else 1
def peekZ (o : Option Sp) (q : Bool) : Option HKey := o.bind fun x => if x.tr then none else endM x.K q
def atZ (o : Option Sp) (i : Int) : Option HKey := o.bind fun x => atM x.K i
theorem Sp.klen (x : Sp) : x.K.length = x.L.length := by simp [Sp.K]
theorem ipos (q : Bool) : (if q = true then (91 : Nat) else 87) = if q then 91 else 87 := rfl
theorem glen_any (w : World) (B g m1 m2 N : Nat) (Z : Zs) (h : Gr w B g m1 m2 N Z) (p : PKey) :
    Calls Try.prog 15 #[.pointer (some ⟨g, 0, none⟩), pK p] w fun e w' => e = .returned (.int .i64 (lenZ (Z p))) ∧ Below w.heap.size w w' := by
  have hb1 := (Below.refl _ w).alloc (Nat.le_refl _) (.cells #[.int .i64 p.1, .int .i64 p.2.1, .int .i64 p.2.2] 28)
  have yp := heap_alloc_new w (.cells #[.int .i64 p.1, .int .i64 p.2.1, .int .i64 p.2.2] 28)
  have g1 := h.bel hb1
  obtain ⟨r0, r1⟩ := grow_any _ B g m1 m2 N Z g1 p
  obtain ⟨d0, d1, d2⟩ := pl_cells yp
  cases hz : Z p with
  | none =>
    have k1 := r0 hz
    rw [show lenZ none = 0 from rfl]
    unfold pK P.hK at *
    go_enter Try.func15, Try.ntmps15
    go_upto_region 1 with fail
    generalize w.alloc (.cells #[.int .i64 p.1, .int .i64 p.2.1, .int .i64 p.2.2] 28) = W at hb1 yp g1 k1 d0 d1 d2 ⊢
    go_wp2_with (first | (go_at_call 27; refine k1.mono ?_; rintro e w1 ⟨rfl, hb2⟩; unfold none94) | (go_at_call 78; refine (len_nil _).mono ?_; rintro e w2 ⟨rfl, hw⟩; rw [hw]; clear hw; have hbf := hb1.trans (hb2.mono hb1.size)))
    all_goals go_returns
    all_goals exact ⟨rfl, hbf⟩
  | some x =>
    have k1 := r1 x hz
    cases ht : x.tr with
    | false =>
      rw [show lenZ (some x) = x.L.length from rfl]
      unfold pK P.hK at *
      go_enter Try.func15, Try.ntmps15
      go_upto_region 1 with fail
      generalize w.alloc (.cells #[.int .i64 p.1, .int .i64 p.2.1, .int .i64 p.2.2] 28) = W at hb1 yp g1 k1 d0 d1 d2 ⊢
      go_wp2_with (first | (go_at_call 27; refine k1.mono ?_; rintro e w1 ⟨rfl, hb2⟩; have hs := (g1.bel hb2).at_ p x hz; have cs := hs.c0; simp only [ht, Bool.false_eq_true, if_false, if_true] at cs; have hm := s87_Len x.s x.l w1 cs; have hx := hs.li ht; have k2 := len_li w1 B x.l x.K x.S hx; rw [x.klen] at k2) | (go_at_call 78; refine (k2).mono ?_; rintro e w2 ⟨rfl, hw⟩; rw [hw]; clear hw; have hbf := hb1.trans (hb2.mono hb1.size)))
      all_goals go_returns
      all_goals exact ⟨rfl, hbf⟩
    | true =>
      rw [show lenZ (some x) = x.L.length from rfl]
      unfold pK P.hK at *
      go_enter Try.func15, Try.ntmps15
      go_upto_region 1 with fail
      generalize w.alloc (.cells #[.int .i64 p.1, .int .i64 p.2.1, .int .i64 p.2.2] 28) = W at hb1 yp g1 k1 d0 d1 d2 ⊢
      go_wp2_with (first | (go_at_call 27; refine k1.mono ?_; rintro e w1 ⟨rfl, hb2⟩; have hs := (g1.bel hb2).at_ p x hz; have cs := hs.c0; simp only [ht, Bool.false_eq_true, if_false, if_true] at cs; have hm := s91_Len x.s x.l w1 cs; have hx := hs.ti ht; have k2 := T.len_ti w1 B x.l x.K x.S hx; rw [x.klen] at k2) | (go_at_call 97; refine (k2).mono ?_; rintro e w2 ⟨rfl, hw⟩; rw [hw]; clear hw; have hbf := hb1.trans (hb2.mono hb1.size)))
      all_goals go_returns
      all_goals exact ⟨rfl, hbf⟩
theorem gkind_any (w : World) (B g m1 m2 N : Nat) (Z : Zs) (h : Gr w B g m1 m2 N Z) (p : PKey) :
    Calls Try.prog 19 #[.pointer (some ⟨g, 0, none⟩), pK p] w fun e w' => e = .returned (.int .u8 (kindZ (Z p))) ∧ Below w.heap.size w w' := by
  have hb1 := (Below.refl _ w).alloc (Nat.le_refl _) (.cells #[.int .i64 p.1, .int .i64 p.2.1, .int .i64 p.2.2] 28)
  have yp := heap_alloc_new w (.cells #[.int .i64 p.1, .int .i64 p.2.1, .int .i64 p.2.2] 28)
  have g1 := h.bel hb1
  obtain ⟨r0, r1⟩ := grow_any _ B g m1 m2 N Z g1 p
  obtain ⟨d0, d1, d2⟩ := pl_cells yp
  cases hz : Z p with
  | none =>
    have k1 := r0 hz
    rw [show kindZ none = 0 from rfl]
    unfold pK P.hK at *
    go_enter Try.func19, Try.ntmps19
    go_upto_region 1 with fail
    generalize w.alloc (.cells #[.int .i64 p.1, .int .i64 p.2.1, .int .i64 p.2.2] 28) = W at hb1 yp g1 k1 d0 d1 d2 ⊢
    go_wp2_with (first | (go_at_call 27; refine k1.mono ?_; rintro e w1 ⟨rfl, hb2⟩; unfold none94) | (go_at_call 118; refine (kind_none _).mono ?_; rintro e w2 ⟨rfl, hb3⟩; have hbf := hb1.trans ((hb2.trans (hb3.mono hb2.size)).mono hb1.size)))
    all_goals go_returns
    all_goals exact ⟨rfl, hbf⟩
  | some x =>
    have k1 := r1 x hz
    cases ht : x.tr with
    | false =>
      rw [show kindZ (some x) = 1 by simp [kindZ, ht]]
      unfold pK P.hK at *
      go_enter Try.func19, Try.ntmps19
      go_upto_region 1 with fail
      generalize w.alloc (.cells #[.int .i64 p.1, .int .i64 p.2.1, .int .i64 p.2.2] 28) = W at hb1 yp g1 k1 d0 d1 d2 ⊢
      go_wp2_with (first | (go_at_call 27; refine k1.mono ?_; rintro e w1 ⟨rfl, hb2⟩; have hs := (g1.bel hb2).at_ p x hz; have cs := hs.c0; simp only [ht, Bool.false_eq_true, if_false, if_true] at cs; have hm := s87_kind x.s x.l w1 cs; have hx := hs.li ht) | (go_at_call 88; refine (kind_list x.l _).mono ?_; rintro e w2 ⟨rfl, hb3⟩; have hbf := hb1.trans ((hb2.trans (hb3.mono hb2.size)).mono hb1.size)))
      all_goals go_returns
      all_goals exact ⟨rfl, hbf⟩
    | true =>
      rw [show kindZ (some x) = 2 by simp [kindZ, ht]]
      unfold pK P.hK at *
      go_enter Try.func19, Try.ntmps19
      go_upto_region 1 with fail
      generalize w.alloc (.cells #[.int .i64 p.1, .int .i64 p.2.1, .int .i64 p.2.2] 28) = W at hb1 yp g1 k1 d0 d1 d2 ⊢
      go_wp2_with (first | (go_at_call 27; refine k1.mono ?_; rintro e w1 ⟨rfl, hb2⟩; have hs := (g1.bel hb2).at_ p x hz; have cs := hs.c0; simp only [ht, Bool.false_eq_true, if_false, if_true] at cs; have hm := s91_kind x.s x.l w1 cs; have hx := hs.ti ht) | (go_at_call 113; refine (kind_tree x.l _).mono ?_; rintro e w2 ⟨rfl, hb3⟩; have hbf := hb1.trans ((hb2.trans (hb3.mono hb2.size)).mono hb1.size)))
      all_goals go_returns
      all_goals exact ⟨rfl, hbf⟩
theorem gpeek_any (w : World) (B g m1 m2 N : Nat) (Z : Zs) (h : Gr w B g m1 m2 N Z) (p : PKey) (q : Bool) :
    Calls Try.prog 20 #[.pointer (some ⟨g, 0, none⟩), pK p, .bool q] w fun e w' => e = .returned (.tuple #[oV (peekZ (Z p) q), .bool (peekZ (Z p) q).isSome]) ∧ Below w.heap.size w w' := by
  have hb1 := ((Below.refl _ w).alloc (Nat.le_refl _) (.cells #[.int .i64 p.1, .int .i64 p.2.1, .int .i64 p.2.2] 28)).alloc (by simp) (.cells #[.int .i64 0, .int .u64 0] 31)
  have y6 := heap_alloc_new (w.alloc (.cells #[.int .i64 p.1, .int .i64 p.2.1, .int .i64 p.2.2] 28)) (.cells #[.int .i64 0, .int .u64 0] 31)
  rw [World.size_alloc] at y6
  have yp := heap_al (heap_alloc_new w (.cells #[.int .i64 p.1, .int .i64 p.2.1, .int .i64 p.2.2] 28)) (.cells #[.int .i64 0, .int .u64 0] 31)
  have g1 := h.bel hb1
  obtain ⟨r0, r1⟩ := grow_any _ B g m1 m2 N Z g1 p
  obtain ⟨d0, d1, d2⟩ := pl_cells yp
  cases hz : Z p with
  | none =>
    have k1 := r0 hz
    rw [show peekZ none q = none from rfl]
    unfold pK P.hK at *
    go_enter Try.func20, Try.ntmps20
    go_upto_region 1 with fail
    generalize (w.alloc (.cells #[.int .i64 p.1, .int .i64 p.2.1, .int .i64 p.2.2] 28)).alloc (.cells #[.int .i64 0, .int .u64 0] 31) = W at hb1 y6 yp g1 k1 d0 d1 d2 ⊢
    go_wp2_with (first | (go_at_call 27; refine k1.mono ?_; rintro e w1 ⟨rfl, hb2⟩; unfold none94) | (go_at_call 79; refine (peek_nil q _).mono ?_; rintro e w2 ⟨rfl, hb3⟩; have hbf := hb1.trans ((hb2.trans (hb3.mono hb2.size)).mono hb1.size); have y7 := ((hb2.trans (hb3.mono hb2.size)).block _ (heap_lt y6)).trans y6; obtain ⟨s0, s1, s2, s3⟩ := put2 y7 (.int .i64 0) (.int .u64 0); have f0 := froz_of y7 0; have f1 := froz_of y7 1; have z0 := cell_of y7 0; have z1 := cell_of y7 1; simp at z0 z1; replace hbf := (Below.setCell (p := (⟨w.heap.size + 1, 0, none⟩ : Addr)) hbf (Nat.le_succ _) (.int .i64 0)).setCell (p := (⟨w.heap.size + 1, 1, none⟩ : Addr)) (Nat.le_succ _) (.int .u64 0)))
    refine bodyPost_ret (by simp [results, Try.results20, go_sem, s0, s1, s2, s3]; try rfl) rfl ?_
    exact ⟨rfl, hbf⟩
  | some x =>
    have k1 := r1 x hz
    cases ht : x.tr with
    | false =>
      rw [show peekZ (some x) q = endM x.K q by simp [peekZ, ht]]
      rw [oV_eq]
      generalize ho : endM x.K q = o
      unfold pK P.hK at *
      go_enter Try.func20, Try.ntmps20
      go_upto_region 1 with fail
      generalize (w.alloc (.cells #[.int .i64 p.1, .int .i64 p.2.1, .int .i64 p.2.2] 28)).alloc (.cells #[.int .i64 0, .int .u64 0] 31) = W at hb1 y6 yp g1 k1 d0 d1 d2 ⊢
      go_wp2_with (first | (go_at_call 27; refine k1.mono ?_; rintro e w1 ⟨rfl, hb2⟩; have hs := (g1.bel hb2).at_ p x hz; have cs := hs.c0; simp only [ht, Bool.false_eq_true, if_false, if_true] at cs; have hm := s87_Peek x.s x.l w1 cs; have hx := hs.li ht; have k2 := peek_li w1 B x.l x.K x.S hx q; rw [ho, oV_eq] at k2) | (go_at_call 79; refine (k2).mono ?_; rintro e w2 ⟨rfl, hb3⟩; have hbf := hb1.trans ((hb2.trans (hb3.mono hb2.size)).mono hb1.size); have y7 := ((hb2.trans (hb3.mono hb2.size)).block _ (heap_lt y6)).trans y6; obtain ⟨s0, s1, s2, s3⟩ := put2 y7 (.int .i64 (o1 o)) (.int .u64 (o2 o)); have f0 := froz_of y7 0; have f1 := froz_of y7 1; have z0 := cell_of y7 0; have z1 := cell_of y7 1; simp at z0 z1; replace hbf := (Below.setCell (p := (⟨w.heap.size + 1, 0, none⟩ : Addr)) hbf (Nat.le_succ _) (.int .i64 (o1 o))).setCell (p := (⟨w.heap.size + 1, 1, none⟩ : Addr)) (Nat.le_succ _) (.int .u64 (o2 o))))
      refine bodyPost_ret (by simp [results, Try.results20, go_sem, s0, s1, s2, s3]; try rfl) rfl ?_
      exact ⟨rfl, hbf⟩
    | true =>
      rw [show peekZ (some x) q = none by simp [peekZ, ht]]
      unfold pK P.hK at *
      go_enter Try.func20, Try.ntmps20
      go_upto_region 1 with fail
      generalize (w.alloc (.cells #[.int .i64 p.1, .int .i64 p.2.1, .int .i64 p.2.2] 28)).alloc (.cells #[.int .i64 0, .int .u64 0] 31) = W at hb1 y6 yp g1 k1 d0 d1 d2 ⊢
      go_wp2_with (first | (go_at_call 27; refine k1.mono ?_; rintro e w1 ⟨rfl, hb2⟩; have hs := (g1.bel hb2).at_ p x hz; have cs := hs.c0; simp only [ht, Bool.false_eq_true, if_false, if_true] at cs; have hm := s91_Peek x.s x.l w1 cs; have hx := hs.ti ht) | (go_at_call 111; refine (tpeek_any x.l q _).mono ?_; rintro e w2 ⟨rfl, hb3⟩; have hbf := hb1.trans ((hb2.trans (hb3.mono hb2.size)).mono hb1.size); have y7 := ((hb2.trans (hb3.mono hb2.size)).block _ (heap_lt y6)).trans y6; obtain ⟨s0, s1, s2, s3⟩ := put2 y7 (.int .i64 0) (.int .u64 0); have f0 := froz_of y7 0; have f1 := froz_of y7 1; have z0 := cell_of y7 0; have z1 := cell_of y7 1; simp at z0 z1; replace hbf := (Below.setCell (p := (⟨w.heap.size + 1, 0, none⟩ : Addr)) hbf (Nat.le_succ _) (.int .i64 0)).setCell (p := (⟨w.heap.size + 1, 1, none⟩ : Addr)) (Nat.le_succ _) (.int .u64 0)))
      refine bodyPost_ret (by simp [results, Try.results20, go_sem, s0, s1, s2, s3]; try rfl) rfl ?_
      exact ⟨rfl, hbf⟩
theorem gat_any (w : World) (B g m1 m2 N : Nat) (Z : Zs) (h : Gr w B g m1 m2 N Z) (p : PKey) (hN : N ≤ 2000) (i : Int) :
    Calls Try.prog 16 #[.pointer (some ⟨g, 0, none⟩), pK p, .int .i64 i] w fun e w' => e = .returned (.tuple #[oV (atZ (Z p) i), .bool (atZ (Z p) i).isSome]) ∧ Below w.heap.size w w' := by
  have hb1 := ((Below.refl _ w).alloc (Nat.le_refl _) (.cells #[.int .i64 p.1, .int .i64 p.2.1, .int .i64 p.2.2] 28)).alloc (by simp) (.cells #[.int .i64 0, .int .u64 0] 31)
  have y6 := heap_alloc_new (w.alloc (.cells #[.int .i64 p.1, .int .i64 p.2.1, .int .i64 p.2.2] 28)) (.cells #[.int .i64 0, .int .u64 0] 31)
  rw [World.size_alloc] at y6
  have yp := heap_al (heap_alloc_new w (.cells #[.int .i64 p.1, .int .i64 p.2.1, .int .i64 p.2.2] 28)) (.cells #[.int .i64 0, .int .u64 0] 31)
  have g1 := h.bel hb1
  obtain ⟨r0, r1⟩ := grow_any _ B g m1 m2 N Z g1 p
  obtain ⟨d0, d1, d2⟩ := pl_cells yp
  cases hz : Z p with
  | none =>
    have k1 := r0 hz
    rw [show atZ none i = none from rfl]
    unfold pK P.hK at *
    go_enter Try.func16, Try.ntmps16
    go_upto_region 1 with fail
    generalize (w.alloc (.cells #[.int .i64 p.1, .int .i64 p.2.1, .int .i64 p.2.2] 28)).alloc (.cells #[.int .i64 0, .int .u64 0] 31) = W at hb1 y6 yp g1 k1 d0 d1 d2 ⊢
    go_wp2_with (first | (go_at_call 27; refine k1.mono ?_; rintro e w1 ⟨rfl, hb2⟩; unfold none94) | (go_at_call 86; refine (lat_nil i _).mono ?_; rintro e w2 ⟨rfl, hb3⟩; have hbf := hb1.trans ((hb2.trans (hb3.mono hb2.size)).mono hb1.size); have y7 := ((hb2.trans (hb3.mono hb2.size)).block _ (heap_lt y6)).trans y6; obtain ⟨s0, s1, s2, s3⟩ := put2 y7 (.int .i64 0) (.int .u64 0); have f0 := froz_of y7 0; have f1 := froz_of y7 1; have z0 := cell_of y7 0; have z1 := cell_of y7 1; simp at z0 z1; replace hbf := (Below.setCell (p := (⟨w.heap.size + 1, 0, none⟩ : Addr)) hbf (Nat.le_succ _) (.int .i64 0)).setCell (p := (⟨w.heap.size + 1, 1, none⟩ : Addr)) (Nat.le_succ _) (.int .u64 0)))
    refine bodyPost_ret (by simp [results, Try.results16, go_sem, s0, s1, s2, s3]; try rfl) rfl ?_
    exact ⟨rfl, hbf⟩
  | some x =>
    have k1 := r1 x hz
    cases ht : x.tr with
    | false =>
      rw [show atZ (some x) i = atM x.K i from rfl]
      rw [oV_eq]
      generalize ho : atM x.K i = o
      unfold pK P.hK at *
      go_enter Try.func16, Try.ntmps16
      go_upto_region 1 with fail
      generalize (w.alloc (.cells #[.int .i64 p.1, .int .i64 p.2.1, .int .i64 p.2.2] 28)).alloc (.cells #[.int .i64 0, .int .u64 0] 31) = W at hb1 y6 yp g1 k1 d0 d1 d2 ⊢
      go_wp2_with (first | (go_at_call 27; refine k1.mono ?_; rintro e w1 ⟨rfl, hb2⟩; have hs := (g1.bel hb2).at_ p x hz; have cs := hs.c0; simp only [ht, Bool.false_eq_true, if_false, if_true] at cs; have hm := s87_At x.s x.l w1 cs; have hx := hs.li ht; have k2 := lat_any w1 B x.l x.K x.S hx (by rw [x.klen]; have := h.len p x hz; omega) i; rw [ho, oV_eq] at k2) | (go_at_call 86; refine (k2).mono ?_; rintro e w2 ⟨rfl, hb3⟩; have hbf := hb1.trans ((hb2.trans (hb3.mono hb2.size)).mono hb1.size); have y7 := ((hb2.trans (hb3.mono hb2.size)).block _ (heap_lt y6)).trans y6; obtain ⟨s0, s1, s2, s3⟩ := put2 y7 (.int .i64 (o1 o)) (.int .u64 (o2 o)); have f0 := froz_of y7 0; have f1 := froz_of y7 1; have z0 := cell_of y7 0; have z1 := cell_of y7 1; simp at z0 z1; replace hbf := (Below.setCell (p := (⟨w.heap.size + 1, 0, none⟩ : Addr)) hbf (Nat.le_succ _) (.int .i64 (o1 o))).setCell (p := (⟨w.heap.size + 1, 1, none⟩ : Addr)) (Nat.le_succ _) (.int .u64 (o2 o))))
      refine bodyPost_ret (by simp [results, Try.results16, go_sem, s0, s1, s2, s3]; try rfl) rfl ?_
      exact ⟨rfl, hbf⟩
    | true =>
      rw [show atZ (some x) i = atM x.K i from rfl]
      rw [oV_eq]
      generalize ho : atM x.K i = o
      unfold pK P.hK at *
      go_enter Try.func16, Try.ntmps16
      go_upto_region 1 with fail
      generalize (w.alloc (.cells #[.int .i64 p.1, .int .i64 p.2.1, .int .i64 p.2.2] 28)).alloc (.cells #[.int .i64 0, .int .u64 0] 31) = W at hb1 y6 yp g1 k1 d0 d1 d2 ⊢
      go_wp2_with (first | (go_at_call 27; refine k1.mono ?_; rintro e w1 ⟨rfl, hb2⟩; have hs := (g1.bel hb2).at_ p x hz; have cs := hs.c0; simp only [ht, Bool.false_eq_true, if_false, if_true] at cs; have hm := s91_At x.s x.l w1 cs; have hx := hs.ti ht; have k2 := T.at_ti w1 B x.l x.K x.S hx i; rw [tatM, toV, ho, oV_eq] at k2) | (go_at_call 94; refine (k2).mono ?_; rintro e w2 ⟨rfl, hb3⟩; have hbf := hb1.trans ((hb2.trans (hb3.mono hb2.size)).mono hb1.size); have y7 := ((hb2.trans (hb3.mono hb2.size)).block _ (heap_lt y6)).trans y6; obtain ⟨s0, s1, s2, s3⟩ := put2 y7 (.int .i64 (o1 o)) (.int .u64 (o2 o)); have f0 := froz_of y7 0; have f1 := froz_of y7 1; have z0 := cell_of y7 0; have z1 := cell_of y7 1; simp at z0 z1; replace hbf := (Below.setCell (p := (⟨w.heap.size + 1, 0, none⟩ : Addr)) hbf (Nat.le_succ _) (.int .i64 (o1 o))).setCell (p := (⟨w.heap.size + 1, 1, none⟩ : Addr)) (Nat.le_succ _) (.int .u64 (o2 o))))
      refine bodyPost_ret (by simp [results, Try.results16, go_sem, s0, s1, s2, s3]; try rfl) rfl ?_
      exact ⟨rfl, hbf⟩
end Go.Proofs.Ythgpbbpmfpfjnaa
