/- Towards the statements of package graph (layer 17): a handle comes into a place. -/
import Derived.Test.YthgpbbpmfpfjnaaGI
import Derived.Test.YthgpbbpmfpfjnaaGE
import Derived.Test.YthgpbbpmfpfjnaaGD
namespace Go.Proofs.Ythgpbbpmfpfjnaa
open Go.ChangeShapes Go.WideShapes Go.ChangeAt Go.RowKit
set_option linter.unusedVariables false
set_option linter.unusedSimpArgs false
set_option maxRecDepth 20000
theorem fd_cells {W : World} {b : Nat} {f : FKey} {t : TypeId} (h : W.heap[b]? = some (.cells #[.int .i64 f.1.1, .int .u64 f.1.2, .int .i64 f.2] t (0, 0))) : W.cell? ⟨b, 0, none⟩ = some (.int .i64 f.1.1) ∧ W.cell? ⟨b, 1, none⟩ = some (.int .u64 f.1.2) ∧ W.cell? ⟨b, 2, none⟩ = some (.int .i64 f.2) := by
  refine ⟨?_, ?_, ?_⟩ <;> (rw [cell_of h]; rfl)
/-- The spot at a place, as a value. -/
theorem Gr.spot {w : World} {B g m1 m2 N : Nat} {Z : Zs} (h : Gr w B g m1 m2 N Z) (p : PKey) :
    (Z p = none → ∀ w', w'.heap[m1]? = w.heap[m1]? → (Instr.lookup 54 (.map (some m1)) (P.hK p) false).run Try.prog w' = .ok (.pointer none) w') ∧
    ∀ x, Z p = some x → ∀ w', w'.heap[m1]? = w.heap[m1]? → (Instr.lookup 54 (.map (some m1)) (P.hK p) false).run Try.prog w' = .ok (.pointer (some ⟨x.s, 0, none⟩)) w' := by
  obtain ⟨G, hG, hG2⟩ := h.spots
  refine ⟨fun e w' hw => ?_, fun x hx w' hw => ?_⟩
  · have := P.HM.look1 Try.underlying54 (hG.keep hw) p (zero76 w')
    cases hv : G p with
    | none => rw [hv] at this; exact this
    | some v =>
      obtain ⟨x, hx, _⟩ := (hG2 p v).1 hv
      rw [e] at hx; cases hx
  · have := P.HM.look1 Try.underlying54 (hG.keep hw) p (zero76 w')
    rw [(hG2 p _).2 ⟨x, hx, rfl⟩] at this
    exact this
/-- What a graph has, without its blocks. -/
abbrev Ys := PKey → Option (Bool × List FKey)
def yOf (Z : Zs) : Ys := fun p => (Z p).map fun x => (x.tr, x.L)
def updY (Y : Ys) (p : PKey) (o : Option (Bool × List FKey)) : Ys := fun q => if q = p then o else Y q
theorem yOf_upd (Z : Zs) (p : PKey) (o : Option Sp) : yOf (updZ Z p o) = updY (yOf Z) p (o.map fun x => (x.tr, x.L)) := by
  funext q
  unfold yOf updZ updY
  split <;> rfl
def There (Y : Ys) (f : FKey) : Prop := ∃ q y, Y q = some y ∧ f ∈ y.2
theorem there_of {Z : Zs} {f : FKey} {q : PKey} {x : Sp} (h : Z q = some x) (hf : f ∈ x.L) : There (yOf Z) f := ⟨q, (x.tr, x.L), by simp [yOf, h], hf⟩
theorem there_not {Z : Zs} {f : FKey} (h : ∀ q x, Z q = some x → f ∉ x.L) : ¬ There (yOf Z) f := by
  rintro ⟨q, y, hy, hf⟩
  obtain ⟨x, hx, rfl⟩ := Option.map_eq_some_iff.1 hy
  exact h q x hx hf
open Classical in
/-- What Push answers, and leaves. -/
noncomputable def pushY (Y : Ys) (p : PKey) (f : FKey) (q : Bool) : Int × Ys :=
  if There Y f then (7, Y) else match Y p with
    | none => (0, updY Y p (some (false, [f])))
    | some (tr, L) => if tr = true ∨ f.1 ∈ L.map Prod.fst then (3, Y) else (0, updY Y p (some (false, if q then f :: L else L ++ [f])))
open Classical in
/-- What Insert answers, and leaves. -/
noncomputable def insY (Y : Ys) (p : PKey) (i : Int) (f : FKey) : Int × Ys :=
  if There Y f then (7, Y) else match Y p with
    | none => if i = 0 then (0, updY Y p (some (true, [f]))) else (2, Y)
    | some (tr, L) => if tr = false ∨ f.1 ∈ L.map Prod.fst then (3, Y) else if i < 0 ∨ (L.length : Int) < i then (2, Y) else (0, updY Y p (some (true, L.take i.toNat ++ f :: L.drop i.toNat)))
theorem below_size {w w' : World} {n : Nat} (h : Below n w w') (e : w.heap.size = n) : n ≤ w'.heap.size := by have := h.size; omega
theorem FG.after {B : Nat} {A A' : Nat → Prop} {S : List Nat} {w w3 w4 : World} (hb : Below w.heap.size w w3) (hB : B ≤ w.heap.size) (hS : ∀ k ∈ S, A k ∨ w.heap.size ≤ k) (hG : FG B (fun k => A k ∨ k ∈ S) A' w3 w4) : FG B A A' w w4 := by
  have hs := hb.size
  refine ⟨(hb.mono hB).trans hG.bel, fun k hk hn => (hG.keep k (by omega) ?_).trans (hb.block k hk), fun k hk => ?_⟩
  · rintro (a | a)
    · exact hn a
    · rcases hS k a with c | c
      · exact hn c
      · omega
  · rcases hG.sub k hk with (a | a) | a
    · exact .inl a
    · exact hS k a
    · exact .inr (by omega)
section
variable {Z : Zs} {p : PKey} {f : FKey} {x : Sp} (hnf : ∀ q x, Z q = some x → f ∉ x.L)
include hnf
theorem push_eq3 (q : Bool) (hz : Z p = some x) (hc : x.tr = true ∨ f.1 ∈ x.K) : pushY (yOf Z) p f q = (3, yOf Z) := by
  unfold pushY
  rw [if_neg (there_not hnf)]
  simp only [yOf, hz, Option.map_some]
  exact if_pos hc
theorem push_eq0 (q : Bool) (S : List Nat) (hz : ∀ y, Z p = some y → y = x) (hzn : Z p = none → x.L = []) (ht : x.tr = false) (hk : f.1 ∉ x.K) : pushY (yOf Z) p f q = (0, yOf (updZ Z p (some (x.to (if q then f :: x.L else x.L ++ [f]) S)))) := by
  unfold pushY
  rw [if_neg (there_not hnf), yOf_upd]
  cases e : Z p with
  | none =>
    simp only [yOf, e, Option.map_none, hzn e, Sp.to, Option.map_some, ht]
    cases q <;> rfl
  | some y =>
    have := hz y e
    subst this
    simp only [yOf, e, Option.map_some, Sp.to, ht]
    rw [if_neg (by simp; simpa [Sp.K] using hk)]
theorem ins_eq3 (i : Int) (hz : Z p = some x) (hc : x.tr = false ∨ f.1 ∈ x.K) : insY (yOf Z) p i f = (3, yOf Z) := by
  unfold insY
  rw [if_neg (there_not hnf)]
  simp only [yOf, hz, Option.map_some]
  exact if_pos hc
theorem ins_eq2 (i : Int) (hz : ∀ y, Z p = some y → y = x) (hzn : Z p = none → x.L = []) (ht : x.tr = true) (hk : f.1 ∉ x.K) (hi : i < 0 ∨ (x.L.length : Int) < i) : insY (yOf Z) p i f = (2, yOf Z) := by
  unfold insY
  rw [if_neg (there_not hnf)]
  cases e : Z p with
  | none =>
    simp only [yOf, e, Option.map_none]
    rw [hzn e] at hi
    exact if_neg (by simp at hi; omega)
  | some y =>
    have := hz y e
    subst this
    simp only [yOf, e, Option.map_some, ht]
    rw [if_neg (by simp; simpa [Sp.K] using hk), if_pos hi]
theorem ins_eq0 (i : Int) (S : List Nat) (hz : ∀ y, Z p = some y → y = x) (hzn : Z p = none → x.L = []) (ht : x.tr = true) (hk : f.1 ∉ x.K) (hi : ¬ (i < 0 ∨ (x.L.length : Int) < i)) : insY (yOf Z) p i f = (0, yOf (updZ Z p (some (x.to (x.L.take i.toNat ++ f :: x.L.drop i.toNat) S)))) := by
  unfold insY
  rw [if_neg (there_not hnf), yOf_upd]
  cases e : Z p with
  | none =>
    simp only [yOf, e, Option.map_none, hzn e, Sp.to, Option.map_some, ht]
    rw [hzn e] at hi
    rw [if_pos (by simp at hi; omega)]
    simp
  | some y =>
    have := hz y e
    subst this
    simp only [yOf, e, Option.map_some, Sp.to, ht]
    rw [if_neg (by simp; simpa [Sp.K] using hk), if_neg hi]
end
theorem fit_new {W w3 : World} {B g m1 m2 N : Nat} {Z : Zs} {p : PKey} (h : Gr W B g m1 m2 N Z) (hz : Z p = none) (tr : Bool) (l : Nat) (S : List Nat) (hb : Below W.heap.size W w3) (hl : tr = false → Li w3 W.heap.size l [] S) (ht : tr = true → T.Ti w3 W.heap.size l [] S) :
    Fit ((w3.alloc (.map #[] 0)).alloc (.cells #[.iface (if tr then 91 else 87) (.agg #[.pointer (some ⟨l, 0, none⟩)]), .map (some w3.heap.size)] 82)) B g m1 m2 N Z p ⟨tr, [], w3.heap.size + 1, l, w3.heap.size, S⟩ ∧
    Below W.heap.size W ((w3.alloc (.map #[] 0)).alloc (.cells #[.iface (if tr then 91 else 87) (.agg #[.pointer (some ⟨l, 0, none⟩)]), .map (some w3.heap.size)] 82)) ∧ ∀ k ∈ (⟨tr, [], w3.heap.size + 1, l, w3.heap.size, S⟩ : Sp).foot, W.heap.size ≤ k := by
  have hB := h.size
  have hw := hb.size
  have s1 : (w3.alloc (.map #[] 0)).heap.size = w3.heap.size + 1 := by simp
  have hb1 : Below W.heap.size W ((w3.alloc (.map #[] 0)).alloc (.cells #[.iface (if tr then 91 else 87) (.agg #[.pointer (some ⟨l, 0, none⟩)]), .map (some w3.heap.size)] 82)) := (hb.alloc hw _).alloc (by omega) _
  have hb3 : Below w3.heap.size w3 ((w3.alloc (.map #[] 0)).alloc (.cells #[.iface (if tr then 91 else 87) (.agg #[.pointer (some ⟨l, 0, none⟩)]), .map (some w3.heap.size)] 82)) := ((Below.refl _ w3).alloc (Nat.le_refl _) _).alloc (by omega) _
  have hS : ∀ k ∈ S, W.heap.size ≤ k ∧ k < w3.heap.size := by
    intro k hk
    cases e : tr with
    | false => exact (hl e).lt k hk
    | true => exact (ht e).lt k hk
  have hfo : ∀ k ∈ (⟨tr, [], w3.heap.size + 1, l, w3.heap.size, S⟩ : Sp).foot, W.heap.size ≤ k := by
    intro k hk
    simp only [Sp.foot, List.mem_cons] at hk
    rcases hk with rfl | rfl | hk
    · omega
    · omega
    · exact (hS k hk).1
  have hm0 : HM ((w3.alloc (.map #[] 0)).alloc (.cells #[.iface (if tr then 91 else 87) (.agg #[.pointer (some ⟨l, 0, none⟩)]), .map (some w3.heap.size)] 82)) w3.heap.size 0 (fun _ => none) := (HM.new w3).alloc _
  have e2 := heap_alloc_new (w3.alloc (.map #[] 0)) (.cells #[.iface (if tr then 91 else 87) (.agg #[.pointer (some ⟨l, 0, none⟩)]), .map (some w3.heap.size)] 82)
  rw [s1] at e2
  refine ⟨⟨h.bel hb1, ⟨e2, fun e => ((hl e).bel hb3).base hB, fun e => ((ht e).bel hb3).base hB, ⟨0, _, hm0, fun h v => by simp⟩, by show B ≤ w3.heap.size + 1; omega, by show B ≤ w3.heap.size; omega, fun q => by have := (hS _ q).2; simp at this; omega, fun q => by have := (hS _ q).2; simp at this, by simp [Sp.K]⟩, ?_, ?_, ?_, fun _ => rfl, by simp⟩, hb1, hfo⟩
  · intro q y hy hq k hk hk2
    have := hfo k hk
    have := ((h.at_ q y hy).lt k hk2).2
    omega
  · refine ⟨fun q => ?_, fun q => ?_, fun q => ?_⟩
    · have := hfo _ q; have := (h.lt g (.inl rfl)).2; omega
    · have := hfo _ q; have := (h.lt m1 (.inr (.inl rfl))).2; omega
    · have := hfo _ q; have := (h.lt m2 (.inr (.inr (.inl rfl)))).2; omega
  · intro y e; rw [hz] at e; cases e
theorem insc_bad (w : World) (B l a b : Nat) (k : HKey) (i : Int) (K : List HKey) (S : List Nat) (hL : T.Ti w B l K S) (hi : i < 0 ∨ (K.length : Int) < i) (a0 : w.cell? ⟨a, 0, none⟩ = some (.int .i64 i)) (b0 : w.cell? ⟨b, 0, none⟩ = some (.int .i64 k.1)) (b1 : w.cell? ⟨b, 1, none⟩ = some (.int .u64 k.2)) :
    Calls Try.prog 25 #[.iface 91 (.agg #[.pointer (some ⟨l, 0, none⟩)]), .pointer (some ⟨a, 0, none⟩), .pointer (some ⟨b, 0, none⟩)] w fun e w' => e = .returned (.int .i64 2) ∧ Below w.heap.size w w' := by
  have k1 : Calls Try.prog 96 #[.pointer (some ⟨l, 0, none⟩), .int .i64 i, .agg #[.int .i64 k.1, .int .u64 k.2]] w fun e w' => e = .returned (.int .i64 2) ∧ Below w.heap.size w w' := by
    obtain ⟨m, top, M, t, h1, rfl⟩ := hL.use
    exact @T.tins_arg ⟨T.farS w S⟩ w B l m top M t h1 i (by rw [T.Tr.keys_len] at hi; exact hi) k
  go_enter Try.func25, Try.ntmps25
  go_wp2_with (go_at_call 96; refine k1.mono ?_; rintro e w1 ⟨rfl, h2⟩)
  all_goals go_returns
  all_goals exact ⟨rfl, h2⟩
theorem mem_push (L : List FKey) (f g : FKey) (q : Bool) : g ∈ (if q then f :: L else L ++ [f]) ↔ g = f ∨ g ∈ L := by
  cases q
  · simp [or_comm]
  · simp
theorem mem_ins (L : List FKey) (f g : FKey) (n : Nat) : g ∈ L.take n ++ f :: L.drop n ↔ g = f ∨ g ∈ L := by
  have e : g ∈ L ↔ g ∈ L.take n ∨ g ∈ L.drop n := by rw [← List.mem_append, List.take_append_drop]
  rw [e, List.mem_append, List.mem_cons]
  exact ⟨fun h => by rcases h with h | h | h <;> simp [h], fun h => by rcases h with h | h | h <;> simp [h]⟩
theorem push_keys (x : Sp) (f : FKey) (q : Bool) (hk : f.1 ∉ x.K) : (if q then f :: x.L else x.L ++ [f]).map Prod.fst = pushM x.K f.1 q := by
  unfold pushM
  rw [if_neg hk]
  cases q <;> simp [Sp.K]
theorem ins_keys (x : Sp) (f : FKey) (i : Int) (hk : f.1 ∉ x.K) (hi : ¬ (i < 0 ∨ (x.L.length : Int) < i)) : (x.L.take i.toNat ++ f :: x.L.drop i.toNat).map Prod.fst = T.insK x.K i f.1 ∧ T.insR x.K i f.1 = 0 := by
  have hr : T.insR x.K i f.1 = 0 := by
    unfold T.insR
    rw [if_neg (by rw [x.klen]; exact hi), if_neg hk]
  unfold T.insK
  rw [hr, if_pos rfl]
  exact ⟨by simp [Sp.K, List.map_take, List.map_drop], rfl⟩
set_option maxHeartbeats 2000000 in
theorem enter_push (w : World) (B g m1 m2 N : Nat) (Z : Zs) (h : Gr w B g m1 m2 N Z) (hN : N + 1 ≤ 2000) (p : PKey) (f : FKey) (q : Bool) (a b : Nat) (ha : w.heap[a]? = some (.cells #[.int .i64 f.1.1, .int .u64 f.1.2] 31 (0, 0))) (hb : w.heap[b]? = some (.cells #[.bool q] 4 (0, 0))) :
    Calls Try.prog 21 #[.pointer (some ⟨g, 0, none⟩), pK p, F.hK f, .func (.func 22) #[] #[], .func (.func 23) #[] #[.pointer (some ⟨a, 0, none⟩), .pointer (some ⟨b, 0, none⟩)]] w fun e w' => ∃ r, e = .returned (.int .i64 r) ∧ ∃ Z', Gr w' B g m1 m2 (N + 1) Z' ∧ FG B (Fp g m1 m2 Z) (Fp g m1 m2 Z') w w' ∧ (r, yOf Z') = pushY (yOf Z) p f q := by
  have hb1 := ((Below.refl _ w).alloc (Nat.le_refl _) (.cells #[.int .i64 p.1, .int .i64 p.2.1, .int .i64 p.2.2] 28)).alloc (by simp) (.cells #[.int .i64 f.1.1, .int .u64 f.1.2, .int .i64 f.2] 60)
  have y6 := heap_al (heap_alloc_new w (.cells #[.int .i64 p.1, .int .i64 p.2.1, .int .i64 p.2.2] 28)) (.cells #[.int .i64 f.1.1, .int .u64 f.1.2, .int .i64 f.2] 60)
  have y7 := heap_alloc_new (w.alloc (.cells #[.int .i64 p.1, .int .i64 p.2.1, .int .i64 p.2.2] 28)) (.cells #[.int .i64 f.1.1, .int .u64 f.1.2, .int .i64 f.2] 60)
  rw [World.size_alloc] at y7
  have g1 := h.bel hb1
  obtain ⟨pi, bi, hlook, hpb⟩ := g1.find f
  unfold F.hK at hlook
  unfold pK P.hK at hlook
  unfold pK P.hK F.hK
  have hBw := h.size
  go_enter Try.func21, Try.ntmps21
  go_upto_region 1 with fail
  generalize (w.alloc (.cells #[.int .i64 p.1, .int .i64 p.2.1, .int .i64 p.2.2] 28)).alloc (.cells #[.int .i64 f.1.1, .int .u64 f.1.2, .int .i64 f.2] 60) = W at hb1 y6 y7 g1 hlook ⊢
  have k1 := gmade_yes W g m1 g1.c0
  go_upto_region 3 with (go_at_call 28; refine k1.mono ?_; rintro e w' ⟨rfl, hw⟩; rw [hw]; clear hw)
  clear k1
  go_cut [12] (fun n12 wx => n12 = .bool bi ∧ wx = (W.alloc (.cells #[.int .i64 pi.1, .int .i64 pi.2.1, .int .i64 pi.2.2] 28)).drew)
  case first =>
    have c1 := g1.c1
    obtain ⟨a0, a1, a2⟩ := fd_cells y7
    have hm2 : m2 < W.heap.size := (g1.lt m2 (.inr (.inr (.inl rfl)))).2
    have q1 := hlook W.drew rfl
    have q2 := hlook (W.alloc (.cells #[.int .i64 0, .int .i64 0, .int .i64 0] 28)).drew (Below.heap_alloc _ _ _ hm2)
    have b0 := cell_al a0 (.cells #[.int .i64 0, .int .i64 0, .int .i64 0] 28)
    have b1 := cell_al a1 (.cells #[.int .i64 0, .int .i64 0, .int .i64 0] 28)
    have b2 := cell_al a2 (.cells #[.int .i64 0, .int .i64 0, .int .i64 0] 28)
    have c1' := cell_al c1 (.cells #[.int .i64 0, .int .i64 0, .int .i64 0] 28)
    go_region
    all_goals go_wp2_with fail
    all_goals go_meet
    all_goals exact ⟨rfl, rfl⟩
  case rest =>
    obtain ⟨rfl, rfl⟩ := hcut
    have hb2 : Below w.heap.size w (W.alloc (.cells #[.int .i64 pi.1, .int .i64 pi.2.1, .int .i64 pi.2.2] 28)).drew := (hb1.alloc hb1.size _).drew
    have g2 : Gr (W.alloc (.cells #[.int .i64 pi.1, .int .i64 pi.2.1, .int .i64 pi.2.2] 28)).drew B g m1 m2 N Z := h.bel hb2
    have z6 : (W.alloc (.cells #[.int .i64 pi.1, .int .i64 pi.2.1, .int .i64 pi.2.2] 28)).drew.heap[w.heap.size]? = some (.cells #[.int .i64 p.1, .int .i64 p.2.1, .int .i64 p.2.2] 28 (0, 0)) := heap_al y6 _
    have z7 : (W.alloc (.cells #[.int .i64 pi.1, .int .i64 pi.2.1, .int .i64 pi.2.2] 28)).drew.heap[w.heap.size + 1]? = some (.cells #[.int .i64 f.1.1, .int .u64 f.1.2, .int .i64 f.2] 60 (0, 0)) := heap_al y7 _
    clear hb1 g1 y6 y7 hlook
    generalize (W.alloc (.cells #[.int .i64 pi.1, .int .i64 pi.2.1, .int .i64 pi.2.2] 28)).drew = W2 at hb2 g2 z6 z7 ⊢
    generalize hwz : w.heap.size = wz at *
    rcases hpb with ⟨rfl, x, hx, hfx⟩ | ⟨rfl, -, hnf⟩
    · go_wp2
      all_goals go_returns
      all_goals exact ⟨_, rfl, Z, g2.mono (Nat.le_succ N), FG.of (hwz ▸ hb2) (by omega), by unfold pushY; rw [if_pos (there_of hx hfx)]⟩
    · have c0 := g2.c0
      obtain ⟨d0, d1, d2⟩ := pl_cells z6
      cases hz : Z p with
      | some x =>
        have q1 := fun n => (g2.spot p).2 x hz (W2.drewN n) rfl
        unfold P.hK at q1
        have qe := eq76_yes x.s
        go_upto_region 6 with fail
        go_quiet (fail)
        go_upto_region 9 with fail
        have fit := (Fit.of g2 hz).bel (Below.drewN (Below.refl _ W2) nq)
        have hb3 := Below.drewN hb2 nq
        have z6 : (W2.drewN nq).heap[wz]? = _ := z6
        have z7 : (W2.drewN nq).heap[wz + 1]? = _ := z7
        clear q1 qe c0 d0 d1 d2 g2 hb2
        have hbx : wz ∉ x.foot ∧ wz + 1 ∉ x.foot := by
          constructor
          · intro q; have := (h.lt wz (.inr (.inr (.inr ⟨p, x, hz, q⟩)))).2; omega
          · intro q; have := (h.lt (wz + 1) (.inr (.inr (.inr ⟨p, x, hz, q⟩)))).2; omega
        have hxf : ∀ k ∈ x.foot, Fp g m1 m2 Z k ∨ wz ≤ k := fun k hk => .inl (.inr (.inr (.inr ⟨p, x, hz, hk⟩)))
        generalize W2.drewN nq = W3 at fit hb3 z6 z7 ⊢
        obtain ⟨ny, Fy, hFy, hFy2⟩ := fit.at_.by_
        have c1 := fit.at_.c1
        obtain ⟨d0, d1, d2⟩ := fd_cells z7
        by_cases hk : f.1 ∈ x.K
        · obtain ⟨⟨h', nn⟩, hm, he⟩ := List.mem_map.1 hk
          have e80 := (hFy2 f.1 _).2 ⟨nn, by rw [← he]; exact hm, rfl⟩
          have q1 := fun n => HM.look_yes Try.underlying80 (hFy.drewN n) e80
          unfold hK at q1
          go_quiet (fail)
          go_wp2
          all_goals go_returns
          all_goals exact ⟨_, rfl, Z, (h.bel (hwz ▸ Below.drewN hb3 _)).mono (Nat.le_succ N), FG.of (hwz ▸ Below.drewN hb3 _) (by omega), (push_eq3 hnf q hz (.inr hk)).symm⟩
        · have e80 : Fy f.1 = none := by
            cases e : Fy f.1 with
            | none => rfl
            | some v =>
              obtain ⟨n, hn, _⟩ := (hFy2 _ _).1 e
              exact absurd (List.mem_map.2 ⟨_, hn, rfl⟩) hk
          have q1 := fun n => HM.look_no Try.underlying80 (hFy.drewN n) e80 (zero3 _)
          unfold hK at q1
          go_quiet (fail)
          go_upto_region 12 with fail
          have fit := fit.bel (Below.drewN (Below.refl _ W3) nq)
          have hb3 := Below.drewN hb3 nq
          have z6 : (W3.drewN nq).heap[wz]? = _ := z6
          have z7 : (W3.drewN nq).heap[wz + 1]? = _ := z7
          clear q1 c1 d0 d1 d2 hFy hFy2 e80
          generalize W3.drewN nq = W4 at fit hb3 z6 z7 ⊢
          have c0 := fit.at_.c0
          have ha4 := (hb3.block _ (hwz ▸ heap_lt ha)).trans ha
          have hb4 := (hb3.block _ (hwz ▸ heap_lt hb)).trans hb
          have x0 := cell_of ha4 0
          have x1 := cell_of ha4 1
          have x2 := cell_of hb4 0
          have x3 := cell_of hb4 1
          simp at x0 x1 x2 x3
          cases ht : x.tr with
          | true =>
            simp only [ht, Bool.false_eq_true, if_false, if_true] at c0
            have k3 := pushc_tree W4 x.l a b f.1 q x0 x1 x2
            go_wp2_with (go_at_call 23; refine k3.mono ?_; rintro e w4 ⟨rfl, hb5⟩)
            all_goals go_returns
            all_goals exact ⟨_, rfl, Z, (h.bel (hwz ▸ hb3.trans (hb5.mono (below_size hb3 hwz)))).mono (Nat.le_succ N), FG.of (hwz ▸ hb3.trans (hb5.mono (below_size hb3 hwz))) (by omega), (push_eq3 hnf q hz (.inl ht)).symm⟩
          | false =>
            simp only [ht, Bool.false_eq_true, if_false, if_true] at c0
            have k3 := pushc_list W4 B x.l a b f.1 q x.K x.S (fit.at_.li ht) x0 x1 x2
            rw [if_neg hk] at k3
            go_upto_region 15 with (go_at_call 23; refine k3.mono ?_; rintro e w4 ⟨rfl, S', hL, hF⟩)
            clear k3 x0 x1 x2 x3 c0 ha4 hb4
            have hLn := hL.nd
            have hkk := push_keys x f q hk
            have hlt1 := fit.gr.lt m1 (.inr (.inl rfl))
            have hlt2 := fit.gr.lt m2 (.inr (.inr (.inl rfl)))
            have hltg := fit.gr.lt g (.inl rfl)
            have hlty := fit.at_.lt x.y (.tail _ (.head _))
            have hlts := fit.at_.lt x.s (.head _)
            obtain ⟨og, om1, om2⟩ := fit.out
            have inS : ∀ k, k ∉ x.foot → k ∉ x.S := fun k hn q => hn (by simp [Sp.foot, q])
            obtain ⟨gk1, gk2⟩ := fit.gr.kinds
            have hwz6 := heap_lt z6
            have hwz7 := heap_lt z7
            have hf4 := hF.bel.size
            have y6 := (hF.keep wz hwz6 (inS _ hbx.1)).trans z6
            have y7 := (hF.keep (wz + 1) hwz7 (inS _ hbx.2)).trans z7
            have yg := (hF.keep g hltg.2 (inS _ og)).trans fit.gr.cells
            have ys := (hF.keep x.s hlts.2 fit.at_.sn).trans fit.at_.cells
            obtain ⟨Q1, hQ1, hQ1b⟩ := fit.gr.spots
            obtain ⟨w5, p5, i5, t5⟩ := P.HM.put (w := w4.drew) Try.underlying54 (hQ1.keep (hF.keep m1 hlt1.2 (inS _ om1))) (k := p) trivial (.pointer (some ⟨x.s, 0, none⟩))
            unfold P.hK at p5
            obtain ⟨d0, d1, d2⟩ := pl_cells y6
            have g0 : w4.cell? ⟨g, 0, none⟩ = some (.map (some m1)) := by rw [cell_of yg]; rfl
            go_region
            have s5 : w5.heap.size = w4.heap.size := turn_size (w := w4.drew) t5
            replace y6 := T.turn_block t5 y6 (fun _ _ q => by cases q)
            replace y7 := T.turn_block t5 y7 (fun _ _ q => by cases q)
            replace yg := T.turn_block t5 yg (fun _ _ q => by cases q)
            replace ys := T.turn_block t5 ys (fun _ _ q => by cases q)
            clear d0 d1 d2 g0 p5
            obtain ⟨ny, Fy, hFy, hFy2⟩ := fit.at_.by_
            have m1y : x.y ≠ m1 := by rintro e; exact om1 (by simp [Sp.foot, ← e])
            have m2y : x.y ≠ m2 := by rintro e; exact om2 (by simp [Sp.foot, ← e])
            obtain ⟨w6, p6, i6, t6⟩ := HM.put (w := w5.drew) Try.underlying80 (hFy.keep ((T.turn_other t5 (show x.y < w4.heap.size by omega) m1y).trans (hF.keep x.y hlty.2 fit.at_.yn))) (k := f.1) trivial (.int .i64 f.2)
            unfold hK at p6
            obtain ⟨d0, d1, d2⟩ := fd_cells y7
            have g0 : w5.cell? ⟨x.s, 1, none⟩ = some (.map (some x.y)) := by rw [cell_of ys]; rfl
            go_upto_region 16 with fail
            go_region
            have s6 : w6.heap.size = w5.heap.size := turn_size (w := w5.drew) t6
            replace y6 := T.turn_block t6 y6 (fun _ _ q => by cases q)
            replace y7 := T.turn_block t6 y7 (fun _ _ q => by cases q)
            replace yg := T.turn_block t6 yg (fun _ _ q => by cases q)
            clear d0 d1 d2 g0 p6
            obtain ⟨nf, Qf, hQf, hQf2⟩ := fit.gr.ins
            obtain ⟨w7, p7, i7, t7⟩ := F.HM.put (w := w6.drew) Try.underlying55 (hQf.keep ((T.turn_other t6 (show m2 < w5.heap.size by omega) m2y.symm).trans ((T.turn_other t5 (show m2 < w4.heap.size by omega) fit.gr.ab.symm).trans (hF.keep m2 hlt2.2 (inS _ om2))))) (k := f) trivial (pK p)
            unfold F.hK pK P.hK at p7
            obtain ⟨d0, d1, d2⟩ := fd_cells y7
            obtain ⟨d3, d4, d5⟩ := pl_cells y6
            have g0 : w6.cell? ⟨g, 1, none⟩ = some (.map (some m2)) := by rw [cell_of yg]; rfl
            go_upto_region 17 with fail
            go_region
            clear d0 d1 d2 d3 d4 d5 g0 p7
            have hB4 : B ≤ w4.heap.size := by omega
            have hb7 : Below B W4 w7 := Below.turn (Below.drew (Below.turn (Below.drew (Below.turn (Below.drew hF.bel) t5 fit.gr.aB hB4)) t6 fit.at_.yB (show B ≤ w5.heap.size by omega))) t7 fit.gr.bB (show B ≤ w6.heap.size by omega)
            have fin := Gr.put (v1 := w4.drew) (v2 := w5.drew) (v3 := w6.drew) fit f hnf hk (if q then f :: x.L else x.L ++ [f]) (fun f' => by exact mem_push x.L f f' q) (by rw [hkk]; exact hLn) (by cases q <;> simp) hb7 hF (fun _ => by rw [hkk]; exact hL) (fun e => by rw [ht] at e; cases e) rfl t5 ⟨Q1, hQ1b, i5⟩ rfl t6 ⟨_, Fy, hFy2, i6⟩ rfl t7 ⟨_, Qf, hQf2, i7⟩
            go_wp2
            all_goals go_returns
            all_goals exact ⟨_, rfl, _, fin.1, FG.after (hwz ▸ hb3) (by omega) (by rw [hwz]; exact hxf) fin.2, (push_eq0 hnf q _ fit.zx fit.zn ht hk).symm⟩
      | none =>
        have q1 := fun n => (g2.spot p).1 hz (W2.drewN n) rfl
        unfold P.hK at q1
        have qe := eq76_no
        go_upto_region 6 with fail
        go_quiet (fail)
        have g2 := g2.bel (Below.drewN (Below.refl _ W2) nq)
        have hb2 := Below.drewN hb2 nq
        have z6 : (W2.drewN nq).heap[wz]? = _ := z6
        have z7 : (W2.drewN nq).heap[wz + 1]? = _ := z7
        clear q1 c0 d0 d1 d2
        generalize W2.drewN nq = W1 at g2 hb2 z6 z7 ⊢
        have hmm := @run_makeMap Try.prog
        have k4 := fresh_list W1
        go_upto_region 9 with (go_at_call 22; refine k4.mono ?_; rintro e w3 ⟨l, S, rfl, hL, hb5⟩)
        have fit0 := fit_new (p := p) g2 hz false l S hb5 (fun _ => hL) (by simp)
        obtain ⟨fit, hb6, hfo⟩ := fit0
        simp only [Bool.false_eq_true, if_false, if_true] at fit hb6
        have hb3 : Below wz w _ := hwz ▸ ((hwz ▸ hb2 : Below w.heap.size w W1).trans (hb6.mono (hwz ▸ hb2 : Below w.heap.size w W1).size))
        have z6 := (hb6.block _ (heap_lt z6)).trans z6
        have z7 := (hb6.block _ (heap_lt z7)).trans z7
        generalize hx : (⟨false, [], w3.heap.size + 1, l, w3.heap.size, S⟩ : Sp) = x at fit hfo
        have hxs : w3.heap.size + 1 = x.s := by rw [← hx]
        have hxt : x.tr = false := by rw [← hx]
        rw [hxs]
        have hlz := heap_lt z7
        have hbx : wz ∉ x.foot ∧ wz + 1 ∉ x.foot := by
          have a1 := heap_lt (show W1.heap[wz + 1]? = _ from by assumption)
          constructor
          · intro q; have := hfo _ q; omega
          · intro q; have := hfo _ q; omega
        have hxf : ∀ k ∈ x.foot, Fp g m1 m2 Z k ∨ wz ≤ k := fun k hk => .inr (by have := hfo k hk; have := (hwz ▸ hb2 : Below w.heap.size w W1).size; omega)
        generalize (w3.alloc (.map #[] 0)).alloc (.cells #[.iface 87 (.agg #[.pointer (some ⟨l, 0, none⟩)]), .map (some w3.heap.size)] 82) = W3 at fit hb3 z6 z7 hlz ⊢
        clear k4 hb6 hb5 hL hmm qe hx hxs hfo
        obtain ⟨ny, Fy, hFy, hFy2⟩ := fit.at_.by_
        have c1 := fit.at_.c1
        obtain ⟨d0, d1, d2⟩ := fd_cells z7
        by_cases hk : f.1 ∈ x.K
        · exact absurd hk (by rw [Sp.K, fit.zn hz]; simp)
        · have e80 : Fy f.1 = none := by
            cases e : Fy f.1 with
            | none => rfl
            | some v =>
              obtain ⟨n, hn, _⟩ := (hFy2 _ _).1 e
              exact absurd (List.mem_map.2 ⟨_, hn, rfl⟩) hk
          have q1 := fun n => HM.look_no Try.underlying80 (hFy.drewN n) e80 (zero3 _)
          unfold hK at q1
          go_quiet (fail)
          go_upto_region 12 with fail
          have fit := fit.bel (Below.drewN (Below.refl _ W3) nq)
          have hb3 := Below.drewN hb3 nq
          have z6 : (W3.drewN nq).heap[wz]? = _ := z6
          have z7 : (W3.drewN nq).heap[wz + 1]? = _ := z7
          clear q1 c1 d0 d1 d2 hFy hFy2 e80
          generalize W3.drewN nq = W4 at fit hb3 z6 z7 ⊢
          have c0 := fit.at_.c0
          have ha4 := (hb3.block _ (hwz ▸ heap_lt ha)).trans ha
          have hb4 := (hb3.block _ (hwz ▸ heap_lt hb)).trans hb
          have x0 := cell_of ha4 0
          have x1 := cell_of ha4 1
          have x2 := cell_of hb4 0
          have x3 := cell_of hb4 1
          simp at x0 x1 x2 x3
          cases ht : x.tr with
          | true =>
            exact absurd ht (by rw [hxt]; simp)
          | false =>
            simp only [ht, Bool.false_eq_true, if_false, if_true] at c0
            have k3 := pushc_list W4 B x.l a b f.1 q x.K x.S (fit.at_.li ht) x0 x1 x2
            rw [if_neg hk] at k3
            go_upto_region 15 with (go_at_call 23; refine k3.mono ?_; rintro e w4 ⟨rfl, S', hL, hF⟩)
            clear k3 x0 x1 x2 x3 c0 ha4 hb4
            have hLn := hL.nd
            have hkk := push_keys x f q hk
            have hlt1 := fit.gr.lt m1 (.inr (.inl rfl))
            have hlt2 := fit.gr.lt m2 (.inr (.inr (.inl rfl)))
            have hltg := fit.gr.lt g (.inl rfl)
            have hlty := fit.at_.lt x.y (.tail _ (.head _))
            have hlts := fit.at_.lt x.s (.head _)
            obtain ⟨og, om1, om2⟩ := fit.out
            have inS : ∀ k, k ∉ x.foot → k ∉ x.S := fun k hn q => hn (by simp [Sp.foot, q])
            obtain ⟨gk1, gk2⟩ := fit.gr.kinds
            have hwz6 := heap_lt z6
            have hwz7 := heap_lt z7
            have hf4 := hF.bel.size
            have y6 := (hF.keep wz hwz6 (inS _ hbx.1)).trans z6
            have y7 := (hF.keep (wz + 1) hwz7 (inS _ hbx.2)).trans z7
            have yg := (hF.keep g hltg.2 (inS _ og)).trans fit.gr.cells
            have ys := (hF.keep x.s hlts.2 fit.at_.sn).trans fit.at_.cells
            obtain ⟨Q1, hQ1, hQ1b⟩ := fit.gr.spots
            obtain ⟨w5, p5, i5, t5⟩ := P.HM.put (w := w4.drew) Try.underlying54 (hQ1.keep (hF.keep m1 hlt1.2 (inS _ om1))) (k := p) trivial (.pointer (some ⟨x.s, 0, none⟩))
            unfold P.hK at p5
            obtain ⟨d0, d1, d2⟩ := pl_cells y6
            have g0 : w4.cell? ⟨g, 0, none⟩ = some (.map (some m1)) := by rw [cell_of yg]; rfl
            go_region
            have s5 : w5.heap.size = w4.heap.size := turn_size (w := w4.drew) t5
            replace y6 := T.turn_block t5 y6 (fun _ _ q => by cases q)
            replace y7 := T.turn_block t5 y7 (fun _ _ q => by cases q)
            replace yg := T.turn_block t5 yg (fun _ _ q => by cases q)
            replace ys := T.turn_block t5 ys (fun _ _ q => by cases q)
            clear d0 d1 d2 g0 p5
            obtain ⟨ny, Fy, hFy, hFy2⟩ := fit.at_.by_
            have m1y : x.y ≠ m1 := by rintro e; exact om1 (by simp [Sp.foot, ← e])
            have m2y : x.y ≠ m2 := by rintro e; exact om2 (by simp [Sp.foot, ← e])
            obtain ⟨w6, p6, i6, t6⟩ := HM.put (w := w5.drew) Try.underlying80 (hFy.keep ((T.turn_other t5 (show x.y < w4.heap.size by omega) m1y).trans (hF.keep x.y hlty.2 fit.at_.yn))) (k := f.1) trivial (.int .i64 f.2)
            unfold hK at p6
            obtain ⟨d0, d1, d2⟩ := fd_cells y7
            have g0 : w5.cell? ⟨x.s, 1, none⟩ = some (.map (some x.y)) := by rw [cell_of ys]; rfl
            go_upto_region 16 with fail
            go_region
            have s6 : w6.heap.size = w5.heap.size := turn_size (w := w5.drew) t6
            replace y6 := T.turn_block t6 y6 (fun _ _ q => by cases q)
            replace y7 := T.turn_block t6 y7 (fun _ _ q => by cases q)
            replace yg := T.turn_block t6 yg (fun _ _ q => by cases q)
            clear d0 d1 d2 g0 p6
            obtain ⟨nf, Qf, hQf, hQf2⟩ := fit.gr.ins
            obtain ⟨w7, p7, i7, t7⟩ := F.HM.put (w := w6.drew) Try.underlying55 (hQf.keep ((T.turn_other t6 (show m2 < w5.heap.size by omega) m2y.symm).trans ((T.turn_other t5 (show m2 < w4.heap.size by omega) fit.gr.ab.symm).trans (hF.keep m2 hlt2.2 (inS _ om2))))) (k := f) trivial (pK p)
            unfold F.hK pK P.hK at p7
            obtain ⟨d0, d1, d2⟩ := fd_cells y7
            obtain ⟨d3, d4, d5⟩ := pl_cells y6
            have g0 : w6.cell? ⟨g, 1, none⟩ = some (.map (some m2)) := by rw [cell_of yg]; rfl
            go_upto_region 17 with fail
            go_region
            clear d0 d1 d2 d3 d4 d5 g0 p7
            have hB4 : B ≤ w4.heap.size := by omega
            have hb7 : Below B W4 w7 := Below.turn (Below.drew (Below.turn (Below.drew (Below.turn (Below.drew hF.bel) t5 fit.gr.aB hB4)) t6 fit.at_.yB (show B ≤ w5.heap.size by omega))) t7 fit.gr.bB (show B ≤ w6.heap.size by omega)
            have fin := Gr.put (v1 := w4.drew) (v2 := w5.drew) (v3 := w6.drew) fit f hnf hk (if q then f :: x.L else x.L ++ [f]) (fun f' => by exact mem_push x.L f f' q) (by rw [hkk]; exact hLn) (by cases q <;> simp) hb7 hF (fun _ => by rw [hkk]; exact hL) (fun e => by rw [ht] at e; cases e) rfl t5 ⟨Q1, hQ1b, i5⟩ rfl t6 ⟨_, Fy, hFy2, i6⟩ rfl t7 ⟨_, Qf, hQf2, i7⟩
            go_wp2
            all_goals go_returns
            all_goals exact ⟨_, rfl, _, fin.1, FG.after (hwz ▸ hb3) (by omega) (by rw [hwz]; exact hxf) fin.2, (push_eq0 hnf q _ fit.zx fit.zn ht hk).symm⟩
end Go.Proofs.Ythgpbbpmfpfjnaa
