/- Towards the statements of package code (layer 8): least: the first beginning of which something is so. -/
import Derived.Test.YtdmdmbcapjmnlabCE
namespace Go.Proofs.Ytdmdmbcapjmnlab
open Go.ChangeShapes Go.WideShapes Go.ChangeAt
open Go.RowKit Go.Shelf
set_option linter.unusedVariables false
set_option linter.unusedSimpArgs false
set_option maxRecDepth 20000
attribute [local go_sem] Oper.semAt_some

theorem cellOf {w : World} {b k : Nat} {c : Array Value} {t : TypeId} {v : Value} (h : w.heap[b]? = some (.cells c t)) (hv : c[k]? = some v) : w.cell? ⟨b, k, none⟩ = some v := by
  unfold World.cell?; rw [h]; simpa using hv
theorem begin_any (q : Option Addr) (a b : Int) (w : World) : Calls Try.prog 49 #[.pointer q, .agg #[.int .i64 a, .int .i64 b]] w fun e w' => e = .returned (.func (.func 67) #[] #[.pointer (some ⟨w.heap.size + 1, 0, none⟩), .pointer (some ⟨w.heap.size, 0, none⟩)]) ∧ w' = (w.alloc (.cells #[.pointer q] 42)).alloc (.cells #[.int .i64 a, .int .i64 b] 37) := by
  go_enter Try.func49, Try.ntmps49
  go_wp2
  go_returns
  exact ⟨by simp, rfl⟩
/-- The blocks that beginnings reads. -/
def BegS (n P bb : Nat) (b : Nat) : Prop := b = n ∨ b = n + 1 ∨ b = P ∨ b = bb
theorem begin_iter {α : Type} (enc : α → Int) (xs : List α) (P bb : Nat) (sv vb vs vh : Value) (Bg : List Bool) (hlen : Bg.length ≤ 4096) (a b : Nat) (hab : a ≤ b) (hb : b ≤ Bg.length) (w : World) (hR : Rec w P sv vb vs vh) (hbb : bb < w.heap.size) (hB : Bools w bb vb Bg) (hxs : xs.map enc = begL Bg a b) :
    Iter enc ((w.alloc (.cells #[.pointer (some ⟨P, 0, none⟩)] 42)).alloc (.cells #[.int .i64 a, .int .i64 b] 37)) 67 #[.pointer (some ⟨w.heap.size + 1, 0, none⟩), .pointer (some ⟨w.heap.size, 0, none⟩)] (Keep (BegS w.heap.size P bb)) xs (b - a) := by
  have hb0 : Below w.heap.size w ((w.alloc (.cells #[.pointer (some ⟨P, 0, none⟩)] 42)).alloc (.cells #[.int .i64 a, .int .i64 b] 37)) := ((Below.refl _ w).alloc (Nat.le_refl _) _).alloc (by simp) _
  have hP : P < w.heap.size := (Array.getElem?_eq_some_iff.1 hR).1
  have hS : ∀ k, BegS w.heap.size P bb k → k < ((w.alloc (.cells #[.pointer (some ⟨P, 0, none⟩)] 42)).alloc (.cells #[.int .i64 a, .int .i64 b] 37)).heap.size := fun k h => by unfold BegS at h; simp; omega
  have c0 : ((w.alloc (.cells #[.pointer (some ⟨P, 0, none⟩)] 42)).alloc (.cells #[.int .i64 a, .int .i64 b] 37)).heap[w.heap.size + 1]? = some (.cells #[.int .i64 a, .int .i64 b] 37) := by
    have := World.alloc_heap_new (w.alloc (.cells #[.pointer (some ⟨P, 0, none⟩)] 42)) (.cells #[.int .i64 a, .int .i64 b] 37); rwa [World.size_alloc] at this
  have c1 : ((w.alloc (.cells #[.pointer (some ⟨P, 0, none⟩)] 42)).alloc (.cells #[.int .i64 a, .int .i64 b] 37)).cell? ⟨w.heap.size, 0, none⟩ = some (.pointer (some ⟨P, 0, none⟩)) := ((Boxed.new w 42 _).alloc _).cell
  refine ⟨enters_of Try.func67 (by kernel_rfl) rfl, fun m hm l J Jx W hW _ _ hY h0 => ?_, fun h k => h.trans k, fun W W' h => .of h hS⟩
  have hK : Keep (BegS w.heap.size P bb) _ W := .of hW hS
  exact begin1_in enc xs m hm l (w.heap.size + 1) w.heap.size P bb (BegS w.heap.size P bb) sv vb vs vh Bg hlen a b hab hb hxs J Jx W hY h0 (.inr (.inl rfl)) (.inl rfl) (.inr (.inr (.inl rfl))) (.inr (.inr (.inr rfl)))
    ((hK.cell (p := ⟨w.heap.size + 1, 0, none⟩) (.inr (.inl rfl))).trans (cellOf c0 rfl)) ((hK.cell (p := ⟨w.heap.size + 1, 1, none⟩) (.inr (.inl rfl))).trans (cellOf c0 rfl)) ((hK.cell (p := ⟨w.heap.size, 0, none⟩) (.inl rfl)).trans c1)
    ((hR.gr hb0).keep (.inr (.inr (.inl rfl))) hK) ((hB.keep (S := (· < w.heap.size)) hbb (.of hb0 fun _ h => h)).keep (.inr (.inr (.inr rfl))) hK)
/-- The first of which it is so. -/
def leastM (xs : List Int) (is : Int → Bool) (e : Int) : Value := match xs.find? is with
  | some x => .tuple #[.int .i64 x, .int .i64 e]
  | none => .tuple #[.int .i64 0, .int .i64 0]
theorem find_pre {xs : List Int} {ps : List {x : Int // x ∈ xs}} {x : {x : Int // x ∈ xs}} {is : Int → Bool} (h : ps ++ [x] <+: xs.attach) (hp : ∀ y ∈ ps, is y.1 = false) (hx : is x.1 = true) : xs.find? is = some x.1 := by
  obtain ⟨r, hr⟩ := h
  have e := congrArg (List.map Subtype.val) hr
  rw [List.attach_map_subtype_val] at e
  have e2 : xs.find? is = (List.map Subtype.val (ps ++ [x] ++ r)).find? is := congrArg (List.find? is) e.symm
  rw [e2, List.map_append, List.map_append, List.append_assoc, List.find?_append, List.find?_eq_none.2 (by
    intro y hy
    obtain ⟨z, hz, rfl⟩ := List.mem_map.1 hy
    simp [hp z hz])]
  simp [hx]
theorem keeps_below {B : Nat} {W W' : World} (h : Below W.heap.size W W') : KeepsFrom B W W' := KeepsFrom.of_grownBy (grows h) (fun j e => by cases e)

set_option maxRecDepth 100000 in
set_option maxHeartbeats 2000000 in
theorem least_in (n : Nat) (hn : 3 ≤ n) (P bb : Nat) (sv vb vs vh : Value) (L : List Sl) (S : Nat → Prop) (Bg : List Bool) (hlen : Bg.length ≤ 4096) (hLB : Bg.length = L.length) (k : Nat) (bs cs : Array Value) (is : Int → Bool) (er : Int)
    (w : World) (hR : Rec w P sv vb vs vh) (hL : Slots S w sv L) (hbb : bb < w.heap.size) (hB : Bools w bb vb Bg)
    (ek : ∀ args w, (callFunc k args).run Try.prog w = .ok (.enter k args) w)
    (his : ∀ x W, x ∈ begL Bg 0 Bg.length → Below w.heap.size w W → Calls Try.prog k (bs.push (.int .i64 x) ++ cs) W fun e w' => e = .returned (.bool (is x)) ∧ Below W.heap.size W w') :
    CallsIn Fence.wide n Try.prog 29 #[.pointer (some ⟨P, 0, none⟩), .func (.func k) bs cs, .int .i64 er] w fun e w' => e = .returned (leastM (begL Bg 0 Bg.length) is er) ∧ Below w.heap.size w w' := by
  have h1 : 1 ≤ n := by omega
  obtain ⟨p, c, rfl⟩ := hL.shape
  refine callsIn_of_wp_marks Try.func29 rfl trivial ?_ rfl
  simp only [Try.ntmps29, List.size_toArray, List.length_cons, List.length_nil, Nat.reduceAdd, Nat.reduceSub, Array.replicate_succ, Array.replicate_zero, List.push_toArray, List.append_toArray, List.nil_append, List.cons_append]
  obtain ⟨w4, hw4⟩ : ∃ w4, ((((w.alloc (.cells #[.func (.func k) bs cs] 72)).alloc (.cells #[.int .i64 er] 25)).alloc (.cells #[.int .i64 0] 3)).alloc (.cells #[.int .i64 0] 25)) = w4 := ⟨_, rfl⟩
  have hs4 : w4.heap.size = w.heap.size + 4 := by rw [← hw4]; simp
  have hb4 : Below w.heap.size w w4 := by rw [← hw4]; exact ((((Below.refl _ w).alloc (Nat.le_refl _) _).alloc (by simp) _).alloc (by simp; omega) _).alloc (by simp; omega) _
  have hR4 := hR.gr hb4
  obtain ⟨r0, r1, r2, r3⟩ := hR4.cells
  gi_wp2_with (refine ⟨trivial, ?_⟩; gi_at_call 49; refine (callsIn_wide.2 (begin_any _ _ _ _)).mono ?_; rintro e w' ⟨rfl, hw'⟩; rw [hw']; clear hw')
  obtain ⟨W0, hW0⟩ : ∃ W0, ((w4.alloc (.cells #[.pointer (some ⟨P, 0, none⟩)] 42)).alloc (.cells #[.int .i64 0, .int .i64 L.length] 37)) = W0 := ⟨_, rfl⟩
  have hit := begin_iter (Subtype.val : {x : Int // x ∈ begL Bg 0 L.length} → Int) (begL Bg 0 L.length).attach P bb _ vb vs vh Bg hlen 0 L.length (Nat.zero_le _) (by omega) w4 hR4 (Nat.lt_of_lt_of_le hbb hb4.size) (hB.keep (S := (· < w.heap.size)) hbb (.of hb4 fun _ h => h)) (List.attach_map_subtype_val _)
  rw [hs4] at hit
  rw [show ((0 : Nat) : Int) = 0 from rfl, hW0] at hit
  rw [hW0]
  have hbW : Below w4.heap.size w4 W0 := by rw [← hW0]; exact ((Below.refl _ w4).alloc (Nat.le_refl _) _).alloc (by simp) _
  have hs0 : W0.heap.size = w.heap.size + 6 := by rw [← hW0]; simp [hs4]
  have q0 : w4.heap[w.heap.size]? = some (.cells #[.func (.func k) bs cs] 72) := by
    rw [← hw4]; exact (((Below.heap_alloc _ _ _ (by simp <;> omega)).trans (Below.heap_alloc _ _ _ (by simp <;> omega))).trans (Below.heap_alloc _ _ _ (by simp))).trans (World.alloc_heap_new w _)
  have q1 : w4.heap[w.heap.size + 1]? = some (.cells #[.int .i64 er] 25) := by
    rw [← hw4]; refine ((Below.heap_alloc _ _ _ (by simp <;> omega)).trans (Below.heap_alloc _ _ _ (by simp))).trans ?_
    have := World.alloc_heap_new (w.alloc (.cells #[.func (.func k) bs cs] 72)) (.cells #[.int .i64 er] 25); rwa [World.size_alloc] at this
  have q2 : w4.heap[w.heap.size + 1 + 1]? = some (.cells #[.int .i64 0] 3) := by
    rw [← hw4]; refine (Below.heap_alloc _ _ _ (by simp)).trans ?_
    have := World.alloc_heap_new ((w.alloc (.cells #[.func (.func k) bs cs] 72)).alloc (.cells #[.int .i64 er] 25)) (.cells #[.int .i64 0] 3); rwa [World.size_alloc, World.size_alloc] at this
  have q3 : w4.heap[w.heap.size + 1 + 1 + 1]? = some (.cells #[.int .i64 0] 25) := by
    rw [← hw4]
    have := World.alloc_heap_new (((w.alloc (.cells #[.func (.func k) bs cs] 72)).alloc (.cells #[.int .i64 er] 25)).alloc (.cells #[.int .i64 0] 3)) (.cells #[.int .i64 0] 25); rwa [World.size_alloc, World.size_alloc, World.size_alloc] at this
  have p0 := (hbW.block _ (by omega)).trans q0
  have p1 := (hbW.block _ (by omega)).trans q1
  have p2 := (hbW.block _ (by omega)).trans q2
  have p3 := (hbW.block _ (by omega)).trans q3
  clear q0 q1 q2 q3
  have hb0 : Below w.heap.size w W0 := hb4.trans (hbW.mono (by omega))
  clear hW0 hw4 r0 r1 r2 r3 hR4 hbW hs4 hb4
  refine wpIn_rangeFunc_ownG rfl h1 (gf := 67) rfl trivial hit.enters
    (hit.stops (n - 1) (by omega)) hit.trans (fun W l o o' hl ho h2 h3 => hit.keeps _ _ (belowK_b (w := W0) (Nat.le_refl _) W l o o' hl ho h2 h3)) (Below.refl _ _) (fun _ => rfl)
    (fun pre W => (∀ x ∈ pre, is x.1 = false) ∧ Below W0.heap.size W0 W)
    (fun c pre W => c = .ret ∧ (∃ ps x, pre = ps ++ [x] ∧ (∀ y ∈ ps, is y.1 = false) ∧ is x.1 = true ∧ W.cell? ⟨w.heap.size + 1 + 1, 0, none⟩ = some (.int .i64 x.1) ∧ W.cell? ⟨w.heap.size + 1 + 1 + 1, 0, none⟩ = some (.int .i64 er)) ∧ Below w.heap.size w W)
    (OwnFrom.and (fun s A B row hs hg hr => hs) (ownFrom_below (Nat.le_refl _) (Nat.le_refl _)))
    (fun c s A B row hs hg hr => ⟨hs.1, (by obtain ⟨_, ⟨ps, x, e, h3, h4, h5, h6⟩, _⟩ := hs; exact ⟨ps, x, e, h3, h4, cell_kept h5 hg (fun r e => (hr r e).2), cell_kept h6 hg (fun r e => (hr r e).2)⟩), ownFrom_below (Nat.le_refl _) (by omega) s A B row hs.2.2 hg hr⟩)
    ⟨by simp, Below.refl _ _⟩
    (fun x => { tmps := #[.pointer (some ⟨P, 0, none⟩), .func (.func k) bs cs, .int .i64 er, undef, .pointer (some ⟨w.heap.size, 0, none⟩), .pointer (some ⟨w.heap.size + 1, 0, none⟩), .pointer (some ⟨w.heap.size + 1 + 1, 0, none⟩), .pointer (some ⟨w.heap.size + 1 + 1 + 1, 0, none⟩), .int .i64 x.1, .pointer (some ⟨P, 0, none⟩), .pointer (some ⟨P, 0, none⟩), .pointer (some ⟨P, 0, none⟩), .pointer (some ⟨P, 0, none⟩), .slice p L.length c, .int .i64 L.length, .agg #[.int .i64 0, .int .i64 L.length], .func (.func 67) #[] #[.pointer (some ⟨w.heap.size + 4 + 1, 0, none⟩), .pointer (some ⟨w.heap.size + 4, 0, none⟩)], .int .i64 x.1, undef, undef, undef, undef, undef], defers := [] }) ?assign ?body ?done ?stop
  case assign =>
    intro l x W K hK
    gi_wp2
    exact hK
  case body =>
    rintro l pre x W ⟨hp, hB⟩ hlt
    have c0 := cellOf ((hB.block _ (by omega)).trans p0) (show #[Value.func (.func k) bs cs][0]? = _ from rfl)
    have c1 := cellOf ((hB.block _ (by omega)).trans p1) (show #[Value.int .i64 er][0]? = _ from rfl)
    gi_wp2
    refine ⟨trivial, fun _ => by omega, ?_⟩
    refine (CallsIn.inRound l (callsIn_wide.2 (his x.1 W (by rw [hLB]; exact x.2) (hb0.trans (hB.mono (by omega)))))).mono ?_
    rintro e w' ⟨rfl, hg⟩
    have hB' := hB.trans (hg.mono hB.size)
    cases hx : is x.1 with
    | false =>
      gi_wp2
      exact ⟨keeps_below hg, hit.keeps _ _ (hg.mono hB.size), fun y hy => (List.mem_append.1 hy).elim (hp y) (fun e => by simp at e; rw [e]; exact hx), hB'⟩
    | true =>
      have c1 := cellOf ((hB'.block _ (by omega)).trans p1) (show #[Value.int .i64 er][0]? = some (Value.int .i64 er) from rfl)
      have c2 := cellOf ((hB'.block _ (by omega)).trans p2) (show #[Value.int .i64 0][0]? = some (Value.int .i64 0) from rfl)
      have c3 := cellOf ((hB'.block _ (by omega)).trans p3) (show #[Value.int .i64 0][0]? = some (Value.int .i64 0) from rfl)
      have f2 : w'.frozen? ⟨w.heap.size + 1 + 1, 0, none⟩ = false := by simp [World.frozen?, (hB'.block _ (by omega)).trans p2]
      have f3 : w'.frozen? ⟨w.heap.size + 1 + 1 + 1, 0, none⟩ = false := by simp [World.frozen?, (hB'.block _ (by omega)).trans p3]
      have hmix : Try.prog.follows .mixedOrders = true := by kernel_rfl
      gi_wp2
      gi_region_with_o fail
      all_goals gi_wp2
      all_goals
        refine ⟨(keeps_below hg).trans (((KeepsOthers.setCell _ _ _).trans ((KeepsOthers.setCell _ _ _).trans (KeepsOthers.drew _))).from _), rfl, ⟨pre, x, rfl, hp, hx, ?_, ?_⟩, ?_⟩
        · rw [cell_drew_own, World.cell?_setCell_other _ _ _ _ (by simp)]
          exact World.cell?_setCell_same' _ _ _ (by rw [c2]; rfl)
        · rw [cell_drew_own]
          exact World.cell?_setCell_same' _ _ _ (by rw [World.cell?_setCell_other _ _ _ _ (by simp), c3]; rfl)
        · exact ((((hb0.trans (hB'.mono (by omega))).setCell (p := ⟨w.heap.size + 1 + 1, 0, none⟩) (by simp; omega) _).setCell (p := ⟨w.heap.size + 1 + 1 + 1, 0, none⟩) (by simp; omega) _)).drew
  case done =>
    rintro D ys W hD rfl ⟨hp, hB'⟩ hK
    have c2 := cellOf ((hB'.block _ (by omega)).trans p2) (show #[Value.int .i64 0][0]? = some (Value.int .i64 0) from rfl)
    have c3 := cellOf ((hB'.block _ (by omega)).trans p3) (show #[Value.int .i64 0][0]? = some (Value.int .i64 0) from rfl)
    have f2 : W.frozen? ⟨w.heap.size + 1 + 1, 0, none⟩ = false := by simp [World.frozen?, (hB'.block _ (by omega)).trans p2]
    have f3 : W.frozen? ⟨w.heap.size + 1 + 1 + 1, 0, none⟩ = false := by simp [World.frozen?, (hB'.block _ (by omega)).trans p3]
    have hf : (begL Bg 0 Bg.length).find? is = none := by
      rw [hLB, List.find?_eq_none]
      intro x hx
      have := hp ⟨x, hx⟩ (by simp)
      simp [this]
    gi_wp2
    have hK' := ((KeepsOthers.setCell W ⟨w.heap.size + 1 + 1, 0, none⟩ (.int .i64 0)).trans (KeepsOthers.setCell _ ⟨w.heap.size + 1 + 1 + 1, 0, none⟩ (.int .i64 0))).same D _ hK rfl
    refine ⟨by simp, .inl ⟨_, _, rfl, run_takeDeferred hK', ?_⟩⟩
    have e3 := cell_kept (World.cell?_setCell_same' (W.setCell ⟨w.heap.size + 1 + 1, 0, none⟩ (.int .i64 0)) ⟨w.heap.size + 1 + 1 + 1, 0, none⟩ (.int .i64 0) (by rw [World.cell?_setCell_other _ _ _ _ (by simp), c3]; rfl)) (grownBy_putObj' _ D (.deferred none)) (fun r e => by cases e; exact ⟨_, hK', rfl⟩)
    have e2 := cell_kept ((World.cell?_setCell_other (W.setCell ⟨w.heap.size + 1 + 1, 0, none⟩ (.int .i64 0)) ⟨w.heap.size + 1 + 1 + 1, 0, none⟩ ⟨w.heap.size + 1 + 1, 0, none⟩ (.int .i64 0) (by simp)).trans (World.cell?_setCell_same' W ⟨w.heap.size + 1 + 1, 0, none⟩ (.int .i64 0) (by rw [c2]; rfl))) (grownBy_putObj' _ D (.deferred none)) (fun r e => by cases e; exact ⟨_, hK', rfl⟩)
    refine ⟨.tuple #[.int .i64 0, .int .i64 0], ?_, by rw [leastM, hf], ?_⟩
    · simp [results, Try.f29, go_sem, e2, e3]
    · exact (((hb0.trans (hB'.mono (by omega))).setCell (p := ⟨w.heap.size + 1 + 1, 0, none⟩) (by simp; omega) _).setCell (p := ⟨w.heap.size + 1 + 1 + 1, 0, none⟩) (by simp; omega) _).trans (belowK_b (w := w) (Nat.le_refl _) _ D _ _ (by omega) hK' rfl rfl)
  case stop =>
    rintro D cc pre W hD hpre ⟨rfl, ⟨ps, x, rfl, hp, hx, c2, c3⟩, hB'⟩ hK
    have hf : (begL Bg 0 Bg.length).find? is = some x.1 := by rw [show (begL Bg 0 Bg.length).find? is = (begL Bg 0 L.length).find? is by rw [hLB]]; exact find_pre hpre hp hx
    gi_wp2
    refine ⟨by simp, .inl ⟨_, _, rfl, run_takeDeferred hK, ?_⟩⟩
    have e2 := cell_kept c2 (grownBy_putObj' _ D (.deferred none)) (fun r e => by cases e; exact ⟨_, hK, rfl⟩)
    have e3 := cell_kept c3 (grownBy_putObj' _ D (.deferred none)) (fun r e => by cases e; exact ⟨_, hK, rfl⟩)
    refine ⟨.tuple #[.int .i64 x.1, .int .i64 er], ?_, by rw [leastM, hf], ?_⟩
    · simp [results, Try.f29, go_sem, e2, e3]
    · exact hB'.trans (belowK_b (w := w) (Nat.le_refl _) _ D _ _ (by omega) hK rfl rfl)
end Go.Proofs.Ytdmdmbcapjmnlab
