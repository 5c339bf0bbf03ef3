/- Towards the statements of package code (layer 8): strays: does an instruction lead, or name, where none begins? -/
import Derived.Test.YtdmdmbcapjmnlabCG
namespace Go.Proofs.Ytdmdmbcapjmnlab
open Go.ChangeShapes Go.WideShapes Go.ChangeAt
open Go.RowKit Go.Shelf
set_option linter.unusedVariables false
set_option linter.unusedSimpArgs false
set_option maxRecDepth 20000
attribute [local go_sem] Oper.semAt_some

def badB (L : List Sl) (Bg : List Bool) (t : Int) : Bool := decide (t < L.length) && !begB L Bg t
def sndI (L : List Sl) (at_ : Int) : Int := match slotAt L (at_ + 1) with
  | some y => y.i
  | none => 0
def namesBad (L : List Sl) (Bg : List Bool) (at_ : Int) : Bool := match calleeM L at_ with
  | some t => !begB L Bg t
  | none => false
def strayB (L : List Sl) (Bg : List Bool) (at_ : Int) : Bool := (leadsM L at_).any (badB L Bg) || ((funB L at_ && !decide (sndI L at_ = 0)) || namesBad L Bg at_)
set_option maxRecDepth 100000 in
set_option maxHeartbeats 4000000 in
theorem strays_in (n : Nat) (hn : 3 ≤ n) (P bb : Nat) (sv vb vs vh : Value) (L : List Sl) (Bg : List Bool) (hLB : Bg.length = L.length) (at_ : Int) (x : Sl) (hx : slotAt L at_ = some x) (h2 : x.k = 9 → ∃ y, slotAt L (at_ + 1) = some y)
    (w : World) (hR : Rec w P sv vb vs vh) (hL : Slots AnyB w sv L) (hB : Bools w bb vb Bg) :
    CallsIn Fence.wide n Try.prog 30 #[.pointer (some ⟨P, 0, none⟩), .int .i64 at_] w fun e w' => e = .returned (.bool (strayB L Bg at_)) ∧ Below w.heap.size w w' := by
  have h1 : 1 ≤ n := by omega
  obtain ⟨p, c, rfl⟩ := hL.shape
  refine callsIn_of_wp_marks Try.func30 rfl trivial ?_ rfl
  simp only [Try.ntmps30, List.size_toArray, List.length_cons, List.length_nil, Nat.reduceAdd, Nat.reduceSub, Array.replicate_succ, Array.replicate_zero, List.push_toArray, List.append_toArray, List.nil_append, List.cons_append]
  obtain ⟨w2, hw2⟩ : ∃ w2, ((w.alloc (.cells #[.pointer (some ⟨P, 0, none⟩)] 42)).alloc (.cells #[.bool false] 4)) = w2 := ⟨_, rfl⟩
  have hs2 : w2.heap.size = w.heap.size + 2 := by rw [← hw2]; simp
  have hb2 : Below w.heap.size w w2 := by rw [← hw2]; exact ((Below.refl _ w).alloc (Nat.le_refl _) _).alloc (by simp) _
  have q0 : w2.heap[w.heap.size]? = some (.cells #[.pointer (some ⟨P, 0, none⟩)] 42) := by
    rw [← hw2]; exact (Below.heap_alloc _ _ _ (by simp)).trans (World.alloc_heap_new w _)
  have q1 : w2.heap[w.heap.size + 1]? = some (.cells #[.bool false] 4) := by
    rw [← hw2]
    have := World.alloc_heap_new (w.alloc (.cells #[.pointer (some ⟨P, 0, none⟩)] 42)) (.cells #[.bool false] 4); rwa [World.size_alloc] at this
  have hR2 := hR.gr hb2
  have hL2 := hL.gr hb2
  obtain ⟨r0, r1, r2, r3⟩ := hR2.cells
  have cp := cellOf q0 (show #[Value.pointer (some ⟨P, 0, none⟩)][0]? = some (Value.pointer (some ⟨P, 0, none⟩)) from rfl)
  gi_wp2_with (refine ⟨trivial, ?_⟩; gi_at_call 18; refine (callsIn_wide.2 (leads_any _ _ _ _ _)).mono ?_; rintro e w' ⟨rfl, hw'⟩; rw [hw']; clear hw')
  obtain ⟨W0, hW0⟩ : ∃ W0, ((w2.alloc (.cells #[.slice p L.length c] 22)).alloc (.cells #[.int .i64 at_] 3)) = W0 := ⟨_, rfl⟩
  have hit := leads_iter (fun x : Int => x) (leadsM L at_) AnyB p L.length c L at_ w2 hL2 (by simp)
  rw [hs2, hW0] at hit
  rw [hW0]
  have hbW : Below w2.heap.size w2 W0 := by rw [← hW0]; exact ((Below.refl _ w2).alloc (Nat.le_refl _) _).alloc (by simp) _
  have hs0 : W0.heap.size = w.heap.size + 4 := by rw [← hW0]; simp [hs2]
  have p0 := (hbW.block _ (by omega)).trans q0
  have p1 := (hbW.block _ (by omega)).trans q1
  have hb0 : Below w.heap.size w W0 := hb2.trans (hbW.mono (by omega))
  clear hW0 hw2 r0 r1 r2 r3 cp q0 q1 hR2 hL2 hbW hs2 hb2
  refine wpIn_rangeFunc_ownG rfl h1 (gf := 43) rfl trivial hit.enters
    (hit.stops (n - 1) (by omega)) hit.trans (fun W l o o' hl ho h2 h3 => hit.keeps _ _ (belowK_b (w := W0) (Nat.le_refl _) W l o o' hl ho h2 h3)) (Below.refl _ _) (fun _ => rfl)
    (fun pre W => (∀ x ∈ pre, badB L Bg x = false) ∧ Below W0.heap.size W0 W)
    (fun c pre W => c = .ret ∧ (∃ x ∈ pre, badB L Bg x = true) ∧ W.cell? ⟨w.heap.size + 1, 0, none⟩ = some (.bool true) ∧ Below w.heap.size w W)
    (OwnFrom.and (fun s A B row hs hg hr => hs) (ownFrom_below (Nat.le_refl _) (Nat.le_refl _)))
    (fun c s A B row hs hg hr => ⟨hs.1, hs.2.1, cell_kept hs.2.2.1 hg (fun r e => (hr r e).2), ownFrom_below (Nat.le_refl _) (by omega) s A B row hs.2.2.2 hg hr⟩)
    ⟨by simp, Below.refl _ _⟩
    (fun x => { tmps := #[.pointer (some ⟨P, 0, none⟩), .int .i64 at_, .pointer (some ⟨w.heap.size, 0, none⟩), undef, .pointer (some ⟨w.heap.size + 1, 0, none⟩), .int .i64 x, undef, undef, .pointer (some ⟨P, 0, none⟩), .pointer (some ⟨P, 0, none⟩), .pointer (some ⟨P, 0, none⟩), .slice p L.length c, .int .i64 at_, .func (.func 43) #[] #[.pointer (some ⟨w.heap.size + 2, 0, none⟩), .pointer (some ⟨w.heap.size + 2 + 1, 0, none⟩)], .int .i64 x, undef, undef, undef, undef, undef, undef, undef, undef, undef, undef, undef, undef, undef, undef, undef, undef, undef, undef, undef, undef, undef, undef, undef, undef, undef, undef, undef, undef, undef, undef, undef, undef, undef, undef, undef, undef, undef, undef, undef, undef, undef, undef, undef, undef, undef, undef, undef], defers := [] }) ?assign ?body ?done ?stop
  case assign =>
    intro l x W K hK
    gi_wp2
    exact hK
  case body =>
    rintro l pre t W ⟨hp, hW⟩ hlt
    have h1' : 1 ≤ n - 1 - 1 := by omega
    have hRW := hR.gr (hb0.trans (hW.mono (by omega)))
    have hLW := hL.gr (hb0.trans (hW.mono (by omega)))
    have hBW := hB.gr (hb0.trans (hW.mono (by omega)))
    have cpW := cellOf ((hW.block _ (by omega)).trans p0) (show #[Value.pointer (some ⟨P, 0, none⟩)][0]? = some (Value.pointer (some ⟨P, 0, none⟩)) from rfl)
    have crW := cellOf ((hW.block _ (by omega)).trans p1) (show #[Value.bool false][0]? = some (Value.bool false) from rfl)
    have frW : W.frozen? ⟨w.heap.size + 1, 0, none⟩ = false := by simp [World.frozen?, (hW.block _ (by omega)).trans p1]
    obtain ⟨r0, r1, r2, r3⟩ := hRW.cells
    by_cases hlt : t < L.length
    · have hd : decide (t < (L.length : Int)) = true := by simp [hlt]
      cases hbt : begB L Bg t with
      | true =>
        gi_wp2_with (refine ⟨trivial, ?_⟩; gi_at_call 50; refine (CallsIn.inRound l (callsIn_wide.2 (isBeg_any P bb _ _ _ _ L Bg hLB t _ hRW hLW hBW))).mono ?_; rw [hbt]; rintro e w' ⟨rfl, hw⟩; rw [hw]; clear hw)
        exact ⟨KeepsFrom.refl _ _, hit.keeps _ _ (Below.refl _ _), fun y hy => (List.mem_append.1 hy).elim (hp y) (fun e => by simp at e; rw [e]; simp [badB, hbt]), hW⟩
      | false =>
        gi_wp2_with (refine ⟨trivial, ?_⟩; gi_at_call 50; refine (CallsIn.inRound l (callsIn_wide.2 (isBeg_any P bb _ _ _ _ L Bg hLB t _ hRW hLW hBW))).mono ?_; rw [hbt]; rintro e w' ⟨rfl, hw⟩; rw [hw]; clear hw)
        exact ⟨(KeepsOthers.setCell _ _ _).from _, rfl, ⟨t, by simp, by simp [badB, hbt, hlt]⟩, World.cell?_setCell_same' _ _ _ (by rw [crW]; rfl), (hb0.trans (hW.mono (by omega))).setCell (p := ⟨w.heap.size + 1, 0, none⟩) (by simp) _⟩
    · have hd : decide (t < (L.length : Int)) = false := by simp; omega
      gi_wp2
      refine ⟨trivial, ?_⟩
      gi_wp2
      exact ⟨KeepsFrom.refl _ _, hit.keeps _ _ (Below.refl _ _), fun y hy => (List.mem_append.1 hy).elim (hp y) (fun e => by simp at e; rw [e, badB, hd]; rfl), hW⟩
  case stop =>
    rintro D cc pre W hD hpre ⟨rfl, ⟨t, ht, htb⟩, crW, hbW⟩ hK
    gi_wp2
    refine ⟨by simp, .inl ⟨_, _, rfl, run_takeDeferred hK, ?_⟩⟩
    have e2 := cell_kept crW (grownBy_putObj' _ D (.deferred none)) (fun r e => by cases e; exact ⟨_, hK, rfl⟩)
    refine ⟨.bool true, ?_, ?_, hbW.trans (belowK_b (w := w) (Nat.le_refl _) _ D _ _ (by omega) hK rfl rfl)⟩
    · simp [results, Try.f30, go_sem, e2]
    · rw [strayB, List.any_eq_true.2 ⟨t, hpre.subset ht, htb⟩]; rfl
  case done =>
    rintro D ys W hD rfl ⟨hp, hW⟩ hKW
    have hbW := hb0.trans (hW.mono (by omega))
    have hRW := hR.gr hbW
    have hLW := hL.gr hbW
    have hBW := hB.gr hbW
    have cpW := cellOf ((hW.block _ (by omega)).trans p0) (show #[Value.pointer (some ⟨P, 0, none⟩)][0]? = some (Value.pointer (some ⟨P, 0, none⟩)) from rfl)
    have crW := cellOf ((hW.block _ (by omega)).trans p1) (show #[Value.bool false][0]? = some (Value.bool false) from rfl)
    have frW : W.frozen? ⟨w.heap.size + 1, 0, none⟩ = false := by simp [World.frozen?, (hW.block _ (by omega)).trans p1]
    have hlt0 : w.heap.size < W.heap.size := by have := hW.size; omega
    have hlt1 : w.heap.size + 1 < W.heap.size := by have := hW.size; omega
    have hltD : D < W.heap.size := (Array.getElem?_eq_some_iff.1 hKW).1
    have hle : w.heap.size ≤ W.heap.size := by omega
    have hDw : w.heap.size ≤ D := by omega
    have hany : (leadsM L at_).any (badB L Bg) = false := List.any_eq_false.2 fun x hx => by simp [hp x hx]
    clear hp hW hD p0 p1 hit hb0
    obtain ⟨r0, r1, r2, r3⟩ := hRW.cells
    cases hf : funB L at_ with
    | false =>
      cases hcm : calleeM L at_ with
      | none =>
        have hcv : calleeV L at_ = .tuple #[.int .i64 0, .bool false] := by rw [calleeV, hcm]
        gi_wp2_with first | (refine ⟨trivial, ?_⟩; gi_at_call 14; refine (callsIn_wide.2 (isFunction_any AnyB _ L at_ _ hLW)).mono ?_; rw [hf]; rintro e w' ⟨rfl, hg⟩; have hsz := hg.below.size; replace hRW := hRW.gr hg.below; replace hLW := hLW.gr hg.below; replace hBW := hBW.gr hg.below; replace cpW := (hg.below.cell (p := ⟨w.heap.size, 0, none⟩) hlt0).trans cpW; replace crW := (hg.below.cell (p := ⟨w.heap.size + 1, 0, none⟩) hlt1).trans crW; replace frW := (hg.below.frozen (p := ⟨w.heap.size + 1, 0, none⟩) hlt1).trans frW; replace hKW := (hg.below.block D hltD).trans hKW; replace hbW := hbW.trans (hg.below.mono hle); replace hlt0 := Nat.lt_of_lt_of_le hlt0 hsz; replace hlt1 := Nat.lt_of_lt_of_le hlt1 hsz; replace hltD := Nat.lt_of_lt_of_le hltD hsz; replace hle := Nat.le_trans hle hsz; clear hsz hg; obtain ⟨r0, r1, r2, r3⟩ := hRW.cells) | (refine ⟨trivial, ?_⟩; gi_at_call 7; refine (callsIn_wide.2 (callee_any AnyB _ L at_ _ hLW)).mono ?_; rw [hcv]; rintro e w' ⟨rfl, hg⟩; have hsz := hg.below.size; replace hRW := hRW.gr hg.below; replace hLW := hLW.gr hg.below; replace hBW := hBW.gr hg.below; replace cpW := (hg.below.cell (p := ⟨w.heap.size, 0, none⟩) hlt0).trans cpW; replace crW := (hg.below.cell (p := ⟨w.heap.size + 1, 0, none⟩) hlt1).trans crW; replace frW := (hg.below.frozen (p := ⟨w.heap.size + 1, 0, none⟩) hlt1).trans frW; replace hKW := (hg.below.block D hltD).trans hKW; replace hbW := hbW.trans (hg.below.mono hle); replace hlt0 := Nat.lt_of_lt_of_le hlt0 hsz; replace hlt1 := Nat.lt_of_lt_of_le hlt1 hsz; replace hltD := Nat.lt_of_lt_of_le hltD hsz; replace hle := Nat.le_trans hle hsz; clear hsz hg; obtain ⟨r0, r1, r2, r3⟩ := hRW.cells)
        refine ⟨trivial, ?_⟩
        gi_wp2
        have hK' := (KeepsOthers.setCell _ ⟨w.heap.size + 1, 0, none⟩ (.bool false)).same D _ hKW rfl
        refine ⟨by simp, .inl ⟨_, _, rfl, run_takeDeferred hK', ?_⟩⟩
        have e2 := cell_kept (World.cell?_setCell_same' _ ⟨w.heap.size + 1, 0, none⟩ (.bool false) (by rw [crW]; rfl)) (grownBy_putObj' _ D (.deferred none)) (fun r e => by cases e; exact ⟨_, hK', rfl⟩)
        refine ⟨.bool false, ?_, ?_, ?_⟩
        · simp [results, Try.f30, go_sem, e2]
        · rw [strayB, hany]; simp [hf, namesBad, hcm]
        · exact (hbW.setCell (p := ⟨w.heap.size + 1, 0, none⟩) (by simp) _).trans (belowK_b (w := w) (Nat.le_refl _) _ D _ _ hDw hK' rfl rfl)
      | some t =>
        have hcv : calleeV L at_ = .tuple #[.int .i64 t, .bool true] := by rw [calleeV, hcm]
        cases hbt : begB L Bg t with
        | false =>
          gi_wp2_with first | (refine ⟨trivial, ?_⟩; gi_at_call 14; refine (callsIn_wide.2 (isFunction_any AnyB _ L at_ _ hLW)).mono ?_; rw [hf]; rintro e w' ⟨rfl, hg⟩; have hsz := hg.below.size; replace hRW := hRW.gr hg.below; replace hLW := hLW.gr hg.below; replace hBW := hBW.gr hg.below; replace cpW := (hg.below.cell (p := ⟨w.heap.size, 0, none⟩) hlt0).trans cpW; replace crW := (hg.below.cell (p := ⟨w.heap.size + 1, 0, none⟩) hlt1).trans crW; replace frW := (hg.below.frozen (p := ⟨w.heap.size + 1, 0, none⟩) hlt1).trans frW; replace hKW := (hg.below.block D hltD).trans hKW; replace hbW := hbW.trans (hg.below.mono hle); replace hlt0 := Nat.lt_of_lt_of_le hlt0 hsz; replace hlt1 := Nat.lt_of_lt_of_le hlt1 hsz; replace hltD := Nat.lt_of_lt_of_le hltD hsz; replace hle := Nat.le_trans hle hsz; clear hsz hg; obtain ⟨r0, r1, r2, r3⟩ := hRW.cells) | (refine ⟨trivial, ?_⟩; gi_at_call 7; refine (callsIn_wide.2 (callee_any AnyB _ L at_ _ hLW)).mono ?_; rw [hcv]; rintro e w' ⟨rfl, hg⟩; have hsz := hg.below.size; replace hRW := hRW.gr hg.below; replace hLW := hLW.gr hg.below; replace hBW := hBW.gr hg.below; replace cpW := (hg.below.cell (p := ⟨w.heap.size, 0, none⟩) hlt0).trans cpW; replace crW := (hg.below.cell (p := ⟨w.heap.size + 1, 0, none⟩) hlt1).trans crW; replace frW := (hg.below.frozen (p := ⟨w.heap.size + 1, 0, none⟩) hlt1).trans frW; replace hKW := (hg.below.block D hltD).trans hKW; replace hbW := hbW.trans (hg.below.mono hle); replace hlt0 := Nat.lt_of_lt_of_le hlt0 hsz; replace hlt1 := Nat.lt_of_lt_of_le hlt1 hsz; replace hltD := Nat.lt_of_lt_of_le hltD hsz; replace hle := Nat.le_trans hle hsz; clear hsz hg; obtain ⟨r0, r1, r2, r3⟩ := hRW.cells) | (refine ⟨trivial, ?_⟩; gi_at_call 50; refine (callsIn_wide.2 (isBeg_any P bb _ _ _ _ L Bg hLB _ _ hRW hLW hBW)).mono ?_; rw [hbt]; rintro e w' ⟨rfl, hw⟩; rw [hw]; clear hw)
          have hK' := (KeepsOthers.setCell _ ⟨w.heap.size + 1, 0, none⟩ (.bool true)).same D _ hKW rfl
          refine ⟨by simp, .inl ⟨_, _, rfl, run_takeDeferred hK', ?_⟩⟩
          have e2 := cell_kept (World.cell?_setCell_same' _ ⟨w.heap.size + 1, 0, none⟩ (.bool true) (by rw [crW]; rfl)) (grownBy_putObj' _ D (.deferred none)) (fun r e => by cases e; exact ⟨_, hK', rfl⟩)
          refine ⟨.bool true, ?_, ?_, ?_⟩
          · simp [results, Try.f30, go_sem, e2]
          · rw [strayB, hany]; simp [hf, namesBad, hcm, hbt]
          · exact (hbW.setCell (p := ⟨w.heap.size + 1, 0, none⟩) (by simp) _).trans (belowK_b (w := w) (Nat.le_refl _) _ D _ _ hDw hK' rfl rfl)
        | true =>
          gi_wp2_with first | (refine ⟨trivial, ?_⟩; gi_at_call 14; refine (callsIn_wide.2 (isFunction_any AnyB _ L at_ _ hLW)).mono ?_; rw [hf]; rintro e w' ⟨rfl, hg⟩; have hsz := hg.below.size; replace hRW := hRW.gr hg.below; replace hLW := hLW.gr hg.below; replace hBW := hBW.gr hg.below; replace cpW := (hg.below.cell (p := ⟨w.heap.size, 0, none⟩) hlt0).trans cpW; replace crW := (hg.below.cell (p := ⟨w.heap.size + 1, 0, none⟩) hlt1).trans crW; replace frW := (hg.below.frozen (p := ⟨w.heap.size + 1, 0, none⟩) hlt1).trans frW; replace hKW := (hg.below.block D hltD).trans hKW; replace hbW := hbW.trans (hg.below.mono hle); replace hlt0 := Nat.lt_of_lt_of_le hlt0 hsz; replace hlt1 := Nat.lt_of_lt_of_le hlt1 hsz; replace hltD := Nat.lt_of_lt_of_le hltD hsz; replace hle := Nat.le_trans hle hsz; clear hsz hg; obtain ⟨r0, r1, r2, r3⟩ := hRW.cells) | (refine ⟨trivial, ?_⟩; gi_at_call 7; refine (callsIn_wide.2 (callee_any AnyB _ L at_ _ hLW)).mono ?_; rw [hcv]; rintro e w' ⟨rfl, hg⟩; have hsz := hg.below.size; replace hRW := hRW.gr hg.below; replace hLW := hLW.gr hg.below; replace hBW := hBW.gr hg.below; replace cpW := (hg.below.cell (p := ⟨w.heap.size, 0, none⟩) hlt0).trans cpW; replace crW := (hg.below.cell (p := ⟨w.heap.size + 1, 0, none⟩) hlt1).trans crW; replace frW := (hg.below.frozen (p := ⟨w.heap.size + 1, 0, none⟩) hlt1).trans frW; replace hKW := (hg.below.block D hltD).trans hKW; replace hbW := hbW.trans (hg.below.mono hle); replace hlt0 := Nat.lt_of_lt_of_le hlt0 hsz; replace hlt1 := Nat.lt_of_lt_of_le hlt1 hsz; replace hltD := Nat.lt_of_lt_of_le hltD hsz; replace hle := Nat.le_trans hle hsz; clear hsz hg; obtain ⟨r0, r1, r2, r3⟩ := hRW.cells) | (refine ⟨trivial, ?_⟩; gi_at_call 50; refine (callsIn_wide.2 (isBeg_any P bb _ _ _ _ L Bg hLB _ _ hRW hLW hBW)).mono ?_; rw [hbt]; rintro e w' ⟨rfl, hw⟩; rw [hw]; clear hw)
          have hK' := (KeepsOthers.setCell _ ⟨w.heap.size + 1, 0, none⟩ (.bool false)).same D _ hKW rfl
          refine ⟨by simp, .inl ⟨_, _, rfl, run_takeDeferred hK', ?_⟩⟩
          have e2 := cell_kept (World.cell?_setCell_same' _ ⟨w.heap.size + 1, 0, none⟩ (.bool false) (by rw [crW]; rfl)) (grownBy_putObj' _ D (.deferred none)) (fun r e => by cases e; exact ⟨_, hK', rfl⟩)
          refine ⟨.bool false, ?_, ?_, ?_⟩
          · simp [results, Try.f30, go_sem, e2]
          · rw [strayB, hany]; simp [hf, namesBad, hcm, hbt]
          · exact (hbW.setCell (p := ⟨w.heap.size + 1, 0, none⟩) (by simp) _).trans (belowK_b (w := w) (Nat.le_refl _) _ D _ _ hDw hK' rfl rfl)

    | true =>
      have hk9 : x.k = 9 := by rw [funB, hx] at hf; simp at hf; exact hf.1
      obtain ⟨y, hy⟩ := h2 hk9
      obtain ⟨hy0, hy1⟩ := slotAt_some hy
      have hsn : sndI L at_ = y.i := by rw [sndI, hy]
      have hlen := hL.len
      have hal : at_ + 1 < L.length := by have := (List.getElem?_eq_some_iff.1 hy1).1; omega
      have hat0 : 0 ≤ at_ := (slotAt_some hx).1
      have e1 : IntKind.i64.wrap (at_ + 1) = at_ + 1 := IntWalk.i64_in _ (by omega)
      by_cases hyi : y.i = 0
      · rw [hyi] at hsn
        cases hcm : calleeM L at_ with
        | none =>
          have hcv : calleeV L at_ = .tuple #[.int .i64 0, .bool false] := by rw [calleeV, hcm]
          gi_wp2_with first | (refine ⟨trivial, ?_⟩; gi_at_call 14; refine (callsIn_wide.2 (isFunction_any AnyB _ L at_ _ hLW)).mono ?_; rw [hf]; rintro e w' ⟨rfl, hg⟩; have hsz := hg.below.size; replace hRW := hRW.gr hg.below; replace hLW := hLW.gr hg.below; replace hBW := hBW.gr hg.below; replace cpW := (hg.below.cell (p := ⟨w.heap.size, 0, none⟩) hlt0).trans cpW; replace crW := (hg.below.cell (p := ⟨w.heap.size + 1, 0, none⟩) hlt1).trans crW; replace frW := (hg.below.frozen (p := ⟨w.heap.size + 1, 0, none⟩) hlt1).trans frW; replace hKW := (hg.below.block D hltD).trans hKW; replace hbW := hbW.trans (hg.below.mono hle); replace hlt0 := Nat.lt_of_lt_of_le hlt0 hsz; replace hlt1 := Nat.lt_of_lt_of_le hlt1 hsz; replace hltD := Nat.lt_of_lt_of_le hltD hsz; replace hle := Nat.le_trans hle hsz; clear hsz hg; obtain ⟨r0, r1, r2, r3⟩ := hRW.cells; obtain ⟨b, off, cap, hsv, _, hC5, ⟨_, _, _, _, ⟨i0, i1⟩⟩, _⟩ := hLW.get hy0 hy1; cases hsv; have c4 := hC5.2.2.2.2; rw [hyi] at c4) | (refine ⟨trivial, ?_⟩; gi_at_call 7; refine (callsIn_wide.2 (callee_any AnyB _ L at_ _ hLW)).mono ?_; rw [hcv]; rintro e w' ⟨rfl, hg⟩; have hsz := hg.below.size; replace hRW := hRW.gr hg.below; replace hLW := hLW.gr hg.below; replace hBW := hBW.gr hg.below; replace cpW := (hg.below.cell (p := ⟨w.heap.size, 0, none⟩) hlt0).trans cpW; replace crW := (hg.below.cell (p := ⟨w.heap.size + 1, 0, none⟩) hlt1).trans crW; replace frW := (hg.below.frozen (p := ⟨w.heap.size + 1, 0, none⟩) hlt1).trans frW; replace hKW := (hg.below.block D hltD).trans hKW; replace hbW := hbW.trans (hg.below.mono hle); replace hlt0 := Nat.lt_of_lt_of_le hlt0 hsz; replace hlt1 := Nat.lt_of_lt_of_le hlt1 hsz; replace hltD := Nat.lt_of_lt_of_le hltD hsz; replace hle := Nat.le_trans hle hsz; clear hsz hg; obtain ⟨r0, r1, r2, r3⟩ := hRW.cells)
          refine ⟨trivial, ?_⟩
          gi_wp2
          have hK' := (KeepsOthers.setCell _ ⟨w.heap.size + 1, 0, none⟩ (.bool false)).same D _ hKW rfl
          refine ⟨by simp, .inl ⟨_, _, rfl, run_takeDeferred hK', ?_⟩⟩
          have e2 := cell_kept (World.cell?_setCell_same' _ ⟨w.heap.size + 1, 0, none⟩ (.bool false) (by rw [crW]; rfl)) (grownBy_putObj' _ D (.deferred none)) (fun r e => by cases e; exact ⟨_, hK', rfl⟩)
          refine ⟨.bool false, ?_, ?_, ?_⟩
          · simp [results, Try.f30, go_sem, e2]
          · rw [strayB, hany]; simp [hf, namesBad, hcm, hsn]
          · exact (hbW.setCell (p := ⟨w.heap.size + 1, 0, none⟩) (by simp) _).trans (belowK_b (w := w) (Nat.le_refl _) _ D _ _ hDw hK' rfl rfl)
        | some t =>
          have hcv : calleeV L at_ = .tuple #[.int .i64 t, .bool true] := by rw [calleeV, hcm]
          cases hbt : begB L Bg t with
          | false =>
            gi_wp2_with first | (refine ⟨trivial, ?_⟩; gi_at_call 14; refine (callsIn_wide.2 (isFunction_any AnyB _ L at_ _ hLW)).mono ?_; rw [hf]; rintro e w' ⟨rfl, hg⟩; have hsz := hg.below.size; replace hRW := hRW.gr hg.below; replace hLW := hLW.gr hg.below; replace hBW := hBW.gr hg.below; replace cpW := (hg.below.cell (p := ⟨w.heap.size, 0, none⟩) hlt0).trans cpW; replace crW := (hg.below.cell (p := ⟨w.heap.size + 1, 0, none⟩) hlt1).trans crW; replace frW := (hg.below.frozen (p := ⟨w.heap.size + 1, 0, none⟩) hlt1).trans frW; replace hKW := (hg.below.block D hltD).trans hKW; replace hbW := hbW.trans (hg.below.mono hle); replace hlt0 := Nat.lt_of_lt_of_le hlt0 hsz; replace hlt1 := Nat.lt_of_lt_of_le hlt1 hsz; replace hltD := Nat.lt_of_lt_of_le hltD hsz; replace hle := Nat.le_trans hle hsz; clear hsz hg; obtain ⟨r0, r1, r2, r3⟩ := hRW.cells; obtain ⟨b, off, cap, hsv, _, hC5, ⟨_, _, _, _, ⟨i0, i1⟩⟩, _⟩ := hLW.get hy0 hy1; cases hsv; have c4 := hC5.2.2.2.2; rw [hyi] at c4) | (refine ⟨trivial, ?_⟩; gi_at_call 7; refine (callsIn_wide.2 (callee_any AnyB _ L at_ _ hLW)).mono ?_; rw [hcv]; rintro e w' ⟨rfl, hg⟩; have hsz := hg.below.size; replace hRW := hRW.gr hg.below; replace hLW := hLW.gr hg.below; replace hBW := hBW.gr hg.below; replace cpW := (hg.below.cell (p := ⟨w.heap.size, 0, none⟩) hlt0).trans cpW; replace crW := (hg.below.cell (p := ⟨w.heap.size + 1, 0, none⟩) hlt1).trans crW; replace frW := (hg.below.frozen (p := ⟨w.heap.size + 1, 0, none⟩) hlt1).trans frW; replace hKW := (hg.below.block D hltD).trans hKW; replace hbW := hbW.trans (hg.below.mono hle); replace hlt0 := Nat.lt_of_lt_of_le hlt0 hsz; replace hlt1 := Nat.lt_of_lt_of_le hlt1 hsz; replace hltD := Nat.lt_of_lt_of_le hltD hsz; replace hle := Nat.le_trans hle hsz; clear hsz hg; obtain ⟨r0, r1, r2, r3⟩ := hRW.cells) | (refine ⟨trivial, ?_⟩; gi_at_call 50; refine (callsIn_wide.2 (isBeg_any P bb _ _ _ _ L Bg hLB _ _ hRW hLW hBW)).mono ?_; rw [hbt]; rintro e w' ⟨rfl, hw⟩; rw [hw]; clear hw)
            have hK' := (KeepsOthers.setCell _ ⟨w.heap.size + 1, 0, none⟩ (.bool true)).same D _ hKW rfl
            refine ⟨by simp, .inl ⟨_, _, rfl, run_takeDeferred hK', ?_⟩⟩
            have e2 := cell_kept (World.cell?_setCell_same' _ ⟨w.heap.size + 1, 0, none⟩ (.bool true) (by rw [crW]; rfl)) (grownBy_putObj' _ D (.deferred none)) (fun r e => by cases e; exact ⟨_, hK', rfl⟩)
            refine ⟨.bool true, ?_, ?_, ?_⟩
            · simp [results, Try.f30, go_sem, e2]
            · rw [strayB, hany]; simp [hf, namesBad, hcm, hbt, hsn]
            · exact (hbW.setCell (p := ⟨w.heap.size + 1, 0, none⟩) (by simp) _).trans (belowK_b (w := w) (Nat.le_refl _) _ D _ _ hDw hK' rfl rfl)
          | true =>
            gi_wp2_with first | (refine ⟨trivial, ?_⟩; gi_at_call 14; refine (callsIn_wide.2 (isFunction_any AnyB _ L at_ _ hLW)).mono ?_; rw [hf]; rintro e w' ⟨rfl, hg⟩; have hsz := hg.below.size; replace hRW := hRW.gr hg.below; replace hLW := hLW.gr hg.below; replace hBW := hBW.gr hg.below; replace cpW := (hg.below.cell (p := ⟨w.heap.size, 0, none⟩) hlt0).trans cpW; replace crW := (hg.below.cell (p := ⟨w.heap.size + 1, 0, none⟩) hlt1).trans crW; replace frW := (hg.below.frozen (p := ⟨w.heap.size + 1, 0, none⟩) hlt1).trans frW; replace hKW := (hg.below.block D hltD).trans hKW; replace hbW := hbW.trans (hg.below.mono hle); replace hlt0 := Nat.lt_of_lt_of_le hlt0 hsz; replace hlt1 := Nat.lt_of_lt_of_le hlt1 hsz; replace hltD := Nat.lt_of_lt_of_le hltD hsz; replace hle := Nat.le_trans hle hsz; clear hsz hg; obtain ⟨r0, r1, r2, r3⟩ := hRW.cells; obtain ⟨b, off, cap, hsv, _, hC5, ⟨_, _, _, _, ⟨i0, i1⟩⟩, _⟩ := hLW.get hy0 hy1; cases hsv; have c4 := hC5.2.2.2.2; rw [hyi] at c4) | (refine ⟨trivial, ?_⟩; gi_at_call 7; refine (callsIn_wide.2 (callee_any AnyB _ L at_ _ hLW)).mono ?_; rw [hcv]; rintro e w' ⟨rfl, hg⟩; have hsz := hg.below.size; replace hRW := hRW.gr hg.below; replace hLW := hLW.gr hg.below; replace hBW := hBW.gr hg.below; replace cpW := (hg.below.cell (p := ⟨w.heap.size, 0, none⟩) hlt0).trans cpW; replace crW := (hg.below.cell (p := ⟨w.heap.size + 1, 0, none⟩) hlt1).trans crW; replace frW := (hg.below.frozen (p := ⟨w.heap.size + 1, 0, none⟩) hlt1).trans frW; replace hKW := (hg.below.block D hltD).trans hKW; replace hbW := hbW.trans (hg.below.mono hle); replace hlt0 := Nat.lt_of_lt_of_le hlt0 hsz; replace hlt1 := Nat.lt_of_lt_of_le hlt1 hsz; replace hltD := Nat.lt_of_lt_of_le hltD hsz; replace hle := Nat.le_trans hle hsz; clear hsz hg; obtain ⟨r0, r1, r2, r3⟩ := hRW.cells) | (refine ⟨trivial, ?_⟩; gi_at_call 50; refine (callsIn_wide.2 (isBeg_any P bb _ _ _ _ L Bg hLB _ _ hRW hLW hBW)).mono ?_; rw [hbt]; rintro e w' ⟨rfl, hw⟩; rw [hw]; clear hw)
            have hK' := (KeepsOthers.setCell _ ⟨w.heap.size + 1, 0, none⟩ (.bool false)).same D _ hKW rfl
            refine ⟨by simp, .inl ⟨_, _, rfl, run_takeDeferred hK', ?_⟩⟩
            have e2 := cell_kept (World.cell?_setCell_same' _ ⟨w.heap.size + 1, 0, none⟩ (.bool false) (by rw [crW]; rfl)) (grownBy_putObj' _ D (.deferred none)) (fun r e => by cases e; exact ⟨_, hK', rfl⟩)
            refine ⟨.bool false, ?_, ?_, ?_⟩
            · simp [results, Try.f30, go_sem, e2]
            · rw [strayB, hany]; simp [hf, namesBad, hcm, hbt, hsn]
            · exact (hbW.setCell (p := ⟨w.heap.size + 1, 0, none⟩) (by simp) _).trans (belowK_b (w := w) (Nat.le_refl _) _ D _ _ hDw hK' rfl rfl)

      · have hyb : (y.i != 0) = true := by simp [hyi]
        gi_wp2_with first | (refine ⟨trivial, ?_⟩; gi_at_call 14; refine (callsIn_wide.2 (isFunction_any AnyB _ L at_ _ hLW)).mono ?_; rw [hf]; rintro e w' ⟨rfl, hg⟩; have hsz := hg.below.size; replace hRW := hRW.gr hg.below; replace hLW := hLW.gr hg.below; replace hBW := hBW.gr hg.below; replace cpW := (hg.below.cell (p := ⟨w.heap.size, 0, none⟩) hlt0).trans cpW; replace crW := (hg.below.cell (p := ⟨w.heap.size + 1, 0, none⟩) hlt1).trans crW; replace frW := (hg.below.frozen (p := ⟨w.heap.size + 1, 0, none⟩) hlt1).trans frW; replace hKW := (hg.below.block D hltD).trans hKW; replace hbW := hbW.trans (hg.below.mono hle); replace hlt0 := Nat.lt_of_lt_of_le hlt0 hsz; replace hlt1 := Nat.lt_of_lt_of_le hlt1 hsz; replace hltD := Nat.lt_of_lt_of_le hltD hsz; replace hle := Nat.le_trans hle hsz; clear hsz hg; obtain ⟨r0, r1, r2, r3⟩ := hRW.cells; obtain ⟨b, off, cap, hsv, _, hC5, ⟨_, _, _, _, ⟨i0, i1⟩⟩, _⟩ := hLW.get hy0 hy1; cases hsv; have c4 := hC5.2.2.2.2)
        have hK' := (KeepsOthers.setCell _ ⟨w.heap.size + 1, 0, none⟩ (.bool true)).same D _ hKW rfl
        refine ⟨by simp, .inl ⟨_, _, rfl, run_takeDeferred hK', ?_⟩⟩
        have e2 := cell_kept (World.cell?_setCell_same' _ ⟨w.heap.size + 1, 0, none⟩ (.bool true) (by rw [crW]; rfl)) (grownBy_putObj' _ D (.deferred none)) (fun r e => by cases e; exact ⟨_, hK', rfl⟩)
        refine ⟨.bool true, ?_, ?_, ?_⟩
        · simp [results, Try.f30, go_sem, e2]
        · rw [strayB, hany]; simp [hf, hsn, hyi]
        · exact (hbW.setCell (p := ⟨w.heap.size + 1, 0, none⟩) (by simp) _).trans (belowK_b (w := w) (Nat.le_refl _) _ D _ _ hDw hK' rfl rfl)
end Go.Proofs.Ytdmdmbcapjmnlab
