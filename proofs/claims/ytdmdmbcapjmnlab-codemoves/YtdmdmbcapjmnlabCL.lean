/- Towards the statements of package code (layer 8): part: the subprograms, and whose each slot is. -/
import Derived.Test.YtdmdmbcapjmnlabCK
import Derived.Test.YtdmdmbcapjmnlabCH
import Derived.OwnWalk
namespace Go.Proofs.Ytdmdmbcapjmnlab
open Go.ChangeShapes Go.WideShapes Go.ChangeAt
open Go.RowKit Go.Shelf
set_option linter.unusedVariables false
set_option linter.unusedSimpArgs false
set_option maxRecDepth 20000

/-- Up to where the n-th subprogram reaches. -/
def toOf (hs : List Nat) (len n : Nat) : Nat := hs[n + 1]?.getD len
def subF (hs : List Nat) (len : Nat) : Nat → List (Nat × Nat)
  | 0 => []
  | n + 1 => subF hs len n ++ [(hs[n]?.getD 0, toOf hs len n)]
def setR (HL : List Nat) (a b n : Nat) : List Nat := HL.mapIdx fun j x => if a ≤ j ∧ j < b then n else x
def homeF (hs : List Nat) (len : Nat) : Nat → List Nat
  | 0 => List.replicate len 0
  | n + 1 => setR (homeF hs len n) (hs[n]?.getD 0) (toOf hs len n) n
theorem setR_len (HL : List Nat) (a b n : Nat) : (setR HL a b n).length = HL.length := by simp [setR]
theorem homeF_len (hs : List Nat) (len n : Nat) : (homeF hs len n).length = len := by
  induction n with
  | zero => simp [homeF]
  | succ n ih => rw [homeF, setR_len, ih]
theorem subF_len (hs : List Nat) (len n : Nat) : (subF hs len n).length = n := by
  induction n with
  | zero => rfl
  | succ n ih => simp [subF, ih]
theorem setR_self (HL : List Nat) (a n : Nat) : setR HL a a n = HL := by
  apply List.ext_getElem
  · simp [setR]
  · intro i h1 h2; simp [setR]; omega
theorem setR_succ (HL : List Nat) {a k n : Nat} (h : a ≤ k) : setR HL a (k + 1) n = (setR HL a k n).set k n := by
  apply List.ext_getElem
  · simp [setR]
  · intro i h1 h2
    simp only [setR, List.getElem_set, List.getElem_mapIdx]
    by_cases e : k = i
    · subst e; simp [h]
    · rw [if_neg e]
      by_cases q : a ≤ i ∧ i < k
      · rw [if_pos q, if_pos ⟨q.1, by omega⟩]
      · rw [if_neg q, if_neg (by omega)]
abbrev vN (x : Nat) : Value := .int .i64 (x : Int)
def flat (SL : List (Nat × Nat)) : List Value := SL.flatMap fun x => [vN x.1, vN x.2]
theorem flat_len (SL : List (Nat × Nat)) : (flat SL).length = SL.length * 2 := by
  induction SL with
  | nil => rfl
  | cons x r ih => simp [flat] at ih ⊢; omega
theorem flat_get (SL : List (Nat × Nat)) (j : Nat) (x : Nat × Nat) (h : SL[j]? = some x) : (flat SL)[j * 2]? = some (vN x.1) ∧ (flat SL)[j * 2 + 1]? = some (vN x.2) := by
  induction SL generalizing j with
  | nil => simp at h
  | cons y r ih =>
    cases j with
    | zero => simp at h; subst h; simp [flat]
    | succ j =>
      simp at h
      have := ih j h
      rw [show (j + 1) * 2 = j * 2 + 1 + 1 by omega]
      simpa [flat] using this
theorem flat_snoc (SL : List (Nat × Nat)) (x y : Nat) : flat (SL ++ [(x, y)]) = flat SL ++ [vN x, vN y] := by simp [flat]
theorem subF_mem (hs : List Nat) (len n : Nat) (x : Nat × Nat) (h : x ∈ subF hs len n) : ∃ k, k < n ∧ x = (hs[k]?.getD 0, toOf hs len k) := by
  induction n with
  | zero => simp [subF] at h
  | succ n ih =>
    rw [subF, List.mem_append] at h
    rcases h with h | h
    · obtain ⟨k, hk, e⟩ := ih h; exact ⟨k, by omega, e⟩
    · simp at h; exact ⟨n, by omega, h⟩
theorem subF_small (hs : List Nat) (len : Nat) (hl : len ≤ 4096) (hlt : ∀ x ∈ hs, x < len) : ∀ x ∈ subF hs len hs.length, x.1 ≤ 4096 ∧ x.2 ≤ 4096 := by
  intro x hx
  obtain ⟨k, hk, rfl⟩ := subF_mem hs len _ x hx
  refine ⟨?_, ?_⟩
  · simp only [List.getElem?_eq_getElem hk, Option.getD_some]; have := hlt _ (List.getElem_mem hk); omega
  · unfold toOf; cases hy : hs[k + 1]? with
    | none => simpa using hl
    | some y => have := hlt y (List.mem_of_getElem? hy); simp; omega
theorem subs_of_row {W : World} {B : Nat} {v : Value} {n : Nat} {SL : List (Nat × Nat)} (h : W.ownsRow B 37 2 v n (flat SL)) (hn : n = SL.length) (h0 : 0 < SL.length) (hl : SL.length ≤ 4096) (hsm : ∀ x ∈ SL, x.1 ≤ 4096 ∧ x.2 ≤ 4096) : ∃ sb, B ≤ sb ∧ SubsAt W sb v SL := by
  subst hn
  rcases h.2 with ⟨_, h1⟩ | ⟨g, cap, cur, rfl, hb, hg, hnc, _, hs, ht⟩
  · omega
  · refine ⟨g, hb, ⟨cap, rfl⟩, (Array.getElem?_eq_some_iff.1 hg).1, hl, hsm, fun j x hx => ?_⟩
    have hj := (List.getElem?_eq_some_iff.1 hx).1
    obtain ⟨f1, f2⟩ := flat_get SL j x hx
    rw [← ht, List.getElem?_take_of_lt (by omega), Array.getElem?_toList] at f1 f2
    exact ⟨cellOf hg f1, cellOf hg f2⟩
/-- The homes, block by block. -/
structure HomeB (w : World) (hb : Nat) (vh : Value) (HL : List Nat) : Prop where
  val : ∃ cap, vh = .slice (some ⟨hb, 0, none⟩) HL.length cap
  blk : w.heap[hb]? = some (.cells (HL.map vN).toArray 3)
theorem HomeB.lt {w : World} {hb : Nat} {vh : Value} {HL : List Nat} (h : HomeB w hb vh HL) : hb < w.heap.size := (Array.getElem?_eq_some_iff.1 h.blk).1
theorem HomeB.cell {w : World} {hb : Nat} {vh : Value} {HL : List Nat} (h : HomeB w hb vh HL) (j : Nat) (x : Nat) (hx : HL[j]? = some x) : w.cell? ⟨hb, j, none⟩ = some (.int .i64 x) := by
  unfold World.cell?; rw [h.blk]; simp [hx]
theorem HomeB.fro {w : World} {hb : Nat} {vh : Value} {HL : List Nat} (h : HomeB w hb vh HL) (j : Nat) : w.frozen? ⟨hb, j, none⟩ = false := by simp [World.frozen?, h.blk]
theorem HomeB.set {w : World} {hb : Nat} {vh : Value} {HL : List Nat} (h : HomeB w hb vh HL) (j n : Nat) : HomeB (w.setCell ⟨hb, j, none⟩ (.int .i64 n)) hb vh (HL.set j n) := by
  refine ⟨by simpa using h.val, ?_⟩
  rw [heap_set h.blk]
  congr 2
  simp [List.map_set]
theorem HomeB.home {w : World} {hb : Nat} {vh : Value} {HL : List Nat} (h : HomeB w hb vh HL) (hl : HL.length ≤ 4096) : HomeAt w hb vh HL := ⟨h.val, h.lt, hl, h.cell⟩
theorem grown_any (W : World) (b o : Nat) (u : Value) : W.grownBy (W.setCell ⟨b, o, none⟩ u) (some b) :=
  ⟨rfl, rfl, rfl, by rw [size_set]; exact Nat.le_refl _, fun k hk he => Below.heap_setCell W ⟨b, o, none⟩ u k (fun e => he (by rw [e]))⟩
theorem made_ints (n : Nat) : (madeCells (Value.int .i64 0).cells (n * 1)).toList = (List.replicate n 0).map vN := by
  simp only [madeCells, Value.cells, Nat.mul_one]
  apply List.ext_getElem
  · simp
  · intro i h1 h2; simp [Nat.mod_one]
theorem info49 : (Try.prog.info? 37).map (fun i => (i.zero, i.size, i.bytes)) = some (some (.agg #[.int .i64 0, .int .i64 0]), 2, 16) := by kernel_rfl
/-- What part answers. -/
def partV (hs : List Nat) : Value := match hs[32]? with
  | some x => .tuple #[vN x, .int .i64 4]
  | none => .tuple #[.int .i64 0, .int .i64 0]
/-- A row of numbers of the call's own, cell by cell. -/
theorem row_cells {W : World} {B : Nat} {v : Value} {hs : List Nat} (h : W.ownsRow B 3 1 v (hs.map Int.ofNat).length ((hs.map Int.ofNat).map (Value.int .i64))) (hne : hs ≠ []) : ∃ g cap, v = .slice (some ⟨g, 0, none⟩) hs.length cap ∧ B ≤ g ∧ g < W.heap.size ∧ ∃ c : Array Value, W.heap[g]? = some (.cells c 3) ∧ ∀ (j x : Nat), hs[j]? = some x → c[j]? = some (vN x) := by
  rcases h.2 with ⟨_, h0⟩ | ⟨g, cap, cur, e, hb, hg, hn, _, hs', ht⟩
  · simp at h0; exact absurd h0 hne
  · refine ⟨g, cap, by simpa using e, hb, (Array.getElem?_eq_some_iff.1 hg).1, cur, hg, fun j x hx => ?_⟩
    have hj : j < hs.length := (List.getElem?_eq_some_iff.1 hx).1
    have := congrArg (fun l => l[j]?) ht
    simp only [Nat.mul_one, List.length_map] at this
    rw [List.getElem?_take_of_lt hj] at this
    simpa [hx] using this
theorem cell_two_new (W : World) (a b : Value) (t : TypeId) : ∀ (j : Nat) (u : Value), [a, b][j]? = some u → (W.alloc (.cells #[a, b] t)).cell? (Addr.add ⟨W.heap.size, 0, none⟩ j) = some u := by
  intro j u hu
  have hb := World.alloc_heap_new W (.cells #[a, b] t)
  match j, hu with
  | 0, hu => exact cellOf hb (by simpa using hu)
  | 1, hu => exact cellOf hb (by simpa using hu)
/-- Behind an append to the row of subprograms. -/
theorem after_append {w wq wa : World} {P hb g : Nat} {sv vb v vh : Value} {HL : List Nat} {cH : Array Value} {n m : Nat} {xs ys : List Value} {v' : Value} {tmp : Obj}
    (hR : Rec wq P sv vb v vh) (hH : HomeB wq hb vh HL) (hg : wq.heap[g]? = some (.cells cH 3)) (hrow : wq.ownsRow w.heap.size 37 2 v n xs) (hG : w.grownBy wq (some P)) (hown' : wa.ownsRow w.heap.size 37 2 v' m ys) (hgrow : (wq.alloc tmp).grownBy wa v.ownBlock) :
    Rec wa P sv vb v vh ∧ HomeB wa hb vh HL ∧ wa.heap[g]? = some (.cells cH 3) ∧ w.grownBy wa (some P) := by
  have key : ∀ (b : Nat) (c : Array Value) (t : TypeId), t ≠ 37 → wq.heap[b]? = some (.cells c t) → wa.heap[b]? = some (.cells c t) := fun b c t ht hb => by
    have hlt := (Array.getElem?_eq_some_iff.1 hb).1
    refine (hgrow.block b (by simp; omega) ?_).trans ((Below.heap_alloc wq tmp b hlt).trans hb)
    rcases hrow.2 with ⟨rfl, _⟩ | ⟨g, cap, cur, rfl, _, hg, _⟩
    · simp [Value.ownBlock]
    · intro e
      simp [Value.ownBlock] at e
      rw [e, hg] at hb
      injection hb with hb; injection hb with _ hb _; exact ht hb.symm
  refine ⟨key _ _ _ (by decide) hR, ⟨hH.val, key _ _ _ (by decide) hH.blk⟩, key _ _ _ (by decide) hg, ?_⟩
  refine ⟨hgrow.os.trans hG.os, hgrow.tape.trans hG.tape, hgrow.output.trans hG.output, Nat.le_trans hG.size (by have := hgrow.size; simp at this; omega), fun i hi he => ?_⟩
  have hi' : i < wq.heap.size := Nat.lt_of_lt_of_le hi hG.size
  refine (hgrow.block i (by simp; omega) ?_).trans ((Below.heap_alloc wq tmp i hi').trans (hG.block i hi he))
  rcases hrow.2 with ⟨rfl, _⟩ | ⟨g, cap, cur, rfl, hb, hg, _⟩
  · simp [Value.ownBlock]
  · intro e
    simp [Value.ownBlock] at e
    omega
set_option maxHeartbeats 4000000 in
theorem part_any (P bb : Nat) (sv vb vh : Value) (L : List Sl) (Bg : List Bool) (hLB : Bg.length = L.length) (hs : List Nat) (hhs : headsM L Bg = hs.map Int.ofNat) (hne : hs ≠ []) (hlt : ∀ x ∈ hs, x < L.length) (hup : ∀ (i : Nat) (x : Nat), hs[i]? = some x → x ≤ toOf hs L.length i) (hl : hs.length ≤ 4096)
    (w : World) (hR : Rec w P sv vb (.slice none 0 0) vh) (hL : Slots (· ≠ P) w sv L) (hB : Bools w bb vb Bg) :
    Calls Try.prog 32 #[.pointer (some ⟨P, 0, none⟩)] w fun e w' => e = .returned (partV hs) ∧ ∃ sb hb vs' vh', w.heap.size ≤ sb ∧ w.heap.size ≤ hb ∧ SubsAt w' sb vs' (subF hs L.length hs.length) ∧ HomeAt w' hb vh' (homeF hs L.length hs.length) ∧ Rec w' P sv vb vs' vh' ∧ w.grownBy w' (some P) := by
  have kh := callsIn_wide.1 (heads_in 3 (Nat.le_refl _) P bb sv vb _ vh L Bg hLB w hR (hL.mono fun _ _ => trivial) hB)
  rw [hhs] at kh
  obtain ⟨p, c, rfl⟩ := hL.shape
  have hlen := hL.len
  obtain ⟨i3, hi3, hz30, hz31, hz32⟩ := info_parts info3
  obtain ⟨i9, hi9, hz90, hz91, hz92⟩ := info_parts info49
  go_enter Try.func32, Try.ntmps32
  go_wp2_with first | (go_at_call 51; refine kh.mono ?_; rintro e w1 ⟨v, rfl, hrow, hb1⟩; obtain ⟨g, cap, rfl, hgB, hgl, cH, hgH, hgc⟩ := row_cells hrow hne; have hR1 := hR.gr hb1; have hL1 := hL.gr hb1; obtain ⟨r0, r1, r2, r3⟩ := hR1.cells) | (refine wpList_make_full _ rfl _ _ 34 rfl w.heap.size 3 i3 (.int .i64 0) 1 Try.underlying34 hi3 hz30 hz31 _ _ _ _ L.length rfl rfl rfl rfl (by rw [hz32]; omega) (by simp [maxLen]; omega) hb1.size ?_; intro w2 hown hgrow; have hb2 : Below w1.heap.size w1 w2 := (Below.refl w1.heap.size w1).grown hgrow (Nat.le_refl _) (fun k e => by cases e); have hR2 := hR1.gr hb2; obtain ⟨s0, s1, s2, s3⟩ := hR2.cells; have f3 := hR2.fro 3)
  have hne3 : w1.heap.size ≠ P := by have := hR1.lt; omega
  have hH0 : HomeB w2 w1.heap.size (.slice (some ⟨w1.heap.size, 0, none⟩) L.length L.length) (List.replicate L.length 0) := by
    rcases hown.2 with ⟨e, _⟩ | ⟨g, cap, cur, e, _, hg, _, _, hs, ht⟩
    · cases e
    · cases e
      refine ⟨⟨L.length, by simp⟩, hg.trans ?_⟩
      rw [made_ints, Nat.mul_one, List.take_of_length_le (by simp [hs])] at ht
      rw [← ht]
  have hPw := hR.lt
  have hH1 : HomeB (w2.setCell ⟨P, 3, none⟩ (.slice (some ⟨w1.heap.size, 0, none⟩) L.length L.length)) w1.heap.size (.slice (some ⟨w1.heap.size, 0, none⟩) L.length L.length) (List.replicate L.length 0) := ⟨hH0.val, (Below.heap_setCell w2 ⟨P, 3, none⟩ _ _ hne3).trans hH0.blk⟩
  have hR3 := hR2.set3 (.slice (some ⟨w1.heap.size, 0, none⟩) L.length L.length)
  have hg3 : (w2.setCell ⟨P, 3, none⟩ (.slice (some ⟨w1.heap.size, 0, none⟩) L.length L.length)).heap[g]? = some (.cells cH 3) := (Below.heap_setCell w2 ⟨P, 3, none⟩ _ _ (by simp; omega)).trans ((hb2.block g hgl).trans hgH)
  have hG3 : w.grownBy (w2.setCell ⟨P, 3, none⟩ (.slice (some ⟨w1.heap.size, 0, none⟩) L.length L.length)) (some P) := by
    have hbb := hb1.trans (hb2.mono hb1.size)
    exact grown_set ⟨hbb.os, hbb.tape, hbb.output, hbb.size, fun i hi _ => hbb.block i hi⟩ (.inl rfl) _
  have hw1 := hb1.size
  generalize (w2.setCell ⟨P, 3, none⟩ (.slice (some ⟨w1.heap.size, 0, none⟩) L.length L.length)) = W3 at hH1 hR3 hg3 hG3 ⊢
  clear s0 s1 s2 s3 f3 hH0 hown hgrow hb2 r0 r1 r2 r3 hR2
  go_loopw [22] (fun i wr => ∃ (n : Nat) (vsn : Value), i = .int .i64 n ∧ n ≤ hs.length ∧ Rec wr P (.slice p L.length c) vb vsn (.slice (some ⟨w1.heap.size, 0, none⟩) L.length L.length) ∧ HomeB wr w1.heap.size (.slice (some ⟨w1.heap.size, 0, none⟩) L.length L.length) (homeF hs L.length n) ∧ wr.heap[g]? = some (.cells cH 3) ∧ wr.ownsRow w.heap.size 37 2 vsn n (flat (subF hs L.length n)) ∧ w.grownBy wr (some P))
    (fun i _ => hs.length - (intOf i).toNat)
  case atStart => exact ⟨0, _, rfl, by omega, hR3, hH1, hg3, World.ownsRow_nil _ _ _ _, hG3⟩
  case round =>
    obtain ⟨n, vsn, rfl, hn, hRr, hHr, hgr, hrow, hGr⟩ := hrel
    by_cases hlt' : n < hs.length
    · obtain ⟨x, hx⟩ : ∃ x, hs[n]? = some x := ⟨hs[n], by simp [hlt']⟩
      have hxl := hlt x (List.mem_of_getElem? hx)
      have cx := cellOf hgr (hgc n x hx)
      have e1 : IntKind.i64.wrap ((n : Int) + 1) = (n : Int) + 1 := IntWalk.i64_in _ (by omega)
      obtain ⟨r0, r1, r2, r3⟩ := hRr.cells
      have hto := hup n x hx
      have htl : toOf hs L.length n ≤ L.length := by
        unfold toOf; cases hy : hs[n + 1]? with
        | none => simp
        | some y => have := hlt y (List.mem_of_getElem? hy); simp; omega
      by_cases hn1 : n + 1 < hs.length
      · obtain ⟨T, hT⟩ : ∃ T, hs[n + 1]? = some T := ⟨hs[n + 1], by simp [hn1]⟩
        have ht : toOf hs L.length n = T := by simp [toOf, hT]
        have cy := cellOf hgr (hgc (n + 1) T hT)
        have hd : decide ((n : Int) + 1 < hs.length) = true := by simp; omega
        rw [ht] at hto htl
        have hhF : homeF hs L.length (n + 1) = setR (homeF hs L.length n) x T n := by rw [homeF, hx, ht]; rfl
        have hsF : subF hs L.length (n + 1) = subF hs L.length n ++ [(x, T)] := by rw [subF, hx, ht]; rfl
        clear ht
        go_wp2_with fail
        go_loopw [8] (fun i wq => ∃ k : Nat, i = .int .i64 k ∧ x ≤ k ∧ k ≤ T ∧ Rec wq P (.slice p L.length c) vb vsn (.slice (some ⟨w1.heap.size, 0, none⟩) L.length L.length) ∧ HomeB wq w1.heap.size (.slice (some ⟨w1.heap.size, 0, none⟩) L.length L.length) (setR (homeF hs L.length n) x k n) ∧ wq.heap[g]? = some (.cells cH 3) ∧ wq.ownsRow w.heap.size 37 2 vsn n (flat (subF hs L.length n)) ∧ w.grownBy wq (some P))
          (fun i _ => T - (intOf i).toNat)
        case atStart => exact ⟨x, rfl, Nat.le_refl _, hto, hRr, by rw [setR_self]; exact hHr, hgr, hrow, hGr⟩
        case round =>
          clear hRr hHr hgr hrow hGr
          obtain ⟨k, rfl, hxk, hkT, hRr, hHr, hgr, hrow, hGr⟩ := hrel
          obtain ⟨r0, r1, r2, r3⟩ := hRr.cells
          by_cases hk : k < T
          · have hlk : k < (setR (homeF hs L.length n) x k n).length := by rw [setR_len, homeF_len]; omega
            have ch := hHr.cell k _ (List.getElem?_eq_getElem hlk)
            have fh := hHr.fro k
            have e2 : IntKind.i64.wrap ((k : Int) + 1) = (k : Int) + 1 := IntWalk.i64_in _ (by omega)
            have hdk : decide ((k : Int) < (T : Nat)) = true := by simp; omega
            go_wp2
            go_roundw
            case rel => exact ⟨k + 1, by simp, by omega, by omega, hRr.other (by omega) _, by rw [setR_succ _ hxk]; exact hHr.set k n, (Below.heap_setCell _ ⟨w1.heap.size, k, none⟩ _ _ (by simp; omega)).trans hgr, hrow.kept (grown_any _ _ _ _) (by
              rcases hrow.2 with ⟨rfl, _⟩ | ⟨g, cap, cur, rfl, _, hg, _⟩
              · exact .inl rfl
              · refine .inr ?_
                simp [Value.ownBlock]
                intro e
                have := hHr.blk; rw [← e, hg] at this; injection this with this; injection this with _ this _; exact absurd this (by decide)), grown_set hGr (.inr (by simp; omega)) _⟩
            case measure => simp [intOf]; omega
          · obtain rfl : k = T := by omega
            go_wp2_with first | (refine wpList_append_own _ rfl _ _ 24 rfl w.heap.size 37 i9 (.agg #[.int .i64 0, .int .i64 0]) 2 16 Try.underlying24 hi9 hz90 hz91 hz92 rfl (by decide) _ _ _ rfl (hrow.alloc _) _ 1 1 [vN x, vN k] rfl rfl (cell_two_new _ _ _ _) (by simp [Value.oneCell']) (by simp [maxLen]; omega) (by omega) (by have := hGr.size; simp; omega) ?_; intro v' wa hown' hgrow' _; obtain ⟨g', cap', rfl⟩ := ownsRow_succ hown'; obtain ⟨hRa, hHa, hHg, hGa⟩ := after_append hRr hHr hgr hrow hGr hown' hgrow'; obtain ⟨a0, a1, a2, a3⟩ := hRa.cells; have fa := hRa.fro 2)
            go_roundw
            case rel => exact ⟨n + 1, _, by simp, by omega, hRa.set2 _, by rw [hhF]; exact ⟨hHa.val, (Below.heap_setCell _ ⟨P, 2, none⟩ _ _ hne3).trans hHa.blk⟩, (Below.heap_setCell _ ⟨P, 2, none⟩ _ _ (by simp; omega)).trans hHg, by rw [hsF, flat_snoc]; exact hown'.kept (grown_any _ _ _ _) (.inr (by have := hown'.lt g' rfl; simp [Value.ownBlock]; omega)), grown_set hGa (.inl rfl) _⟩
            case measure => simp [intOf]; omega
      · have ht : toOf hs L.length n = L.length := by simp [toOf, List.getElem?_eq_none (show hs.length ≤ n + 1 by omega)]
        have hd : decide ((n : Int) + 1 < hs.length) = false := by simp; omega
        rw [ht] at hto htl
        have hhF : homeF hs L.length (n + 1) = setR (homeF hs L.length n) x L.length n := by rw [homeF, hx, ht]; rfl
        have hsF : subF hs L.length (n + 1) = subF hs L.length n ++ [(x, L.length)] := by rw [subF, hx, ht]; rfl
        clear ht
        go_wp2_with fail
        go_loopw [8] (fun i wq => ∃ k : Nat, i = .int .i64 k ∧ x ≤ k ∧ k ≤ L.length ∧ Rec wq P (.slice p L.length c) vb vsn (.slice (some ⟨w1.heap.size, 0, none⟩) L.length L.length) ∧ HomeB wq w1.heap.size (.slice (some ⟨w1.heap.size, 0, none⟩) L.length L.length) (setR (homeF hs L.length n) x k n) ∧ wq.heap[g]? = some (.cells cH 3) ∧ wq.ownsRow w.heap.size 37 2 vsn n (flat (subF hs L.length n)) ∧ w.grownBy wq (some P))
          (fun i _ => L.length - (intOf i).toNat)
        case atStart => exact ⟨x, rfl, Nat.le_refl _, hto, hRr, by rw [setR_self]; exact hHr, hgr, hrow, hGr⟩
        case round =>
          clear hRr hHr hgr hrow hGr
          obtain ⟨k, rfl, hxk, hkT, hRr, hHr, hgr, hrow, hGr⟩ := hrel
          obtain ⟨r0, r1, r2, r3⟩ := hRr.cells
          by_cases hk : k < L.length
          · have hlk : k < (setR (homeF hs L.length n) x k n).length := by rw [setR_len, homeF_len]; omega
            have ch := hHr.cell k _ (List.getElem?_eq_getElem hlk)
            have fh := hHr.fro k
            have e2 : IntKind.i64.wrap ((k : Int) + 1) = (k : Int) + 1 := IntWalk.i64_in _ (by omega)
            have hdk : decide ((k : Int) < (L.length : Nat)) = true := by simp; omega
            go_wp2
            go_roundw
            case rel => exact ⟨k + 1, by simp, by omega, by omega, hRr.other (by omega) _, by rw [setR_succ _ hxk]; exact hHr.set k n, (Below.heap_setCell _ ⟨w1.heap.size, k, none⟩ _ _ (by simp; omega)).trans hgr, hrow.kept (grown_any _ _ _ _) (by
              rcases hrow.2 with ⟨rfl, _⟩ | ⟨g, cap, cur, rfl, _, hg, _⟩
              · exact .inl rfl
              · refine .inr ?_
                simp [Value.ownBlock]
                intro e
                have := hHr.blk; rw [← e, hg] at this; injection this with this; injection this with _ this _; exact absurd this (by decide)), grown_set hGr (.inr (by simp; omega)) _⟩
            case measure => simp [intOf]; omega
          · obtain rfl : k = L.length := by omega
            go_wp2_with first | (refine wpList_append_own _ rfl _ _ 24 rfl w.heap.size 37 i9 (.agg #[.int .i64 0, .int .i64 0]) 2 16 Try.underlying24 hi9 hz90 hz91 hz92 rfl (by decide) _ _ _ rfl (hrow.alloc _) _ 1 1 [vN x, vN L.length] rfl rfl (cell_two_new _ _ _ _) (by simp [Value.oneCell']) (by simp [maxLen]; omega) (by omega) (by have := hGr.size; simp; omega) ?_; intro v' wa hown' hgrow' _; obtain ⟨g', cap', rfl⟩ := ownsRow_succ hown'; obtain ⟨hRa, hHa, hHg, hGa⟩ := after_append hRr hHr hgr hrow hGr hown' hgrow'; obtain ⟨a0, a1, a2, a3⟩ := hRa.cells; have fa := hRa.fro 2)
            go_roundw
            case rel => exact ⟨n + 1, _, by simp, by omega, hRa.set2 _, by rw [hhF]; exact ⟨hHa.val, (Below.heap_setCell _ ⟨P, 2, none⟩ _ _ hne3).trans hHa.blk⟩, (Below.heap_setCell _ ⟨P, 2, none⟩ _ _ (by simp; omega)).trans hHg, by rw [hsF, flat_snoc]; exact hown'.kept (grown_any _ _ _ _) (.inr (by have := hown'.lt g' rfl; simp [Value.ownBlock]; omega)), grown_set hGa (.inl rfl) _⟩
            case measure => simp [intOf]; omega
    · obtain rfl : n = hs.length := by omega
      obtain ⟨sb, hsb, hsub⟩ := subs_of_row hrow (by rw [subF_len]) (by rw [subF_len]; cases hs with | nil => exact absurd rfl hne | cons a r => simp) (by rw [subF_len]; exact hl) (subF_small hs L.length hlen hlt)
      have hhom := hHr.home (by rw [homeF_len]; exact hlen)
      cases h32 : hs[32]? with
      | none =>
        have hd : decide ((32 : Int) < hs.length) = false := by rw [List.getElem?_eq_none_iff] at h32; simp; omega
        go_wp2_with fail
        go_returns
        exact ⟨by rw [partV, h32]; rfl, sb, w1.heap.size, vsn, _, hsb, hw1, hsub, hhom, hRr, hGr⟩
      | some y =>
        have hl32 := (List.getElem?_eq_some_iff.1 h32).1
        have hd : decide ((32 : Int) < hs.length) = true := by simp; omega
        have c32 := cellOf hgr (hgc 32 y h32)
        go_wp2_with fail
        go_returns
        exact ⟨by rw [partV, h32]; rfl, sb, w1.heap.size, vsn, _, hsb, hw1, hsub, hhom, hRr, hGr⟩
end Go.Proofs.Ytdmdmbcapjmnlab
