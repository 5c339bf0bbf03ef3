/- Towards HandleOnce: what is known of all handles that were made, behind each call. -/
import Derived.Test.YtilohnmaaofipaaMH
namespace Go.Proofs.Ytilohnmaaofipaa
open Go.ChangeShapes Go.WideShapes Go.ChangeAt Go.RowKit
set_option linter.unusedVariables false
set_option linter.unusedSimpArgs false
set_option maxRecDepth 20000
open Classical in
/-- 1: it lives; 2: it does no more. -/
noncomputable def sn (L : Int → Option Nat) (k : HKey) : Int := if L k.1 = some k.2 then 1 else 2
open Classical in
noncomputable def seenF (L : Int → Option Nat) (A : List HKey) : HKey → Option Value := fun k => if k ∈ A then some (.int .i64 (sn L k)) else none
structure On (w : World) (B b m1 m2 ms : Nat) (N : Int → Nat) (L : Int → Option Nat) (A : List HKey) (v : Value) (n : Nat) : Prop where
  tb : Tb w B b m1 m2 N L n
  sm : ∃ k, HM w ms k (seenF L A)
  row : w.ownsRow B 34 2 v A.length (hCells A)
  nd : A.Nodup
  le : ∀ k ∈ A, k.2 ≤ N k.1
  lv : ∀ s g, L s = some g → (s, g) ∈ A
  len : A.length ≤ n
  msB : B ≤ ms
  ne1 : ms ≠ m1
  ne2 : ms ≠ m2
theorem row_kept {w w' : World} {B t sz n : Nat} {v : Value} {xs : List Value} (h : w.ownsRow B t sz v n xs) (hk : ∀ g, v.ownBlock = some g → w'.heap[g]? = w.heap[g]?) : w'.ownsRow B t sz v n xs := by
  refine ⟨h.1, ?_⟩
  rcases h.2 with e | ⟨g, cap, cur, e, h1, h2, h3⟩
  · exact .inl e
  · exact .inr ⟨g, cap, cur, e, h1, (hk g (by rw [e]; rfl)).trans h2, h3⟩
theorem row_cells {w : World} {B t sz n : Nat} {v : Value} {xs : List Value} (h : w.ownsRow B t sz v n xs) {g : Nat} (hg : v.ownBlock = some g) : ∃ cur, w.heap[g]? = some (.cells cur t (0, 0)) := by
  rcases h.2 with ⟨e, _⟩ | ⟨g', cap, cur, e, h1, h2, h3⟩
  · subst e; cases hg
  · subst e
    simp only [Value.ownBlock, Option.some.injEq] at hg
    subst hg
    exact ⟨cur, h2⟩
theorem HM.notcells {w : World} {m n : Nat} {F : HKey → Option Value} (h : HM w m n F) {cs : Array Value} {t : TypeId} {z : Nat × Nat} (e : w.heap[m]? = some (.cells cs t z)) : False := by
  obtain ⟨es, c, h1, _⟩ := h
  rw [h1] at e
  cases e
theorem IM.notcells {w : World} {m n : Nat} {F : Int → Option Value} (h : IM w m n F) {cs : Array Value} {t : TypeId} {z : Nat × Nat} (e : w.heap[m]? = some (.cells cs t z)) : False := by
  obtain ⟨es, c, h1, _⟩ := h
  rw [h1] at e
  cases e
theorem Tb.notcells {w : World} {B b m1 m2 : Nat} {N : Int → Nat} {L : Int → Option Nat} {n : Nat} (h : Tb w B b m1 m2 N L n) {g : Nat} {cs : Array Value} (e : w.heap[g]? = some (.cells cs 34 (0, 0))) : g ≠ b ∧ g ≠ m1 ∧ g ≠ m2 := by
  obtain ⟨F, hF, _⟩ := h.im1
  refine ⟨?_, ?_, ?_⟩
  · rintro rfl; rw [h.cells] at e; cases e
  · rintro rfl; exact hF.notcells e
  · rintro rfl; exact h.im2.notcells e
theorem On.below {w w' : World} {B b m1 m2 ms : Nat} {N : Int → Nat} {L : Int → Option Nat} {A : List HKey} {v : Value} {n n' : Nat} (h : On w B b m1 m2 ms N L A v n) (hb : Below w.heap.size w w') (hn : n ≤ n') (hm : n' ≤ 1000000) : On w' B b m1 m2 ms N L A v n' := by
  obtain ⟨k, hk⟩ := h.sm
  have := h.len
  exact ⟨(h.tb.below hb).mono hn hm, ⟨k, hk.keep (hb.block _ hk.lt)⟩, row_kept h.row (fun g hg => hb.block _ (by obtain ⟨c, e⟩ := row_cells h.row hg; exact heap_lt e)), h.nd, h.le, h.lv, by omega, h.msB, h.ne1, h.ne2⟩
/-- Behind a call of the table: all but the table is as it was. -/
theorem On.fh {w w' : World} {B b m1 m2 ms : Nat} {N : Int → Nat} {L : Int → Option Nat} {A : List HKey} {v : Value} {n : Nat} (h : On w B b m1 m2 ms N L A v n) (hF : Fh B m1 m2 w w') : (∃ k, HM w' ms k (seenF L A)) ∧ w'.ownsRow B 34 2 v A.length (hCells A) := by
  obtain ⟨k, hk⟩ := h.sm
  refine ⟨⟨k, hk.keep (hF.keep _ hk.lt h.ne1 h.ne2)⟩, row_kept h.row fun g hg => ?_⟩
  obtain ⟨c, e⟩ := row_cells h.row hg
  have := h.tb.notcells e
  exact hF.keep _ (heap_lt e) this.2.1 this.2.2
theorem seen_new {L : Int → Option Nat} {A : List HKey} {N : Int → Nat} {s : Int} (hle : ∀ k ∈ A, k.2 ≤ N k.1) (hL : L s = none) :
    seenF (updL L s (some (N s + 1))) (A ++ [(s, N s + 1)]) = updH (seenF L A) (s, N s + 1) (some (.int .i64 1)) := by
  funext k
  by_cases e : k = (s, N s + 1)
  · subst e
    simp [seenF, updH, sn, updL]
  · rw [updH, if_neg e]
    simp only [seenF, List.mem_append, List.mem_singleton, e, or_false]
    by_cases hk : k ∈ A
    · rw [if_pos hk, if_pos hk]
      have : sn (updL L s (some (N s + 1))) k = sn L k := by
        unfold sn updL
        by_cases e1 : k.1 = s
        · rw [if_pos e1, e1, hL]
          have h2 := hle k hk
          rw [e1] at h2
          rw [if_neg (by simp; omega), if_neg (by simp)]
        · rw [if_neg e1]
      rw [this]
    · rw [if_neg hk, if_neg hk]
theorem drL_yes {L : Int → Option Nat} {s : Int} {g : Nat} (h : L s = some g) : drL L s g = updL L s none := by simp [drL, h]
theorem drL_no {L : Int → Option Nat} {s : Int} {g : Nat} (h : ¬ L s = some g) : drL L s g = L := by
  have : (L s == some g) = false := by simpa using h
  simp [drL, this, h]
theorem seen_drop {L : Int → Option Nat} {A : List HKey} {h : HKey} (hA : h ∈ A) :
    seenF (drL L h.1 h.2) A = updH (seenF L A) h (some (.int .i64 2)) := by
  funext k
  by_cases e1 : L h.1 = some h.2
  · rw [drL_yes e1]
    by_cases e : k = h
    · subst e
      simp [updH, seenF, hA, sn, updL]
    · rw [updH, if_neg e]
      simp only [seenF]
      by_cases hk : k ∈ A
      · rw [if_pos hk, if_pos hk]
        have : sn (updL L h.1 none) k = sn L k := by
          unfold sn updL
          by_cases e2 : k.1 = h.1
          · rw [if_pos e2, e2, e1, if_neg (by simp), if_neg]
            intro e3
            exact e (Prod.ext e2 (by simpa using e3.symm))
          · rw [if_neg e2]
        rw [this]
      · rw [if_neg hk, if_neg hk]
  · rw [drL_no e1]
    by_cases e : k = h
    · subst e
      simp [updH, seenF, hA, sn, e1]
    · rw [updH, if_neg e]
theorem seen_at {L : Int → Option Nat} {A : List HKey} {k : HKey} (h : k ∈ A) : seenF L A k = some (.int .i64 (sn L k)) := by
  simp [seenF, h]
theorem seen_no {L : Int → Option Nat} {A : List HKey} {k : HKey} (h : k ∉ A) : seenF L A k = none := by
  simp [seenF, h]
/-- How many live. -/
theorem live_count {L : Int → Option Nat} {A : List HKey} {K : List Int} (hnd : A.Nodup) (hlv : ∀ s g, L s = some g → (s, g) ∈ A) (hup : K.Pairwise (· < ·)) (hmem : ∀ k, k ∈ K ↔ (L k).isSome = true) :
    K.length = (A.filter fun k => L k.1 == some k.2).length := by
  have h1 : (K.map fun k => ((k, (L k).getD 0) : HKey)).Nodup := by
    rw [List.Nodup, List.pairwise_map]
    exact hup.imp fun {a b} hab e => by have := congrArg Prod.fst e; simp at this; omega
  have h2 : (A.filter fun k => L k.1 == some k.2).Nodup := hnd.filter _
  have h3 : (K.map fun k => ((k, (L k).getD 0) : HKey)).Perm (A.filter fun k => L k.1 == some k.2) := by
    refine (List.perm_ext_iff_of_nodup h1 h2).2 fun k => ?_
    rw [List.mem_map, List.mem_filter]
    constructor
    · rintro ⟨s, hs, rfl⟩
      obtain ⟨g, hg⟩ := Option.isSome_iff_exists.1 ((hmem s).1 hs)
      simp only [hg, Option.getD_some, beq_self_eq_true, and_true]
      exact hlv s g hg
    · rintro ⟨hk, e⟩
      have e' : L k.1 = some k.2 := by simpa using e
      exact ⟨k.1, (hmem _).2 (by rw [e']; rfl), by rw [e']; rfl⟩
  have := h3.length_eq
  simpa using this
theorem zero3 (w : World) : (zeroValue 3).run Try.prog w = .ok (.int .i64 0) w := by kernel_rfl
/-- A handle is made, seen, and put behind all. -/
theorem On.made {w w1 w2 w3 : World} {B b m1 m2 ms : Nat} {N : Int → Nat} {L : Int → Option Nat} {A : List HKey} {v v' : Value} {n : Nat} {s : Int} {k : Nat} (h : On w B b m1 m2 ms N L A v n) (hs : 0 ≤ s) (hL : L s = none)
    (hT : Tb w1 B b m1 m2 (updN N s (N s + 1)) (updL L s (some (N s + 1))) (n + 1))
    (hm : HM w2 ms k (updH (seenF L A) (s, N s + 1) (some (.int .i64 1)))) (ht : w1.mapTurned w2 ms)
    (hrow : w3.ownsRow B 34 2 v' (A.length + 1) (hCells A ++ [.int .i64 s, .int .u64 ((N s : Int) + 1)])) (hk3 : ∀ i, i < w2.heap.size → some i ≠ v.ownBlock → w3.heap[i]? = w2.heap[i]?)
    (hrow2 : w2.ownsRow B 34 2 v A.length (hCells A)) :
    On w3 B b m1 m2 ms (updN N s (N s + 1)) (updL L s (some (N s + 1))) (A ++ [(s, N s + 1)]) v' (n + 1) := by
  have hF2 : Fh B ms ms w1 w2 := Fh.turn ht (.inl rfl) h.msB hT.size
  have hn1 := hT.nm
  obtain ⟨es, c, hes⟩ : ∃ es c, w1.heap[ms]? = some (.map es c) := by obtain ⟨es, c, _, _, e, _⟩ := ht; exact ⟨es, c, e⟩
  have hbs : b ≠ ms := by rintro rfl; rw [hT.cells] at hes; cases hes
  have hT2 := hT.other hF2 ⟨hbs, hbs⟩ ⟨Ne.symm h.ne1, Ne.symm h.ne1⟩ ⟨Ne.symm h.ne2, Ne.symm h.ne2⟩
  have hne : ∀ g, v.ownBlock = some g → g ≠ b ∧ g ≠ m1 ∧ g ≠ m2 ∧ g ≠ ms := fun g hg => by
    obtain ⟨cur, e⟩ := row_cells hrow2 hg
    have := hT2.notcells e
    refine ⟨this.1, this.2.1, this.2.2, ?_⟩
    rintro rfl
    exact hm.notcells e
  have hnb : ∀ i, (i = b ∨ i = m1 ∨ i = m2 ∨ i = ms) → some i ≠ v.ownBlock := fun i hi e => by
    have := hne i e.symm
    omega
  obtain ⟨G, hG1, hG2⟩ := hT2.im1
  refine ⟨⟨(hk3 _ (heap_lt hT2.cells) (hnb _ (by simp))).trans hT2.cells, hT2.bB, hT2.b1, hT2.b2, hT2.ne, hT2.nb, ⟨G, hG1.keep (hk3 _ hG1.lt (hnb _ (by simp))), hG2⟩, hT2.im2.keep (hk3 _ hT2.im2.lt (hnb _ (by simp))), hT2.bd, hT2.gen⟩, ⟨k, ?_⟩, ?_, ?_, ?_, ?_, ?_, h.msB, h.ne1, h.ne2⟩
  · rw [seen_new h.le hL]
    exact hm.keep (hk3 _ hm.lt (hnb _ (by simp)))
  · rw [hCells_app, List.length_append]
    simpa [hCells] using hrow
  · refine List.nodup_append.2 ⟨h.nd, by simp, fun a ha b' hb' => ?_⟩
    simp only [List.mem_singleton] at hb'
    subst hb'
    rintro rfl
    have := h.le _ ha
    simp at this
    omega
  · intro a ha
    simp only [List.mem_append, List.mem_singleton] at ha
    rcases ha with ha | rfl
    · have := h.le a ha
      unfold updN
      split
      · rename_i e; rw [e] at this; omega
      · exact this
    · simp [updN]
  · intro s' g hg
    unfold updL at hg
    split at hg
    · rename_i e
      simp only [Option.some.injEq] at hg
      subst hg e
      simp
    · simp only [List.mem_append]
      exact .inl (h.lv s' g hg)
  · have := h.len
    simp
    omega
/-- A handle is dropped. -/
theorem On.dropped {w w1 w2 : World} {B b m1 m2 ms : Nat} {N : Int → Nat} {L : Int → Option Nat} {A : List HKey} {v : Value} {n : Nat} {x : HKey} {k : Nat} (h : On w B b m1 m2 ms N L A v n) (hx : x ∈ A)
    (hT : Tb w1 B b m1 m2 N (drL L x.1 x.2) n) (hrow : w1.ownsRow B 34 2 v A.length (hCells A)) (hm : HM w2 ms k (updH (seenF L A) x (some (.int .i64 2)))) (ht : w1.mapTurned w2 ms) :
    On w2 B b m1 m2 ms N (drL L x.1 x.2) A v n := by
  have hF2 : Fh B ms ms w1 w2 := Fh.turn ht (.inl rfl) h.msB hT.size
  obtain ⟨es, c, hes⟩ : ∃ es c, w1.heap[ms]? = some (.map es c) := by obtain ⟨es, c, _, _, e, _⟩ := ht; exact ⟨es, c, e⟩
  have hbs : b ≠ ms := by rintro rfl; rw [hT.cells] at hes; cases hes
  refine ⟨hT.other hF2 ⟨hbs, hbs⟩ ⟨Ne.symm h.ne1, Ne.symm h.ne1⟩ ⟨Ne.symm h.ne2, Ne.symm h.ne2⟩, ⟨k, by rw [seen_drop hx]; exact hm⟩, row_kept hrow fun g hg => ?_, h.nd, h.le, fun s g hg => ?_, h.len, h.msB, h.ne1, h.ne2⟩
  · obtain ⟨cur, e⟩ := row_cells hrow hg
    have hne : g ≠ ms := by rintro rfl; rw [hes] at e; cases e
    exact hF2.keep _ (heap_lt e) hne hne
  · refine h.lv s g ?_
    unfold drL at hg
    split at hg
    · unfold updL at hg
      split at hg
      · cases hg
      · exact hg
    · exact hg
/-- A byte of a row. -/
theorem idx8 {w : World} {p : Option Addr} {C : List Int} (h : Row8 w p C) {i : Nat} (hi : i < C.length) (hl : C.length ≤ 100000) : ∃ b o x, w.cell? ⟨b, o, none⟩ = some (.int .u8 x) ∧ (0 ≤ x ∧ x ≤ 255) ∧ b < w.heap.size ∧ ∀ c W, (Instr.indexAt 45 (.slice p C.length c) (.int .i64 i)).run Try.prog W = .ok (.pointer (some ⟨b, o, none⟩)) W := by
  rcases h.2 with e | ⟨b, o, rfl, hb, hc⟩
  · subst e; simp at hi
  · refine ⟨b, o + i, C[i], hc i _ (List.getElem?_eq_getElem hi), h.1 _ (List.getElem_mem _), hb, fun c W => ?_⟩
    have hi2 : (i : Int) < C.length := by omega
    simp [go_sem, hi]
end Go.Proofs.Ytilohnmaaofipaa
