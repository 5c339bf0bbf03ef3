/- Towards the statements of package graph (layer 17): the i-th of a list. -/
import Derived.Test.YthgpbbpmfpfjnaaGA
namespace Go.Proofs.Ythgpbbpmfpfjnaa
open Go.ChangeShapes Go.WideShapes Go.ChangeAt Go.RowKit
set_option linter.unusedVariables false
set_option linter.unusedSimpArgs false
set_option maxRecDepth 20000
def o1 (o : Option HKey) : Int := (o.map Prod.fst).getD 0
def o2 (o : Option HKey) : Nat := (o.map Prod.snd).getD 0
theorem oV_eq (o : Option HKey) : oV o = .agg #[.int .i64 (o1 o), .int .u64 (o2 o)] := by cases o <;> rfl
theorem toV_eq (o : Option HKey) : T.oV o = .agg #[.int .i64 (o1 o), .int .u64 (o2 o)] := by cases o <;> rfl
def valOf : Value → Int
  | .int _ n => n
  | _ => 0
theorem nextM_at {K : List HKey} (hn : K.Nodup) {i : Nat} {k : HKey} (h : K[i]? = some k) : nextM K k = K[i + 1]? := by
  unfold nextM
  rw [idx_atG hn h]
theorem lat_out (w : World) (B l : Nat) (K : List HKey) (S : List Nat) (h : Li w B l K S) (i : Int) (hi : i < 0 ∨ (K.length : Int) ≤ i) :
    Calls Try.prog 86 #[.agg #[.pointer (some ⟨l, 0, none⟩)], .int .i64 i] w fun e w' => e = .returned (.tuple #[.agg #[.int .i64 0, .int .u64 0], .bool false]) ∧ Below w.heap.size w w' := by
  have hb1 := ((Below.refl _ w).alloc (Nat.le_refl _) (.cells #[.pointer (some ⟨l, 0, none⟩)] 87)).alloc (by simp) (.cells #[.int .i64 0, .int .u64 0] 31)
  have k1 := len_li _ B l K S (h.bel hb1)
  by_cases h0 : i < 0
  · have d : decide (i < 0) = true := decide_eq_true h0
    go_enter Try.func86, Try.ntmps86
    go_wp2_with (go_at_call 78; refine k1.mono ?_; rintro e w' ⟨rfl, hw⟩; rw [hw]; clear hw)
    all_goals go_returns
    all_goals exact ⟨rfl, hb1⟩
  · have d : decide (i < 0) = false := decide_eq_false h0
    have d2 : decide ((K.length : Int) ≤ i) = true := decide_eq_true (by omega)
    go_enter Try.func86, Try.ntmps86
    go_wp2_with (go_at_call 78; refine k1.mono ?_; rintro e w' ⟨rfl, hw⟩; rw [hw]; clear hw)
    all_goals go_returns
    all_goals exact ⟨rfl, hb1⟩
theorem lat_in (w : World) (B l : Nat) (K : List HKey) (S : List Nat) (h : Li w B l K S) (hl : K.length ≤ 100000) (n : Nat) (hn : n < K.length) :
    Calls Try.prog 86 #[.agg #[.pointer (some ⟨l, 0, none⟩)], .int .i64 n] w fun e w' => e = .returned (.tuple #[oV K[n]?, .bool true]) ∧ Below w.heap.size w w' := by
  have hb1 := ((Below.refl _ w).alloc (Nat.le_refl _) (.cells #[.pointer (some ⟨l, 0, none⟩)] 87)).alloc (by simp) (.cells #[.int .i64 0, .int .u64 0] 31)
  have y2 := heap_al (heap_alloc_new w (.cells #[.pointer (some ⟨l, 0, none⟩)] 87)) (.cells #[.int .i64 0, .int .u64 0] 31)
  have y4 := heap_alloc_new (w.alloc (.cells #[.pointer (some ⟨l, 0, none⟩)] 87)) (.cells #[.int .i64 0, .int .u64 0] 31)
  rw [World.size_alloc] at y4
  have d : decide ((n : Int) < 0) = false := decide_eq_false (by omega)
  have d2 : decide ((K.length : Int) ≤ n) = false := decide_eq_false (by omega)
  rw [oV_eq]
  generalize hko : K[n]? = ko
  go_enter Try.func86, Try.ntmps86
  go_upto_region 1 with fail
  generalize (w.alloc (.cells #[.pointer (some ⟨l, 0, none⟩)] 87)).alloc (.cells #[.int .i64 0, .int .u64 0] 31) = W at hb1 y2 y4 ⊢
  have h1 := h.bel hb1
  have c2 := cell_of y2 0
  have k1 := len_li _ B l K S h1
  have k2 := peek_li _ B l K S h1 true
  have he : endM K true = K[0]? := by rw [endM, if_pos rfl, List.head?_eq_getElem?]
  have hi0 : (endM K true).isSome = true := by rw [he]; cases K <;> simp at hn ⊢
  rw [hi0, he, oV_eq] at k2
  simp at c2
  go_upto_region 4 with (first | (go_at_call 78; refine k1.mono ?_; rintro e w' ⟨rfl, hw⟩; rw [hw]; clear hw) | (go_at_call 79; refine k2.mono ?_; rintro e w1 ⟨rfl, hb2⟩))
  have ya := heap_alloc_new w1 (.cells #[.int .i64 (o1 K[0]?), .int .u64 (o2 K[0]?)] 31)
  have y2' := heap_al ((hb2.block _ (heap_lt y2)).trans y2) (.cells #[.int .i64 (o1 K[0]?), .int .u64 (o2 K[0]?)] 31)
  have y4' := heap_al ((hb2.block _ (heap_lt y4)).trans y4) (.cells #[.int .i64 (o1 K[0]?), .int .u64 (o2 K[0]?)] 31)
  have hb3 : Below w.heap.size w (w1.alloc (.cells #[.int .i64 (o1 K[0]?), .int .u64 (o2 K[0]?)] 31)) := (hb1.trans (hb2.mono hb1.size)).alloc (hb1.trans (hb2.mono hb1.size)).size _
  have la : w.heap.size + 1 < w1.heap.size := Nat.lt_of_lt_of_le (heap_lt y4) hb2.size
  clear k1 k2 hb2 hb1 y2 y4 h1 c2 he hi0
  generalize w1.alloc (.cells #[.int .i64 (o1 K[0]?), .int .u64 (o2 K[0]?)] 31) = w2 at ya y2' y4' hb3 ⊢
  generalize w1.heap.size = a at ya la ⊢
  generalize hz : w.heap.size = z at y2' y4' hb3 la ⊢
  go_wp2
  go_loopw [7, 25] (fun n7 n25 wr => ∃ i : Nat, n7 = .bool true ∧ n25 = .int .i64 i ∧ i ≤ n ∧ Below z w wr ∧ wr.heap[a]? = some (.cells #[.int .i64 (o1 K[i]?), .int .u64 (o2 K[i]?)] 31 (0, 0)) ∧ wr.heap[z]? = some (.cells #[.pointer (some ⟨l, 0, none⟩)] 87 (0, 0)) ∧ wr.heap[z + 1]? = some (.cells #[.int .i64 0, .int .u64 0] 31 (0, 0))) (fun _ n25 _ => n - (valOf n25).toNat)
  case atStart => exact ⟨0, rfl, rfl, by omega, hb3, ya, y2', y4'⟩
  case round =>
    obtain ⟨i, rfl, rfl, hi, hbr, hya, hy2, hy4⟩ := hrel
    by_cases hin : i < n
    · have d3 : decide ((i : Int) < n) = true := by simpa using hin
      obtain ⟨k, hk⟩ : ∃ k, K[i]? = some k := ⟨K[i], List.getElem?_eq_getElem (by omega)⟩
      obtain ⟨k', hk'⟩ : ∃ k, K[i + 1]? = some k := ⟨K[i + 1], List.getElem?_eq_getElem (by omega)⟩
      rw [hk] at hya
      have e9 : IntKind.i64.wrap ((i : Int) + 1) = (i : Int) + 1 := IntWalk.i64_in _ (by omega)
      have a0 := cell_of hya 0
      have a1 := cell_of hya 1
      have c2 := cell_of hy2 0
      simp [o1, o2] at a0 a1 c2
      have k2 := next_li wr B l K S (h.bel (hz.symm ▸ hbr)) k
      rw [nextM_at h.nd hk, oV_eq, hk'] at k2
      simp only [Option.isSome_some] at k2
      go_upto_region 7 with (go_at_call 90; refine k2.mono ?_; rintro e w3 ⟨rfl, hb4⟩; have a0 := (hb4.cell (cell_lt a0)).trans a0; have a1 := (hb4.cell (cell_lt a1)).trans a1; have f0 := froz_of ((hb4.block _ (heap_lt hya)).trans hya) 0; have f1 := froz_of ((hb4.block _ (heap_lt hya)).trans hya) 1)
      have ya3 := (hb4.block _ (heap_lt hya)).trans hya
      have y23 := (hb4.block _ (heap_lt hy2)).trans hy2
      have y43 := (hb4.block _ (heap_lt hy4)).trans hy4
      have g1 := heap_setCell_same w3 a 0 _ _ (.int .i64 (o1 (some k'))) ya3
      have g2 := heap_setCell_same _ a 1 _ _ (.int .u64 (o2 (some k'))) g1
      have hw3 : Below z w w3 := hbr.trans (hb4.mono (hz ▸ hbr.size))
      have hw5 : Below z w ((w3.setCell ⟨a, 0, none⟩ (.int .i64 (o1 (some k')))).setCell ⟨a, 1, none⟩ (.int .u64 (o2 (some k')))) := (hw3.setCell (show z ≤ a by omega) _).setCell (show z ≤ a by omega) _
      have g3 : ((w3.setCell ⟨a, 0, none⟩ (.int .i64 (o1 (some k')))).setCell ⟨a, 1, none⟩ (.int .u64 (o2 (some k')))).heap[z]? = some (.cells #[.pointer (some ⟨l, 0, none⟩)] 87 (0, 0)) := by
        rw [Below.heap_setCell _ _ _ _ (by simp; omega), Below.heap_setCell _ _ _ _ (by simp; omega)]; exact y23
      have g4 : ((w3.setCell ⟨a, 0, none⟩ (.int .i64 (o1 (some k')))).setCell ⟨a, 1, none⟩ (.int .u64 (o2 (some k')))).heap[z + 1]? = some (.cells #[.int .i64 0, .int .u64 0] 31 (0, 0)) := by
        rw [Below.heap_setCell _ _ _ _ (by simp; omega), Below.heap_setCell _ _ _ _ (by simp; omega)]; exact y43
      rw [← hk'] at g2 g3 g4 hw5 ⊢
      generalize (w3.setCell ⟨a, 0, none⟩ (.int .i64 (o1 K[i + 1]?))).setCell ⟨a, 1, none⟩ (.int .u64 (o2 K[i + 1]?)) = W5 at g2 g3 g4 hw5 ⊢
      clear k2 a0 a1 c2 g1 ya3 y23 y43 hw3 hb4
      go_wp2
      exact ⟨⟨i + 1, rfl, by simp, by omega, hw5, by simpa using g2, g3, g4⟩, by simp [valOf]; omega⟩
    · have d3 : decide ((i : Int) < n) = false := decide_eq_false (by omega)
      obtain rfl : i = n := by omega
      rw [hko] at hya
      have a0 := cell_of hya 0
      have a1 := cell_of hya 1
      have z0 := cell_of hy4 0
      have z1 := cell_of hy4 1
      have f0 := froz_of hy4 0
      have f1 := froz_of hy4 1
      simp at a0 a1 z0 z1
      obtain ⟨s0, s1, s2, s3⟩ := put2 hy4 (.int .i64 (o1 ko)) (.int .u64 (o2 ko))
      go_wp2
      refine bodyPost_ret (by simp [results, Try.results86, go_sem, s0, s1, s2, s3]; try rfl) rfl ?_
      exact ⟨rfl, by subst hz; exact (hbr.setCell (Nat.le_succ _) _).setCell (Nat.le_succ _) _⟩
/-- The i-th of a row. -/
def atM (K : List HKey) (i : Int) : Option HKey := if i < 0 then none else K[i.toNat]?
theorem lat_any (w : World) (B l : Nat) (K : List HKey) (S : List Nat) (h : Li w B l K S) (hl : K.length ≤ 100000) (i : Int) :
    Calls Try.prog 86 #[.agg #[.pointer (some ⟨l, 0, none⟩)], .int .i64 i] w fun e w' => e = .returned (.tuple #[oV (atM K i), .bool (atM K i).isSome]) ∧ Below w.heap.size w w' := by
  by_cases hi : i < 0 ∨ (K.length : Int) ≤ i
  · have : atM K i = none := by
      unfold atM
      split
      · rfl
      · exact List.getElem?_eq_none (by omega)
    rw [this]
    exact lat_out w B l K S h i hi
  · obtain ⟨n, rfl⟩ : ∃ n : Nat, i = (n : Int) := ⟨i.toNat, by omega⟩
    have hn : n < K.length := by omega
    have : atM K (n : Int) = K[n]? := by unfold atM; rw [if_neg (by omega), Int.toNat_natCast]
    rw [this, List.getElem?_eq_getElem hn, ← List.getElem?_eq_getElem hn]
    have e := lat_in w B l K S h hl n hn
    rw [List.getElem?_eq_getElem hn] at e ⊢
    exact e
end Go.Proofs.Ythgpbbpmfpfjnaa
