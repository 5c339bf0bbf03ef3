/- Towards the statements of package insn (layer 7): which registers an instruction reads: contracts of Reads, the program's and the document's, for every instruction. -/
import Derived.Test.YthbmgfnifolcbaaKW
namespace Go.Proofs.Ythbmgfnifolcbaa
open Go.ChangeShapes Go.WideShapes Go.ChangeAt Go.RowKit
set_option linter.unusedVariables false
set_option linter.unusedSimpArgs false
set_option maxRecDepth 20000

/-- Which registers an instruction of kind k reads. -/
def rdL (k o d s : Int) : List Int :=
  if k = 1 then (if o / 16 = 11 then riseL (secL o s) else riseL (secL o s ++ [d]))
  else if k = 5 then riseL (secL o s ++ [d]) else if k = 2 then [s] else if k = 3 then [d] else if k = 4 then riseL [d, s] else if k = 8 then [0] else []

theorem reads_1m (o d s f i : Int) (h0 : 0 ≤ o) (h1 : o ≤ 255) (d0 : 0 ≤ d) (d1 : d ≤ 255) (s0 : 0 ≤ s) (s1 : s ≤ 255) (hk : kV o d s f i = 1) (hc : o / 16 = 11) (w : World) : Calls Try.prog 24 #[ins o d s f i] w fun e w' => ∃ v, e = .returned v ∧ Bytes8 w'.heap.size w' v (riseL (secL o s)) ∧ Below w.heap.size w w' := by
  go_enter Try.func24, Try.ntmps24
  go_upto_region 1 with fail
  have HG : Below w.heap.size w (w.alloc (Obj.cells #[.int .u8 o, .int .u8 d, .int .u8 s, .int .i16 f, .int .i32 i] 24)) := (Below.refl _ w).alloc (Nat.le_refl _) _
  have HB := At5.new w o d s f i
  generalize (w.alloc (Obj.cells #[.int .u8 o, .int .u8 d, .int .u8 s, .int .i16 f, .int .i32 i] 24)) = W at HG HB ⊢
  generalize hBs : w.heap.size = B at HB ⊢
  obtain ⟨c0, c1, c2, c3, c4⟩ := HB.cells
  go_wp2_with (first | (go_at_call 13; refine (kind_any _ _ _ _ _ h0 h1 d0 d1 s0 s1 _).mono ?_; rw [hk]; rintro e w' ⟨rfl, hg⟩; replace HB := HB.gr hg; replace HG := HG.trans (hg.below.mono HG.size); clear hg; obtain ⟨c0, c1, c2, c3, c4⟩ := HB.cells) | (go_at_call 15; refine (ex_gr (code_any _ _ _ _ _ h0 h1 _)).mono ?_; rw [hc]; rintro e w' ⟨rfl, hg⟩; replace HB := HB.gr hg; replace HG := HG.trans (hg.below.mono HG.size); clear hg; obtain ⟨c0, c1, c2, c3, c4⟩ := HB.cells) | (go_at_call 41; refine (second_any _ _ _ _ _ h0 h1 _).mono ?_; rintro e w' ⟨v, rfl, hs, hb⟩; replace HG := HG.trans (hb.mono HG.size); clear hb) | (go_at_call 40; refine (rising_any _ (secL o s) (Nat.le_trans (secL_len o s) (by decide)) _ hs.bytes).mono ?_; rintro e w2 ⟨v2, rfl, hv2, hb2⟩))
  go_returns
  exact ⟨_, rfl, hv2, HG.trans (hb2.mono HG.size)⟩
theorem reads_2 (o d s f i : Int) (h0 : 0 ≤ o) (h1 : o ≤ 255) (d0 : 0 ≤ d) (d1 : d ≤ 255) (s0 : 0 ≤ s) (s1 : s ≤ 255) (hk : kV o d s f i = 2) (w : World) : Calls Try.prog 24 #[ins o d s f i] w fun e w' => ∃ v, e = .returned v ∧ Bytes8 w'.heap.size w' v (riseL [s]) ∧ Below w.heap.size w w' := by
  go_enter Try.func24, Try.ntmps24
  go_upto_region 1 with fail
  have HG : Below w.heap.size w (w.alloc (Obj.cells #[.int .u8 o, .int .u8 d, .int .u8 s, .int .i16 f, .int .i32 i] 24)) := (Below.refl _ w).alloc (Nat.le_refl _) _
  have HB := At5.new w o d s f i
  generalize (w.alloc (Obj.cells #[.int .u8 o, .int .u8 d, .int .u8 s, .int .i16 f, .int .i32 i] 24)) = W at HG HB ⊢
  generalize hBs : w.heap.size = B at HB ⊢
  obtain ⟨c0, c1, c2, c3, c4⟩ := HB.cells
  go_wp2_with (first | (go_at_call 13; refine (kind_any _ _ _ _ _ h0 h1 d0 d1 s0 s1 _).mono ?_; rw [hk]; rintro e w' ⟨rfl, hg⟩; replace HB := HB.gr hg; replace HG := HG.trans (hg.below.mono HG.size); clear hg; obtain ⟨c0, c1, c2, c3, c4⟩ := HB.cells) | (go_at_call 40; refine (rising_any _ [s] (by simp) _ (bytes_one (by simp) (by simp))).mono ?_; rintro e w2 ⟨v2, rfl, hv2, hb2⟩))
  go_returns
  exact ⟨_, rfl, hv2, (HG.alloc HG.size _).trans (hb2.mono (by have := HG.size; simp; omega))⟩
theorem reads_3 (o d s f i : Int) (h0 : 0 ≤ o) (h1 : o ≤ 255) (d0 : 0 ≤ d) (d1 : d ≤ 255) (s0 : 0 ≤ s) (s1 : s ≤ 255) (hk : kV o d s f i = 3) (w : World) : Calls Try.prog 24 #[ins o d s f i] w fun e w' => ∃ v, e = .returned v ∧ Bytes8 w'.heap.size w' v (riseL [d]) ∧ Below w.heap.size w w' := by
  go_enter Try.func24, Try.ntmps24
  go_upto_region 1 with fail
  have HG : Below w.heap.size w (w.alloc (Obj.cells #[.int .u8 o, .int .u8 d, .int .u8 s, .int .i16 f, .int .i32 i] 24)) := (Below.refl _ w).alloc (Nat.le_refl _) _
  have HB := At5.new w o d s f i
  generalize (w.alloc (Obj.cells #[.int .u8 o, .int .u8 d, .int .u8 s, .int .i16 f, .int .i32 i] 24)) = W at HG HB ⊢
  generalize hBs : w.heap.size = B at HB ⊢
  obtain ⟨c0, c1, c2, c3, c4⟩ := HB.cells
  go_wp2_with (first | (go_at_call 13; refine (kind_any _ _ _ _ _ h0 h1 d0 d1 s0 s1 _).mono ?_; rw [hk]; rintro e w' ⟨rfl, hg⟩; replace HB := HB.gr hg; replace HG := HG.trans (hg.below.mono HG.size); clear hg; obtain ⟨c0, c1, c2, c3, c4⟩ := HB.cells) | (go_at_call 40; refine (rising_any _ [d] (by simp) _ (bytes_one (by simp) (by simp))).mono ?_; rintro e w2 ⟨v2, rfl, hv2, hb2⟩))
  go_returns
  exact ⟨_, rfl, hv2, (HG.alloc HG.size _).trans (hb2.mono (by have := HG.size; simp; omega))⟩
theorem reads_8 (o d s f i : Int) (h0 : 0 ≤ o) (h1 : o ≤ 255) (d0 : 0 ≤ d) (d1 : d ≤ 255) (s0 : 0 ≤ s) (s1 : s ≤ 255) (hk : kV o d s f i = 8) (w : World) : Calls Try.prog 24 #[ins o d s f i] w fun e w' => ∃ v, e = .returned v ∧ Bytes8 w'.heap.size w' v (riseL [0]) ∧ Below w.heap.size w w' := by
  go_enter Try.func24, Try.ntmps24
  go_upto_region 1 with fail
  have HG : Below w.heap.size w (w.alloc (Obj.cells #[.int .u8 o, .int .u8 d, .int .u8 s, .int .i16 f, .int .i32 i] 24)) := (Below.refl _ w).alloc (Nat.le_refl _) _
  have HB := At5.new w o d s f i
  generalize (w.alloc (Obj.cells #[.int .u8 o, .int .u8 d, .int .u8 s, .int .i16 f, .int .i32 i] 24)) = W at HG HB ⊢
  generalize hBs : w.heap.size = B at HB ⊢
  obtain ⟨c0, c1, c2, c3, c4⟩ := HB.cells
  go_wp2_with (first | (go_at_call 13; refine (kind_any _ _ _ _ _ h0 h1 d0 d1 s0 s1 _).mono ?_; rw [hk]; rintro e w' ⟨rfl, hg⟩; replace HB := HB.gr hg; replace HG := HG.trans (hg.below.mono HG.size); clear hg; obtain ⟨c0, c1, c2, c3, c4⟩ := HB.cells) | (go_at_call 40; refine (rising_any _ [0] (by simp) _ (bytes_one (by simp) (by simp))).mono ?_; rintro e w2 ⟨v2, rfl, hv2, hb2⟩))
  go_returns
  exact ⟨_, rfl, hv2, (HG.alloc HG.size _).trans (hb2.mono (by have := HG.size; simp; omega))⟩
theorem new2 (w : World) (x y : Int) : R2 (w.alloc (.cells #[.int .u8 x, .int .u8 y] 5)) w.heap.size x y := ⟨#[.int .u8 x, .int .u8 y], by show (w.heap.push _)[w.heap.size]? = _; simp, rfl, rfl⟩
theorem reads_4 (o d s f i : Int) (h0 : 0 ≤ o) (h1 : o ≤ 255) (d0 : 0 ≤ d) (d1 : d ≤ 255) (s0 : 0 ≤ s) (s1 : s ≤ 255) (hk : kV o d s f i = 4) (w : World) : Calls Try.prog 24 #[ins o d s f i] w fun e w' => ∃ v, e = .returned v ∧ Bytes8 w'.heap.size w' v (riseL [d, s]) ∧ Below w.heap.size w w' := by
  go_enter Try.func24, Try.ntmps24
  go_upto_region 1 with fail
  have HG : Below w.heap.size w (w.alloc (Obj.cells #[.int .u8 o, .int .u8 d, .int .u8 s, .int .i16 f, .int .i32 i] 24)) := (Below.refl _ w).alloc (Nat.le_refl _) _
  have HB := At5.new w o d s f i
  generalize (w.alloc (Obj.cells #[.int .u8 o, .int .u8 d, .int .u8 s, .int .i16 f, .int .i32 i] 24)) = W at HG HB ⊢
  generalize hBs : w.heap.size = B at HB ⊢
  obtain ⟨c0, c1, c2, c3, c4⟩ := HB.cells
  go_wp2_with (first | (go_at_call 13; refine (kind_any _ _ _ _ _ h0 h1 d0 d1 s0 s1 _).mono ?_; rw [hk]; rintro e w' ⟨rfl, hg⟩; replace HB := HB.gr hg; replace HG := HG.trans (hg.below.mono HG.size); clear hg; obtain ⟨c0, c1, c2, c3, c4⟩ := HB.cells) | (go_at_call 40; refine (rising_any _ [d, s] (by simp) _ (bytes_two (by simp) (new2 _ _ _))).mono ?_; rintro e w2 ⟨v2, rfl, hv2, hb2⟩))
  go_returns
  exact ⟨_, rfl, hv2, (HG.alloc HG.size _).trans (hb2.mono (by have := HG.size; simp; omega))⟩
theorem reads_no (o d s f i : Int) (h0 : 0 ≤ o) (h1 : o ≤ 255) (d0 : 0 ≤ d) (d1 : d ≤ 255) (s0 : 0 ≤ s) (s1 : s ≤ 255) (k : Int) (hk : kV o d s f i = k) (k1 : (k == 1) = false) (k5 : (k == 5) = false) (k2 : (k == 2) = false) (k3 : (k == 3) = false) (k4 : (k == 4) = false) (k8 : (k == 8) = false) (w : World) : Calls Try.prog 24 #[ins o d s f i] w fun e w' => ∃ v, e = .returned v ∧ Bytes8 w'.heap.size w' v ([]) ∧ Below w.heap.size w w' := by
  go_enter Try.func24, Try.ntmps24
  go_upto_region 1 with fail
  have HG : Below w.heap.size w (w.alloc (Obj.cells #[.int .u8 o, .int .u8 d, .int .u8 s, .int .i16 f, .int .i32 i] 24)) := (Below.refl _ w).alloc (Nat.le_refl _) _
  have HB := At5.new w o d s f i
  generalize (w.alloc (Obj.cells #[.int .u8 o, .int .u8 d, .int .u8 s, .int .i16 f, .int .i32 i] 24)) = W at HG HB ⊢
  generalize hBs : w.heap.size = B at HB ⊢
  obtain ⟨c0, c1, c2, c3, c4⟩ := HB.cells
  go_wp2_with (first | (go_at_call 13; refine (kind_any _ _ _ _ _ h0 h1 d0 d1 s0 s1 _).mono ?_; rw [hk]; rintro e w' ⟨rfl, hg⟩; replace HB := HB.gr hg; replace HG := HG.trans (hg.below.mono HG.size); clear hg; obtain ⟨c0, c1, c2, c3, c4⟩ := HB.cells))
  go_returns
  exact ⟨_, rfl, .inl ⟨rfl, rfl⟩, HG⟩
theorem reads_5 (o d s f i : Int) (h0 : 0 ≤ o) (h1 : o ≤ 255) (d0 : 0 ≤ d) (d1 : d ≤ 255) (s0 : 0 ≤ s) (s1 : s ≤ 255) (hk : kV o d s f i = 5) (w : World) : Calls Try.prog 24 #[ins o d s f i] w fun e w' => ∃ v, e = .returned v ∧ Bytes8 w'.heap.size w' v (riseL (secL o s ++ [d])) ∧ Below w.heap.size w w' := by
  go_enter Try.func24, Try.ntmps24
  go_upto_region 1 with fail
  have HG : Below w.heap.size w (w.alloc (Obj.cells #[.int .u8 o, .int .u8 d, .int .u8 s, .int .i16 f, .int .i32 i] 24)) := (Below.refl _ w).alloc (Nat.le_refl _) _
  have HB := At5.new w o d s f i
  generalize (w.alloc (Obj.cells #[.int .u8 o, .int .u8 d, .int .u8 s, .int .i16 f, .int .i32 i] 24)) = W at HG HB ⊢
  generalize hBs : w.heap.size = B at HB ⊢
  obtain ⟨c0, c1, c2, c3, c4⟩ := HB.cells
  go_upto_region 10 with (first | (go_at_call 13; refine (kind_any _ _ _ _ _ h0 h1 d0 d1 s0 s1 _).mono ?_; rw [hk]; rintro e w' ⟨rfl, hg⟩; replace HB := HB.gr hg; replace HG := HG.trans (hg.below.mono HG.size); clear hg; obtain ⟨c0, c1, c2, c3, c4⟩ := HB.cells))
  refine reg10 _ B o d s f i h0 h1 HB _ _ rfl rfl rfl ?_
  intro a' w2 v2 hsz hdf h2 hv2 hb2
  clear HB c0 c1 c2 c3 c4
  obtain ⟨tm, df⟩ := a'
  subst hdf
  go_wp2
  refine bodyPost_ret (v := v2) (by simp [results, Try.results24, go_sem, h2]) rfl ?_
  rw [hBs] at HG
  refine ⟨v2, rfl, hv2, HG.trans (hb2.mono ?_)⟩
  rw [← hBs]; exact HG.size
theorem reads_1n (o d s f i : Int) (h0 : 0 ≤ o) (h1 : o ≤ 255) (d0 : 0 ≤ d) (d1 : d ≤ 255) (s0 : 0 ≤ s) (s1 : s ≤ 255) (hk : kV o d s f i = 1) (hc : (o / 16 == 11) = false) (w : World) : Calls Try.prog 24 #[ins o d s f i] w fun e w' => ∃ v, e = .returned v ∧ Bytes8 w'.heap.size w' v (riseL (secL o s ++ [d])) ∧ Below w.heap.size w w' := by
  go_enter Try.func24, Try.ntmps24
  go_upto_region 1 with fail
  have HG : Below w.heap.size w (w.alloc (Obj.cells #[.int .u8 o, .int .u8 d, .int .u8 s, .int .i16 f, .int .i32 i] 24)) := (Below.refl _ w).alloc (Nat.le_refl _) _
  have HB := At5.new w o d s f i
  generalize (w.alloc (Obj.cells #[.int .u8 o, .int .u8 d, .int .u8 s, .int .i16 f, .int .i32 i] 24)) = W at HG HB ⊢
  generalize hBs : w.heap.size = B at HB ⊢
  obtain ⟨c0, c1, c2, c3, c4⟩ := HB.cells
  go_upto_region 10 with (first | (go_at_call 13; refine (kind_any _ _ _ _ _ h0 h1 d0 d1 s0 s1 _).mono ?_; rw [hk]; rintro e w' ⟨rfl, hg⟩; replace HB := HB.gr hg; replace HG := HG.trans (hg.below.mono HG.size); clear hg; obtain ⟨c0, c1, c2, c3, c4⟩ := HB.cells) | (go_at_call 15; refine (ex_gr (code_any _ _ _ _ _ h0 h1 _)).mono ?_; rintro e w' ⟨rfl, hg⟩; replace HB := HB.gr hg; replace HG := HG.trans (hg.below.mono HG.size); clear hg; obtain ⟨c0, c1, c2, c3, c4⟩ := HB.cells))
  refine reg10 _ B o d s f i h0 h1 HB _ _ rfl rfl rfl ?_
  intro a' w2 v2 hsz hdf h2 hv2 hb2
  clear HB c0 c1 c2 c3 c4
  obtain ⟨tm, df⟩ := a'
  subst hdf
  go_wp2
  refine bodyPost_ret (v := v2) (by simp [results, Try.results24, go_sem, h2]) rfl ?_
  rw [hBs] at HG
  refine ⟨v2, rfl, hv2, HG.trans (hb2.mono ?_)⟩
  rw [← hBs]; exact HG.size
theorem reads_any (o d s f i : Int) (h0 : 0 ≤ o) (h1 : o ≤ 255) (d0 : 0 ≤ d) (d1 : d ≤ 255) (s0 : 0 ≤ s) (s1 : s ≤ 255) (w : World) : Calls Try.prog 24 #[ins o d s f i] w fun e w' => ∃ v, e = .returned v ∧ Bytes8 w'.heap.size w' v (rdL (kV o d s f i) o d s) ∧ Below w.heap.size w w' := by
  by_cases k1 : kV o d s f i = 1
  · by_cases hc : o / 16 = 11
    · rw [show rdL (kV o d s f i) o d s = riseL (secL o s) by simp [rdL, k1, hc]]; exact reads_1m _ _ _ _ _ h0 h1 d0 d1 s0 s1 k1 hc w
    · rw [show rdL (kV o d s f i) o d s = riseL (secL o s ++ [d]) by simp [rdL, k1, hc]]; exact reads_1n _ _ _ _ _ h0 h1 d0 d1 s0 s1 k1 (by simp [hc]) w
  by_cases k5 : kV o d s f i = 5
  · rw [show rdL (kV o d s f i) o d s = riseL (secL o s ++ [d]) by simp [rdL, k5]]; exact reads_5 _ _ _ _ _ h0 h1 d0 d1 s0 s1 k5 w
  by_cases k2 : kV o d s f i = 2
  · rw [show rdL (kV o d s f i) o d s = riseL [s] by simp [rdL, k2, riseL]]; exact reads_2 _ _ _ _ _ h0 h1 d0 d1 s0 s1 k2 w
  by_cases k3 : kV o d s f i = 3
  · rw [show rdL (kV o d s f i) o d s = riseL [d] by simp [rdL, k3, riseL]]; exact reads_3 _ _ _ _ _ h0 h1 d0 d1 s0 s1 k3 w
  by_cases k4 : kV o d s f i = 4
  · rw [show rdL (kV o d s f i) o d s = riseL [d, s] by simp [rdL, k4]]; exact reads_4 _ _ _ _ _ h0 h1 d0 d1 s0 s1 k4 w
  by_cases k8 : kV o d s f i = 8
  · rw [show rdL (kV o d s f i) o d s = riseL [0] by simp [rdL, k8, riseL]]; exact reads_8 _ _ _ _ _ h0 h1 d0 d1 s0 s1 k8 w
  rw [show rdL (kV o d s f i) o d s = [] by simp [rdL, k1, k2, k3, k4, k5, k8]]
  exact reads_no _ _ _ _ _ h0 h1 d0 d1 s0 s1 _ rfl (by simp [k1]) (by simp [k5]) (by simp [k2]) (by simp [k3]) (by simp [k4]) (by simp [k8]) w
theorem rise_two (a b : Int) : riseL [a, b] = if a = b then [a] else [min a b, max a b] := rfl
theorem two_any (a b : Int) (w : World) : Calls Try.prog 42 #[.int .u8 a, .int .u8 b] w fun e w' => ∃ v, e = .returned v ∧ Bytes8 w'.heap.size w' v (riseL [a, b]) ∧ Below w.heap.size w w' := by
  by_cases h : a = b
  · rw [rise_two, if_pos h]
    have hd : (a == b) = true := by simp [h]
    clear h
    go_enter Try.func42, Try.ntmps42
    go_wp2
    go_returns
    exact ⟨_, rfl, bytes_one (by simp) (by simp), (Below.refl _ w).alloc (Nat.le_refl _) _⟩
  · rw [rise_two, if_neg h]
    have hd : (a == b) = false := by simp [h]
    rcases Int.lt_or_le a b with hl | hl
    · rw [show min a b = a by omega, show max a b = b by omega]
      clear h
      go_enter Try.func42, Try.ntmps42
      go_wp2
      all_goals first | omega | skip
      all_goals go_returns
      all_goals exact ⟨_, rfl, bytes_two (by simp) (new2 _ _ _), (Below.refl _ w).alloc (Nat.le_refl _) _⟩
    · rw [show min a b = b by omega, show max a b = a by omega]
      replace hl : b < a := by omega
      clear h
      go_enter Try.func42, Try.ntmps42
      go_wp2
      all_goals first | omega | skip
      all_goals go_returns
      all_goals exact ⟨_, rfl, bytes_two (by simp) (new2 _ _ _), (Below.refl _ w).alloc (Nat.le_refl _) _⟩
theorem rreads_1mx (o d s f i : Int) (h0 : 0 ≤ o) (h1 : o ≤ 255) (d0 : 0 ≤ d) (d1 : d ≤ 255) (s0 : 0 ≤ s) (s1 : s ≤ 255) (hk : kV o d s f i = 1) (hc : o / 16 = 11) (hx : xB o = true) (w : World) : Calls Try.prog 25 #[ins o d s f i] w fun e w' => ∃ v, e = .returned v ∧ Bytes8 w'.heap.size w' v ([s]) ∧ Below w.heap.size w w' := by
  go_enter Try.func25, Try.ntmps25
  go_upto_region 1 with fail
  have HG : Below w.heap.size w (w.alloc (Obj.cells #[.int .u8 o, .int .u8 d, .int .u8 s, .int .i16 f, .int .i32 i] 24)) := (Below.refl _ w).alloc (Nat.le_refl _) _
  have HB := At5.new w o d s f i
  generalize (w.alloc (Obj.cells #[.int .u8 o, .int .u8 d, .int .u8 s, .int .i16 f, .int .i32 i] 24)) = W at HG HB ⊢
  generalize hBs : w.heap.size = B at HB ⊢
  obtain ⟨c0, c1, c2, c3, c4⟩ := HB.cells
  go_wp2_with (first | (go_at_call 14; refine (rkind_any _ _ _ _ _ h0 h1 d0 d1 s0 s1 _).mono ?_; rw [hk]; rintro e w' ⟨rfl, hg⟩; replace HB := HB.gr hg; replace HG := HG.trans (hg.below.mono HG.size); clear hg; obtain ⟨c0, c1, c2, c3, c4⟩ := HB.cells) | (go_at_call 16; refine (ex_gr (rcode_any _ _ _ _ _ h0 h1 _)).mono ?_; rw [hc]; rintro e w' ⟨rfl, hg⟩; replace HB := HB.gr hg; replace HG := HG.trans (hg.below.mono HG.size); clear hg; obtain ⟨c0, c1, c2, c3, c4⟩ := HB.cells) | (go_at_call 35; refine (ex_gr (rx_any _ _ _ _ _ h0 h1 _)).mono ?_; rw [hx]; rintro e w' ⟨rfl, hg⟩; replace HB := HB.gr hg; replace HG := HG.trans (hg.below.mono HG.size); clear hg; obtain ⟨c0, c1, c2, c3, c4⟩ := HB.cells))
  go_returns
  exact ⟨_, rfl, bytes_one (by simp) (by simp), HG.alloc HG.size _⟩
theorem rreads_1mn (o d s f i : Int) (h0 : 0 ≤ o) (h1 : o ≤ 255) (d0 : 0 ≤ d) (d1 : d ≤ 255) (s0 : 0 ≤ s) (s1 : s ≤ 255) (hk : kV o d s f i = 1) (hc : o / 16 = 11) (hx : xB o = false) (w : World) : Calls Try.prog 25 #[ins o d s f i] w fun e w' => ∃ v, e = .returned v ∧ Bytes8 w'.heap.size w' v ([]) ∧ Below w.heap.size w w' := by
  go_enter Try.func25, Try.ntmps25
  go_upto_region 1 with fail
  have HG : Below w.heap.size w (w.alloc (Obj.cells #[.int .u8 o, .int .u8 d, .int .u8 s, .int .i16 f, .int .i32 i] 24)) := (Below.refl _ w).alloc (Nat.le_refl _) _
  have HB := At5.new w o d s f i
  generalize (w.alloc (Obj.cells #[.int .u8 o, .int .u8 d, .int .u8 s, .int .i16 f, .int .i32 i] 24)) = W at HG HB ⊢
  generalize hBs : w.heap.size = B at HB ⊢
  obtain ⟨c0, c1, c2, c3, c4⟩ := HB.cells
  go_wp2_with (first | (go_at_call 14; refine (rkind_any _ _ _ _ _ h0 h1 d0 d1 s0 s1 _).mono ?_; rw [hk]; rintro e w' ⟨rfl, hg⟩; replace HB := HB.gr hg; replace HG := HG.trans (hg.below.mono HG.size); clear hg; obtain ⟨c0, c1, c2, c3, c4⟩ := HB.cells) | (go_at_call 16; refine (ex_gr (rcode_any _ _ _ _ _ h0 h1 _)).mono ?_; rw [hc]; rintro e w' ⟨rfl, hg⟩; replace HB := HB.gr hg; replace HG := HG.trans (hg.below.mono HG.size); clear hg; obtain ⟨c0, c1, c2, c3, c4⟩ := HB.cells) | (go_at_call 35; refine (ex_gr (rx_any _ _ _ _ _ h0 h1 _)).mono ?_; rw [hx]; rintro e w' ⟨rfl, hg⟩; replace HB := HB.gr hg; replace HG := HG.trans (hg.below.mono HG.size); clear hg; obtain ⟨c0, c1, c2, c3, c4⟩ := HB.cells))
  go_returns
  exact ⟨_, rfl, .inl ⟨rfl, rfl⟩, HG⟩
theorem rreads_1x (o d s f i : Int) (h0 : 0 ≤ o) (h1 : o ≤ 255) (d0 : 0 ≤ d) (d1 : d ≤ 255) (s0 : 0 ≤ s) (s1 : s ≤ 255) (hk : kV o d s f i = 1) (hc : (o / 16 == 11) = false) (hx : xB o = true) (w : World) : Calls Try.prog 25 #[ins o d s f i] w fun e w' => ∃ v, e = .returned v ∧ Bytes8 w'.heap.size w' v (riseL [d, s]) ∧ Below w.heap.size w w' := by
  go_enter Try.func25, Try.ntmps25
  go_upto_region 1 with fail
  have HG : Below w.heap.size w (w.alloc (Obj.cells #[.int .u8 o, .int .u8 d, .int .u8 s, .int .i16 f, .int .i32 i] 24)) := (Below.refl _ w).alloc (Nat.le_refl _) _
  have HB := At5.new w o d s f i
  generalize (w.alloc (Obj.cells #[.int .u8 o, .int .u8 d, .int .u8 s, .int .i16 f, .int .i32 i] 24)) = W at HG HB ⊢
  generalize hBs : w.heap.size = B at HB ⊢
  obtain ⟨c0, c1, c2, c3, c4⟩ := HB.cells
  go_wp2_with (first | (go_at_call 14; refine (rkind_any _ _ _ _ _ h0 h1 d0 d1 s0 s1 _).mono ?_; rw [hk]; rintro e w' ⟨rfl, hg⟩; replace HB := HB.gr hg; replace HG := HG.trans (hg.below.mono HG.size); clear hg; obtain ⟨c0, c1, c2, c3, c4⟩ := HB.cells) | (go_at_call 16; refine (ex_gr (rcode_any _ _ _ _ _ h0 h1 _)).mono ?_; rintro e w' ⟨rfl, hg⟩; replace HB := HB.gr hg; replace HG := HG.trans (hg.below.mono HG.size); clear hg; obtain ⟨c0, c1, c2, c3, c4⟩ := HB.cells) | (go_at_call 35; refine (ex_gr (rx_any _ _ _ _ _ h0 h1 _)).mono ?_; rw [hx]; rintro e w' ⟨rfl, hg⟩; replace HB := HB.gr hg; replace HG := HG.trans (hg.below.mono HG.size); clear hg; obtain ⟨c0, c1, c2, c3, c4⟩ := HB.cells) | (go_at_call 42; refine (two_any _ _ _).mono ?_; rintro e w2 ⟨v2, rfl, hv2, hb2⟩))
  go_returns
  exact ⟨_, rfl, hv2, HG.trans (hb2.mono HG.size)⟩
theorem rreads_1n (o d s f i : Int) (h0 : 0 ≤ o) (h1 : o ≤ 255) (d0 : 0 ≤ d) (d1 : d ≤ 255) (s0 : 0 ≤ s) (s1 : s ≤ 255) (hk : kV o d s f i = 1) (hc : (o / 16 == 11) = false) (hx : xB o = false) (w : World) : Calls Try.prog 25 #[ins o d s f i] w fun e w' => ∃ v, e = .returned v ∧ Bytes8 w'.heap.size w' v ([d]) ∧ Below w.heap.size w w' := by
  go_enter Try.func25, Try.ntmps25
  go_upto_region 1 with fail
  have HG : Below w.heap.size w (w.alloc (Obj.cells #[.int .u8 o, .int .u8 d, .int .u8 s, .int .i16 f, .int .i32 i] 24)) := (Below.refl _ w).alloc (Nat.le_refl _) _
  have HB := At5.new w o d s f i
  generalize (w.alloc (Obj.cells #[.int .u8 o, .int .u8 d, .int .u8 s, .int .i16 f, .int .i32 i] 24)) = W at HG HB ⊢
  generalize hBs : w.heap.size = B at HB ⊢
  obtain ⟨c0, c1, c2, c3, c4⟩ := HB.cells
  go_wp2_with (first | (go_at_call 14; refine (rkind_any _ _ _ _ _ h0 h1 d0 d1 s0 s1 _).mono ?_; rw [hk]; rintro e w' ⟨rfl, hg⟩; replace HB := HB.gr hg; replace HG := HG.trans (hg.below.mono HG.size); clear hg; obtain ⟨c0, c1, c2, c3, c4⟩ := HB.cells) | (go_at_call 16; refine (ex_gr (rcode_any _ _ _ _ _ h0 h1 _)).mono ?_; rintro e w' ⟨rfl, hg⟩; replace HB := HB.gr hg; replace HG := HG.trans (hg.below.mono HG.size); clear hg; obtain ⟨c0, c1, c2, c3, c4⟩ := HB.cells) | (go_at_call 35; refine (ex_gr (rx_any _ _ _ _ _ h0 h1 _)).mono ?_; rw [hx]; rintro e w' ⟨rfl, hg⟩; replace HB := HB.gr hg; replace HG := HG.trans (hg.below.mono HG.size); clear hg; obtain ⟨c0, c1, c2, c3, c4⟩ := HB.cells))
  go_returns
  exact ⟨_, rfl, bytes_one (by simp) (by simp), HG.alloc HG.size _⟩
theorem rreads_5x (o d s f i : Int) (h0 : 0 ≤ o) (h1 : o ≤ 255) (d0 : 0 ≤ d) (d1 : d ≤ 255) (s0 : 0 ≤ s) (s1 : s ≤ 255) (hk : kV o d s f i = 5) (hx : xB o = true) (w : World) : Calls Try.prog 25 #[ins o d s f i] w fun e w' => ∃ v, e = .returned v ∧ Bytes8 w'.heap.size w' v (riseL [d, s]) ∧ Below w.heap.size w w' := by
  go_enter Try.func25, Try.ntmps25
  go_upto_region 1 with fail
  have HG : Below w.heap.size w (w.alloc (Obj.cells #[.int .u8 o, .int .u8 d, .int .u8 s, .int .i16 f, .int .i32 i] 24)) := (Below.refl _ w).alloc (Nat.le_refl _) _
  have HB := At5.new w o d s f i
  generalize (w.alloc (Obj.cells #[.int .u8 o, .int .u8 d, .int .u8 s, .int .i16 f, .int .i32 i] 24)) = W at HG HB ⊢
  generalize hBs : w.heap.size = B at HB ⊢
  obtain ⟨c0, c1, c2, c3, c4⟩ := HB.cells
  go_wp2_with (first | (go_at_call 14; refine (rkind_any _ _ _ _ _ h0 h1 d0 d1 s0 s1 _).mono ?_; rw [hk]; rintro e w' ⟨rfl, hg⟩; replace HB := HB.gr hg; replace HG := HG.trans (hg.below.mono HG.size); clear hg; obtain ⟨c0, c1, c2, c3, c4⟩ := HB.cells) | (go_at_call 35; refine (ex_gr (rx_any _ _ _ _ _ h0 h1 _)).mono ?_; rw [hx]; rintro e w' ⟨rfl, hg⟩; replace HB := HB.gr hg; replace HG := HG.trans (hg.below.mono HG.size); clear hg; obtain ⟨c0, c1, c2, c3, c4⟩ := HB.cells) | (go_at_call 42; refine (two_any _ _ _).mono ?_; rintro e w2 ⟨v2, rfl, hv2, hb2⟩))
  go_returns
  exact ⟨_, rfl, hv2, HG.trans (hb2.mono HG.size)⟩
theorem rreads_5n (o d s f i : Int) (h0 : 0 ≤ o) (h1 : o ≤ 255) (d0 : 0 ≤ d) (d1 : d ≤ 255) (s0 : 0 ≤ s) (s1 : s ≤ 255) (hk : kV o d s f i = 5) (hx : xB o = false) (w : World) : Calls Try.prog 25 #[ins o d s f i] w fun e w' => ∃ v, e = .returned v ∧ Bytes8 w'.heap.size w' v ([d]) ∧ Below w.heap.size w w' := by
  go_enter Try.func25, Try.ntmps25
  go_upto_region 1 with fail
  have HG : Below w.heap.size w (w.alloc (Obj.cells #[.int .u8 o, .int .u8 d, .int .u8 s, .int .i16 f, .int .i32 i] 24)) := (Below.refl _ w).alloc (Nat.le_refl _) _
  have HB := At5.new w o d s f i
  generalize (w.alloc (Obj.cells #[.int .u8 o, .int .u8 d, .int .u8 s, .int .i16 f, .int .i32 i] 24)) = W at HG HB ⊢
  generalize hBs : w.heap.size = B at HB ⊢
  obtain ⟨c0, c1, c2, c3, c4⟩ := HB.cells
  go_wp2_with (first | (go_at_call 14; refine (rkind_any _ _ _ _ _ h0 h1 d0 d1 s0 s1 _).mono ?_; rw [hk]; rintro e w' ⟨rfl, hg⟩; replace HB := HB.gr hg; replace HG := HG.trans (hg.below.mono HG.size); clear hg; obtain ⟨c0, c1, c2, c3, c4⟩ := HB.cells) | (go_at_call 35; refine (ex_gr (rx_any _ _ _ _ _ h0 h1 _)).mono ?_; rw [hx]; rintro e w' ⟨rfl, hg⟩; replace HB := HB.gr hg; replace HG := HG.trans (hg.below.mono HG.size); clear hg; obtain ⟨c0, c1, c2, c3, c4⟩ := HB.cells))
  go_returns
  exact ⟨_, rfl, bytes_one (by simp) (by simp), HG.alloc HG.size _⟩
theorem rreads_2 (o d s f i : Int) (h0 : 0 ≤ o) (h1 : o ≤ 255) (d0 : 0 ≤ d) (d1 : d ≤ 255) (s0 : 0 ≤ s) (s1 : s ≤ 255) (hk : kV o d s f i = 2) (w : World) : Calls Try.prog 25 #[ins o d s f i] w fun e w' => ∃ v, e = .returned v ∧ Bytes8 w'.heap.size w' v ([s]) ∧ Below w.heap.size w w' := by
  go_enter Try.func25, Try.ntmps25
  go_upto_region 1 with fail
  have HG : Below w.heap.size w (w.alloc (Obj.cells #[.int .u8 o, .int .u8 d, .int .u8 s, .int .i16 f, .int .i32 i] 24)) := (Below.refl _ w).alloc (Nat.le_refl _) _
  have HB := At5.new w o d s f i
  generalize (w.alloc (Obj.cells #[.int .u8 o, .int .u8 d, .int .u8 s, .int .i16 f, .int .i32 i] 24)) = W at HG HB ⊢
  generalize hBs : w.heap.size = B at HB ⊢
  obtain ⟨c0, c1, c2, c3, c4⟩ := HB.cells
  go_wp2_with (first | (go_at_call 14; refine (rkind_any _ _ _ _ _ h0 h1 d0 d1 s0 s1 _).mono ?_; rw [hk]; rintro e w' ⟨rfl, hg⟩; replace HB := HB.gr hg; replace HG := HG.trans (hg.below.mono HG.size); clear hg; obtain ⟨c0, c1, c2, c3, c4⟩ := HB.cells))
  go_returns
  exact ⟨_, rfl, bytes_one (by simp) (by simp), HG.alloc HG.size _⟩
theorem rreads_3 (o d s f i : Int) (h0 : 0 ≤ o) (h1 : o ≤ 255) (d0 : 0 ≤ d) (d1 : d ≤ 255) (s0 : 0 ≤ s) (s1 : s ≤ 255) (hk : kV o d s f i = 3) (w : World) : Calls Try.prog 25 #[ins o d s f i] w fun e w' => ∃ v, e = .returned v ∧ Bytes8 w'.heap.size w' v ([d]) ∧ Below w.heap.size w w' := by
  go_enter Try.func25, Try.ntmps25
  go_upto_region 1 with fail
  have HG : Below w.heap.size w (w.alloc (Obj.cells #[.int .u8 o, .int .u8 d, .int .u8 s, .int .i16 f, .int .i32 i] 24)) := (Below.refl _ w).alloc (Nat.le_refl _) _
  have HB := At5.new w o d s f i
  generalize (w.alloc (Obj.cells #[.int .u8 o, .int .u8 d, .int .u8 s, .int .i16 f, .int .i32 i] 24)) = W at HG HB ⊢
  generalize hBs : w.heap.size = B at HB ⊢
  obtain ⟨c0, c1, c2, c3, c4⟩ := HB.cells
  go_wp2_with (first | (go_at_call 14; refine (rkind_any _ _ _ _ _ h0 h1 d0 d1 s0 s1 _).mono ?_; rw [hk]; rintro e w' ⟨rfl, hg⟩; replace HB := HB.gr hg; replace HG := HG.trans (hg.below.mono HG.size); clear hg; obtain ⟨c0, c1, c2, c3, c4⟩ := HB.cells))
  go_returns
  exact ⟨_, rfl, bytes_one (by simp) (by simp), HG.alloc HG.size _⟩
theorem rreads_8 (o d s f i : Int) (h0 : 0 ≤ o) (h1 : o ≤ 255) (d0 : 0 ≤ d) (d1 : d ≤ 255) (s0 : 0 ≤ s) (s1 : s ≤ 255) (hk : kV o d s f i = 8) (w : World) : Calls Try.prog 25 #[ins o d s f i] w fun e w' => ∃ v, e = .returned v ∧ Bytes8 w'.heap.size w' v ([0]) ∧ Below w.heap.size w w' := by
  go_enter Try.func25, Try.ntmps25
  go_upto_region 1 with fail
  have HG : Below w.heap.size w (w.alloc (Obj.cells #[.int .u8 o, .int .u8 d, .int .u8 s, .int .i16 f, .int .i32 i] 24)) := (Below.refl _ w).alloc (Nat.le_refl _) _
  have HB := At5.new w o d s f i
  generalize (w.alloc (Obj.cells #[.int .u8 o, .int .u8 d, .int .u8 s, .int .i16 f, .int .i32 i] 24)) = W at HG HB ⊢
  generalize hBs : w.heap.size = B at HB ⊢
  obtain ⟨c0, c1, c2, c3, c4⟩ := HB.cells
  go_wp2_with (first | (go_at_call 14; refine (rkind_any _ _ _ _ _ h0 h1 d0 d1 s0 s1 _).mono ?_; rw [hk]; rintro e w' ⟨rfl, hg⟩; replace HB := HB.gr hg; replace HG := HG.trans (hg.below.mono HG.size); clear hg; obtain ⟨c0, c1, c2, c3, c4⟩ := HB.cells))
  go_returns
  exact ⟨_, rfl, bytes_one (by simp) (by simp), HG.alloc HG.size _⟩
theorem rreads_4 (o d s f i : Int) (h0 : 0 ≤ o) (h1 : o ≤ 255) (d0 : 0 ≤ d) (d1 : d ≤ 255) (s0 : 0 ≤ s) (s1 : s ≤ 255) (hk : kV o d s f i = 4) (w : World) : Calls Try.prog 25 #[ins o d s f i] w fun e w' => ∃ v, e = .returned v ∧ Bytes8 w'.heap.size w' v (riseL [d, s]) ∧ Below w.heap.size w w' := by
  go_enter Try.func25, Try.ntmps25
  go_upto_region 1 with fail
  have HG : Below w.heap.size w (w.alloc (Obj.cells #[.int .u8 o, .int .u8 d, .int .u8 s, .int .i16 f, .int .i32 i] 24)) := (Below.refl _ w).alloc (Nat.le_refl _) _
  have HB := At5.new w o d s f i
  generalize (w.alloc (Obj.cells #[.int .u8 o, .int .u8 d, .int .u8 s, .int .i16 f, .int .i32 i] 24)) = W at HG HB ⊢
  generalize hBs : w.heap.size = B at HB ⊢
  obtain ⟨c0, c1, c2, c3, c4⟩ := HB.cells
  go_wp2_with (first | (go_at_call 14; refine (rkind_any _ _ _ _ _ h0 h1 d0 d1 s0 s1 _).mono ?_; rw [hk]; rintro e w' ⟨rfl, hg⟩; replace HB := HB.gr hg; replace HG := HG.trans (hg.below.mono HG.size); clear hg; obtain ⟨c0, c1, c2, c3, c4⟩ := HB.cells) | (go_at_call 42; refine (two_any _ _ _).mono ?_; rintro e w2 ⟨v2, rfl, hv2, hb2⟩))
  go_returns
  exact ⟨_, rfl, hv2, HG.trans (hb2.mono HG.size)⟩
theorem rreads_no (o d s f i : Int) (h0 : 0 ≤ o) (h1 : o ≤ 255) (d0 : 0 ≤ d) (d1 : d ≤ 255) (s0 : 0 ≤ s) (s1 : s ≤ 255) (k : Int) (hk : kV o d s f i = k) (k1 : (k == 1) = false) (k5 : (k == 5) = false) (k2 : (k == 2) = false) (k3 : (k == 3) = false) (k4 : (k == 4) = false) (k8 : (k == 8) = false) (w : World) : Calls Try.prog 25 #[ins o d s f i] w fun e w' => ∃ v, e = .returned v ∧ Bytes8 w'.heap.size w' v ([]) ∧ Below w.heap.size w w' := by
  go_enter Try.func25, Try.ntmps25
  go_upto_region 1 with fail
  have HG : Below w.heap.size w (w.alloc (Obj.cells #[.int .u8 o, .int .u8 d, .int .u8 s, .int .i16 f, .int .i32 i] 24)) := (Below.refl _ w).alloc (Nat.le_refl _) _
  have HB := At5.new w o d s f i
  generalize (w.alloc (Obj.cells #[.int .u8 o, .int .u8 d, .int .u8 s, .int .i16 f, .int .i32 i] 24)) = W at HG HB ⊢
  generalize hBs : w.heap.size = B at HB ⊢
  obtain ⟨c0, c1, c2, c3, c4⟩ := HB.cells
  go_wp2_with (first | (go_at_call 14; refine (rkind_any _ _ _ _ _ h0 h1 d0 d1 s0 s1 _).mono ?_; rw [hk]; rintro e w' ⟨rfl, hg⟩; replace HB := HB.gr hg; replace HG := HG.trans (hg.below.mono HG.size); clear hg; obtain ⟨c0, c1, c2, c3, c4⟩ := HB.cells))
  go_returns
  exact ⟨_, rfl, .inl ⟨rfl, rfl⟩, HG⟩
theorem rise_comm (a b : Int) : riseL [a, b] = riseL [b, a] := by
  rw [rise_two, rise_two]
  by_cases h : a = b
  · simp [h]
  · rw [if_neg h, if_neg (fun e => h e.symm)]; simp; omega
theorem rreads_any (o d s f i : Int) (h0 : 0 ≤ o) (h1 : o ≤ 255) (d0 : 0 ≤ d) (d1 : d ≤ 255) (s0 : 0 ≤ s) (s1 : s ≤ 255) (w : World) : Calls Try.prog 25 #[ins o d s f i] w fun e w' => ∃ v, e = .returned v ∧ Bytes8 w'.heap.size w' v (rdL (kV o d s f i) o d s) ∧ Below w.heap.size w w' := by
  by_cases k1 : kV o d s f i = 1
  · by_cases hc : o / 16 = 11
    · cases hx : xB o with
      | true => rw [show rdL (kV o d s f i) o d s = [s] by simp [rdL, k1, hc, secL, hx, riseL]]; exact rreads_1mx _ _ _ _ _ h0 h1 d0 d1 s0 s1 k1 hc hx w
      | false => rw [show rdL (kV o d s f i) o d s = [] by simp [rdL, k1, hc, secL, hx, riseL]]; exact rreads_1mn _ _ _ _ _ h0 h1 d0 d1 s0 s1 k1 hc hx w
    · cases hx : xB o with
      | true => rw [show rdL (kV o d s f i) o d s = riseL [d, s] by rw [rise_comm]; simp [rdL, k1, hc, secL, hx]]; exact rreads_1x _ _ _ _ _ h0 h1 d0 d1 s0 s1 k1 (by simp [hc]) hx w
      | false => rw [show rdL (kV o d s f i) o d s = [d] by simp [rdL, k1, hc, secL, hx, riseL]]; exact rreads_1n _ _ _ _ _ h0 h1 d0 d1 s0 s1 k1 (by simp [hc]) hx w
  by_cases k5 : kV o d s f i = 5
  · cases hx : xB o with
    | true => rw [show rdL (kV o d s f i) o d s = riseL [d, s] by rw [rise_comm]; simp [rdL, k5, secL, hx]]; exact rreads_5x _ _ _ _ _ h0 h1 d0 d1 s0 s1 k5 hx w
    | false => rw [show rdL (kV o d s f i) o d s = [d] by simp [rdL, k5, secL, hx, riseL]]; exact rreads_5n _ _ _ _ _ h0 h1 d0 d1 s0 s1 k5 hx w
  by_cases k2 : kV o d s f i = 2
  · rw [show rdL (kV o d s f i) o d s = [s] by simp [rdL, k2]]; exact rreads_2 _ _ _ _ _ h0 h1 d0 d1 s0 s1 k2 w
  by_cases k3 : kV o d s f i = 3
  · rw [show rdL (kV o d s f i) o d s = [d] by simp [rdL, k3]]; exact rreads_3 _ _ _ _ _ h0 h1 d0 d1 s0 s1 k3 w
  by_cases k4 : kV o d s f i = 4
  · rw [show rdL (kV o d s f i) o d s = riseL [d, s] by simp [rdL, k4]]; exact rreads_4 _ _ _ _ _ h0 h1 d0 d1 s0 s1 k4 w
  by_cases k8 : kV o d s f i = 8
  · rw [show rdL (kV o d s f i) o d s = [0] by simp [rdL, k8]]; exact rreads_8 _ _ _ _ _ h0 h1 d0 d1 s0 s1 k8 w
  rw [show rdL (kV o d s f i) o d s = [] by simp [rdL, k1, k2, k3, k4, k5, k8]]
  exact rreads_no _ _ _ _ _ h0 h1 d0 d1 s0 s1 _ rfl (by simp [k1]) (by simp [k5]) (by simp [k2]) (by simp [k3]) (by simp [k4]) (by simp [k8]) w
end Go.Proofs.Ythbmgfnifolcbaa
