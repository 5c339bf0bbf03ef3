/- Towards CodeLong: programs of so many subprograms: what the kernel looks at. Towards CodeLong: what Check answers of its programs. Towards CodeLong: what Check answers of a program that is gone through from its first slot to its last. Towards CodeLong: its walk. -/
import Derived.Test.YtdmdmbcapjmnlaaSL
import Derived.Test.YtdmdmbcapjmnlaaXB
section
namespace Go.Proofs.Ytdmdmbcapjmnlaa
open Go.ChangeShapes Go.WideShapes Go.ChangeAt
open Go.RowKit Go.Shelf
set_option linter.unusedVariables false
set_option linter.unusedSimpArgs false
set_option maxRecDepth 100000
def slCall (i : Int) : Sl := ⟨0x85, 0, 1, 0, i⟩
/-- Each of the first k - 1 calls one of its own. -/
def Qk (k : Nat) : List Sl := ((List.range (k - 1)).map fun i => slCall ((k : Int) + 2 * (i : Nat) - (i : Nat) - 1)) ++ slExit :: (List.range (2 * (k - 1))).map fun i => if i % 2 = 0 then slMov else slExit
def hqk (k : Nat) : List Nat := (List.range k).map fun i => if i = 0 then 0 else k + 2 * (i - 1)
def nqk (k : Nat) : List Int := (hqk k).map Int.ofNat
def sqk (k : Nat) : List (Nat × Nat) := (List.range k).map fun i => (if i = 0 then 0 else k + 2 * (i - 1), k + 2 * i)
def lqk (k : Nat) : List Nat := (List.range (3 * k - 2)).map fun j => if j < k then 0 else (j - k) / 2 + 1
def okA (k : Nat) : Bool := decide ((Qk k).length = 3 * k - 2) && decide (walkM (Qk k) = (3 * k - 2, List.replicate (3 * k - 2) true)) && decide (begL (List.replicate (3 * k - 2) true) 0 (3 * k - 2) = (List.range (3 * k - 2)).map Int.ofNat) && decide (namedL (Qk k) ((List.range (3 * k - 2)).map Int.ofNat) = nqk k) && decide (Lib.compact (nqk k) = nqk k)
def okB (k : Nat) : Bool := ((List.range (3 * k - 2)).map Int.ofNat).all fun x => !strayB (Qk k) (List.replicate (3 * k - 2) true) x
def okD (k : Nat) : Bool := ((List.range (3 * k - 2)).map Int.ofNat).all fun x => !leaveB (Qk k) (sqk k) (lqk k) x
def okE (k : Nat) : Bool := (List.range (3 * k - 2)).all fun j => (decide (j = (subOf (sqk k) (lqk k) j).1) && ((sqk k).map (·.1)).contains j) || (decide (1 ≤ j) && (leadsN (Qk k) (j - 1)).contains j)
def okF (k : Nat) : Bool := (List.range k).all fun u => if u = 0 then (callsN (Qk k) (List.replicate (3 * k - 2) true) (sqk k) (lqk k) 0).all (fun t => decide (1 ≤ t) && decide (t < k)) else (callsN (Qk k) (List.replicate (3 * k - 2) true) (sqk k) (lqk k) u).isEmpty
theorem kA : (List.range' 25 15).all okA = true := by decide +kernel
theorem kB : (List.range' 25 15).all okB = true := by decide +kernel
theorem kD : (List.range' 25 8).all okD = true := by decide +kernel
theorem kE : (List.range' 25 8).all okE = true := by decide +kernel
theorem kF : (List.range' 25 8).all okF = true := by decide +kernel
theorem nqk_up (k : Nat) : (nqk k).Pairwise fun x y => decide (x ≤ y) = true := by
  unfold nqk hqk
  rw [List.map_map, List.pairwise_map]
  refine List.Pairwise.imp ?_ (List.pairwise_lt_range)
  intro a b h
  simp only [Function.comp]
  apply decide_eq_true
  apply Int.ofNat_le.2
  split <;> split <;> omega
theorem hqk_get (k i : Nat) : (hqk k)[i]? = if i < k then some (if i = 0 then 0 else k + 2 * (i - 1)) else none := by
  unfold hqk
  rw [List.getElem?_map]
  split
  · rename_i h; rw [List.getElem?_range h]; rfl
  · rename_i h; rw [List.getElem?_eq_none (by simpa using h)]; rfl
theorem hqk_len (k : Nat) : (hqk k).length = k := by simp [hqk]
theorem toOf_q {k n : Nat} (h : n < k) : toOf (hqk k) (3 * k - 2) n = k + 2 * n := by
  unfold toOf
  rw [hqk_get]
  split
  · rw [if_neg (by omega)]; simp
  · simp; omega
theorem sub_q (k : Nat) : subF (hqk k) (3 * k - 2) k = sqk k := by
  have key : ∀ n, n ≤ k → subF (hqk k) (3 * k - 2) n = (List.range n).map fun i => (if i = 0 then 0 else k + 2 * (i - 1), k + 2 * i) := by
    intro n
    induction n with
    | zero => intro _; rfl
    | succ n ih =>
      intro h
      rw [subF, ih (by omega), toOf_q (by omega), hqk_get, if_pos (by omega), List.range_succ, List.map_append]
      rfl
  exact key k (Nat.le_refl _)
theorem home_q (k : Nat) : homeF (hqk k) (3 * k - 2) k = lqk k := by
  have key : ∀ n, n ≤ k → ∀ j, (homeF (hqk k) (3 * k - 2) n)[j]? = if j < 3 * k - 2 then some (if j < k then 0 else if (j - k) / 2 + 1 < n then (j - k) / 2 + 1 else 0) else none := by
    intro n
    induction n with
    | zero =>
      intro _ j
      rw [homeF, List.getElem?_replicate]
      simp
    | succ n ih =>
      intro h j
      rw [homeF, setR, List.getElem?_mapIdx, ih (by omega), toOf_q (by omega), hqk_get, if_pos (by omega)]
      simp only [Option.getD_some]
      by_cases hj : j < 3 * k - 2
      · rw [if_pos hj, if_pos hj]
        simp only [Option.map_some]
        congr 1
        by_cases h1 : j < k
        · rw [if_pos h1, if_pos h1]
          (repeat' split) <;> omega
        · rw [if_neg h1, if_neg h1]
          (repeat' split) <;> omega
      · rw [if_neg hj, if_neg hj]; rfl
  apply List.ext_getElem?
  intro j
  rw [key k (Nat.le_refl _) j, lqk, List.getElem?_map]
  split
  · rename_i h
    rw [List.getElem?_range h]
    simp only [Option.map_some]
    congr 1
    split
    · rfl
    · rw [if_pos (by omega)]
  · rename_i h
    rw [List.getElem?_eq_none (by simpa using h)]; rfl
end Go.Proofs.Ytdmdmbcapjmnlaa
end
section
namespace Go.Proofs.Ytdmdmbcapjmnlaa
open Go.ChangeShapes Go.WideShapes Go.ChangeAt
open Go.RowKit Go.Shelf
set_option linter.unusedVariables false
set_option linter.unusedSimpArgs false
set_option linter.unusedSectionVars false
set_option maxRecDepth 100000
theorem all_in {n m : Nat} {f : Nat → Bool} (h : (List.range' n m).all f = true) {k : Nat} (h1 : n ≤ k) (h2 : k < n + m) : f k = true :=
  List.all_eq_true.1 h k (by rw [List.mem_range'_1]; exact ⟨h1, h2⟩)
section
variable {k : Nat} (h1 : 25 ≤ k) (h2 : k < 40)
include h1 h2
theorem q_len : (Qk k).length = 3 * k - 2 := by
  have := all_in kA h1 h2
  simp only [okA, Bool.and_eq_true, decide_eq_true_eq] at this
  exact this.1.1.1.1
theorem q_walk : walkM (Qk k) = (3 * k - 2, List.replicate (3 * k - 2) true) := by
  have := all_in kA h1 h2
  simp only [okA, Bool.and_eq_true, decide_eq_true_eq] at this
  exact this.1.1.1.2
theorem q_bg : bgM (Qk k) = List.replicate (3 * k - 2) true := by rw [bgM, q_walk h1 h2]
theorem q_beg : begM (Qk k) = (List.range (3 * k - 2)).map Int.ofNat := by
  have := all_in kA h1 h2
  simp only [okA, Bool.and_eq_true, decide_eq_true_eq] at this
  rw [begM, q_bg h1 h2, List.length_replicate, this.1.1.2]
theorem q_hs : hsM (Qk k) = hqk k := by
  have := all_in kA h1 h2
  simp only [okA, Bool.and_eq_true, decide_eq_true_eq] at this
  refine hsM_of (n := nqk k) ?_ (nqk_up k) ?_
  · rw [q_bg h1 h2, q_len h1 h2, this.1.1.2]
    exact this.1.2
  · rw [this.2, nqk, List.map_map]
    exact List.map_id'' (fun x => rfl) _
theorem q_sl : slM (Qk k) = sqk k := by rw [slM, q_hs h1 h2, q_len h1 h2, hqk_len, sub_q]
theorem q_hl : hlM (Qk k) = lqk k := by rw [hlM, q_hs h1 h2, q_len h1 h2, hqk_len, home_q]
theorem q_first : Passed (Qk k) 4 := by
  intro m hm
  rcases (show m = 0 ∨ m = 1 ∨ m = 2 ∨ m = 3 by omega) with rfl | rfl | rfl | rfl
  · show (if (Qk k).length = 0 then (2 : Int) else 0) = 0
    rw [q_len h1 h2, if_neg (by omega)]
  · show (if 1024 < (Qk k).length then (4 : Int) else 0) = 0
    rw [q_len h1 h2, if_neg (by omega)]
  · show (if (walkM (Qk k)).1 < (Qk k).length then (80 : Int) else 0) = 0
    rw [q_len h1 h2, q_walk h1 h2, if_neg (by simp)]
  · show (leastX (begM (Qk k)) (strayB (Qk k) (bgM (Qk k))) 81).2 = 0
    rw [leastX_none]
    rw [q_beg h1 h2, q_bg h1 h2]
    intro x hx
    have := List.all_eq_true.1 (all_in kB h1 h2) x hx
    simpa using this
theorem q_many (h3 : 33 ≤ k) : chkM (Qk k) = ((k : Int) + 62, 4) := by
  have e : chkX (Qk k) 4 = ((k : Int) + 62, 4) := by
    show partX (Qk k) = _
    rw [partX, q_hs h1 h2, hqk_get, if_pos (by omega)]
    rfl
  refine (chk_err (k := 4) (by decide) (q_first h1 h2) (by rw [e]; show (4 : Int) ≠ 0; decide)).trans e
end
theorem rch_q {k : Nat} (h1 : 25 ≤ k) (h2 : k < 33) : ∀ j, j < 3 * k - 2 → (j = (subOf (sqk k) (lqk k) j).1 ∧ j ∈ (sqk k).map (·.1)) ∨ Rch (leadsN (Qk k)) ((sqk k).map (·.1)) j := by
  intro j
  induction j with
  | zero =>
    intro hj
    have := List.all_eq_true.1 (all_in kE h1 h2) 0 (List.mem_range.2 hj)
    simp only [Bool.or_eq_true, Bool.and_eq_true, decide_eq_true_eq, List.contains_iff_mem] at this
    rcases this with h | h
    · exact .inl h
    · omega
  | succ j ih =>
    intro hj
    have := List.all_eq_true.1 (all_in kE h1 h2) (j + 1) (List.mem_range.2 hj)
    simp only [Bool.or_eq_true, Bool.and_eq_true, decide_eq_true_eq, List.contains_iff_mem] at this
    rcases this with h | h
    · exact .inl h
    · rcases ih (by omega) with h' | h'
      · exact .inr (.one j (j + 1) h'.2 h.2)
      · exact .inr (.more j (j + 1) h' h.2)
theorem q_few {k : Nat} (h1 : 25 ≤ k) (h2 : k < 33) : chkM (Qk k) = (0, 0) := by
  have h3 : k < 40 := by omega
  refine chk_all fun m hm => ?_
  by_cases h4 : m < 4
  · exact q_first h1 h3 m h4
  rcases (show m = 4 ∨ m = 5 ∨ m = 6 ∨ m = 7 by omega) with rfl | rfl | rfl | rfl
  · show (partX (Qk k)).2 = 0
    rw [partX, q_hs h1 h3, hqk_get, if_neg (by omega)]
  · show (leastX (begM (Qk k)) (leaveB (Qk k) (slM (Qk k)) (hlM (Qk k))) 82).2 = 0
    rw [leastX_none]
    rw [q_beg h1 h3, q_sl h1 h3, q_hl h1 h3]
    intro x hx
    have := List.all_eq_true.1 (all_in kD h1 h2) x hx
    simpa using this
  · show (leastX (begM (Qk k)) (fun x => missC (Qk k) x.toNat) 84).2 = 0
    rw [leastX_none]
    rw [q_beg h1 h3]
    intro x hx
    obtain ⟨j, hj, rfl⟩ := List.mem_map.1 hx
    show missC (Qk k) j = false
    rcases rch_q h1 h2 j (List.mem_range.1 hj) with h | h
    · exact missC_head (by rw [q_sl h1 h3, q_hl h1 h3]; exact h.1)
    · exact missC_led (by rw [q_sl h1 h3]; exact h)
  · show (leastX (begM (Qk k)) (fun x => loopB (Qk k) (bgM (Qk k)) (slM (Qk k)) (hlM (Qk k)) x.toNat) 83).2 = 0
    rw [leastX_none]
    rw [q_beg h1 h3, q_bg h1 h3, q_sl h1 h3, q_hl h1 h3]
    intro x hx
    obtain ⟨j, hj, rfl⟩ := List.mem_map.1 hx
    show loopB (Qk k) _ (sqk k) (lqk k) j = false
    refine loopB_not fun hr => ?_
    have hu : ∀ u, u < k → if u = 0 then (∀ t ∈ callsN (Qk k) (List.replicate (3 * k - 2) true) (sqk k) (lqk k) 0, 1 ≤ t ∧ t < k) else callsN (Qk k) (List.replicate (3 * k - 2) true) (sqk k) (lqk k) u = [] := by
      intro u hu
      have := List.all_eq_true.1 (all_in kF h1 h2) u (List.mem_range.2 hu)
      split
      · rename_i h0
        rw [if_pos h0] at this
        intro t ht
        have := List.all_eq_true.1 this t ht
        simpa using this
      · rename_i h0
        rw [if_neg h0] at this
        simpa using this
    have hj' := List.mem_range.1 hj
    have hh : (lqk k)[j]?.getD 0 = if j < k then 0 else (j - k) / 2 + 1 := by
      rw [lqk, List.getElem?_map, List.getElem?_range hj']; rfl
    rw [hh] at hr
    split at hr
    · have := rch_closed (C := List.range' 1 (k - 1)) (fun u hu' t ht => ?_) (fun u hu' t ht => ?_) hr
      · simp [List.mem_range'_1] at this
      · rw [List.mem_singleton.1 hu'] at ht
        have := hu 0 (by omega)
        rw [if_pos rfl] at this
        have := this t ht
        rw [List.mem_range'_1]; omega
      · rw [List.mem_range'_1] at hu'
        have := hu u (by omega)
        rw [if_neg (by omega)] at this
        rw [this] at ht; cases ht
    · have := rch_closed (C := []) (fun u hu' t ht => ?_) (fun u hu' t ht => by cases hu') hr
      · cases this
      · rw [List.mem_singleton.1 hu'] at ht
        have := hu ((j - k) / 2 + 1) (by omega)
        rw [if_neg (by omega)] at this
        rw [this] at ht; cases ht
end Go.Proofs.Ytdmdmbcapjmnlaa
end
section
namespace Go.Proofs.Ytdmdmbcapjmnlaa
open Go.ChangeShapes Go.WideShapes Go.ChangeAt
open Go.RowKit Go.Shelf
set_option linter.unusedVariables false
set_option linter.unusedSimpArgs false
set_option linter.unusedSectionVars false
set_option maxRecDepth 100000
def Pn (n : Nat) : List Sl := List.replicate (n - 1) slMov ++ [slExit]
section
variable {n : Nat} (hn : 2 ≤ n)
include hn
theorem p_len : (Pn n).length = n := by simp [Pn]; omega
theorem p_get (k : Nat) : (Pn n)[k]? = if k < n - 1 then some slMov else if k = n - 1 then some slExit else none := by
  unfold Pn
  rcases Nat.lt_or_ge k (n - 1) with h | h
  · rw [List.getElem?_append_left (by simpa using h), List.getElem?_replicate, if_pos h, if_pos h]
  · rw [List.getElem?_append_right (by simpa using h), List.length_replicate, if_neg (by omega)]
    rcases Nat.eq_or_lt_of_le h with h' | h'
    · rw [if_pos (by omega), ← h', Nat.sub_self]; rfl
    · rw [if_neg (by omega), List.getElem?_eq_none (by simp; omega)]
theorem p_slot (k : Nat) : slotAt (Pn n) k = if k < n - 1 then some slMov else if k = n - 1 then some slExit else none := by
  unfold slotAt
  rw [if_pos (by omega), Int.toNat_natCast, p_get hn]
theorem p_kind {k : Nat} (h : k < n) : kindM (Pn n) k = if k < n - 1 then 1 else 8 := by
  unfold kindM
  rw [p_slot hn]
  by_cases h' : k < n - 1
  · rw [if_pos h', if_pos h']; decide +kernel
  · rw [if_neg h', if_pos (by omega), if_neg h']; decide +kernel
theorem p_leads {k : Nat} (h : k < n) : leadsM (Pn n) k = if k < n - 1 then [(k : Int) + 1] else [] := by
  unfold leadsM
  rw [p_slot hn]
  by_cases h' : k < n - 1
  · rw [if_pos h', if_pos h']
    have e : slMov.k = 1 := by decide +kernel
    simp [e]
  · rw [if_neg h', if_pos (by omega), if_neg h']
    have e : slExit.k = 8 := by decide +kernel
    simp [e]
theorem p_callee (k : Nat) : calleeM (Pn n) k = none := by
  unfold calleeM
  rw [p_slot hn]
  have e : slMov.k = 1 := by decide +kernel
  have e2 : slExit.k = 8 := by decide +kernel
  by_cases h' : k < n - 1
  · rw [if_pos h']; simp [e]
  · rw [if_neg h']
    by_cases h2 : k = n - 1
    · rw [if_pos h2]; simp [e2]
    · rw [if_neg h2]
theorem p_walkF : ∀ (f k : Nat) (Bg : List Bool), k ≤ n → n < k + f → Bg = List.replicate k true ++ List.replicate (n - k) false → walkF (Pn n) f k Bg = (n, List.replicate n true) := by
  intro f
  induction f with
  | zero => intro k Bg h1 h2; omega
  | succ f ih =>
    intro k Bg h1 h2 hB
    rw [walkF, p_len hn]
    by_cases hk : k < n
    · rw [if_pos hk, p_kind hn hk]
      have e : ∀ a : Nat, (if a < n - 1 then (1 : Int) else 8) ≠ 0 ∧ (if a < n - 1 then (1 : Int) else 8) ≠ 9 := fun a => by split <;> decide
      rw [if_neg (e k).1, if_neg (e k).2]
      refine ih (k + 1) _ (by omega) (by omega) ?_
      rw [hB]
      apply List.ext_getElem?
      intro j
      rw [List.getElem?_set]
      simp only [List.getElem?_append, List.length_replicate, List.getElem?_replicate, List.length_append]
      repeat' split
      all_goals (first | rfl | omega)
    · rw [if_neg hk]
      obtain rfl : k = n := by omega
      rw [hB, Nat.sub_self]; simp
theorem p_walk : walkM (Pn n) = (n, List.replicate n true) := by
  unfold walkM
  rw [p_len hn]
  exact p_walkF hn (n + 1) 0 _ (Nat.zero_le _) (by omega) (by simp)
theorem p_bg : bgM (Pn n) = List.replicate n true := by rw [bgM, p_walk hn]
omit hn in
theorem beg_all (n : Nat) : begL (List.replicate n true) 0 n = (List.range n).map Int.ofNat := by
  unfold begL
  rw [Nat.sub_zero, ← List.range_eq_range']
  congr 1
  rw [List.filter_eq_self]
  intro a ha
  rw [List.getElem?_replicate, if_pos (List.mem_range.1 ha)]; rfl
theorem p_beg : begM (Pn n) = (List.range n).map Int.ofNat := by rw [begM, p_bg hn, List.length_replicate, beg_all]
theorem p_hs : hsM (Pn n) = [0] := by
  refine hsM_of (n := [0]) ?_ (by simp) (by decide +kernel)
  rw [p_bg hn, p_len hn, beg_all, namedL]
  congr 1
  rw [List.filterMap_eq_nil_iff]
  intro a ha
  obtain ⟨j, _, rfl⟩ := List.mem_map.1 ha
  exact p_callee hn j
theorem p_sl : slM (Pn n) = [(0, n)] := by rw [slM, p_hs hn, p_len hn]; rfl
theorem p_hl : hlM (Pn n) = List.replicate n 0 := by
  rw [hlM, p_hs hn, p_len hn]
  show setR (List.replicate n 0) 0 n 0 = _
  unfold setR
  apply List.ext_getElem?
  intro j
  rw [List.getElem?_mapIdx, List.getElem?_replicate]
  split <;> simp
theorem p_sub (k : Nat) : subOf [(0, n)] (List.replicate n 0) k = (0, n) := by
  unfold subOf
  rw [List.getElem?_replicate]
  split <;> rfl
theorem p_rch : ∀ k, 1 ≤ k → k < n → Rch (leadsN (Pn n)) [0] k := by
  have key : ∀ k, k + 1 < n → k + 1 ∈ leadsN (Pn n) k := fun k h => by
    unfold leadsN
    rw [p_leads hn (by omega), if_pos (by omega)]
    simp
  intro k
  induction k with
  | zero => intro h; omega
  | succ k ih =>
    intro _ h
    by_cases h0 : k = 0
    · subst h0; exact .one 0 1 (by simp) (key 0 h)
    · exact .more k (k + 1) (ih (by omega) (by omega)) (key k h)
theorem p_ok (h1024 : n ≤ 1024) : chkM (Pn n) = (0, 0) := by
  refine chk_all fun m hm => ?_
  rcases (show m = 0 ∨ m = 1 ∨ m = 2 ∨ m = 3 ∨ m = 4 ∨ m = 5 ∨ m = 6 ∨ m = 7 by omega) with rfl | rfl | rfl | rfl | rfl | rfl | rfl | rfl
  · show (if (Pn n).length = 0 then (2 : Int) else 0) = 0
    rw [p_len hn, if_neg (by omega)]
  · show (if 1024 < (Pn n).length then (4 : Int) else 0) = 0
    rw [p_len hn, if_neg (by omega)]
  · show (if (walkM (Pn n)).1 < (Pn n).length then (80 : Int) else 0) = 0
    rw [p_len hn, p_walk hn, if_neg (by simp)]
  · show (leastX (begM (Pn n)) (strayB (Pn n) (bgM (Pn n))) 81).2 = 0
    rw [leastX_none]
    rw [p_beg hn, p_bg hn]
    intro x hx
    obtain ⟨j, hj, rfl⟩ := List.mem_map.1 hx
    have hj := List.mem_range.1 hj
    have e1 : funB (Pn n) (j : Int) = false := by
      unfold funB
      rw [p_slot hn]
      have e : slMov.k = 1 := by decide +kernel
      have e2 : slExit.k = 8 := by decide +kernel
      by_cases h' : j < n - 1
      · rw [if_pos h']; simp [e]
      · rw [if_neg h', if_pos (by omega)]; simp [e2]
    show strayB (Pn n) _ (j : Int) = false
    unfold strayB namesBad
    rw [e1, p_callee hn, p_leads hn hj]
    by_cases h' : j < n - 1
    · rw [if_pos h']
      have e3 : begB (Pn n) (List.replicate n true) ((j : Int) + 1) = true := by
        unfold begB
        rw [thereB_iff]
        rw [show ((j : Int) + 1) = ((j + 1 : Nat) : Int) by omega, p_slot hn, Int.toNat_natCast, List.getElem?_replicate, if_pos (show j + 1 < n by omega)]
        by_cases h2 : j + 1 < n - 1
        · rw [if_pos h2]; rfl
        · rw [if_neg h2, if_pos (by omega)]; rfl
      simp [badB, e3]
    · rw [if_neg h']; rfl
  · show (partX (Pn n)).2 = 0
    rw [partX, p_hs hn]; rfl
  · show (leastX (begM (Pn n)) (leaveB (Pn n) (slM (Pn n)) (hlM (Pn n))) 82).2 = 0
    rw [leastX_none]
    rw [p_beg hn, p_sl hn, p_hl hn]
    intro x hx
    obtain ⟨j, hj, rfl⟩ := List.mem_map.1 hx
    have hj := List.mem_range.1 hj
    show leaveB (Pn n) _ _ (j : Int) = false
    unfold leaveB
    rw [p_leads hn hj, p_sub hn]
    by_cases h' : j < n - 1
    · rw [if_pos h']
      simp [outB]; omega
    · rw [if_neg h']; rfl
  · show (leastX (begM (Pn n)) (fun x => missC (Pn n) x.toNat) 84).2 = 0
    rw [leastX_none]
    rw [p_beg hn]
    intro x hx
    obtain ⟨j, hj, rfl⟩ := List.mem_map.1 hx
    have hj := List.mem_range.1 hj
    show missC (Pn n) j = false
    by_cases h0 : j = 0
    · exact missC_head (by rw [p_sl hn, p_hl hn, p_sub hn, h0])
    · exact missC_led (by rw [p_sl hn]; exact p_rch hn j (by omega) hj)
  · show (leastX (begM (Pn n)) (fun x => loopB (Pn n) (bgM (Pn n)) (slM (Pn n)) (hlM (Pn n)) x.toNat) 83).2 = 0
    rw [leastX_none]
    intro x hx
    show loopB (Pn n) _ _ _ x.toNat = false
    refine loopB_not fun hr => ?_
    have hc : ∀ u, callsN (Pn n) (bgM (Pn n)) (slM (Pn n)) (hlM (Pn n)) u = [] := fun u => by
      unfold callsN
      rw [List.filterMap_eq_nil_iff]
      intro a ha
      obtain ⟨j, rfl, _⟩ := begL_mem ha
      unfold callN
      rw [p_callee hn]
    have := rch_closed (C := []) (fun u hu' t ht => by rw [hc] at ht; cases ht) (fun u hu' t ht => by cases hu') hr
    cases this
omit hn in
theorem p_long (h1024 : 1024 < n) : chkM (Pn n) = (1024, 4) := by
  have hn : 2 ≤ n := by omega
  have e : chkX (Pn n) 1 = (1024, 4) := by
    show ((if 1024 < (Pn n).length then (1024 : Int) else 0), (if 1024 < (Pn n).length then (4 : Int) else 0)) = _
    rw [p_len hn, if_pos h1024, if_pos h1024]
  refine (chk_err (k := 1) (by decide) (fun m hm => ?_) (by rw [e]; decide)).trans e
  obtain rfl : m = 0 := by omega
  show (if (Pn n).length = 0 then (2 : Int) else 0) = 0
  rw [p_len hn, if_neg (by omega)]
end
end Go.Proofs.Ytdmdmbcapjmnlaa
end
section
namespace Go.Proofs.Ytdmdmbcapjmnlaa
open Go.ChangeShapes Go.WideShapes Go.ChangeAt
open Go.RowKit Go.Shelf
set_option linter.unusedVariables false
set_option linter.unusedSimpArgs false
set_option maxRecDepth 100000
theorem mov_ok : slMov.ok := by refine ⟨⟨?_, ?_⟩, ⟨?_, ?_⟩, ⟨?_, ?_⟩, ⟨?_, ?_⟩, ⟨?_, ?_⟩⟩ <;> decide
theorem exit_ok : slExit.ok := by refine ⟨⟨?_, ?_⟩, ⟨?_, ?_⟩, ⟨?_, ?_⟩, ⟨?_, ?_⟩, ⟨?_, ?_⟩⟩ <;> decide
theorem pn_ok (n : Nat) : ∀ x ∈ Pn n, x.ok := by
  intro x hx
  rcases List.mem_append.1 hx with h | h
  · rw [(List.mem_replicate.1 h).2]; exact mov_ok
  · rw [List.mem_singleton.1 h]; exact exit_ok
theorem zero_bytes {W : World} {g m : Nat} (h : W.heap[g]? = some (.cells (List.replicate m (Value.int .u8 0)).toArray 5)) : (convert 38 9 (.slice (some ⟨g, 0, none⟩) m m)).run Try.prog W = .ok (.string ⟨(List.replicate m (0 : UInt8)).toArray⟩) W := by
  have := run_convert_bytes_back (P := Try.prog) W 38 9 5 ⟨g, 0, none⟩ m (List.replicate m (0 : UInt8)) Try.underlying38 Try.underlying5 Try.underlying9 (fun j hj => by
    have hj' : j < m := by simpa using hj
    rw [add_of rfl, Nat.zero_add]
    unfold World.cell?
    rw [h]
    simp [hj'])
  rwa [List.length_replicate] at this
theorem info5 : (Try.prog.info? 5).map (fun i => (i.zero, i.size, i.bytes)) = some (some (.int .u8 0), 1, 1) := by kernel_rfl
theorem made1 (m : Nat) : (madeCells (Value.int .u8 0).cells (m * 1)).toList = List.replicate m (.int .u8 0) := by
  apply List.ext_getElem?
  intro i
  rcases Nat.lt_or_ge i m with h | h
  · simp [madeCells, Value.cells, h, Nat.mod_one]
  · rw [List.getElem?_eq_none (by rw [Array.length_toList, size_madeCells]; omega), List.getElem?_eq_none (by rw [List.length_replicate]; exact h)]
theorem push_any {W : World} {base : Nat} {v : Value} {n : Nat} {xs : List Value} (hown : W.ownsRow base 26 5 v n xs) (X : List Sl) (hX : ∀ x ∈ X, x.ok) (hlen : n ≤ 4000) (hX2 : X.length ≤ 10) (hbase : base ≤ W.heap.size) (o : Array Value) (ho : o = (X.flatMap Sl.cells).toArray) (m : Nat) (hm : m = X.length) :
    ∃ v' w', (Builtin.append_ #[22, 22] 22 #[v, .slice (some ⟨W.heap.size, 0, none⟩) m m]).run Try.prog (W.alloc (.cells o 26)) = .ok v' w' ∧ w'.ownsRow base 26 5 v' (n + m) (xs ++ X.flatMap Sl.cells) ∧ Below base W w' := by
  subst ho; subst hm
  have hS := slots_blk (cap := X.length) (World.alloc_heap_new W (.cells (X.flatMap Sl.cells).toArray 26)) hX (by omega)
  obtain ⟨v', w', h1, h2, h3⟩ := app_any (hown.alloc (.cells (X.flatMap Sl.cells).toArray 26)) hS (fun h => by cases h) (by omega) (by simp; omega) (Nat.le_refl base)
  exact ⟨v', w', h1, h2, ((Below.refl base W).alloc (by omega) _).trans h3⟩
theorem call_ok (i : Int) (h0 : -2147483648 ≤ i) (h1 : i ≤ 2147483647) : (slCall i).ok := by refine ⟨⟨?_, ?_⟩, ⟨?_, ?_⟩, ⟨?_, ?_⟩, ⟨?_, ?_⟩, ⟨h0, h1⟩⟩ <;> simp only [slCall] <;> decide
def alt (j : Nat) : List Sl := (List.range (2 * j)).map fun i => if i % 2 = 0 then slMov else slExit
theorem alt_succ (j : Nat) : alt (j + 1) = alt j ++ [slMov, slExit] := by
  unfold alt
  rw [show 2 * (j + 1) = 2 * j + 1 + 1 by omega, List.range_succ, List.range_succ]
  simp only [List.map_append, List.map_cons, List.map_nil, List.append_assoc]
  rw [if_pos (by omega), if_neg (by omega)]
  rfl
theorem alt_len (j : Nat) : (alt j).length = 2 * j := by simp [alt]
theorem alt_ok (j : Nat) : ∀ x ∈ alt j, x.ok := by
  intro x hx
  obtain ⟨i, _, rfl⟩ := List.mem_map.1 hx
  split
  · exact mov_ok
  · exact exit_ok
def cimm (K i : Nat) : Sl := slCall ((K : Int) + 2 * (i : Nat) - (i : Nat) - 1)
/-- The program with the first j calls named. -/
def Rj (K j : Nat) : List Sl := (List.range j).map (cimm K) ++ (List.replicate (K - 1 - j) (slCall 0) ++ slExit :: alt (K - 1))
theorem Rj_len {K j : Nat} (h : j + 1 ≤ K) : (Rj K j).length = 3 * K - 2 := by simp [Rj, alt_len]; omega
theorem Rj_zero (K : Nat) : Rj K 0 = List.replicate (K - 1) (slCall 0) ++ slExit :: alt (K - 1) := by simp [Rj]
theorem Rj_last (K : Nat) : Rj K (K - 1) = Qk K := by
  unfold Rj Qk
  rw [Nat.sub_self]
  rfl
theorem Rj_at {K j : Nat} (h : j + 1 < K) : (Rj K j)[j]? = some (slCall 0) := by
  unfold Rj
  rw [List.getElem?_append_right (by simp), List.length_map, List.length_range, Nat.sub_self, List.getElem?_append_left (by simp; omega), List.getElem?_replicate, if_pos (by omega)]
theorem Rj_set {K j : Nat} (h : j + 1 < K) : (Rj K j).set j (cimm K j) = Rj K (j + 1) := by
  unfold Rj
  rw [List.set_append_right _ _ (by simp), List.length_map, List.length_range, Nat.sub_self, show K - 1 - j = (K - 1 - (j + 1)) + 1 by omega, List.replicate_succ, List.cons_append, List.set_cons_zero, List.range_succ, List.map_append, List.append_assoc]
  rfl
theorem Qk_ok {K : Nat} (h : K < 40) : ∀ x ∈ Qk K, x.ok := by
  rw [← Rj_last]
  unfold Rj
  intro x hx
  rcases List.mem_append.1 hx with hx | hx
  · obtain ⟨i, hi, rfl⟩ := List.mem_map.1 hx
    have := List.mem_range.1 hi
    exact call_ok _ (by omega) (by omega)
  · rcases List.mem_append.1 hx with hx | hx
    · rw [(List.mem_replicate.1 hx).2]; exact call_ok _ (by omega) (by omega)
    · rcases List.mem_cons.1 hx with rfl | hx
      · exact exit_ok
      · exact alt_ok _ x hx
theorem slots_cur {W : World} {g cap : Nat} {cur : Array Value} {L : List Sl} (h : W.heap[g]? = some (.cells cur 26 (0, 0))) (ht : cur.toList.take (L.length * 5) = L.flatMap Sl.cells) (hok : ∀ x ∈ L, x.ok) (hl : L.length ≤ 4096) : Slots AnyB W (.slice (some ⟨g, 0, none⟩) L.length cap) L := by
  have hc : ∀ (j : Nat) (v : Value), (L.flatMap Sl.cells)[j]? = some v → W.cell? ⟨g, j, none⟩ = some v := fun j v hj => by
    rw [← ht, List.getElem?_take] at hj
    split at hj
    · unfold World.cell?; rw [h]; simpa using hj
    · cases hj
  refine ⟨hok, hl, .inr ⟨g, 0, cap, rfl, trivial, ch_lt h, fun j x hx => ?_⟩⟩
  obtain ⟨a0, a1, a2, a3, a4⟩ := fl5_get L j x hx
  rw [Nat.zero_add]
  exact ⟨hc _ _ a0, hc _ _ a1, hc _ _ a2, hc _ _ a3, hc _ _ a4⟩
theorem cur_set {cur : Array Value} {m : Nat} {F : List Value} (ht : cur.toList.take m = F) (i : Nat) (u : Value) : (cur.setIfInBounds i u).toList.take m = F.set i u := by
  rw [Array.toList_setIfInBounds, ← ht, List.take_set]
set_option maxHeartbeats 16000000 in
theorem long_any (a0 : Int) (ha0 : -128 ≤ a0) (ha1 : a0 ≤ 127) (w : World) : Calls Try.prog 4 #[.int .i8 a0] w fun e w' => e = .returned (.bool true) ∧ Below w.heap.size w w' := by
  have hal := fun W => alive_any W
  have hmv := fun W => mov_any W
  have hex := fun W => exit_any W
  obtain ⟨n, hn⟩ : ∃ n : Nat, (1024 : Int) + a0 = n := ⟨(1024 + a0).toNat, by omega⟩
  have hn2 : 2 ≤ n := by omega
  have hnl : n ≤ 1151 := by omega
  obtain ⟨atN, eN, hck, hcase⟩ : ∃ atN eN : Int, chkM (Pn n) = (atN, eN) ∧ ((a0 ≤ 0 ∧ n ≤ 1024 ∧ atN = 0 ∧ eN = 0) ∨ (0 < a0 ∧ 1024 < n ∧ atN = 1024 ∧ eN = 4)) := by
    by_cases h : n ≤ 1024
    · exact ⟨0, 0, p_ok hn2 h, .inl ⟨by omega, h, rfl, rfl⟩⟩
    · exact ⟨1024, 4, p_long (by omega), .inr ⟨by omega, by omega, rfl, rfl⟩⟩
  have kdz : ∀ (Z : ByteArray) (W : World), Z.size = 8 * n → Calls Try.prog 6 #[.string Z] W fun e w' => ∃ v, e = .returned (.tuple #[v, .int .i64 eN]) ∧ Below W.heap.size W w' := fun Z W hZ => by
    rcases hcase with ⟨_, h, _, rfl⟩ | ⟨_, h, _, rfl⟩
    · refine (cdecode_ok Z n hZ h W).mono ?_
      rintro e w' ⟨rfl, _, hb⟩
      exact ⟨_, rfl, hb⟩
    · refine (cdecode_long Z n hZ h (by omega) W).mono ?_
      rintro e w' ⟨rfl, rfl⟩
      exact ⟨_, rfl, Below.refl _ _⟩
  have kck : ∀ (g : Nat) (W : World), W.heap[g]? = some (.cells ((Pn n).flatMap Sl.cells).toArray 26) → Calls Try.prog 11 #[.slice (some ⟨g, 0, none⟩) n n] W fun e w' => ∃ v, e = .returned (.tuple #[v, .int .i64 atN, .int .i64 eN]) ∧ Below W.heap.size W w' := fun g W hW => by
    have hs := slots_blk (cap := n) hW (pn_ok n) (by rw [p_len hn2]; omega)
    rw [p_len hn2] at hs
    refine (check_any _ (Pn n) W hs).mono ?_
    rintro e w' ⟨v, rfl, _, _, hb⟩
    rw [hck]
    exact ⟨v, rfl, hb⟩
  clear hck
  have w0 : IntKind.i64.wrap a0 = a0 := IntWalk.i64_in _ (by omega)
  have w1 : IntKind.i64.wrap ((1024 : Int) + a0) = n := by rw [hn]; exact IntWalk.i64_in _ (by omega)
  have w2 : IntKind.i64.wrap ((n : Int) - 1) = ((n - 1 : Nat) : Int) := by rw [IntWalk.i64_in _ (by omega)]; omega
  have w3 : IntKind.i64.wrap ((8 : Int) * n) = ((8 * n : Nat) : Int) := by rw [IntWalk.i64_in _ (by omega)]; omega
  replace hn : Hid ((1024 : Int) + a0 = n) := hn
  have hrb : -7 ≤ a0.tmod 8 ∧ a0.tmod 8 ≤ 7 := by
    rcases Int.le_total 0 a0 with h | h
    · rw [Int.tmod_eq_emod_of_nonneg h]; omega
    · have e : a0.tmod 8 = -((-a0).tmod 8) := by rw [Int.neg_tmod]; omega
      rw [e, Int.tmod_eq_emod_of_nonneg (by omega)]; omega
  obtain ⟨K, hK⟩ : ∃ K : Nat, (32 : Int) + a0.tmod 8 = K := ⟨(32 + a0.tmod 8).toNat, by omega⟩
  have hK1 : 25 ≤ K := by omega
  have hK2 : K < 40 := by omega
  have r1 : IntKind.i8.wrap (a0.tmod 8) = a0.tmod 8 := by
    have := hrb.1; have := hrb.2
    simp only [IntKind.wrap, IntKind.bits, IntKind.signed]
    generalize a0.tmod 8 = x at *
    simp; omega
  have r2 : IntKind.i64.wrap (a0.tmod 8) = a0.tmod 8 := IntWalk.i64_in _ (by omega)
  have r3 : IntKind.i64.wrap ((32 : Int) + a0.tmod 8) = K := by rw [hK]; exact IntWalk.i64_in _ (by omega)
  clear hrb
  replace hK : Hid ((32 : Int) + a0.tmod 8 = K) := hK
  obtain ⟨i0, hi, hz0, hz1, hz2⟩ := info_parts info53
  obtain ⟨j0, gi, gz0, gz1, gz2⟩ := info_parts info5
  go_enter Try.func4, Try.ntmps4
  go_upto_region 3 with first | (refine wpList_make_full _ rfl _ _ 22 rfl w.heap.size 26 i0 (.agg #[.int .u8 0, .int .u8 0, .int .u8 0, .int .i16 0, .int .i32 0]) 5 Try.underlying22 hi hz0 hz1 _ _ _ _ n rfl rfl rfl rfl (by rw [hz2]; omega) (by simp [maxLen]; omega) (Nat.le_refl _) ?_; intro w1 hown hgrow; have hb1 := (Below.refl w.heap.size w).grown hgrow (Nat.le_refl _) (fun k e => by cases e))
  have hblk : w1.heap[w.heap.size]? = some (.cells ((List.replicate n zSl).flatMap Sl.cells).toArray 26) := by
    rcases hown.2 with ⟨e, _⟩ | ⟨g, cap, cur, e, _, hg, _, _, hs, ht⟩
    · cases e
    · cases e
      refine hg.trans ?_
      rw [made5, List.take_of_length_le (by simp [hs])] at ht
      rw [← ht]
  clear hown hgrow
  go_wp2
  go_loopw [5] (fun i wr => ∃ k : Nat, i = .int .i64 k ∧ k ≤ n ∧ wr.heap[w.heap.size]? = some (.cells ((List.replicate k slMov ++ List.replicate (n - k) zSl).flatMap Sl.cells).toArray 26) ∧ Below w.heap.size w wr) (fun i _ => n - (intOf i).toNat)
  case atStart => exact ⟨0, rfl, by omega, by simpa using hblk, hb1⟩
  case round =>
    clear hblk hb1
    obtain ⟨k, rfl, hk1, hB, hb⟩ := hrel
    by_cases hlt : k < n
    · have hd : decide ((k : Int) < n) = true := by simp; omega
      have hd2 : decide ((0 : Int) ≤ (k : Int) ∧ (k : Int) < (n : Int)) = true := by simp; omega
      have e1 : IntKind.i64.wrap ((k : Int) + 1) = ((k + 1 : Nat) : Int) := by rw [IntWalk.i64_in _ (by omega)]; omega
      have hM : (List.replicate k slMov ++ List.replicate (n - k) zSl).length = n := by simp; omega
      obtain ⟨y, hy⟩ : ∃ y, (List.replicate k slMov ++ List.replicate (n - k) zSl)[k]? = some y := ⟨_, List.getElem?_eq_getElem (by omega)⟩
      have hcl := fl5_get _ k y hy
      have hset := flat_set (List.replicate k slMov ++ List.replicate (n - k) zSl) k slMov (by omega)
      have hfin : (List.replicate k slMov ++ List.replicate (n - k) zSl).set k slMov = List.replicate (k + 1) slMov ++ List.replicate (n - (k + 1)) zSl := by
        rw [List.set_append_right _ _ (by simp), List.length_replicate, Nat.sub_self, show n - k = (n - (k + 1)) + 1 by omega, List.replicate_succ, List.set_cons_zero, List.replicate_succ', List.append_assoc]
        rfl
      generalize List.replicate k slMov ++ List.replicate (n - k) zSl = M at hB hcl hset hfin hM hy
      obtain ⟨q0, q1, q2, q3, q4⟩ := hcl
      have hcell : ∀ (W : World), W.heap[w.heap.size]? = some (.cells (M.flatMap Sl.cells).toArray 26) → ∀ (j : Nat) (v : Value), (M.flatMap Sl.cells)[j]? = some v → W.cell? ⟨w.heap.size, j, none⟩ = some v := fun W hW j v hj => by unfold World.cell?; rw [hW]; simpa using hj
      have hfro : ∀ (W : World), W.heap[w.heap.size]? = some (.cells (M.flatMap Sl.cells).toArray 26) → ∀ j : Nat, W.frozen? ⟨w.heap.size, j, none⟩ = false := fun W hW j => by simp [World.frozen?, hW]
      generalize (M.flatMap Sl.cells) = F at hB q0 q1 q2 q3 q4 hcell hfro hset
      go_wp2_with first | (go_at_call 9; refine (hmv _).mono ?_; rintro e W2 ⟨rfl, hg⟩; have hB2 := (hg.block _ (ch_lt hB)).trans hB; have c0 := hcell W2 hB2 _ _ q0; have c1 := hcell W2 hB2 _ _ q1; have c2 := hcell W2 hB2 _ _ q2; have c3 := hcell W2 hB2 _ _ q3; have c4 := hcell W2 hB2 _ _ q4; have f0 := hfro W2 hB2 (k * 5); have f1 := hfro W2 hB2 (k * 5 + 1); have f2 := hfro W2 hB2 (k * 5 + 2); have f3 := hfro W2 hB2 (k * 5 + 3); have f4 := hfro W2 hB2 (k * 5 + 4); have hb2 := hb.trans (hg.mono hb.size))
      refine ⟨⟨k + 1, by simp, by omega, ?_, (((((hb2.setCell (p := ⟨w.heap.size, _, none⟩) (Nat.le_refl _) _).setCell (p := ⟨w.heap.size, _, none⟩) (Nat.le_refl _) _).setCell (p := ⟨w.heap.size, _, none⟩) (Nat.le_refl _) _).setCell (p := ⟨w.heap.size, _, none⟩) (Nat.le_refl _) _).setCell (p := ⟨w.heap.size, _, none⟩) (Nat.le_refl _) _)⟩, by simp [intOf]; omega⟩
      rw [← hfin, ← hset]
      refine (set_at (set_at (set_at (set_at (set_at hB2 (k * 5) _) (k * 5 + 1) _) (k * 5 + 2) _) (k * 5 + 3) _) (k * 5 + 4) _).trans ?_
      simp [slMov]
    · have hd : decide ((k : Int) < n) = false := by simp; omega
      have hd9 : decide (k < n) = false := by simp; omega
      obtain rfl : k = n := by omega
      rw [Nat.sub_self, List.replicate_zero, List.append_nil] at hB
      clear hk1
      have hM : (List.replicate k slMov).length = k := by simp
      have hcl := fl5_get (List.replicate k slMov) (k - 1) slMov (by rw [List.getElem?_replicate, if_pos (by omega)])
      have hset := flat_set (List.replicate k slMov) (k - 1) slExit (by omega)
      have hfin : (List.replicate k slMov).set (k - 1) slExit = Pn k := by
        unfold Pn
        obtain ⟨m, rfl⟩ : ∃ m, k = m + 1 := ⟨k - 1, by omega⟩
        rw [Nat.add_sub_cancel, List.replicate_succ', List.set_append_right _ _ (by simp), List.length_replicate, Nat.sub_self]
        rfl
      rw [hfin] at hset
      obtain ⟨q0, q1, q2, q3, q4⟩ := hcl
      have hcell : ∀ (W : World), W.heap[w.heap.size]? = some (.cells ((List.replicate k slMov).flatMap Sl.cells).toArray 26) → ∀ (j : Nat) (v : Value), ((List.replicate k slMov).flatMap Sl.cells)[j]? = some v → W.cell? ⟨w.heap.size, j, none⟩ = some v := fun W hW j v hj => by unfold World.cell?; rw [hW]; simpa using hj
      have hfro : ∀ (W : World), W.heap[w.heap.size]? = some (.cells ((List.replicate k slMov).flatMap Sl.cells).toArray 26) → ∀ j : Nat, W.frozen? ⟨w.heap.size, j, none⟩ = false := fun W hW j => by simp [World.frozen?, hW]
      generalize (List.replicate k slMov).flatMap Sl.cells = F at hB q0 q1 q2 q3 q4 hcell hfro hset
      have hd2 : decide ((0 : Int) ≤ ((k - 1 : Nat) : Int) ∧ ((k - 1 : Nat) : Int) < (k : Int)) = true := by simp; omega
      go_upto_region 8 with first | (go_at_call 10; refine (hex _).mono ?_; rintro e W2 ⟨rfl, hg⟩; have hB2 := (hg.block _ (ch_lt hB)).trans hB; have c0 := hcell W2 hB2 _ _ q0; have c1 := hcell W2 hB2 _ _ q1; have c2 := hcell W2 hB2 _ _ q2; have c3 := hcell W2 hB2 _ _ q3; have c4 := hcell W2 hB2 _ _ q4; have f0 := hfro W2 hB2 ((k - 1) * 5); have f1 := hfro W2 hB2 ((k - 1) * 5 + 1); have f2 := hfro W2 hB2 ((k - 1) * 5 + 2); have f3 := hfro W2 hB2 ((k - 1) * 5 + 3); have f4 := hfro W2 hB2 ((k - 1) * 5 + 4); have hb2 := hb.trans (hg.mono hb.size))
      have hB3 : (((((W2.setCell ⟨w.heap.size, (k - 1) * 5, none⟩ (.int .u8 149)).setCell ⟨w.heap.size, (k - 1) * 5 + 1, none⟩ (.int .u8 0)).setCell ⟨w.heap.size, (k - 1) * 5 + 2, none⟩ (.int .u8 0)).setCell ⟨w.heap.size, (k - 1) * 5 + 3, none⟩ (.int .i16 0)).setCell ⟨w.heap.size, (k - 1) * 5 + 4, none⟩ (.int .i32 0)).heap[w.heap.size]? = some (.cells ((Pn k).flatMap Sl.cells).toArray 26) := by
        rw [← hset]
        refine (set_at (set_at (set_at (set_at (set_at hB2 ((k - 1) * 5) _) ((k - 1) * 5 + 1) _) ((k - 1) * 5 + 2) _) ((k - 1) * 5 + 3) _) ((k - 1) * 5 + 4) _).trans ?_
        simp [slExit]
      have HB := (((((hb2.setCell (p := ⟨w.heap.size, (k - 1) * 5, none⟩) (Nat.le_refl _) (.int .u8 149)).setCell (p := ⟨w.heap.size, (k - 1) * 5 + 1, none⟩) (Nat.le_refl _) (.int .u8 0)).setCell (p := ⟨w.heap.size, (k - 1) * 5 + 2, none⟩) (Nat.le_refl _) (.int .u8 0)).setCell (p := ⟨w.heap.size, (k - 1) * 5 + 3, none⟩) (Nat.le_refl _) (.int .i16 0)).setCell (p := ⟨w.heap.size, (k - 1) * 5 + 4, none⟩) (Nat.le_refl _) (.int .i32 0))
      clear c0 c1 c2 c3 c4 f0 f1 f2 f3 f4 hB2 hb2 hg hB hb q0 q1 q2 q3 q4 hcell hfro hset hfin hM hd2
      generalize (((((W2.setCell ⟨w.heap.size, (k - 1) * 5, none⟩ (.int .u8 149)).setCell ⟨w.heap.size, (k - 1) * 5 + 1, none⟩ (.int .u8 0)).setCell ⟨w.heap.size, (k - 1) * 5 + 2, none⟩ (.int .u8 0)).setCell ⟨w.heap.size, (k - 1) * 5 + 3, none⟩ (.int .i16 0)).setCell ⟨w.heap.size, (k - 1) * 5 + 4, none⟩ (.int .i32 0)) = W3 at hB3 HB ⊢
      go_upto_region 9 with (go_at_call 11; refine (kck _ _ hB3).mono ?_; rintro e V ⟨vc, rfl, hb⟩; replace HB := HB.trans (hb.mono HB.size); clear hb)
      clear hB3 kck
      go_upto_region 10 with first | (refine wpList_make_full _ rfl _ _ 38 rfl V.heap.size 5 j0 (.int .u8 0) 1 Try.underlying38 gi gz0 gz1 _ _ _ _ (8 * k) rfl rfl rfl rfl (by rw [gz2]; omega) (by simp [maxLen]; omega) (Nat.le_refl _) ?_; intro wz hownz hgrowz; replace HB := HB.grown hgrowz HB.size (fun k e => by cases e); have hz : wz.heap[V.heap.size]? = some (.cells (List.replicate (8 * k) (Value.int .u8 0)).toArray 5) := (by rcases hownz.2 with ⟨e, _⟩ | ⟨g, cap, cur, e, _, hg, _, _, hs, ht⟩; exact (by cases e); cases e; refine hg.trans ?_; rw [made1, List.take_of_length_le (by simp [hs])] at ht; rw [← ht]); have hcv := zero_bytes hz; clear hownz hgrowz) | (go_at_call 6; refine (kdz _ _ (by simp [ByteArray.size])).mono ?_; rintro e V2 ⟨vd, rfl, hb⟩; replace HB := HB.trans (hb.mono HB.size); clear hb)
      clear hd hd9
      rcases hcase with ⟨g1, -, rfl, rfl⟩ | ⟨g1, -, rfl, rfl⟩
      · have g2 : decide (a0 ≤ 0) = true := by simp; omega
        have g3 : decide (0 < a0) = false := by simp; omega
        clear g1 kdz
        go_upto_region 13 with fail
        clear g2 g3 r1 r2 r3 hz hcv
        go_wp2
        go_loopw [12, 13] (fun v i wr => ∃ (j : Nat), i = .int .i64 j ∧ j + 1 ≤ K ∧ wr.ownsRow w.heap.size 26 5 v j ((List.replicate j (slCall 0)).flatMap Sl.cells) ∧ Below w.heap.size w wr) (fun _ i _ => K - (intOf i).toNat)
        case atStart => exact ⟨0, rfl, by omega, World.ownsRow_nil _ _ _ _, HB⟩
        case round =>
          clear HB
          obtain ⟨j, rfl, hjK, hrow, HB⟩ := hrel
          have e1 : IntKind.i64.wrap ((j : Int) + 1) = ((j + 1 : Nat) : Int) := by rw [IntWalk.i64_in _ (by omega)]; omega
          by_cases hj : j + 1 < K
          · have hd : decide (((j + 1 : Nat) : Int) < K) = true := by simp; omega
            have hd' : decide (j + 1 < K) = true := by simp; omega
            obtain ⟨v2, wa, ra, hrow2, hba⟩ := push_any hrow [slCall 0] (fun x hx => by rw [List.mem_singleton.1 hx]; exact call_ok _ (by omega) (by omega)) (by omega) (by simp) HB.size #[.int .u8 133, .int .u8 0, .int .u8 1, .int .i16 0, .int .i32 0] rfl 1 rfl
            go_wp2_with (refine Lib.wpList_append_run _ rfl _ _ 22 22 rfl _ _ rfl rfl v2 wa ra ?_; skip)
            refine ⟨⟨j + 1, by simp, by omega, ?_, HB.trans hba⟩, by simp [intOf]; omega⟩
            rw [List.replicate_succ', List.flatMap_append]
            exact hrow2
          · have hd : decide (((j + 1 : Nat) : Int) < K) = false := by simp; omega
            have hd' : decide (j + 1 < K) = false := by simp; omega
            obtain rfl : j = K - 1 := by omega
            clear hjK hj
            go_upto_region 19 with first | (go_at_call 10; refine (hex _).mono ?_; rintro e W4 ⟨rfl, hg⟩; replace HB := HB.trans (hg.mono HB.size); obtain ⟨v2, wa, ra, hrow2, hba⟩ := push_any (ownsRow_gr hrow hg) [slExit] (fun x hx => by rw [List.mem_singleton.1 hx]; exact exit_ok) (by omega) (by simp) HB.size #[.int .u8 149, .int .u8 0, .int .u8 0, .int .i16 0, .int .i32 0] rfl 1 rfl) | (refine Lib.wpList_append_run _ rfl _ _ 22 22 rfl _ _ rfl rfl v2 wa ra ?_; skip)
            have HB3 := HB.trans hba
            have hrow3 : wa.ownsRow w.heap.size 26 5 v2 (K + 2 * 0) ((List.replicate (K - 1) (slCall 0) ++ slExit :: alt 0).flatMap Sl.cells) := by
              rw [List.flatMap_append, show K + 2 * 0 = K - 1 + 1 by omega]
              exact hrow2
            clear hrow hrow2 hd hd' e1 HB hba ra
            go_wp2
            go_loopw [12, 14] (fun v i wr => ∃ (j : Nat), i = .int .i64 j ∧ j + 1 ≤ K ∧ wr.ownsRow w.heap.size 26 5 v (K + 2 * j) ((List.replicate (K - 1) (slCall 0) ++ slExit :: alt j).flatMap Sl.cells) ∧ Below w.heap.size w wr) (fun _ i _ => K - (intOf i).toNat)
            case atStart => exact ⟨0, rfl, by omega, hrow3, HB3⟩
            case round =>
              clear hrow3 HB3
              obtain ⟨j, rfl, hjK, hrow, HB⟩ := hrel
              have e1 : IntKind.i64.wrap ((j : Int) + 1) = ((j + 1 : Nat) : Int) := by rw [IntWalk.i64_in _ (by omega)]; omega
              by_cases hj : j + 1 < K
              · have hd : decide (((j + 1 : Nat) : Int) < K) = true := by simp; omega
                have hd' : decide (j + 1 < K) = true := by simp; omega
                go_wp2_with first | (go_at_call 9; refine (hmv _).mono ?_; rintro e W4 ⟨rfl, hg⟩; replace HB := HB.trans (hg.mono HB.size); replace hrow := ownsRow_gr hrow hg; clear hg) | (go_at_call 10; refine (hex _).mono ?_; rintro e W5 ⟨rfl, hg⟩; replace HB := HB.trans (hg.mono HB.size); obtain ⟨v2, wa, ra, hrow2, hba⟩ := push_any (ownsRow_gr hrow hg) [slMov, slExit] (fun x hx => by rcases List.mem_cons.1 hx with rfl | hx; exact mov_ok; rw [List.mem_singleton.1 hx]; exact exit_ok) (by omega) (by simp) HB.size #[.int .u8 183, .int .u8 0, .int .u8 0, .int .i16 0, .int .i32 0, .int .u8 149, .int .u8 0, .int .u8 0, .int .i16 0, .int .i32 0] rfl 2 rfl) | (refine Lib.wpList_append_run _ rfl _ _ 22 22 rfl _ _ rfl rfl v2 wa ra ?_; skip)
                refine ⟨⟨j + 1, by simp, by omega, ?_, HB.trans hba⟩, by simp [intOf]; omega⟩
                rw [alt_succ, show List.replicate (K - 1) (slCall 0) ++ slExit :: (alt j ++ [slMov, slExit]) = (List.replicate (K - 1) (slCall 0) ++ slExit :: alt j) ++ [slMov, slExit] by simp, List.flatMap_append, show K + 2 * (j + 1) = K + 2 * j + 2 by omega]
                exact hrow2
              · have hd : decide (((j + 1 : Nat) : Int) < K) = false := by simp; omega
                have hd' : decide (j + 1 < K) = false := by simp; omega
                obtain rfl : j = K - 1 := by omega
                clear hjK hj
                obtain ⟨N, hN⟩ : ∃ N, K + 2 * (K - 1) = N := ⟨_, rfl⟩
                rw [hN, ← Rj_zero] at hrow
                have hN3 : 3 * K - 2 = N := by omega
                have hNl : K ≤ N ∧ N ≤ 200 := by omega
                replace hN3 : Hid (3 * K - 2 = N) := hN3
                clear hN
                obtain ⟨g, cap, cur, hv, hgB, hgc, ht⟩ : ∃ (g cap : Nat) (cur : Array Value), _ = Value.slice (some ⟨g, 0, none⟩) N cap ∧ w.heap.size ≤ g ∧ wr.heap[g]? = some (.cells cur 26 (0, 0)) ∧ Hid (cur.toList.take (N * 5) = (Rj K 0).flatMap Sl.cells) := by
                  rcases hrow.2 with ⟨_, h⟩ | ⟨g, cap, cur, e, h1, h2, h3, h4, h5, h6⟩
                  · omega
                  · exact ⟨g, cap, cur, e, h1, h2, h6⟩
                subst hv
                clear hrow e1 hd hd'
                go_wp2
                go_loopw [15, 16] (fun i _ wr => ∃ (j : Nat) (cur : Array Value), i = .int .i64 j ∧ j + 1 ≤ K ∧ wr.heap[g]? = some (.cells cur 26 (0, 0)) ∧ Hid (cur.toList.take (N * 5) = (Rj K j).flatMap Sl.cells) ∧ Below w.heap.size w wr) (fun i _ _ => K - (intOf i).toNat)
                case atStart => exact ⟨0, cur, rfl, by omega, hgc, ht, HB⟩
                case round =>
                  clear hgc ht HB
                  obtain ⟨j, cur, rfl, hjK, hgc, ht, HB⟩ := hrel
                  have e1 : IntKind.i64.wrap ((j : Int) + 1) = ((j + 1 : Nat) : Int) := by rw [IntWalk.i64_in _ (by omega)]; omega
                  by_cases hj : j + 1 < K
                  · have hd : decide (((j + 1 : Nat) : Int) < K) = true := by simp; omega
                    have hd' : decide (j + 1 < K) = true := by simp; omega
                    have hd2 : decide ((0 : Int) ≤ (j : Int) ∧ (j : Int) < (N : Int)) = true := by simp; omega
                    have hcl := fl5_get (Rj K j) j (slCall 0) (Rj_at hj)
                    have hset := flat_set (Rj K j) j (cimm K j) (by rw [Rj_len (by omega)]; omega)
                    rw [Rj_set hj] at hset
                    replace hset : Hid _ := hset
                    have hcell : ∀ (W : World), W.heap[g]? = some (.cells cur 26 (0, 0)) → ∀ (i : Nat) (v : Value), ((Rj K j).flatMap Sl.cells)[i]? = some v → W.cell? ⟨g, i, none⟩ = some v := fun W hW i v hi => by
                      rw [← ht.out, List.getElem?_take] at hi
                      split at hi
                      · unfold World.cell?; rw [hW]; simpa using hi
                      · cases hi
                    have hfro : ∀ (W : World), W.heap[g]? = some (.cells cur 26 (0, 0)) → ∀ i : Nat, W.frozen? ⟨g, i, none⟩ = false := fun W hW i => by simp [World.frozen?, hW]
                    generalize (Rj K j).flatMap Sl.cells = F at ht hcl hset hcell
                    obtain ⟨q0, q1, q2, q3, q4⟩ := hcl
                    have c0 : wr.cell? ⟨g, j * 5, none⟩ = some (.int .u8 133) := hcell wr hgc _ _ q0
                    have c1 : wr.cell? ⟨g, j * 5 + 1, none⟩ = some (.int .u8 0) := hcell wr hgc _ _ q1
                    have c2 : wr.cell? ⟨g, j * 5 + 2, none⟩ = some (.int .u8 1) := hcell wr hgc _ _ q2
                    have c3 : wr.cell? ⟨g, j * 5 + 3, none⟩ = some (.int .i16 0) := hcell wr hgc _ _ q3
                    have c4 : wr.cell? ⟨g, j * 5 + 4, none⟩ = some (.int .i32 0) := hcell wr hgc _ _ q4
                    replace hcell : Hid _ := hcell
                    replace hfro : Hid _ := hfro
                    go_upto_region 27 with fail
                    have hX : (wr.alloc (.cells #[.int .u8 133, .int .u8 0, .int .u8 1, .int .i16 0, .int .i32 0] 26)).heap[wr.heap.size]? = some (.cells #[.int .u8 133, .int .u8 0, .int .u8 1, .int .i16 0, .int .i32 0] 26 (0, 0)) := World.alloc_heap_new wr _
                    have hg2 : (wr.alloc (.cells #[.int .u8 133, .int .u8 0, .int .u8 1, .int .i16 0, .int .i32 0] 26)).heap[g]? = some (.cells cur 26 (0, 0)) := (((Below.refl _ wr).alloc (Nat.le_refl _) _).block g (ch_lt hgc)).trans hgc
                    have HB2 : Below w.heap.size w (wr.alloc (.cells #[.int .u8 133, .int .u8 0, .int .u8 1, .int .i16 0, .int .i32 0] 26)) := HB.alloc HB.size _
                    have hXg := ch_lt hgc
                    have hXw := HB.size
                    clear c0 c1 c2 c3 c4 hgc HB
                    generalize wr.alloc (.cells #[.int .u8 133, .int .u8 0, .int .u8 1, .int .i16 0, .int .i32 0] 26) = u0 at hX hg2 HB2 ⊢
                    generalize wr.heap.size = X at hX hXg hXw ⊢
                    have y4 : u0.cell? ⟨X, 4, none⟩ = some (.int .i32 0) := by unfold World.cell?; rw [hX]; rfl
                    have f4 : u0.frozen? ⟨X, 4, none⟩ = false := by simp [World.frozen?, hX]
                    have wa1 : IntKind.i64.wrap ((2 : Int) * (j : Int)) = 2 * j := IntWalk.i64_in _ (by omega)
                    have wb1 : IntKind.i64.wrap ((K : Int) + 2 * (j : Int)) = K + 2 * j := IntWalk.i64_in _ (by omega)
                    have wc1 : IntKind.i64.wrap ((K : Int) + 2 * (j : Int) - j) = K + 2 * j - j := IntWalk.i64_in _ (by omega)
                    have wd1 : IntKind.i64.wrap ((K : Int) + 2 * (j : Int) - j - 1) = K + 2 * j - j - 1 := IntWalk.i64_in _ (by omega)
                    have we1 : IntKind.i32.wrap ((K : Int) + 2 * (j : Int) - j - 1) = K + 2 * j - j - 1 := by
                      simp only [IntKind.wrap, IntKind.bits, IntKind.signed]
                      simp; omega
                    go_upto_region 28 with fail
                    have hZ : Hid ((cimm K j).i = (K : Int) + 2 * (j : Int) - j - 1) := rfl
                    generalize (K : Int) + 2 * (j : Int) - j - 1 = Z at hZ ⊢
                    have hX3 : (u0.setCell ⟨X, 4, none⟩ (.int .i32 Z)).heap[X]? = some (.cells #[.int .u8 133, .int .u8 0, .int .u8 1, .int .i16 0, .int .i32 Z] 26 (0, 0)) := by simpa using set_at hX 4 (.int .i32 Z)
                    have hg3 : (u0.setCell ⟨X, 4, none⟩ (.int .i32 Z)).heap[g]? = some (.cells cur 26 (0, 0)) := (((Below.refl X u0).setCell (p := ⟨X, 4, none⟩) (Nat.le_refl X) (.int .i32 Z)).block g hXg).trans hg2
                    have HB3 : Below w.heap.size w (u0.setCell ⟨X, 4, none⟩ (.int .i32 Z)) := HB2.setCell (p := ⟨X, 4, none⟩) hXw _
                    clear wa1 wb1 wc1 wd1 we1 y4 f4 hX hg2 HB2
                    generalize u0.setCell ⟨X, 4, none⟩ (.int .i32 Z) = u1 at hX3 hg3 HB3 ⊢
                    have z0 : u1.cell? ⟨X, 0, none⟩ = some (.int .u8 133) := by unfold World.cell?; rw [hX3]; rfl
                    have z1 : u1.cell? ⟨X, 1, none⟩ = some (.int .u8 0) := by unfold World.cell?; rw [hX3]; rfl
                    have z2 : u1.cell? ⟨X, 2, none⟩ = some (.int .u8 1) := by unfold World.cell?; rw [hX3]; rfl
                    have z3 : u1.cell? ⟨X, 3, none⟩ = some (.int .i16 0) := by unfold World.cell?; rw [hX3]; rfl
                    have z4 : u1.cell? ⟨X, 4, none⟩ = some (.int .i32 Z) := by unfold World.cell?; rw [hX3]; rfl
                    have c0 : u1.cell? ⟨g, j * 5, none⟩ = some (.int .u8 133) := hcell.out u1 hg3 _ _ q0
                    have c1 : u1.cell? ⟨g, j * 5 + 1, none⟩ = some (.int .u8 0) := hcell.out u1 hg3 _ _ q1
                    have c2 : u1.cell? ⟨g, j * 5 + 2, none⟩ = some (.int .u8 1) := hcell.out u1 hg3 _ _ q2
                    have c3 : u1.cell? ⟨g, j * 5 + 3, none⟩ = some (.int .i16 0) := hcell.out u1 hg3 _ _ q3
                    have c4 : u1.cell? ⟨g, j * 5 + 4, none⟩ = some (.int .i32 0) := hcell.out u1 hg3 _ _ q4
                    have f0 := hfro.out u1 hg3 (j * 5)
                    have f1 := hfro.out u1 hg3 (j * 5 + 1)
                    have f2 := hfro.out u1 hg3 (j * 5 + 2)
                    have f3 := hfro.out u1 hg3 (j * 5 + 3)
                    have f4 := hfro.out u1 hg3 (j * 5 + 4)
                    go_wp2
                    refine ⟨⟨j + 1, _, by simp, by omega, set_at (set_at (set_at (set_at (set_at hg3 (j * 5) _) (j * 5 + 1) _) (j * 5 + 2) _) (j * 5 + 3) _) (j * 5 + 4) _, ?_, ((((HB3.setCell (p := ⟨g, _, none⟩) hgB _).setCell (p := ⟨g, _, none⟩) hgB _).setCell (p := ⟨g, _, none⟩) hgB _).setCell (p := ⟨g, _, none⟩) hgB _).setCell (p := ⟨g, _, none⟩) hgB _⟩, by simp [intOf]; omega⟩
                    refine (cur_set (cur_set (cur_set (cur_set (cur_set ht.out _ _) _ _) _ _) _ _) _ _).trans ?_
                    rw [← hset.out, hZ.out]
                    rfl
                  · have hd : decide (((j + 1 : Nat) : Int) < K) = false := by simp; omega
                    have hd' : decide (j + 1 < K) = false := by simp; omega
                    obtain rfl : j = K - 1 := by omega
                    rw [Rj_last] at ht
                    have hSl : Slots AnyB wr (.slice (some ⟨g, 0, none⟩) N cap) (Qk K) := by
                      have hql := q_len hK1 hK2
                      have := slots_cur (cap := cap) (L := Qk K) hgc (by rw [hql, hN3.out]; exact ht.out) (Qk_ok hK2) (by rw [hql]; omega)
                      rwa [hql, hN3.out] at this
                    have kc := check_any _ (Qk K) wr hSl
                    clear hSl ht hgc hjK hj
                    by_cases h32 : K ≤ 32
                    · have g5 : decide ((K : Int) ≤ 32) = true := by simp; omega
                      have g6 : decide (K ≤ 32) = true := by simp; omega
                      rw [q_few hK1 (by omega), q_sl hK1 hK2] at kc
                      have kc2 : Calls Try.prog 11 #[.slice (some ⟨g, 0, none⟩) N cap] wr fun e w' => ∃ (p : Option Addr) (c : Nat), e = .returned (.tuple #[.slice p K c, .int .i64 0, .int .i64 0]) ∧ Below wr.heap.size wr w' := kc.mono fun e w' h => by
                        obtain ⟨v, rfl, h1, _, hb⟩ := h
                        obtain ⟨sb, _, hS⟩ := h1 rfl
                        obtain ⟨cs, rfl⟩ := hS.val
                        rw [show (sqk K).length = K by simp [sqk]]
                        exact ⟨_, cs, rfl, hb⟩
                      clear kc
                      go_wp2_with first | (go_at_call 11; refine kc2.mono ?_; rintro e V5 ⟨p5, c5, rfl, hb⟩; replace HB := HB.trans (hb.mono HB.size); clear hb) | (go_at_call 5; refine (hal _).mono ?_; rintro e V6 ⟨rfl, hb⟩; replace HB := HB.trans (hb.mono HB.size); clear hb)
                      go_returns
                      exact ⟨rfl, HB⟩
                    · have g5 : decide ((K : Int) ≤ 32) = false := by simp; omega
                      have g6 : decide (K ≤ 32) = false := by simp; omega
                      have g7 : IntKind.i64.wrap ((K : Int) + 62) = K + 62 := IntWalk.i64_in _ (by omega)
                      rw [q_many hK1 hK2 (by omega)] at kc
                      have kc2 : Calls Try.prog 11 #[.slice (some ⟨g, 0, none⟩) N cap] wr fun e w' => e = .returned (.tuple #[.slice none 0 0, .int .i64 ((K : Int) + 62), .int .i64 4]) ∧ Below wr.heap.size wr w' := kc.mono fun e w' h => by
                        obtain ⟨v, rfl, _, h2, hb⟩ := h
                        have := h2 (by show (4 : Int) ≠ 0; decide)
                        subst this
                        exact ⟨rfl, hb⟩
                      clear kc
                      go_wp2_with first | (go_at_call 11; refine kc2.mono ?_; rintro e V5 ⟨rfl, hb⟩; replace HB := HB.trans (hb.mono HB.size); clear hb) | (go_at_call 5; refine (hal _).mono ?_; rintro e V6 ⟨rfl, hb⟩; replace HB := HB.trans (hb.mono HB.size); clear hb)
                      go_returns
                      exact ⟨rfl, HB⟩
      · have g2 : decide (a0 ≤ 0) = false := by simp; omega
        have g3 : decide (0 < a0) = true := by simp; omega
        clear g1 kdz
        go_upto_region 13 with fail
        clear g2 g3 r1 r2 r3 hz hcv
        go_wp2
        go_loopw [12, 13] (fun v i wr => ∃ (j : Nat), i = .int .i64 j ∧ j + 1 ≤ K ∧ wr.ownsRow w.heap.size 26 5 v j ((List.replicate j (slCall 0)).flatMap Sl.cells) ∧ Below w.heap.size w wr) (fun _ i _ => K - (intOf i).toNat)
        case atStart => exact ⟨0, rfl, by omega, World.ownsRow_nil _ _ _ _, HB⟩
        case round =>
          clear HB
          obtain ⟨j, rfl, hjK, hrow, HB⟩ := hrel
          have e1 : IntKind.i64.wrap ((j : Int) + 1) = ((j + 1 : Nat) : Int) := by rw [IntWalk.i64_in _ (by omega)]; omega
          by_cases hj : j + 1 < K
          · have hd : decide (((j + 1 : Nat) : Int) < K) = true := by simp; omega
            have hd' : decide (j + 1 < K) = true := by simp; omega
            obtain ⟨v2, wa, ra, hrow2, hba⟩ := push_any hrow [slCall 0] (fun x hx => by rw [List.mem_singleton.1 hx]; exact call_ok _ (by omega) (by omega)) (by omega) (by simp) HB.size #[.int .u8 133, .int .u8 0, .int .u8 1, .int .i16 0, .int .i32 0] rfl 1 rfl
            go_wp2_with (refine Lib.wpList_append_run _ rfl _ _ 22 22 rfl _ _ rfl rfl v2 wa ra ?_; skip)
            refine ⟨⟨j + 1, by simp, by omega, ?_, HB.trans hba⟩, by simp [intOf]; omega⟩
            rw [List.replicate_succ', List.flatMap_append]
            exact hrow2
          · have hd : decide (((j + 1 : Nat) : Int) < K) = false := by simp; omega
            have hd' : decide (j + 1 < K) = false := by simp; omega
            obtain rfl : j = K - 1 := by omega
            clear hjK hj
            go_upto_region 19 with first | (go_at_call 10; refine (hex _).mono ?_; rintro e W4 ⟨rfl, hg⟩; replace HB := HB.trans (hg.mono HB.size); obtain ⟨v2, wa, ra, hrow2, hba⟩ := push_any (ownsRow_gr hrow hg) [slExit] (fun x hx => by rw [List.mem_singleton.1 hx]; exact exit_ok) (by omega) (by simp) HB.size #[.int .u8 149, .int .u8 0, .int .u8 0, .int .i16 0, .int .i32 0] rfl 1 rfl) | (refine Lib.wpList_append_run _ rfl _ _ 22 22 rfl _ _ rfl rfl v2 wa ra ?_; skip)
            have HB3 := HB.trans hba
            have hrow3 : wa.ownsRow w.heap.size 26 5 v2 (K + 2 * 0) ((List.replicate (K - 1) (slCall 0) ++ slExit :: alt 0).flatMap Sl.cells) := by
              rw [List.flatMap_append, show K + 2 * 0 = K - 1 + 1 by omega]
              exact hrow2
            clear hrow hrow2 hd hd' e1 HB hba ra
            go_wp2
            go_loopw [12, 14] (fun v i wr => ∃ (j : Nat), i = .int .i64 j ∧ j + 1 ≤ K ∧ wr.ownsRow w.heap.size 26 5 v (K + 2 * j) ((List.replicate (K - 1) (slCall 0) ++ slExit :: alt j).flatMap Sl.cells) ∧ Below w.heap.size w wr) (fun _ i _ => K - (intOf i).toNat)
            case atStart => exact ⟨0, rfl, by omega, hrow3, HB3⟩
            case round =>
              clear hrow3 HB3
              obtain ⟨j, rfl, hjK, hrow, HB⟩ := hrel
              have e1 : IntKind.i64.wrap ((j : Int) + 1) = ((j + 1 : Nat) : Int) := by rw [IntWalk.i64_in _ (by omega)]; omega
              by_cases hj : j + 1 < K
              · have hd : decide (((j + 1 : Nat) : Int) < K) = true := by simp; omega
                have hd' : decide (j + 1 < K) = true := by simp; omega
                go_wp2_with first | (go_at_call 9; refine (hmv _).mono ?_; rintro e W4 ⟨rfl, hg⟩; replace HB := HB.trans (hg.mono HB.size); replace hrow := ownsRow_gr hrow hg; clear hg) | (go_at_call 10; refine (hex _).mono ?_; rintro e W5 ⟨rfl, hg⟩; replace HB := HB.trans (hg.mono HB.size); obtain ⟨v2, wa, ra, hrow2, hba⟩ := push_any (ownsRow_gr hrow hg) [slMov, slExit] (fun x hx => by rcases List.mem_cons.1 hx with rfl | hx; exact mov_ok; rw [List.mem_singleton.1 hx]; exact exit_ok) (by omega) (by simp) HB.size #[.int .u8 183, .int .u8 0, .int .u8 0, .int .i16 0, .int .i32 0, .int .u8 149, .int .u8 0, .int .u8 0, .int .i16 0, .int .i32 0] rfl 2 rfl) | (refine Lib.wpList_append_run _ rfl _ _ 22 22 rfl _ _ rfl rfl v2 wa ra ?_; skip)
                refine ⟨⟨j + 1, by simp, by omega, ?_, HB.trans hba⟩, by simp [intOf]; omega⟩
                rw [alt_succ, show List.replicate (K - 1) (slCall 0) ++ slExit :: (alt j ++ [slMov, slExit]) = (List.replicate (K - 1) (slCall 0) ++ slExit :: alt j) ++ [slMov, slExit] by simp, List.flatMap_append, show K + 2 * (j + 1) = K + 2 * j + 2 by omega]
                exact hrow2
              · have hd : decide (((j + 1 : Nat) : Int) < K) = false := by simp; omega
                have hd' : decide (j + 1 < K) = false := by simp; omega
                obtain rfl : j = K - 1 := by omega
                clear hjK hj
                obtain ⟨N, hN⟩ : ∃ N, K + 2 * (K - 1) = N := ⟨_, rfl⟩
                rw [hN, ← Rj_zero] at hrow
                have hN3 : 3 * K - 2 = N := by omega
                have hNl : K ≤ N ∧ N ≤ 200 := by omega
                replace hN3 : Hid (3 * K - 2 = N) := hN3
                clear hN
                obtain ⟨g, cap, cur, hv, hgB, hgc, ht⟩ : ∃ (g cap : Nat) (cur : Array Value), _ = Value.slice (some ⟨g, 0, none⟩) N cap ∧ w.heap.size ≤ g ∧ wr.heap[g]? = some (.cells cur 26 (0, 0)) ∧ Hid (cur.toList.take (N * 5) = (Rj K 0).flatMap Sl.cells) := by
                  rcases hrow.2 with ⟨_, h⟩ | ⟨g, cap, cur, e, h1, h2, h3, h4, h5, h6⟩
                  · omega
                  · exact ⟨g, cap, cur, e, h1, h2, h6⟩
                subst hv
                clear hrow e1 hd hd'
                go_wp2
                go_loopw [15, 16] (fun i _ wr => ∃ (j : Nat) (cur : Array Value), i = .int .i64 j ∧ j + 1 ≤ K ∧ wr.heap[g]? = some (.cells cur 26 (0, 0)) ∧ Hid (cur.toList.take (N * 5) = (Rj K j).flatMap Sl.cells) ∧ Below w.heap.size w wr) (fun i _ _ => K - (intOf i).toNat)
                case atStart => exact ⟨0, cur, rfl, by omega, hgc, ht, HB⟩
                case round =>
                  clear hgc ht HB
                  obtain ⟨j, cur, rfl, hjK, hgc, ht, HB⟩ := hrel
                  have e1 : IntKind.i64.wrap ((j : Int) + 1) = ((j + 1 : Nat) : Int) := by rw [IntWalk.i64_in _ (by omega)]; omega
                  by_cases hj : j + 1 < K
                  · have hd : decide (((j + 1 : Nat) : Int) < K) = true := by simp; omega
                    have hd' : decide (j + 1 < K) = true := by simp; omega
                    have hd2 : decide ((0 : Int) ≤ (j : Int) ∧ (j : Int) < (N : Int)) = true := by simp; omega
                    have hcl := fl5_get (Rj K j) j (slCall 0) (Rj_at hj)
                    have hset := flat_set (Rj K j) j (cimm K j) (by rw [Rj_len (by omega)]; omega)
                    rw [Rj_set hj] at hset
                    replace hset : Hid _ := hset
                    have hcell : ∀ (W : World), W.heap[g]? = some (.cells cur 26 (0, 0)) → ∀ (i : Nat) (v : Value), ((Rj K j).flatMap Sl.cells)[i]? = some v → W.cell? ⟨g, i, none⟩ = some v := fun W hW i v hi => by
                      rw [← ht.out, List.getElem?_take] at hi
                      split at hi
                      · unfold World.cell?; rw [hW]; simpa using hi
                      · cases hi
                    have hfro : ∀ (W : World), W.heap[g]? = some (.cells cur 26 (0, 0)) → ∀ i : Nat, W.frozen? ⟨g, i, none⟩ = false := fun W hW i => by simp [World.frozen?, hW]
                    generalize (Rj K j).flatMap Sl.cells = F at ht hcl hset hcell
                    obtain ⟨q0, q1, q2, q3, q4⟩ := hcl
                    have c0 : wr.cell? ⟨g, j * 5, none⟩ = some (.int .u8 133) := hcell wr hgc _ _ q0
                    have c1 : wr.cell? ⟨g, j * 5 + 1, none⟩ = some (.int .u8 0) := hcell wr hgc _ _ q1
                    have c2 : wr.cell? ⟨g, j * 5 + 2, none⟩ = some (.int .u8 1) := hcell wr hgc _ _ q2
                    have c3 : wr.cell? ⟨g, j * 5 + 3, none⟩ = some (.int .i16 0) := hcell wr hgc _ _ q3
                    have c4 : wr.cell? ⟨g, j * 5 + 4, none⟩ = some (.int .i32 0) := hcell wr hgc _ _ q4
                    replace hcell : Hid _ := hcell
                    replace hfro : Hid _ := hfro
                    go_upto_region 27 with fail
                    have hX : (wr.alloc (.cells #[.int .u8 133, .int .u8 0, .int .u8 1, .int .i16 0, .int .i32 0] 26)).heap[wr.heap.size]? = some (.cells #[.int .u8 133, .int .u8 0, .int .u8 1, .int .i16 0, .int .i32 0] 26 (0, 0)) := World.alloc_heap_new wr _
                    have hg2 : (wr.alloc (.cells #[.int .u8 133, .int .u8 0, .int .u8 1, .int .i16 0, .int .i32 0] 26)).heap[g]? = some (.cells cur 26 (0, 0)) := (((Below.refl _ wr).alloc (Nat.le_refl _) _).block g (ch_lt hgc)).trans hgc
                    have HB2 : Below w.heap.size w (wr.alloc (.cells #[.int .u8 133, .int .u8 0, .int .u8 1, .int .i16 0, .int .i32 0] 26)) := HB.alloc HB.size _
                    have hXg := ch_lt hgc
                    have hXw := HB.size
                    clear c0 c1 c2 c3 c4 hgc HB
                    generalize wr.alloc (.cells #[.int .u8 133, .int .u8 0, .int .u8 1, .int .i16 0, .int .i32 0] 26) = u0 at hX hg2 HB2 ⊢
                    generalize wr.heap.size = X at hX hXg hXw ⊢
                    have y4 : u0.cell? ⟨X, 4, none⟩ = some (.int .i32 0) := by unfold World.cell?; rw [hX]; rfl
                    have f4 : u0.frozen? ⟨X, 4, none⟩ = false := by simp [World.frozen?, hX]
                    have wa1 : IntKind.i64.wrap ((2 : Int) * (j : Int)) = 2 * j := IntWalk.i64_in _ (by omega)
                    have wb1 : IntKind.i64.wrap ((K : Int) + 2 * (j : Int)) = K + 2 * j := IntWalk.i64_in _ (by omega)
                    have wc1 : IntKind.i64.wrap ((K : Int) + 2 * (j : Int) - j) = K + 2 * j - j := IntWalk.i64_in _ (by omega)
                    have wd1 : IntKind.i64.wrap ((K : Int) + 2 * (j : Int) - j - 1) = K + 2 * j - j - 1 := IntWalk.i64_in _ (by omega)
                    have we1 : IntKind.i32.wrap ((K : Int) + 2 * (j : Int) - j - 1) = K + 2 * j - j - 1 := by
                      simp only [IntKind.wrap, IntKind.bits, IntKind.signed]
                      simp; omega
                    go_upto_region 28 with fail
                    have hZ : Hid ((cimm K j).i = (K : Int) + 2 * (j : Int) - j - 1) := rfl
                    generalize (K : Int) + 2 * (j : Int) - j - 1 = Z at hZ ⊢
                    have hX3 : (u0.setCell ⟨X, 4, none⟩ (.int .i32 Z)).heap[X]? = some (.cells #[.int .u8 133, .int .u8 0, .int .u8 1, .int .i16 0, .int .i32 Z] 26 (0, 0)) := by simpa using set_at hX 4 (.int .i32 Z)
                    have hg3 : (u0.setCell ⟨X, 4, none⟩ (.int .i32 Z)).heap[g]? = some (.cells cur 26 (0, 0)) := (((Below.refl X u0).setCell (p := ⟨X, 4, none⟩) (Nat.le_refl X) (.int .i32 Z)).block g hXg).trans hg2
                    have HB3 : Below w.heap.size w (u0.setCell ⟨X, 4, none⟩ (.int .i32 Z)) := HB2.setCell (p := ⟨X, 4, none⟩) hXw _
                    clear wa1 wb1 wc1 wd1 we1 y4 f4 hX hg2 HB2
                    generalize u0.setCell ⟨X, 4, none⟩ (.int .i32 Z) = u1 at hX3 hg3 HB3 ⊢
                    have z0 : u1.cell? ⟨X, 0, none⟩ = some (.int .u8 133) := by unfold World.cell?; rw [hX3]; rfl
                    have z1 : u1.cell? ⟨X, 1, none⟩ = some (.int .u8 0) := by unfold World.cell?; rw [hX3]; rfl
                    have z2 : u1.cell? ⟨X, 2, none⟩ = some (.int .u8 1) := by unfold World.cell?; rw [hX3]; rfl
                    have z3 : u1.cell? ⟨X, 3, none⟩ = some (.int .i16 0) := by unfold World.cell?; rw [hX3]; rfl
                    have z4 : u1.cell? ⟨X, 4, none⟩ = some (.int .i32 Z) := by unfold World.cell?; rw [hX3]; rfl
                    have c0 : u1.cell? ⟨g, j * 5, none⟩ = some (.int .u8 133) := hcell.out u1 hg3 _ _ q0
                    have c1 : u1.cell? ⟨g, j * 5 + 1, none⟩ = some (.int .u8 0) := hcell.out u1 hg3 _ _ q1
                    have c2 : u1.cell? ⟨g, j * 5 + 2, none⟩ = some (.int .u8 1) := hcell.out u1 hg3 _ _ q2
                    have c3 : u1.cell? ⟨g, j * 5 + 3, none⟩ = some (.int .i16 0) := hcell.out u1 hg3 _ _ q3
                    have c4 : u1.cell? ⟨g, j * 5 + 4, none⟩ = some (.int .i32 0) := hcell.out u1 hg3 _ _ q4
                    have f0 := hfro.out u1 hg3 (j * 5)
                    have f1 := hfro.out u1 hg3 (j * 5 + 1)
                    have f2 := hfro.out u1 hg3 (j * 5 + 2)
                    have f3 := hfro.out u1 hg3 (j * 5 + 3)
                    have f4 := hfro.out u1 hg3 (j * 5 + 4)
                    go_wp2
                    refine ⟨⟨j + 1, _, by simp, by omega, set_at (set_at (set_at (set_at (set_at hg3 (j * 5) _) (j * 5 + 1) _) (j * 5 + 2) _) (j * 5 + 3) _) (j * 5 + 4) _, ?_, ((((HB3.setCell (p := ⟨g, _, none⟩) hgB _).setCell (p := ⟨g, _, none⟩) hgB _).setCell (p := ⟨g, _, none⟩) hgB _).setCell (p := ⟨g, _, none⟩) hgB _).setCell (p := ⟨g, _, none⟩) hgB _⟩, by simp [intOf]; omega⟩
                    refine (cur_set (cur_set (cur_set (cur_set (cur_set ht.out _ _) _ _) _ _) _ _) _ _).trans ?_
                    rw [← hset.out, hZ.out]
                    rfl
                  · have hd : decide (((j + 1 : Nat) : Int) < K) = false := by simp; omega
                    have hd' : decide (j + 1 < K) = false := by simp; omega
                    obtain rfl : j = K - 1 := by omega
                    rw [Rj_last] at ht
                    have hSl : Slots AnyB wr (.slice (some ⟨g, 0, none⟩) N cap) (Qk K) := by
                      have hql := q_len hK1 hK2
                      have := slots_cur (cap := cap) (L := Qk K) hgc (by rw [hql, hN3.out]; exact ht.out) (Qk_ok hK2) (by rw [hql]; omega)
                      rwa [hql, hN3.out] at this
                    have kc := check_any _ (Qk K) wr hSl
                    clear hSl ht hgc hjK hj
                    by_cases h32 : K ≤ 32
                    · have g5 : decide ((K : Int) ≤ 32) = true := by simp; omega
                      have g6 : decide (K ≤ 32) = true := by simp; omega
                      rw [q_few hK1 (by omega), q_sl hK1 hK2] at kc
                      have kc2 : Calls Try.prog 11 #[.slice (some ⟨g, 0, none⟩) N cap] wr fun e w' => ∃ (p : Option Addr) (c : Nat), e = .returned (.tuple #[.slice p K c, .int .i64 0, .int .i64 0]) ∧ Below wr.heap.size wr w' := kc.mono fun e w' h => by
                        obtain ⟨v, rfl, h1, _, hb⟩ := h
                        obtain ⟨sb, _, hS⟩ := h1 rfl
                        obtain ⟨cs, rfl⟩ := hS.val
                        rw [show (sqk K).length = K by simp [sqk]]
                        exact ⟨_, cs, rfl, hb⟩
                      clear kc
                      go_wp2_with first | (go_at_call 11; refine kc2.mono ?_; rintro e V5 ⟨p5, c5, rfl, hb⟩; replace HB := HB.trans (hb.mono HB.size); clear hb) | (go_at_call 5; refine (hal _).mono ?_; rintro e V6 ⟨rfl, hb⟩; replace HB := HB.trans (hb.mono HB.size); clear hb)
                      go_returns
                      exact ⟨rfl, HB⟩
                    · have g5 : decide ((K : Int) ≤ 32) = false := by simp; omega
                      have g6 : decide (K ≤ 32) = false := by simp; omega
                      have g7 : IntKind.i64.wrap ((K : Int) + 62) = K + 62 := IntWalk.i64_in _ (by omega)
                      rw [q_many hK1 hK2 (by omega)] at kc
                      have kc2 : Calls Try.prog 11 #[.slice (some ⟨g, 0, none⟩) N cap] wr fun e w' => e = .returned (.tuple #[.slice none 0 0, .int .i64 ((K : Int) + 62), .int .i64 4]) ∧ Below wr.heap.size wr w' := kc.mono fun e w' h => by
                        obtain ⟨v, rfl, _, h2, hb⟩ := h
                        have := h2 (by show (4 : Int) ≠ 0; decide)
                        subst this
                        exact ⟨rfl, hb⟩
                      clear kc
                      go_wp2_with first | (go_at_call 11; refine kc2.mono ?_; rintro e V5 ⟨rfl, hb⟩; replace HB := HB.trans (hb.mono HB.size); clear hb) | (go_at_call 5; refine (hal _).mono ?_; rintro e V6 ⟨rfl, hb⟩; replace HB := HB.trans (hb.mono HB.size); clear hb)
                      go_returns
                      exact ⟨rfl, HB⟩
end Go.Proofs.Ytdmdmbcapjmnlaa
end
