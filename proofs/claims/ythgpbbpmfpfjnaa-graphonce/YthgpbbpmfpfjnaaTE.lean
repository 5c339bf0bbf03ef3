/- Towards the statements of package tree (layer 16): a node levelled, the call. -/
import Derived.Test.YthgpbbpmfpfjnaaTD
namespace Go.Proofs.Ythgpbbpmfpfjnaa.T
open Go.ChangeShapes Go.WideShapes Go.ChangeAt Go.RowKit
set_option linter.unusedVariables false
set_option linter.unusedSimpArgs false
set_option maxRecDepth 20000
theorem mkT_of {s : Bool} {x : Tr} (h : 0 < x.deep) : ∃ u uk xs xm, x = mkT s u uk xs xm := by
  cases x with
  | nil => simp [Tr.deep] at h
  | nd a k l r =>
    cases s
    · exact ⟨a, k, l, r, rfl⟩
    · exact ⟨a, k, r, l, rfl⟩
set_option maxHeartbeats 2000000 in
theorem nlevel_any [Inhabited FarT] (w : World) (B : Nat) (M : MN) (h : Ms w B M) (top : Nat) (c : List Fra) (n : Nat) (k : HKey) (l r : Tr) (z d : Nat) (hP : Path M top (some n) c) (hn : M n = some ⟨k, some (hdF top c), l.root, r.root, z, d⟩) (hl : Sub M (some n) l) (hr : Sub M (some n) r)
    (hc : (top :: adF c).Nodup) (hT : (Tr.nd n k l r).adds.Nodup) (hd : ∀ a ∈ (Tr.nd n k l r).adds, a ∉ top :: adF c) (hz : l.size + r.size ≤ 80000) (al : l.avl) (ar : r.avl) (d1 : l.deep ≤ r.deep + 2) (d2 : r.deep ≤ l.deep + 2) :
    Calls Try.prog 106 #[.pointer (some ⟨n, 0, none⟩)] w fun e w' => e = .returned (.tuple #[]) ∧ LvD B top c w w' (l.rows ++ (n, k) :: r.rows) (max l.deep r.deep + (if l.deep ≤ r.deep + 1 ∧ r.deep ≤ l.deep + 1 then 1 else 0)) (1 + max l.deep r.deep) := by
  have hin : n ∉ l.adds ∧ n ∉ r.adds := by
    have := (mkT_nodup false n k l r).1 hT
    exact ⟨this.2.2.1, this.2.2.2.1⟩
  have hnc : n ∉ top :: adF c := hd n (by simp [Tr.adds_nd])
  have kR := reck_any w B M h false n k (some (hdF top c)) l r z d hn hl hr hin.1 hin.2 (by omega)
  have dl0 := l.deep_size
  have dr0 := r.deep_size
  -- behind reckon
  have st : ∀ (w1 : World) (M1 : MN), Ms w1 B M1 → M1 n = some (mkN false k (some (hdF top c)) l.root r.root (l.size + 1 + r.size) (1 + max l.deep r.deep)) → (∀ a, a ≠ n → M1 a = M a) → Path M1 top (some n) c ∧ Sub M1 (some n) l ∧ Sub M1 (some n) r := by
    intro w1 M1 hM1 e1 e2
    exact ⟨hP.frame fun a ha => e2 a (by rintro rfl; exact hnc ha), hl.frame fun a ha => e2 a (by rintro rfl; exact hin.1 ha), hr.frame fun a ha => e2 a (by rintro rfl; exact hin.2 ha)⟩
  go_enter Try.func106, Try.ntmps106
  go_upto_region 1 with (go_at_call 107; go_loud (refine kR.mono ?_; rintro e w1 ⟨rfl, M1, hM1, hF1, e1, e2⟩))
  obtain ⟨hP1, hl1, hr1⟩ := st w1 M1 hM1 e1 e2
  clear kR st hn hP hl hr h e2
  have c3 := hM1.c3 e1
  have c4 := hM1.c4 e1
  simp only [mkN, if_false, Bool.false_eq_true] at c3 c4
  have kl := fun nq => ndep_any (w1.drewN nq) B M1 (hM1.drewN nq) l.root (fun a e => by obtain ⟨x, hx, _⟩ := hl1.is e; exact ⟨x, hx⟩)
  have kr := fun nq => ndep_any (w1.drewN nq) B M1 (hM1.drewN nq) r.root (fun a e => by obtain ⟨x, hx, _⟩ := hr1.is e; exact ⟨x, hx⟩)
  rw [hl1.dp] at kl
  rw [hr1.dp] at kr
  generalize hvl : pO l.root = vl at c3 kl
  generalize hvr : pO r.root = vr at c4 kr
  have e9 : IntKind.i64.wrap ((r.deep : Int) + 1) = (r.deep : Int) + 1 := IntWalk.i64_in _ (by omega)
  have e8 : IntKind.i64.wrap ((l.deep : Int) + 1) = (l.deep : Int) + 1 := IntWalk.i64_in _ (by omega)
  have i0 : ∀ W, (Instr.index 107 (.agg #[vl, vr]) (.int .i64 0)).run Try.prog W = .ok vl W := fun W => by kernel_rfl
  have i1 : ∀ W, (Instr.index 107 (.agg #[vl, vr]) (.int .i64 1)).run Try.prog W = .ok vr W := fun W => by kernel_rfl
  by_cases hA : l.deep ≤ r.deep + 1
  · have q1 : decide ((l.deep : Int) ≤ (r.deep : Int) + 1) = true := decide_eq_true (by omega)
    by_cases hB : r.deep ≤ l.deep + 1
    · have q2 : decide ((r.deep : Int) ≤ (l.deep : Int) + 1) = true := decide_eq_true (by omega)
      go_wp2
      refine wp_loop_rounds 3 ?_
      rw [rounds_succ]
      go_upto_region 4 with fail
      go_quiet (first | (go_at_call_of 108 (vl); exact Calls.quiet_of_same (kl _)) | (go_at_call_of 108 (vr); exact Calls.quiet_of_same (kr _)))
      replace hM1 := hM1.drewN nq
      replace hF1 := hF1.drewN nq
      clear kl kr c3 c4
      generalize w1.drewN nq = w1 at hM1 hF1 ⊢
      have c3 := hM1.c3 e1
      have c4 := hM1.c4 e1
      simp only [mkN, if_false, Bool.false_eq_true, hvl, hvr] at c3 c4
      have kl := fun nq => ndep_any (w1.drewN nq) B M1 (hM1.drewN nq) l.root (fun a e => by obtain ⟨x, hx, _⟩ := hl1.is e; exact ⟨x, hx⟩)
      have kr := fun nq => ndep_any (w1.drewN nq) B M1 (hM1.drewN nq) r.root (fun a e => by obtain ⟨x, hx, _⟩ := hr1.is e; exact ⟨x, hx⟩)
      rw [hl1.dp, hvl] at kl
      rw [hr1.dp, hvr] at kr
      go_wp2
      rw [rounds_succ]
      go_upto_region 4 with fail
      go_quiet (first | (go_at_call_of 108 (vl); exact Calls.quiet_of_same (kl _)) | (go_at_call_of 108 (vr); exact Calls.quiet_of_same (kr _)))
      replace hM1 := hM1.drewN nq
      replace hF1 := hF1.drewN nq
      clear kl kr c3 c4
      generalize w1.drewN nq = w1 at hM1 hF1 ⊢
      have c3 := hM1.c3 e1
      have c4 := hM1.c4 e1
      simp only [mkN, if_false, Bool.false_eq_true, hvl, hvr] at c3 c4
      have kl := fun nq => ndep_any (w1.drewN nq) B M1 (hM1.drewN nq) l.root (fun a e => by obtain ⟨x, hx, _⟩ := hl1.is e; exact ⟨x, hx⟩)
      have kr := fun nq => ndep_any (w1.drewN nq) B M1 (hM1.drewN nq) r.root (fun a e => by obtain ⟨x, hx, _⟩ := hr1.is e; exact ⟨x, hx⟩)
      rw [hl1.dp, hvl] at kl
      rw [hr1.dp, hvr] at kr
      go_wp2
      rw [rounds_succ]
      go_wp2
      all_goals first | go_end0 | go_returns | skip
      all_goals exact ⟨rfl, M1, .nd n k l r, hM1, hF1, hP1, ⟨e1, hl1, hr1⟩, rfl, ⟨al, ar, hA, hB⟩, by simp only [Tr.deep]; first | omega | (split <;> omega), by simp [Tr.deep]⟩
    · have q2 : decide ((r.deep : Int) ≤ (l.deep : Int) + 1) = false := decide_eq_false (by omega)
      go_wp2
      refine wp_loop_rounds 3 ?_
      rw [rounds_succ]
      go_upto_region 4 with fail
      go_quiet (first | (go_at_call_of 108 (vl); exact Calls.quiet_of_same (kl _)) | (go_at_call_of 108 (vr); exact Calls.quiet_of_same (kr _)))
      replace hM1 := hM1.drewN nq
      replace hF1 := hF1.drewN nq
      clear kl kr c3 c4
      generalize w1.drewN nq = w1 at hM1 hF1 ⊢
      have c3 := hM1.c3 e1
      have c4 := hM1.c4 e1
      simp only [mkN, if_false, Bool.false_eq_true, hvl, hvr] at c3 c4
      have kl := fun nq => ndep_any (w1.drewN nq) B M1 (hM1.drewN nq) l.root (fun a e => by obtain ⟨x, hx, _⟩ := hl1.is e; exact ⟨x, hx⟩)
      have kr := fun nq => ndep_any (w1.drewN nq) B M1 (hM1.drewN nq) r.root (fun a e => by obtain ⟨x, hx, _⟩ := hr1.is e; exact ⟨x, hx⟩)
      rw [hl1.dp, hvl] at kl
      rw [hr1.dp, hvr] at kr
      go_wp2
      rw [rounds_succ]
      go_upto_region 4 with fail
      go_quiet (first | (go_at_call_of 108 (vl); exact Calls.quiet_of_same (kl _)) | (go_at_call_of 108 (vr); exact Calls.quiet_of_same (kr _)))
      replace hM1 := hM1.drewN nq
      replace hF1 := hF1.drewN nq
      clear kl kr c3 c4
      generalize w1.drewN nq = w1 at hM1 hF1 ⊢
      have c3 := hM1.c3 e1
      have c4 := hM1.c4 e1
      simp only [mkN, if_false, Bool.false_eq_true, hvl, hvr] at c3 c4
      have kl := fun nq => ndep_any (w1.drewN nq) B M1 (hM1.drewN nq) l.root (fun a e => by obtain ⟨x, hx, _⟩ := hl1.is e; exact ⟨x, hx⟩)
      have kr := fun nq => ndep_any (w1.drewN nq) B M1 (hM1.drewN nq) r.root (fun a e => by obtain ⟨x, hx, _⟩ := hr1.is e; exact ⟨x, hx⟩)
      rw [hl1.dp, hvl] at kl
      rw [hr1.dp, hvr] at kr
      obtain ⟨u, uk, xs, xm, rfl⟩ := mkT_of (s := true) (x := r) (by omega)
      have hdx : (mkT true u uk xs xm).deep = l.deep + 2 := by omega
      have hTT : (mkT true n k (mkT true u uk xs xm) l).adds.Nodup := hT
      have hdd : ∀ a ∈ (mkT true n k (mkT true u uk xs xm) l).adds, a ∉ top :: adF c := hd
      have e1' : M1 n = some (mkN true k (some (hdF top c)) (some u) l.root (l.size + 1 + (mkT true u uk xs xm).size) (1 + max l.deep (mkT true u uk xs xm).deep)) := by rw [e1, mkT_root] <;> rfl
      have hx1 := Sub_mkT.1 hr1
      have hvu : vr = .pointer (some ⟨u, 0, none⟩) := by rw [← hvr, mkT_root]; rfl
      have g3 := hM1.c4 hx1.1
      have g4 := hM1.c3 hx1.1
      simp only [mkN, if_true, if_false, Bool.false_eq_true] at g3 g4
      have ks := fun nq => ndep_any (w1.drewN nq) B M1 (hM1.drewN nq) xs.root (fun a e => by obtain ⟨x, hx, _⟩ := hx1.2.1.is e; exact ⟨x, hx⟩)
      have km := fun nq => ndep_any (w1.drewN nq) B M1 (hM1.drewN nq) xm.root (fun a e => by obtain ⟨x, hx, _⟩ := hx1.2.2.is e; exact ⟨x, hx⟩)
      rw [hx1.2.1.dp] at ks
      rw [hx1.2.2.dp] at km
      generalize hvs : pO xs.root = vs at g3 ks
      generalize hvm : pO xm.root = vm at g4 km
      rw [hvu]
      clear kl kr c3 c4 i0 i1
      by_cases hq : xs.deep < xm.deep
      · have q5 : decide ((xs.deep : Int) < (xm.deep : Int)) = true := decide_eq_true (by omega)
        have q6 : decide ((xm.deep : Int) > (xs.deep : Int)) = true := decide_eq_true (by omega)
        go_upto_region 5 with fail
        go_quiet (first | (go_at_call_of 108 (vs); exact Calls.quiet_of_same (ks _)) | (go_at_call_of 108 (vm); exact Calls.quiet_of_same (km _)))
        obtain ⟨m, mk, pp, qq, rfl⟩ := mkT_of (s := !true) (x := xm) (by omega)
        have kT := two_any (w1.drewN nq) B M1 (hM1.drewN nq) true top c n u k uk l _ _ m mk xs pp qq hP1 e1' hr1 hl1 hc hTT hdd (by omega) ar al hdx hq
        unfold sI at kT
        simp only [if_true, if_false, Bool.false_eq_true, Bool.not_true, Bool.not_false] at kT
        replace hF1 := hF1.drewN nq
        clear ks km g3 g4
        go_upto_region 7 with (go_at_call 109; go_loud (refine kT.mono ?_; rintro e w2 ⟨rfl, kU⟩))
        clear kT
        simp only [Bool.not_true, Bool.not_false] at hdx
        go_wp2_with (go_at_call 109; go_loud (refine kU.mono ?_; rintro e w3 ⟨rfl, M3, t, j1, j2, j3, j4, j5, j6, j7, j8⟩))
        all_goals first | go_end0 | go_returns | skip
        all_goals exact ⟨rfl, M3, t, j1, hF1.trans j2, j3, j4, j5, j6, by first | omega | (split <;> omega), by omega⟩
      · have q5 : decide ((xs.deep : Int) < (xm.deep : Int)) = false := decide_eq_false (by omega)
        have q6 : decide ((xm.deep : Int) > (xs.deep : Int)) = false := decide_eq_false (by omega)
        go_upto_region 5 with fail
        go_quiet (first | (go_at_call_of 108 (vs); exact Calls.quiet_of_same (ks _)) | (go_at_call_of 108 (vm); exact Calls.quiet_of_same (km _)))
        have kT := one_any (w1.drewN nq) B M1 (hM1.drewN nq) true top c n u k uk l _ _ xs xm hP1 e1' hr1 hl1 hc hTT hdd (by omega) ar al hdx hq
        unfold sI at kT
        simp only [if_true, if_false, Bool.false_eq_true] at kT
        replace hF1 := hF1.drewN nq
        clear ks km g3 g4
        go_wp2_with (go_at_call 109; go_loud (refine kT.mono ?_; rintro e w3 ⟨rfl, M3, t, j1, j2, j3, j4, j5, j6, j7, j8⟩))
        all_goals first | go_end0 | go_returns | skip
        all_goals exact ⟨rfl, M3, t, j1, hF1.trans j2, j3, j4, j5, j6, by first | omega | (split <;> omega), by omega⟩
  · have q1 : decide ((l.deep : Int) ≤ (r.deep : Int) + 1) = false := decide_eq_false (by omega)
    go_wp2
    refine wp_loop_rounds 3 ?_
    rw [rounds_succ]
    go_upto_region 4 with fail
    go_quiet (first | (go_at_call_of 108 (vl); exact Calls.quiet_of_same (kl _)) | (go_at_call_of 108 (vr); exact Calls.quiet_of_same (kr _)))
    replace hM1 := hM1.drewN nq
    replace hF1 := hF1.drewN nq
    clear kl kr c3 c4
    generalize w1.drewN nq = w1 at hM1 hF1 ⊢
    have c3 := hM1.c3 e1
    have c4 := hM1.c4 e1
    simp only [mkN, if_false, Bool.false_eq_true, hvl, hvr] at c3 c4
    have kl := fun nq => ndep_any (w1.drewN nq) B M1 (hM1.drewN nq) l.root (fun a e => by obtain ⟨x, hx, _⟩ := hl1.is e; exact ⟨x, hx⟩)
    have kr := fun nq => ndep_any (w1.drewN nq) B M1 (hM1.drewN nq) r.root (fun a e => by obtain ⟨x, hx, _⟩ := hr1.is e; exact ⟨x, hx⟩)
    rw [hl1.dp, hvl] at kl
    rw [hr1.dp, hvr] at kr
    obtain ⟨u, uk, xs, xm, rfl⟩ := mkT_of (s := false) (x := l) (by omega)
    have hdx : (mkT false u uk xs xm).deep = r.deep + 2 := by omega
    have hTT : (mkT false n k (mkT false u uk xs xm) r).adds.Nodup := hT
    have hdd : ∀ a ∈ (mkT false n k (mkT false u uk xs xm) r).adds, a ∉ top :: adF c := hd
    have e1' : M1 n = some (mkN false k (some (hdF top c)) (some u) r.root ((mkT false u uk xs xm).size + 1 + r.size) (1 + max (mkT false u uk xs xm).deep r.deep)) := by rw [e1, mkT_root] <;> rfl
    have hx1 := Sub_mkT.1 hl1
    have hvu : vl = .pointer (some ⟨u, 0, none⟩) := by rw [← hvl, mkT_root]; rfl
    have g3 := hM1.c3 hx1.1
    have g4 := hM1.c4 hx1.1
    simp only [mkN, if_true, if_false, Bool.false_eq_true] at g3 g4
    have ks := fun nq => ndep_any (w1.drewN nq) B M1 (hM1.drewN nq) xs.root (fun a e => by obtain ⟨x, hx, _⟩ := hx1.2.1.is e; exact ⟨x, hx⟩)
    have km := fun nq => ndep_any (w1.drewN nq) B M1 (hM1.drewN nq) xm.root (fun a e => by obtain ⟨x, hx, _⟩ := hx1.2.2.is e; exact ⟨x, hx⟩)
    rw [hx1.2.1.dp] at ks
    rw [hx1.2.2.dp] at km
    generalize hvs : pO xs.root = vs at g3 ks
    generalize hvm : pO xm.root = vm at g4 km
    rw [hvu]
    clear kl kr c3 c4 i0 i1
    by_cases hq : xs.deep < xm.deep
    · have q5 : decide ((xs.deep : Int) < (xm.deep : Int)) = true := decide_eq_true (by omega)
      have q6 : decide ((xm.deep : Int) > (xs.deep : Int)) = true := decide_eq_true (by omega)
      go_upto_region 5 with fail
      go_quiet (first | (go_at_call_of 108 (vs); exact Calls.quiet_of_same (ks _)) | (go_at_call_of 108 (vm); exact Calls.quiet_of_same (km _)))
      obtain ⟨m, mk, pp, qq, rfl⟩ := mkT_of (s := !false) (x := xm) (by omega)
      have kT := two_any (w1.drewN nq) B M1 (hM1.drewN nq) false top c n u k uk r _ _ m mk xs pp qq hP1 e1' hl1 hr1 hc hTT hdd (by omega) al ar hdx hq
      unfold sI at kT
      simp only [if_true, if_false, Bool.false_eq_true, Bool.not_true, Bool.not_false] at kT
      replace hF1 := hF1.drewN nq
      clear ks km g3 g4
      go_upto_region 7 with (go_at_call 109; go_loud (refine kT.mono ?_; rintro e w2 ⟨rfl, kU⟩))
      clear kT
      simp only [Bool.not_true, Bool.not_false] at hdx
      go_wp2_with (go_at_call 109; go_loud (refine kU.mono ?_; rintro e w3 ⟨rfl, M3, t, j1, j2, j3, j4, j5, j6, j7, j8⟩))
      all_goals first | go_end0 | go_returns | skip
      all_goals exact ⟨rfl, M3, t, j1, hF1.trans j2, j3, j4, j5, j6, by first | omega | (split <;> omega), by omega⟩
    · have q5 : decide ((xs.deep : Int) < (xm.deep : Int)) = false := decide_eq_false (by omega)
      have q6 : decide ((xm.deep : Int) > (xs.deep : Int)) = false := decide_eq_false (by omega)
      go_upto_region 5 with fail
      go_quiet (first | (go_at_call_of 108 (vs); exact Calls.quiet_of_same (ks _)) | (go_at_call_of 108 (vm); exact Calls.quiet_of_same (km _)))
      have kT := one_any (w1.drewN nq) B M1 (hM1.drewN nq) false top c n u k uk r _ _ xs xm hP1 e1' hl1 hr1 hc hTT hdd (by omega) al ar hdx hq
      unfold sI at kT
      simp only [if_true, if_false, Bool.false_eq_true] at kT
      replace hF1 := hF1.drewN nq
      clear ks km g3 g4
      go_wp2_with (go_at_call 109; go_loud (refine kT.mono ?_; rintro e w3 ⟨rfl, M3, t, j1, j2, j3, j4, j5, j6, j7, j8⟩))
      all_goals first | go_end0 | go_returns | skip
      all_goals exact ⟨rfl, M3, t, j1, hF1.trans j2, j3, j4, j5, j6, by first | omega | (split <;> omega), by omega⟩
end Go.Proofs.Ythgpbbpmfpfjnaa.T
