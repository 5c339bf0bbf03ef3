/- Towards the statements of package tree (layer 16): a turn. -/
import Derived.Test.YthgpbbpmfpfjnaaTA
import Derived.Deep.CutBlock
namespace Go.Proofs.Ythgpbbpmfpfjnaa.T
open Go.ChangeShapes Go.WideShapes Go.ChangeAt Go.RowKit
set_option linter.unusedVariables false
set_option linter.unusedSimpArgs false
set_option maxRecDepth 20000
theorem hang_any [Inhabited FarT] (w : World) (B : Nat) (M : MN) (h : Ms w B M) (n : Nat) (p : Option Nat) (x : Nd) (hn : M n = some x) (hp : ∀ a, p = some a → a ≠ n ∧ ∃ y, M a = some y) (s : Bool) :
    Calls Try.prog 103 #[.pointer (some ⟨n, 0, none⟩), .int .i64 (sI s), pO p] w fun e w' => e = .returned (.tuple #[]) ∧ ∃ M', Ms w' B M' ∧ Fd B w w' ∧ M' n = some (x.setKid s p) ∧ (∀ a y, p = some a → M a = some y → M' a = some (y.over (some n))) ∧ (∀ a, a ≠ n → p ≠ some a → M' a = M a) := by
  cases p with
  | none => exact (hang_none w B M h n x hn s).mono fun e w' ⟨e1, e2, e3⟩ => ⟨e1, _, e2, e3, upN_self _ _ _, (fun _ _ q => by cases q), fun a ha _ => upN_ne _ _ ha⟩
  | some u =>
    obtain ⟨hu, y, hy⟩ := hp u rfl
    refine (hang_some w B M h n u hu.symm x y hn hy s).mono fun e w' ⟨e1, e2, e3⟩ => ⟨e1, _, e2, e3, ?_, ?_, ?_⟩
    · rw [upN_ne _ _ hu.symm, upN_self]
    · intro a y' q q2
      cases q
      rw [hy] at q2
      cases q2
      rw [upN_self]
    · intro a ha q
      rw [upN_ne _ _ (fun e => q (by rw [e])), upN_ne _ _ ha]
theorem reck_any [Inhabited FarT] (w : World) (B : Nat) (M : MN) (h : Ms w B M) (s : Bool) (n : Nat) (k : HKey) (o : Option Nat) (x y : Tr) (z d : Nat) (hn : M n = some (mkN s k o x.root y.root z d)) (hx : Sub M (some n) x) (hy : Sub M (some n) y) (h1 : n ∉ x.adds) (h2 : n ∉ y.adds) (hz : x.size + y.size ≤ 100000) :
    Calls Try.prog 107 #[.pointer (some ⟨n, 0, none⟩)] w fun e w' => e = .returned (.tuple #[]) ∧ ∃ M', Ms w' B M' ∧ Fd B w w' ∧ M' n = some (mkN s k o x.root y.root (x.size + 1 + y.size) (1 + max x.deep y.deep)) ∧ ∀ a, a ≠ n → M' a = M a := by
  have d1 := x.deep_size
  have d2 := y.deep_size
  have key : ∀ (N : Nd), M n = some N → (N.l = x.root ∧ N.r = y.root ∨ N.l = y.root ∧ N.r = x.root) → (N.anew M = mkN s k o x.root y.root (x.size + 1 + y.size) (1 + max x.deep y.deep)) → Calls Try.prog 107 #[.pointer (some ⟨n, 0, none⟩)] w fun e w' => e = .returned (.tuple #[]) ∧ ∃ M', Ms w' B M' ∧ Fd B w w' ∧ M' n = some (mkN s k o x.root y.root (x.size + 1 + y.size) (1 + max x.deep y.deep)) ∧ ∀ a, a ≠ n → M' a = M a := by
    intro N hN hlr hA
    have ex : ∀ a, x.root = some a → a ≠ n ∧ ∃ y, M a = some y := fun a e => ⟨fun q => h1 (q ▸ Tr.root_mem e), by obtain ⟨y, hy, _⟩ := hx.is e; exact ⟨y, hy⟩⟩
    have ey : ∀ a, y.root = some a → a ≠ n ∧ ∃ y, M a = some y := fun a e => ⟨fun q => h2 (q ▸ Tr.root_mem e), by obtain ⟨y, hy, _⟩ := hy.is e; exact ⟨y, hy⟩⟩
    have sx := hx.sz
    have sy := hy.sz
    have dx := hx.dp
    have dy := hy.dp
    refine (reckon_any w B M h n N hN ?_ ?_ ?_ ?_ ?_ ?_).mono fun e w' ⟨e1, e2, e3⟩ => ⟨e1, _, e2, e3, ?_, fun a ha => upN_ne _ _ ha⟩
    · rcases hlr with ⟨e, _⟩ | ⟨e, _⟩ <;> rw [e]
      · exact ex
      · exact ey
    · rcases hlr with ⟨_, e⟩ | ⟨_, e⟩ <;> rw [e]
      · exact ey
      · exact ex
    · rcases hlr with ⟨e, _⟩ | ⟨e, _⟩ <;> rw [e] <;> omega
    · rcases hlr with ⟨_, e⟩ | ⟨_, e⟩ <;> rw [e] <;> omega
    · rcases hlr with ⟨e, _⟩ | ⟨e, _⟩ <;> rw [e] <;> omega
    · rcases hlr with ⟨_, e⟩ | ⟨_, e⟩ <;> rw [e] <;> omega
    · rw [upN_self, hA]
  refine key _ hn ?_ ?_
  · cases s
    · left; simp [mkN]
    · right; simp [mkN]
  · cases s
    · simp [mkN, Nd.anew, hx.sz, hy.sz, hx.dp, hy.dp]
    · simp [mkN, Nd.anew, hx.sz, hy.sz, hx.dp, hy.dp]
      omega
theorem turn_any [Inhabited FarT] (w : World) (B : Nat) (M : MN) (h : Ms w B M) (s q : Bool) (o n u : Nat) (O : Nd) (k uk : HKey) (xs xm y : Tr) (z d z' d' : Nat)
    (hn : M n = some (mkN s k (some o) (some u) y.root z d)) (ho : M o = some O) (hu : M u = some (mkN s uk (some n) xs.root xm.root z' d'))
    (hk : O.kid q = some n) (hs : q = false → O.r ≠ some n) (hr : ∀ a, O.r = some a → ∃ y, M a = some y)
    (h1 : Sub M (some u) xs) (h2 : Sub M (some u) xm) (h3 : Sub M (some n) y)
    (ne1 : o ≠ n) (ne2 : o ≠ u) (ne3 : n ≠ u) (no : o ∉ xs.adds ∧ o ∉ xm.adds ∧ o ∉ y.adds) (nn : n ∉ xs.adds ∧ n ∉ xm.adds ∧ n ∉ y.adds) (nu : u ∉ xs.adds ∧ u ∉ xm.adds ∧ u ∉ y.adds)
    (nx : ∀ a ∈ xm.adds, a ∉ xs.adds ∧ a ∉ y.adds) (nd : xm.adds.Nodup) (hz : xs.size + xm.size + y.size ≤ 90000) :
    Calls Try.prog 109 #[.pointer (some ⟨n, 0, none⟩), .int .i64 (sI s)] w fun e w' => e = .returned (.tuple #[]) ∧ ∃ M', Ms w' B M' ∧ Fd B w w' ∧ M' o = some (O.setKid q (some u)) ∧ Sub M' (some o) (mkT s u uk xs (mkT s n k xm y)) ∧
      ∀ a, a ≠ o → a ≠ n → a ≠ u → a ∉ xm.adds → M' a = M a := by
  have kS := side_any w.drew B M h.drew n o _ O hn (mkN_kid _ _ _ _ _ _ _).2.2.1 ho q hk hs hr
  have kH := hang_any w.drew B M h.drew o (some u) O ho (fun a e => by cases e; exact ⟨ne2.symm, _, hu⟩) q
  generalize sI q = qi at kS kH
  -- behind the first
  have st2 : ∀ (w1 : World) (M1 : MN), Ms w1 B M1 → M1 o = some (O.setKid q (some u)) → (∀ a y, some u = some a → M a = some y → M1 a = some (y.over (some o))) → (∀ a, a ≠ o → some u ≠ some a → M1 a = M a) →
      M1 n = some (mkN s k (some o) (some u) y.root z d) ∧ M1 u = some (mkN s uk (some o) xs.root xm.root z' d') ∧ Sub M1 (some u) xm ∧
      Calls Try.prog 103 #[.pointer (some ⟨n, 0, none⟩), .int .i64 (sI s), pO xm.root] w1 fun e w' => e = .returned (.tuple #[]) ∧ ∃ M', Ms w' B M' ∧ Fd B w1 w' ∧ M' o = some (O.setKid q (some u)) ∧ M' n = some (mkN s k (some o) xm.root y.root z d) ∧ M' u = some (mkN s uk (some o) xs.root xm.root z' d') ∧ Sub M' (some n) xm ∧ Sub M' (some u) xs ∧ Sub M' (some n) y ∧ ∀ a, a ≠ o → a ≠ n → a ≠ u → a ∉ xm.adds → M' a = M a := by
    intro w1 M1 hM1 eo eu e1
    have en : M1 n = some (mkN s k (some o) (some u) y.root z d) := (e1 n ne1.symm (by simp [ne3.symm])).trans hn
    have eu' : M1 u = some (mkN s uk (some o) xs.root xm.root z' d') := by
      rw [eu u _ rfl hu]; cases s <;> simp [mkN, Nd.over]
    have f1 : ∀ a, a ≠ o → a ≠ u → M1 a = M a := fun a q1 q2 => e1 a q1 (by simp [Ne.symm q2])
    have s2 : Sub M1 (some u) xm := h2.frame fun a ha => f1 a (by rintro rfl; exact no.2.1 ha) (by rintro rfl; exact nu.2.1 ha)
    refine ⟨en, eu', s2, (hang_any w1 B M1 hM1 n xm.root _ en (fun a e => ?_) s).mono fun e w' ⟨e1', M', hM', hF, g1, g2, g3⟩ => ⟨e1', M', hM', hF, ?_, ?_, ?_, ?_, ?_, ?_, ?_⟩⟩
    · obtain ⟨y, hy, _⟩ := s2.is e
      exact ⟨fun q => nn.2.1 (q ▸ Tr.root_mem e), y, hy⟩
    · rw [g3 o ne1 (fun e => no.2.1 (Tr.root_mem e))]; exact eo
    · rw [g1]; cases s <;> simp [mkN, Nd.setKid]
    · rw [g3 u ne3.symm (fun e => nu.2.1 (Tr.root_mem e))]; exact eu'
    · exact s2.move (fun a x e1 e2 => g2 a x e1 e2) (fun a ha hne => g3 a (by rintro rfl; exact nn.2.1 ha) hne) nd
    · refine h1.frame fun a ha => ?_
      rw [g3 a (by rintro rfl; exact nn.1 ha) (fun e => (nx a (Tr.root_mem e)).1 ha)]
      exact f1 a (by rintro rfl; exact no.1 ha) (by rintro rfl; exact nu.1 ha)
    · refine h3.frame fun a ha => ?_
      rw [g3 a (by rintro rfl; exact nn.2.2 ha) (fun e => (nx a (Tr.root_mem e)).2 ha)]
      exact f1 a (by rintro rfl; exact no.2.2 ha) (by rintro rfl; exact nu.2.2 ha)
    · intro a q1 q2 q3 q4
      rw [g3 a q2 (fun e => q4 (Tr.root_mem e))]
      exact f1 a q1 q3
  -- the node hung under the other one, and both found out anew
  have st3 : ∀ (w2 : World) (M2 : MN), Ms w2 B M2 → M2 o = some (O.setKid q (some u)) → M2 n = some (mkN s k (some o) xm.root y.root z d) → M2 u = some (mkN s uk (some o) xs.root xm.root z' d') → Sub M2 (some n) xm → Sub M2 (some u) xs → Sub M2 (some n) y → (∀ a, a ≠ o → a ≠ n → a ≠ u → a ∉ xm.adds → M2 a = M a) →
      Calls Try.prog 103 #[.pointer (some ⟨u, 0, none⟩), .int .i64 (sI (!s)), .pointer (some ⟨n, 0, none⟩)] w2 fun e w' => e = .returned (.tuple #[]) ∧ ∃ M', Ms w' B M' ∧ Fd B w2 w' ∧ M' o = some (O.setKid q (some u)) ∧ M' n = some (mkN s k (some u) xm.root y.root z d) ∧ M' u = some (mkN s uk (some o) xs.root (some n) z' d') ∧ Sub M' (some n) xm ∧ Sub M' (some u) xs ∧ Sub M' (some n) y ∧ ∀ a, a ≠ o → a ≠ n → a ≠ u → a ∉ xm.adds → M' a = M a := by
    intro w2 M2 hM2 eo en eu s1 s2 s3 f
    refine (hang_any w2 B M2 hM2 u (some n) _ eu (fun a e => by cases e; exact ⟨ne3, _, en⟩) (!s)).mono fun e w' ⟨e1', M', hM', hF, g1, g2, g3⟩ => ⟨e1', M', hM', hF, ?_, ?_, ?_, ?_, ?_, ?_, ?_⟩
    · rw [g3 o ne2 (by simp [ne1.symm])]; exact eo
    · rw [g2 n _ rfl en]; cases s <;> simp [mkN, Nd.over]
    · rw [g1]; cases s <;> simp [mkN, Nd.setKid]
    · exact s1.frame fun a ha => g3 a (by rintro rfl; exact nu.2.1 ha) (by rintro e; cases e; exact nn.2.1 ha)
    · exact s2.frame fun a ha => g3 a (by rintro rfl; exact nu.1 ha) (by rintro e; cases e; exact nn.1 ha)
    · exact s3.frame fun a ha => g3 a (by rintro rfl; exact nu.2.2 ha) (by rintro e; cases e; exact nn.2.2 ha)
    · intro a q1 q2 q3 q4
      rw [g3 a q3 (by simp [Ne.symm q2])]
      exact f a q1 q2 q3 q4
  have st4 : ∀ (w3 : World) (M3 : MN), Ms w3 B M3 → M3 o = some (O.setKid q (some u)) → M3 n = some (mkN s k (some u) xm.root y.root z d) → M3 u = some (mkN s uk (some o) xs.root (some n) z' d') → Sub M3 (some n) xm → Sub M3 (some u) xs → Sub M3 (some n) y → (∀ a, a ≠ o → a ≠ n → a ≠ u → a ∉ xm.adds → M3 a = M a) →
      Calls Try.prog 107 #[.pointer (some ⟨n, 0, none⟩)] w3 fun e w' => e = .returned (.tuple #[]) ∧ ∃ M', Ms w' B M' ∧ Fd B w3 w' ∧ M' o = some (O.setKid q (some u)) ∧ M' u = some (mkN s uk (some o) xs.root (mkT s n k xm y).root z' d') ∧ Sub M' (some u) (mkT s n k xm y) ∧ Sub M' (some u) xs ∧ ∀ a, a ≠ o → a ≠ n → a ≠ u → a ∉ xm.adds → M' a = M a := by
    intro w3 M3 hM3 eo en eu s1 s2 s3 f
    refine (reck_any w3 B M3 hM3 s n k (some u) xm y z d en s1 s3 nn.2.1 nn.2.2 (by omega)).mono fun e w' ⟨e1', M', hM', hF, g1, g2⟩ => ⟨e1', M', hM', hF, ?_, ?_, ?_, ?_, ?_⟩
    · rw [g2 o ne1]; exact eo
    · rw [g2 u ne3.symm, mkT_root]; exact eu
    · rw [Sub_mkT]
      exact ⟨g1, s1.frame fun a ha => g2 a (by rintro rfl; exact nn.2.1 ha), s3.frame fun a ha => g2 a (by rintro rfl; exact nn.2.2 ha)⟩
    · exact s2.frame fun a ha => g2 a (by rintro rfl; exact nn.1 ha)
    · intro a q1 q2 q3 q4
      rw [g2 a q2]
      exact f a q1 q2 q3 q4
  have st5 : ∀ (w4 : World) (M4 : MN), Ms w4 B M4 → M4 o = some (O.setKid q (some u)) → M4 u = some (mkN s uk (some o) xs.root (mkT s n k xm y).root z' d') → Sub M4 (some u) (mkT s n k xm y) → Sub M4 (some u) xs → (∀ a, a ≠ o → a ≠ n → a ≠ u → a ∉ xm.adds → M4 a = M a) →
      Calls Try.prog 107 #[.pointer (some ⟨u, 0, none⟩)] w4 fun e w' => e = .returned (.tuple #[]) ∧ ∃ M', Ms w' B M' ∧ Fd B w4 w' ∧ M' o = some (O.setKid q (some u)) ∧ Sub M' (some o) (mkT s u uk xs (mkT s n k xm y)) ∧ ∀ a, a ≠ o → a ≠ n → a ≠ u → a ∉ xm.adds → M' a = M a := by
    intro w4 M4 hM4 eo eu s1 s2 f
    have hnu : u ∉ (mkT s n k xm y).adds := by
      rw [mkT_adds]; rintro (e | e | e)
      · exact nu.2.1 e
      · exact ne3 e.symm
      · exact nu.2.2 e
    refine (reck_any w4 B M4 hM4 s u uk (some o) xs _ z' d' eu s2 s1 nu.1 hnu (by rw [mkT_size]; omega)).mono fun e w' ⟨e1', M', hM', hF, g1, g2⟩ => ⟨e1', M', hM', hF, ?_, ?_, ?_⟩
    · rw [g2 o ne2]; exact eo
    · rw [Sub_mkT]
      exact ⟨g1, s2.frame fun a ha => g2 a (by rintro rfl; exact nu.1 ha), s1.frame fun a ha => g2 a (by rintro rfl; exact hnu ha)⟩
    · intro a q1 q2 q3 q4
      rw [g2 a q3]
      exact f a q1 q2 q3 q4
  have c2 := h.c2 hn
  have c3 := h.c3 hn
  have c4 := h.c4 hn
  rw [pO_some] at kH
  clear hn ho hu hk hs hr h1 h2 h3 no nn nu nx nd hz
  cases s with
  | true =>
    simp only [mkN, if_true, if_false, Bool.false_eq_true, pO_some] at c2 c3 c4
    unfold sI
    simp only [if_true, if_false, Bool.false_eq_true]
    go_enter Try.func109, Try.ntmps109
    go_wp2
    go_region_held3 (fun w' => w'.cell? ⟨n, 2, none⟩ = some (.pointer (some ⟨o, 0, none⟩))) (repeat (with_reducible (first | assumption | apply cell_dr))) (first
      | (go_at_call 110; refine kS.mono ?_; rintro e w' ⟨rfl, hw⟩; rw [hw]; clear hw)
      | (go_at_call 103; go_loud (refine kH.mono ?_; rintro e w1 ⟨rfl, M1, hM1, hF1, e1, e2, e3⟩; obtain ⟨en, eu, sm, k2⟩ := st2 w1 M1 hM1 e1 e2 e3; have t2 := hM1.c2 en; have t3 := hM1.c3 eu; have t4 := hM1.c4 eu; simp only [mkN, if_true, if_false, Bool.false_eq_true, pO_some] at t2 t3 t4)))
    clear kS kH c2 c3 c4 st2 e1 e2 e3 t2
    unfold sI at k2
    simp only [if_true, if_false, Bool.false_eq_true] at k2
    have hFa := hF1
    generalize hvm : pO xm.root = vm at t3 t4 k2
    go_upto_region 3 with (go_at_call 103; go_loud (refine k2.mono ?_; rintro e w2 ⟨rfl, M2, hM2, hF2, a1, a2, a3, a4, a5, a6, a7⟩))
    have k3 := st3 w2 M2 hM2 a1 a2 a3 a4 a5 a6 a7
    unfold sI at k3
    simp only [if_true, if_false, Bool.false_eq_true, Bool.not_true, Bool.not_false] at k3
    clear k2 st3 t3 t4
    go_upto_region 4 with (go_at_call 103; go_loud (refine k3.mono ?_; rintro e w3 ⟨rfl, M3, hM3, hF3, b1, b2, b3, b4, b5, b6, b7⟩))
    have k4 := st4 w3 M3 hM3 b1 b2 b3 b4 b5 b6 b7
    clear k3 st4
    go_upto_region 5 with (go_at_call 107; go_loud (refine k4.mono ?_; rintro e w4 ⟨rfl, M4, hM4, hF4, d1, d2, d3, d4, d5⟩))
    have k5 := st5 w4 M4 hM4 d1 d2 d3 d4 d5
    clear k4 st5
    go_wp2_with (go_at_call 107; go_loud (refine k5.mono ?_; rintro e w5 ⟨rfl, M5, hM5, hF5, f1, f2, f3⟩))
    all_goals go_returns
    exact ⟨rfl, M5, hM5, ((((Fd.refl B w).drew.trans hF1).trans hF2).trans hF3).trans hF4 |>.trans hF5, f1, f2, f3⟩
  | false =>
    simp only [mkN, if_true, if_false, Bool.false_eq_true, pO_some] at c2 c3 c4
    unfold sI
    simp only [if_true, if_false, Bool.false_eq_true]
    go_enter Try.func109, Try.ntmps109
    go_wp2
    go_region_held3 (fun w' => w'.cell? ⟨n, 2, none⟩ = some (.pointer (some ⟨o, 0, none⟩))) (repeat (with_reducible (first | assumption | apply cell_dr))) (first
      | (go_at_call 110; refine kS.mono ?_; rintro e w' ⟨rfl, hw⟩; rw [hw]; clear hw)
      | (go_at_call 103; go_loud (refine kH.mono ?_; rintro e w1 ⟨rfl, M1, hM1, hF1, e1, e2, e3⟩; obtain ⟨en, eu, sm, k2⟩ := st2 w1 M1 hM1 e1 e2 e3; have t2 := hM1.c2 en; have t3 := hM1.c3 eu; have t4 := hM1.c4 eu; simp only [mkN, if_true, if_false, Bool.false_eq_true, pO_some] at t2 t3 t4)))
    clear kS kH c2 c3 c4 st2 e1 e2 e3 t2
    unfold sI at k2
    simp only [if_true, if_false, Bool.false_eq_true] at k2
    have hFa := hF1
    generalize hvm : pO xm.root = vm at t3 t4 k2
    go_upto_region 3 with (go_at_call 103; go_loud (refine k2.mono ?_; rintro e w2 ⟨rfl, M2, hM2, hF2, a1, a2, a3, a4, a5, a6, a7⟩))
    have k3 := st3 w2 M2 hM2 a1 a2 a3 a4 a5 a6 a7
    unfold sI at k3
    simp only [if_true, if_false, Bool.false_eq_true, Bool.not_true, Bool.not_false] at k3
    clear k2 st3 t3 t4
    go_upto_region 4 with (go_at_call 103; go_loud (refine k3.mono ?_; rintro e w3 ⟨rfl, M3, hM3, hF3, b1, b2, b3, b4, b5, b6, b7⟩))
    have k4 := st4 w3 M3 hM3 b1 b2 b3 b4 b5 b6 b7
    clear k3 st4
    go_upto_region 5 with (go_at_call 107; go_loud (refine k4.mono ?_; rintro e w4 ⟨rfl, M4, hM4, hF4, d1, d2, d3, d4, d5⟩))
    have k5 := st5 w4 M4 hM4 d1 d2 d3 d4 d5
    clear k4 st5
    go_wp2_with (go_at_call 107; go_loud (refine k5.mono ?_; rintro e w5 ⟨rfl, M5, hM5, hF5, f1, f2, f3⟩))
    all_goals go_returns
    exact ⟨rfl, M5, hM5, ((((Fd.refl B w).drew.trans hF1).trans hF2).trans hF3).trans hF4 |>.trans hF5, f1, f2, f3⟩
end Go.Proofs.Ythgpbbpmfpfjnaa.T
