/- Towards the statements of package tree (layer 16): cut. -/
import Derived.Test.YthgpbbpmfpfjnaaTJ
namespace Go.Proofs.Ythgpbbpmfpfjnaa.T
open Go.ChangeShapes Go.WideShapes Go.ChangeAt Go.RowKit
set_option linter.unusedVariables false
set_option linter.unusedSimpArgs false
set_option maxRecDepth 20000
theorem plug_app : ∀ (c d : List Fra) (x : Tr), plug (c ++ d) x = plug d (plug c x)
  | [], d, x => rfl
  | f :: c, d, x => plug_app c d _
theorem bef_app : ∀ (c d : List Fra), bef (c ++ d) = bef d ++ bef c
  | [], d => by simp [bef]
  | f :: c, d => by simp [bef, bef_app c d]
theorem aft_app : ∀ (c d : List Fra), aft (c ++ d) = aft c ++ aft d
  | [], d => by simp [aft]
  | f :: c, d => by simp [aft, aft_app c d]
theorem adF_app : ∀ (c d : List Fra), adF (c ++ d) = adF c ++ adF d
  | [], d => by simp [adF]
  | f :: c, d => by simp [adF, adF_app c d]
/-- The first of a tree. -/
theorem first_place : ∀ {t : Tr}, 0 < t.size → ∃ c a k r, t = plug c (.nd a k .nil r) ∧ bef c = []
  | .nil, h => by simp [Tr.size] at h
  | .nd a k .nil r, _ => ⟨[], a, k, r, rfl, rfl⟩
  | .nd a k (.nd a' k' l' r') r, _ => by
    obtain ⟨c, b, kb, q, e1, e2⟩ := first_place (t := .nd a' k' l' r') (by simp [Tr.size]; omega)
    refine ⟨c ++ [⟨false, a, k, r⟩], b, kb, q, ?_, ?_⟩
    · rw [plug_app, ← e1]; rfl
    · rw [bef_app, e2]; rfl
theorem hdF_app (top n : Nat) (k k' : HKey) (s : Bool) (l : Tr) (c : List Fra) : ∀ c' : List Fra, hdF top (c' ++ ⟨s, n, k, l⟩ :: c) = hdF top (c' ++ ⟨s, n, k', l⟩ :: c)
  | [] => rfl
  | f :: c' => rfl
theorem path_rekey {M : MN} {top n : Nat} {k k' : HKey} {s : Bool} {l : Tr} {c : List Fra} {x : Nd} (hx : M n = some x) :
    ∀ {c' : List Fra} {p : Option Nat}, Path M top p (c' ++ ⟨s, n, k, l⟩ :: c) → (∀ f ∈ c', f.a ≠ n ∧ n ∉ f.t.adds) → n ∉ l.adds → n ∉ top :: adF c → Path (upN M n { x with k := k' }) top p (c' ++ ⟨s, n, k', l⟩ :: c)
  | [], p, h, _, hl, hc => by
    obtain ⟨⟨z, d, h1⟩, h2, h3⟩ := h
    try simp only at h1 h2 h3
    replace h1 : M n = _ := h1
    rw [hx] at h1
    obtain rfl := Option.some.inj h1
    refine ⟨⟨z, d, ?_⟩, h2.frame fun a ha => upN_ne _ _ (by rintro rfl; exact hl ha), h3.frame fun a ha => upN_ne _ _ (by rintro rfl; exact hc ha)⟩
    rw [upN_self]
    cases s <;> rfl
  | f :: c', p, h, hf, hl, hc => by
    obtain ⟨⟨z, d, h1⟩, h2, h3⟩ := h
    obtain ⟨g1, g2⟩ := hf f (.head _)
    refine ⟨⟨z, d, ?_⟩, h2.frame fun a ha => upN_ne _ _ (by rintro rfl; exact g2 ha), path_rekey hx h3 (fun f' hf' => hf f' (.tail _ hf')) hl hc⟩
    rw [upN_ne _ _ g1, h1]
    exact congrArg (fun q => some (mkN f.s f.k (some q) p f.t.root z d)) (hdF_app top n k k' s l c c')
theorem Okc_rekey {n : Nat} {k k' : HKey} {s : Bool} {l : Tr} {c : List Fra} : ∀ {c' : List Fra} {d : Nat}, Okc (c' ++ ⟨s, n, k, l⟩ :: c) d → Okc (c' ++ ⟨s, n, k', l⟩ :: c) d
  | [], d, h => h
  | f :: c', d, h => ⟨h.1, h.2.1, h.2.2.1, Okc_rekey h.2.2.2⟩
theorem adF_rekey (n : Nat) (k k' : HKey) (s : Bool) (l : Tr) (c : List Fra) (c' : List Fra) : adF (c' ++ ⟨s, n, k, l⟩ :: c) = adF (c' ++ ⟨s, n, k', l⟩ :: c) := by simp [adF_app, adF]
theorem mem_adF {c : List Fra} {f : Fra} (h : f ∈ c) : f.a ∈ adF c ∧ ∀ a ∈ f.t.adds, a ∈ adF c := by
  induction c with
  | nil => cases h
  | cons g c ih =>
    rcases List.mem_cons.1 h with rfl | h
    · exact ⟨by simp [adF], fun a ha => by simp [adF, ha]⟩
    · obtain ⟨h1, h2⟩ := ih h
      exact ⟨by simp [adF, h1], fun a ha => by simp [adF, h2 a ha]⟩
/-- Behind the choice of whom to take out: a node with one side at most at the place C goes, the other side in its stead. -/
def CutAt (M : MN) (top : Nat) (C : List Fra) (n : Nat) (k : HKey) (l r : Tr) : Prop :=
  Path M top (some n) C ∧ M n = some ⟨k, some (hdF top C), l.root, r.root, l.size + 1 + r.size, 1 + max l.deep r.deep⟩ ∧ Sub M (some n) l ∧ Sub M (some n) r ∧ (l = .nil ∨ r = .nil) ∧ l.avl ∧ r.avl ∧ Okc C (1 + max l.deep r.deep) ∧ (top :: adF C).Nodup ∧ (Tr.nd n k l r).adds.Nodup ∧ ∀ a ∈ (Tr.nd n k l r).adds, a ∉ top :: adF C
/-- What hangs in its stead. -/
def rest2 (l r : Tr) : Tr := if l.root = none then r else l
theorem hangH [Inhabited FarT] (w : World) (B : Nat) (M : MN) (h : Ms w B M) (top : Nat) (C : List Fra) (n : Nat) (k : HKey) (l r : Tr) (hC : CutAt M top C n k l r) (R : List (Nat × HKey)) (hR : bef C ++ (rest2 l r).rows ++ aft C = R) :
    ∃ s : Int, Calls Try.prog 110 #[.pointer (some ⟨n, 0, none⟩)] w (fun e w' => e = .returned (.int .i64 s) ∧ w' = w) ∧ Calls Try.prog 103 #[.pointer (some ⟨hdF top C, 0, none⟩), .int .i64 s, pO (rest2 l r).root] w fun e w' => e = .returned (.tuple #[]) ∧ ∃ M', Ms w' B M' ∧ Fd B w w' ∧ M' n = M n ∧ ∃ cc, (hdF top C = top ∧ Done w' B top R) ∨ ClimbAt w' B top R (hdF top C) cc := by
  obtain ⟨hP, hn, hl, hr, hlr, al, ar, hO, hc, hT, hd⟩ := hC
  have hnd := (mkT_nodup false n k l r).1 hT
  obtain ⟨n1, n2, n3, n4, n5⟩ := hnd
  have hin : ∀ a, a ∈ (Tr.nd n k l r).adds ↔ (a ∈ l.adds ∨ a = n ∨ a ∈ r.adds) := fun a => mkT_adds false n k l r a
  have hn' : n ∉ top :: adF C := hd n ((hin n).2 (by simp))
  obtain ⟨O, ho, hk, hs, hrr, hP'⟩ := hP.over hc hn'
  have hom := hdF_mem top C
  have hu : (rest2 l r).avl ∧ Sub M (some n) (rest2 l r) ∧ (rest2 l r).adds.Nodup ∧ (∀ a ∈ (rest2 l r).adds, a ∈ l.adds ∨ a ∈ r.adds) ∧ (rest2 l r).deep + 1 = 1 + max l.deep r.deep := by
    unfold rest2
    cases l with
    | nil => exact ⟨ar, hr, n2, fun a ha => .inr ha, by simp [Tr.deep, Tr.root]; omega⟩
    | nd a' k' l' r' =>
      rcases hlr with q | rfl
      · cases q
      · exact ⟨al, hl, n1, fun a ha => .inl ha, by simp [Tr.deep, Tr.root]; omega⟩
  obtain ⟨u1, u2, u3, u4, u5⟩ := hu
  have hun : ∀ a ∈ (rest2 l r).adds, a ≠ n ∧ a ∉ top :: adF C := fun a ha => by
    refine ⟨?_, ?_⟩
    · rintro rfl
      rcases u4 a ha with q | q
      · exact n3 q
      · exact n4 q
    · refine hd a ((hin a).2 ?_)
      rcases u4 a ha with q | q
      · exact .inl q
      · exact .inr (.inr q)
  have hno : ∀ a ∈ (rest2 l r).adds, a ≠ hdF top C := fun a ha e => (hun a ha).2 (e ▸ hom)
  have hne : n ≠ hdF top C := fun e => hn' (e ▸ hom)
  refine ⟨sI (sdF C), side_any w B M h n (hdF top C) _ O hn rfl ho (sdF C) hk hs (fun a e => ?_), ?_⟩
  · rcases hrr a e with rfl | q
    · exact ⟨_, hn⟩
    · exact q
  refine (hang_any w B M h (hdF top C) (rest2 l r).root O ho (fun a e => ⟨hno a (Tr.root_mem e), by obtain ⟨x, hx, _⟩ := u2.is e; exact ⟨x, hx⟩⟩) (sdF C)).mono ?_
  rintro e w' ⟨rfl, M', hM', hF, e1, e2, e3⟩
  refine ⟨rfl, M', hM', hF, e3 n hne (fun q => (hun n (Tr.root_mem q)).1 rfl), ?_⟩
  have g1 := hP' M' (rest2 l r).root e1 (fun a ha hne' => e3 a hne' (fun q => (hun a (Tr.root_mem q)).2 ha))
  have g2 : Sub M' (some (hdF top C)) (rest2 l r) := u2.move (fun a x q1 q2 => e2 a x q1 q2) (fun a ha q => e3 a (hno a ha) q) u3
  rcases climb_step w w' B top R n C (1 + max l.deep r.deep) M' (rest2 l r) hM' g1 g2 hR u1 (by omega) (by omega) hO with ⟨rfl, hD⟩ | ⟨f, c', rfl, hCl⟩
  · exact ⟨[], .inl ⟨rfl, hD⟩⟩
  · exact ⟨c', .inr hCl⟩
/-- What is left of the rows, and of the map. -/
structure CutPost [Inhabited FarT] (w w' : World) (B m top : Nat) (K : List HKey) (k : HKey) (j n : Nat) : Prop where
  ft : Ft B w w'
  ex : ∃ R', Done w' B top R' ∧ (top :: R'.map (·.1)).Nodup ∧ R'.map (·.2) = K.take j ++ K.drop (j + 1) ∧ (∃ nn F, HM w' m nn F ∧ F k = some (.pointer (some ⟨n, 0, none⟩)) ∧ ∀ h v, h ≠ k → (F h = some v ↔ ∃ a, (a, h) ∈ R' ∧ v = .pointer (some ⟨a, 0, none⟩)))
set_option maxHeartbeats 2000000 in
theorem cut_any [Inhabited FarT] (w : World) (B b m top : Nat) (M : MN) (T : Tr) (h : Tw w B b m top M T) (c : List Fra) (n : Nat) (k : HKey) (l r : Tr) (hT : T = plug c (.nd n k l r)) :
    Calls Try.prog 117 #[.pointer (some ⟨b, 0, none⟩), .pointer (some ⟨n, 0, none⟩)] w fun e w' => e = .returned (.tuple #[]) ∧ CutPost w w' B m top T.keys k ((bef c).length + l.size) n := by
  have hlen := h.len
  have hnd := h.nd
  have hx0 := h.wh
  rw [hT] at hx0
  obtain ⟨hP0, hn0, hl0, hr0⟩ := hx0.open
  have hp := (adds_plug c (.nd n k l r)).symm
  rw [← hT] at hp
  have hnd1 := hnd
  rw [List.nodup_cons] at hnd1
  have hpn := (hp.nodup_iff).2 hnd1.2
  have htop : top ∉ (Tr.nd n k l r).adds ++ adF c := fun q => hnd1.1 (hp.mem_iff.1 q)
  rw [List.nodup_append] at hpn
  obtain ⟨p1, p2, p3⟩ := hpn
  simp only [List.mem_append, not_or] at htop
  have hc : (top :: adF c).Nodup := List.nodup_cons.2 ⟨htop.2, p2⟩
  have hd : ∀ a ∈ (Tr.nd n k l r).adds, a ∉ top :: adF c := fun a ha q => by
    rcases List.mem_cons.1 q with rfl | q
    · exact htop.1 ha
    · exact p3 a ha a q rfl
  have hav := h.avl
  rw [hT] at hav
  obtain ⟨hav1, hO⟩ := Okc_of hav
  obtain ⟨al, ar, ad1, ad2⟩ := hav1
  simp only [Tr.deep] at hO
  have hrows : T.rows = bef c ++ (l.rows ++ (n, k) :: r.rows) ++ aft c := by rw [hT, rows_plug]; rfl
  have hsz : T.size = (bef c).length + (l.size + 1 + r.size) + (aft c).length := by
    rw [← Tr.size_rows, hrows]; simp [Tr.size_rows]; omega
  have hM := h.ms
  obtain ⟨nn, F, hF, hF2⟩ := h.map
  have c3 := hM.c3 hn0
  have c4 := hM.c4 hn0
  simp only at c3 c4
  have hcells := h.cells
  -- what follows where one goes that has one side at most
  have one : l = .nil ∨ r = .nil → ∀ w', Done w' B top (bef c ++ (rest2 l r).rows ++ aft c) → Fd B w w' → CutPost w w' B m top T.keys k ((bef c).length + l.size) n := by
    intro hlr w' hD hF'
    have hrr : (rest2 l r).rows = l.rows ++ r.rows := by
      unfold rest2
      cases l with
      | nil => simp [Tr.root, Tr.rows]
      | nd a' k' l' r' =>
        rcases hlr with q | rfl
        · cases q
        · simp [Tr.root, Tr.rows]
    have hkk : T.keys = (bef c).map (·.2) ++ (l.rows.map (·.2) ++ k :: r.rows.map (·.2)) ++ (aft c).map (·.2) := by
      unfold Tr.keys; rw [hrows]; simp
    have hkd := h.kd
    have hperm : (T.rows.map (·.1)).Perm (n :: (bef c ++ (rest2 l r).rows ++ aft c).map (·.1)) := by
      rw [hrows, hrr]
      simp only [List.map_append, List.map_cons, List.append_assoc, List.cons_append]
      rw [← List.append_assoc]
      refine List.perm_middle.trans ?_
      simp
    refine ⟨Ft.fd hF', _, hD, ?_, ?_, nn, F, ?_, (hF2 k _).2 ⟨n, by rw [hrows]; simp, rfl⟩, fun h' v hne => ?_⟩
    · have := hperm.nodup_iff.1 hnd1.2
      rw [List.nodup_cons] at this ⊢
      exact ⟨fun q => hnd1.1 (hperm.mem_iff.2 (.tail _ q)), this.2⟩
    · rw [hkk, hrr]
      have e1 : (bef c).length + l.size = ((bef c).map (·.2) ++ l.rows.map (·.2)).length := by simp [Tr.size_rows]
      rw [e1]
      have e2 : (bef c).map (·.2) ++ (l.rows.map (·.2) ++ k :: r.rows.map (·.2)) ++ (aft c).map (·.2) = ((bef c).map (·.2) ++ l.rows.map (·.2)) ++ k :: (r.rows.map (·.2) ++ (aft c).map (·.2)) := by simp
      rw [e2, List.take_left', List.drop_append]
      · simp
      · rfl
    · obtain ⟨es, cl, q1, q2⟩ := hF
      exact ⟨es, cl, hF'.keep m _ q1 (by intro cs e; cases e), q2⟩
    · rw [hF2, hrows, hrr]
      simp only [List.mem_append, List.mem_cons, Prod.mk.injEq, hne, and_false, false_or]
  replace hT : Hid (T = plug c (.nd n k l r)) := hT
  have hnR : l = .nil ∨ r = .nil → (top :: (bef c ++ (rest2 l r).rows ++ aft c).map (·.1)).Nodup ∧ (bef c ++ (rest2 l r).rows ++ aft c).length ≤ 70000 := by
    intro hlr
    have hrr : (rest2 l r).rows = l.rows ++ r.rows := by
      unfold rest2
      cases l with
      | nil => simp [Tr.root, Tr.rows]
      | nd a' k' l' r' =>
        rcases hlr with q | rfl
        · cases q
        · simp [Tr.root, Tr.rows]
    have hperm : (T.rows.map (·.1)).Perm (n :: (bef c ++ (rest2 l r).rows ++ aft c).map (·.1)) := by
      rw [hrows, hrr]
      simp only [List.map_append, List.map_cons, List.append_assoc, List.cons_append]
      rw [← List.append_assoc]
      refine List.perm_middle.trans ?_
      simp
    have := hperm.nodup_iff.1 hnd1.2
    rw [List.nodup_cons] at this
    exact ⟨List.nodup_cons.2 ⟨fun q => hnd1.1 (hperm.mem_iff.2 (.tail _ q)), this.2⟩, by rw [hrr]; simp [Tr.size_rows]; omega⟩
  go_enter Try.func117, Try.ntmps117
  cases l with
  | nil =>
    have hcut : CutAt M top c n k .nil r := ⟨hP0, hn0, hl0, hr0, .inl rfl, al, ar, hO, hc, p1, hd⟩
    have hfin := one (.inl rfl)
    have hR := hnR (.inl rfl)
    simp only [Tr.root, pO_none] at c3
    have n1 := nep_no w
    clear one hnR hF2 hF
    obtain ⟨Wt, hWt⟩ : ∃ Wt, w = Wt := ⟨w, rfl⟩
    obtain ⟨Mt, hMe⟩ : ∃ Mt, M = Mt := ⟨M, rfl⟩
    rw [hWt] at hM c3 c4 hcells hfin n1 ⊢
    rw [hMe] at hM hcut
    have hMt := hM
    have hbt := hcells
    clear hM hcells
    go_upto_region 5 with fail
    clear c3 c4 n1
    obtain ⟨s, kS, kH⟩ := hangH Wt.drew B Mt hMt.drew top c n _ .nil r hcut _ rfl
    have t2 := hMt.c2 hcut.2.1
    have t3 := hMt.c3 hcut.2.1
    have t4 := hMt.c4 hcut.2.1
    simp only [pO_some] at t2
    replace t3 : Wt.cell? ⟨n, 3, none⟩ = some (.pointer none) := t3
    replace t4 : Wt.cell? ⟨n, 4, none⟩ = some (pO (Tr.root r)) := t4
    have ho : hdF top c = hdF top c := rfl
    generalize hoo : hdF top c = o at t2 kH
    have q1 := eqp_no
    generalize hvu : pO (rest2 .nil r).root = vu at kH
    replace t4 : Wt.cell? ⟨n, 4, none⟩ = some vu := by rw [← hvu]; exact t4
    go_upto_region 8 with fail
    go_region_held3 (fun w' => w'.cell? ⟨n, 2, none⟩ = some (.pointer (some ⟨o, 0, none⟩))) (repeat (with_reducible (first | assumption | apply cell_dr))) (first
      | (go_at_call 110; refine kS.mono ?_; rintro e w' ⟨rfl, hw⟩; rw [hw]; clear hw)
      | (go_at_call 103; go_loud (refine kH.mono ?_; rintro e w1 ⟨rfl, M1, hM1, hF1, e1, cc, hcc⟩; have v2 := hM1.c2 (e1.trans hcut.2.1); simp only [pO_some, hoo] at v2)))
    have hb1 := hF1.keep _ _ hbt (by intro cs e; cases e)
    have kL := clevel_any w1 B b m top o cc _ hb1 hcc hR.1 hR.2
    go_wp2_with (go_at_call 104; go_loud (refine kL.mono ?_; rintro e w2 ⟨rfl, hD2, hF2'⟩))
    all_goals go_returns
    exact ⟨rfl, hfin w2 hD2 ((Fd.refl B Wt).drew.trans (hF1.trans hF2'))⟩
  | nd la lk ll lr =>
    cases r with
    | nil =>
      have hcut : CutAt M top c n k (.nd la lk ll lr) .nil := ⟨hP0, hn0, hl0, hr0, .inr rfl, al, ar, hO, hc, p1, hd⟩
      have hfin := one (.inr rfl)
      have hR := hnR (.inr rfl)
      simp only [Tr.root, pO_none, pO_some] at c3 c4
      have n1 := fun x => nep_yes x w
      have n2 := nep_no w
      clear one hnR hF2 hF
      obtain ⟨Wt, hWt⟩ : ∃ Wt, w = Wt := ⟨w, rfl⟩
      obtain ⟨Mt, hMe⟩ : ∃ Mt, M = Mt := ⟨M, rfl⟩
      rw [hWt] at hM c3 c4 hcells hfin n1 n2 ⊢
      rw [hMe] at hM hcut
      have hMt := hM
      have hbt := hcells
      clear hM hcells
      go_upto_region 5 with fail
      clear c3 c4 n1 n2
      obtain ⟨s, kS, kH⟩ := hangH Wt.drew B Mt hMt.drew top c n _ (.nd la lk ll lr) .nil hcut _ rfl
      have t2 := hMt.c2 hcut.2.1
      have t3 := hMt.c3 hcut.2.1
      have t4 := hMt.c4 hcut.2.1
      simp only [pO_some] at t2
      replace t3 : Wt.cell? ⟨n, 3, none⟩ = some (.pointer (some ⟨la, 0, none⟩)) := t3
      replace t4 : Wt.cell? ⟨n, 4, none⟩ = some (.pointer none) := t4
      have ho : hdF top c = hdF top c := rfl
      generalize hoo : hdF top c = o at t2 kH
      have q1 := fun x => eqp_yes x Wt
      simp only [rest2, Tr.root, pO_some, reduceCtorEq, if_false] at kH hfin hR
      go_upto_region 8 with fail
      go_region_held3 (fun w' => w'.cell? ⟨n, 2, none⟩ = some (.pointer (some ⟨o, 0, none⟩))) (repeat (with_reducible (first | assumption | apply cell_dr))) (first
        | (go_at_call 110; refine kS.mono ?_; rintro e w' ⟨rfl, hw⟩; rw [hw]; clear hw)
        | (go_at_call 103; go_loud (refine kH.mono ?_; rintro e w1 ⟨rfl, M1, hM1, hF1, e1, cc, hcc⟩; have v2 := hM1.c2 (e1.trans hcut.2.1); simp only [pO_some, hoo] at v2)))
      have hb1 := hF1.keep _ _ hbt (by intro cs e; cases e)
      have kL := clevel_any w1 B b m top o cc _ hb1 hcc hR.1 hR.2
      go_wp2_with (go_at_call 104; go_loud (refine kL.mono ?_; rintro e w2 ⟨rfl, hD2, hF2'⟩))
      all_goals go_returns
      exact ⟨rfl, hfin w2 hD2 ((Fd.refl B Wt).drew.trans (hF1.trans hF2'))⟩
    | nd ra rk rl rr =>
      obtain ⟨c', a', k', r', e1, e2⟩ := first_place (t := .nd ra rk rl rr) (by simp [Tr.size]; omega)
      replace c3 : w.cell? ⟨n, 3, none⟩ = some (.pointer (some ⟨la, 0, none⟩)) := c3
      replace c4 : w.cell? ⟨n, 4, none⟩ = some (.pointer (some ⟨ra, 0, none⟩)) := c4
      have n1 := fun x => nep_yes x w
      have kN : Calls Try.prog 101 #[.pointer (some ⟨ra, 0, none⟩), .int .i64 0] w _ := nat_any w B M hM (some n) _ hr0 0 (by simp [Tr.size]; omega) (by omega)
      have hr00 : (Tr.nd ra rk rl rr).rows[0]? = some (a', k') := by rw [e1, rows_plug, e2]; simp [Tr.rows]
      generalize hel : Tr.nd la lk ll lr = l at *
      generalize her : Tr.nd ra rk rl rr = r at *
      have hTC : T = plug (c' ++ ⟨true, n, k, l⟩ :: c) (.nd a' k' .nil r') := by rw [hT.out, e1, plug_app]; rfl
      have hx1 := h.wh
      rw [hTC] at hx1
      obtain ⟨hPC, hnC, hlC, hrC⟩ := hx1.open
      have hn3 := (mkT_nodup false n k l r).1 p1
      obtain ⟨m1, m2, m3, m4, m5⟩ := hn3
      have hpr := adds_plug c' (.nd a' k' .nil r')
      rw [← e1] at hpr
      have hna : n ≠ a' := fun e => m4 (hpr.mem_iff.2 (by rw [e]; simp [Tr.adds_nd]))
      have hpC := (adds_plug (c' ++ ⟨true, n, k, l⟩ :: c) (.nd a' k' .nil r')).symm
      rw [← hTC] at hpC
      have hpnC := (hpC.nodup_iff).2 hnd1.2
      have htopC : top ∉ (Tr.nd a' k' .nil r').adds ++ adF (c' ++ ⟨true, n, k, l⟩ :: c) := fun q => hnd1.1 (hpC.mem_iff.1 q)
      rw [List.nodup_append] at hpnC
      obtain ⟨o1, o2, o3⟩ := hpnC
      simp only [List.mem_append, not_or] at htopC
      have hcC : (top :: adF (c' ++ ⟨true, n, k, l⟩ :: c)).Nodup := List.nodup_cons.2 ⟨htopC.2, o2⟩
      have hdC : ∀ a ∈ (Tr.nd a' k' .nil r').adds, a ∉ top :: adF (c' ++ ⟨true, n, k, l⟩ :: c) := fun a ha q => by
        rcases List.mem_cons.1 q with rfl | q
        · exact htopC.1 ha
        · exact o3 a ha a q rfl
      have havC := h.avl
      rw [hTC] at havC
      obtain ⟨havC1, hOC⟩ := Okc_of havC
      obtain ⟨-, arC, -, -⟩ := havC1
      simp only [Tr.deep] at hOC
      have hnt : n ∉ top :: adF c := hd n (by simp [Tr.adds_nd])
      have hPk := path_rekey (k' := k') hn0 hPC (fun f hf => ⟨fun e => m4 (hpr.mem_iff.2 (by rw [← e]; exact List.mem_append_right _ (mem_adF hf).1)), fun q => m4 (hpr.mem_iff.2 (List.mem_append_right _ ((mem_adF hf).2 n q)))⟩) m3 hnt
      have hcut0 : CutAt (upN M n ⟨k', some (hdF top c), l.root, r.root, l.size + 1 + r.size, 1 + max l.deep r.deep⟩) top (c' ++ ⟨true, n, k', l⟩ :: c) a' k' .nil r' := by
        refine ⟨hPk, ?_, trivial, hrC.frame fun a ha => upN_ne _ _ ?_, .inl rfl, trivial, arC, Okc_rekey hOC, by rw [← adF_rekey n k k']; exact hcC, o1, by rw [← adF_rekey n k k']; exact hdC⟩
        · rw [upN_ne _ _ (Ne.symm hna), hnC, hdF_app top n k k']
        · rintro rfl
          exact m4 (hpr.mem_iff.2 (List.mem_append_left _ (by simp [Tr.adds_nd, ha])))
      have hrr : r.rows = (a', k') :: (r'.rows ++ aft c') := by rw [e1, rows_plug, e2]; simp [Tr.rows]
      have hR1 : bef (c' ++ ⟨true, n, k', l⟩ :: c) ++ (rest2 .nil r').rows ++ aft (c' ++ ⟨true, n, k', l⟩ :: c) = bef c ++ (l.rows ++ (n, k') :: (r'.rows ++ aft c')) ++ aft c := by
        rw [bef_app, aft_app, e2]; simp [bef, aft, rest2, Tr.root]
      have hcells2 := hcells
      have h0 : Ms (w.setCell ⟨n, 0, none⟩ (.int .i64 k'.1)) B _ := hM.set hn0 0 (.int .i64 k'.1) ⟨(k'.1, k.2), some (hdF top c), l.root, r.root, l.size + 1 + r.size, 1 + max l.deep r.deep⟩ rfl
      have h1 := h0.set (upN_self _ _ _) 1 (.int .u64 k'.2) ⟨k', some (hdF top c), l.root, r.root, l.size + 1 + r.size, 1 + max l.deep r.deep⟩ rfl
      have hup : upN (upN M n ⟨(k'.1, k.2), some (hdF top c), l.root, r.root, l.size + 1 + r.size, 1 + max l.deep r.deep⟩) n ⟨k', some (hdF top c), l.root, r.root, l.size + 1 + r.size, 1 + max l.deep r.deep⟩ = upN M n ⟨k', some (hdF top c), l.root, r.root, l.size + 1 + r.size, 1 + max l.deep r.deep⟩ := by
        funext b; simp only [upN]; split <;> rfl
      rw [hup] at h1
      have hFd1 := (hM.fset hn0 0 (.int .i64 k'.1)).trans (h0.fset (upN_self _ _ _) 1 (.int .u64 k'.2))
      have w0 := hM.c0 hnC
      have w1' := hM.c1 hnC
      simp only at w0 w1'
      have fr0 := hM.fr hn0 0
      have fr1 := hM.fr hn0 1
      have z0 := hM.c0 hn0
      have z1 := hM.c1 hn0
      simp only at z0 z1
      have hnn := upN_self M n ⟨k', some (hdF top c), l.root, r.root, l.size + 1 + r.size, 1 + max l.deep r.deep⟩
      clear h0 hup hPk hPC hnC hlC hrC hx1 hx0 hP0 hn0 hl0 hr0 hel her
      go_upto_region 2 with (go_at_call 101; go_loud (refine kN.mono ?_; rintro e w' ⟨a1, k1, rfl, hrow, hw⟩; rw [hw]; clear hw))
      have hak : a1 = a' ∧ k1 = k' := by rw [hr00] at hrow; simpa using hrow.symm
      obtain ⟨rfl, rfl⟩ := hak
      go_upto_region 3 with fail
      clear kN c3 c4 n1 w0 w1' fr0 fr1 z0 z1
      generalize (w.setCell ⟨n, 0, none⟩ (.int .i64 k1.1)).setCell ⟨n, 1, none⟩ (.int .u64 k1.2) = v1 at h1 hFd1 ⊢
      have hcv := hFd1.keep _ _ hcells (by intro cs e; cases e)
      have hmv : HM v1 m nn F := by
        obtain ⟨es, cl, q1, q2⟩ := hF
        exact ⟨es, cl, hFd1.keep m _ q1 (by intro cs e; cases e), q2⟩
      obtain ⟨W5, p5, i5, t5⟩ := HM.put (w := v1.drew) Try.underlying105 (hmv.keep rfl) (k := k1) trivial (.pointer (some ⟨n, 0, none⟩))
      unfold hK at p5
      have c0 : v1.cell? ⟨b, 0, none⟩ = some (.map (some m)) := by rw [cell_of hcv]; rfl
      have y0 := h1.c0 hnn
      have y1 := h1.c1 hnn
      simp only at y0 y1
      go_upto_region 3 with fail
      go_region
      have hMt := Ms.turn (w := v1.drew) h1 t5
      have hbt := turn_block t5 hcv (fun _ _ q => by cases q)
      have hF5 : Ft B w W5 := (Ft.fd hFd1).drew.trans (Ft.turn t5 h.mB h.mY (by have := hFd1.bel.size; have := h.size; show B ≤ v1.heap.size; omega))
      have hperm : (T.rows.map (·.1)).Perm (a1 :: (bef c ++ (l.rows ++ (n, k1) :: (r'.rows ++ aft c')) ++ aft c).map (·.1)) := by
        rw [hrows, hrr]
        simp only [List.map_append, List.map_cons, List.append_assoc, List.cons_append]
        have : ∀ (X Y : List Nat) (Z : List Nat), (X ++ (Y ++ n :: a1 :: Z)).Perm (a1 :: (X ++ (Y ++ n :: Z))) := by
          intro X Y Z
          have e : X ++ (Y ++ n :: a1 :: Z) = (X ++ Y ++ [n]) ++ a1 :: Z := by simp
          rw [e]
          refine List.perm_middle.trans ?_
          simp
        exact this _ _ _
      have hndR := hperm.nodup_iff.1 hnd1.2
      rw [List.nodup_cons] at hndR
      have hkk : T.keys = (bef c).map (·.2) ++ (l.rows.map (·.2) ++ k :: k1 :: (r'.rows.map (·.2) ++ (aft c').map (·.2))) ++ (aft c).map (·.2) := by
        unfold Tr.keys; rw [hrows, hrr]; simp
      have hkd := h.kd
      have hR : (top :: (bef (c' ++ ⟨true, n, k1, l⟩ :: c) ++ (rest2 .nil r').rows ++ aft (c' ++ ⟨true, n, k1, l⟩ :: c)).map (·.1)).Nodup ∧ (bef (c' ++ ⟨true, n, k1, l⟩ :: c) ++ (rest2 .nil r').rows ++ aft (c' ++ ⟨true, n, k1, l⟩ :: c)).length ≤ 70000 := by
        rw [hR1]
        refine ⟨List.nodup_cons.2 ⟨fun q => hnd1.1 (hperm.mem_iff.2 (.tail _ q)), hndR.2⟩, ?_⟩
        have := hperm.length_eq
        simp only [List.length_map, List.length_cons, Tr.size_rows] at this
        omega
      have hfin : ∀ w', Done w' B top (bef (c' ++ ⟨true, n, k1, l⟩ :: c) ++ (rest2 .nil r').rows ++ aft (c' ++ ⟨true, n, k1, l⟩ :: c)) → Fd B W5 w' → CutPost w w' B m top T.keys k ((bef c).length + l.size) n := by
        intro w' hD hF'
        have hR2 := hR.1
        rw [hR1] at hD hR2
        refine ⟨hF5.trans (Ft.fd hF'), _, hD, hR2, ?_, nn + 1, updH F k1 (some (.pointer (some ⟨n, 0, none⟩))), ?_, ?_, fun h' v hne => ?_⟩
        · rw [hkk]
          have e1 : (bef c).length + l.size = ((bef c).map (·.2) ++ l.rows.map (·.2)).length := by simp [Tr.size_rows]
          rw [e1]
          have e2 : (bef c).map (·.2) ++ (l.rows.map (·.2) ++ k :: k1 :: (r'.rows.map (·.2) ++ (aft c').map (·.2))) ++ (aft c).map (·.2) = ((bef c).map (·.2) ++ l.rows.map (·.2)) ++ k :: (k1 :: (r'.rows.map (·.2) ++ (aft c').map (·.2)) ++ (aft c).map (·.2)) := by simp
          rw [e2, List.take_left', List.drop_append]
          · simp
          · rfl
        · obtain ⟨es, cl, q1, q2⟩ := i5
          exact ⟨es, cl, hF'.keep m _ q1 (by intro cs e; cases e), q2⟩
        · have hkk1 : k ≠ k1 := by
            rintro rfl
            rw [hkk, List.append_assoc, List.append_assoc] at hkd
            have h1 := (List.nodup_append.1 hkd).2.1
            have h2 := (List.nodup_append.1 h1).2.1
            simp at h2
          rw [updH_ne _ _ hkk1]
          exact (hF2 k _).2 ⟨n, by rw [hrows]; simp, rfl⟩
        · rw [hkk] at hkd
          by_cases e : h' = k1
          · subst e
            rw [updH_self]
            constructor
            · intro e; cases e; exact ⟨n, by simp, rfl⟩
            · rintro ⟨a, ha, rfl⟩
              have hk1 : h' ∉ (bef c).map (·.2) ∧ h' ∉ l.rows.map (·.2) ∧ h' ∉ r'.rows.map (·.2) ∧ h' ∉ (aft c').map (·.2) ∧ h' ∉ (aft c).map (·.2) := by
                have e3 : (bef c).map (·.2) ++ (l.rows.map (·.2) ++ k :: h' :: (r'.rows.map (·.2) ++ (aft c').map (·.2))) ++ (aft c).map (·.2) = ((bef c).map (·.2) ++ l.rows.map (·.2) ++ [k]) ++ h' :: (r'.rows.map (·.2) ++ (aft c').map (·.2) ++ (aft c).map (·.2)) := by simp
                rw [e3] at hkd
                have := List.perm_middle.nodup_iff.1 hkd
                rw [List.nodup_cons] at this
                have := this.1
                simp only [List.mem_append, List.mem_singleton, not_or] at this
                obtain ⟨⟨⟨x1, x2⟩, x3⟩, ⟨x4, x5⟩, x6⟩ := this
                exact ⟨x1, x2, x4, x5, x6⟩
              obtain ⟨x1, x2, x4, x5, x6⟩ := hk1
              have mm : ∀ X : List (Nat × HKey), (a, h') ∈ X → h' ∈ X.map (·.2) := fun X hx => List.mem_map.2 ⟨_, hx, rfl⟩
              simp only [List.mem_append, List.mem_cons, Prod.mk.injEq, and_true] at ha
              rcases ha with (ha | ha | rfl | ha | ha) | ha
              · exact absurd (mm _ ha) x1
              · exact absurd (mm _ ha) x2
              · rfl
              · exact absurd (mm _ ha) x4
              · exact absurd (mm _ ha) x5
              · exact absurd (mm _ ha) x6
          · rw [updH_ne _ _ e, hF2, hrows, hrr]
            simp only [List.mem_append, List.mem_cons, Prod.mk.injEq, hne, e, and_false, false_or]
      obtain ⟨Wt, hWt⟩ : ∃ Wt, W5 = Wt := ⟨W5, rfl⟩
      obtain ⟨Mt, hMe⟩ : ∃ Mt, upN M n ⟨k1, some (hdF top c), l.root, r.root, l.size + 1 + r.size, 1 + max l.deep r.deep⟩ = Mt := ⟨_, rfl⟩
      rw [hWt] at hMt hbt hfin ⊢
      rw [hMe] at hMt
      have hcut := hcut0
      rw [hMe] at hcut
      clear hcut0 one hnR hF2 hF hmv p5 i5 t5 c0 y0 y1 h1 hFd1 hcv hF5 hR1 hrr hkk hkd hperm hndR hM hcells hcells2 hrows hTC hT hWt hMe hr00 hrow hnn e1 e2 hsz
      go_upto_region 5 with fail
      obtain ⟨s, kS, kH⟩ := hangH Wt.drew B Mt hMt.drew top (c' ++ ⟨true, n, k1, l⟩ :: c) a1 _ .nil r' hcut _ rfl
      have t2 := hMt.c2 hcut.2.1
      have t3 := hMt.c3 hcut.2.1
      have t4 := hMt.c4 hcut.2.1
      simp only [pO_some] at t2
      replace t3 : Wt.cell? ⟨a1, 3, none⟩ = some (.pointer none) := t3
      replace t4 : Wt.cell? ⟨a1, 4, none⟩ = some (pO (Tr.root r')) := t4
      have ho : hdF top (c' ++ ⟨true, n, k1, l⟩ :: c) = hdF top (c' ++ ⟨true, n, k1, l⟩ :: c) := rfl
      generalize hoo : hdF top (c' ++ ⟨true, n, k1, l⟩ :: c) = o at t2 kH
      have q1 := eqp_no
      generalize hvu : pO (rest2 .nil r').root = vu at kH
      replace t4 : Wt.cell? ⟨a1, 4, none⟩ = some vu := by rw [← hvu]; exact t4
      go_upto_region 8 with fail
      go_region_held3 (fun w' => w'.cell? ⟨a1, 2, none⟩ = some (.pointer (some ⟨o, 0, none⟩))) (repeat (with_reducible (first | assumption | apply cell_dr))) (first
        | (go_at_call 110; refine kS.mono ?_; rintro e w' ⟨rfl, hw⟩; rw [hw]; clear hw)
        | (go_at_call 103; go_loud (refine kH.mono ?_; rintro e w1 ⟨rfl, M1, hM1, hF1, e1, cc, hcc⟩; have v2 := hM1.c2 (e1.trans hcut.2.1); simp only [pO_some, hoo] at v2)))
      have hb1 := hF1.keep _ _ hbt (by intro cs e; cases e)
      have kL := clevel_any w1 B b m top o cc _ hb1 hcc hR.1 hR.2
      go_wp2_with (go_at_call 104; go_loud (refine kL.mono ?_; rintro e w2 ⟨rfl, hD2, hF2'⟩))
      all_goals go_returns
      exact ⟨rfl, hfin w2 hD2 ((Fd.refl B Wt).drew.trans (hF1.trans hF2'))⟩
end Go.Proofs.Ythgpbbpmfpfjnaa.T
