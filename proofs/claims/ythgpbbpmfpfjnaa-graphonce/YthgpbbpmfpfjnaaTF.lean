/- Towards the statements of package tree (layer 16): all that are over a node levelled. -/
import Derived.Test.YthgpbbpmfpfjnaaTE
import Derived.Deep.LoopGhost
namespace Go.Proofs.Ythgpbbpmfpfjnaa.T
open Go.ChangeShapes Go.WideShapes Go.ChangeAt Go.RowKit
set_option linter.unusedVariables false
set_option linter.unusedSimpArgs false
set_option maxRecDepth 20000
/-- The two sides of a node that is to be levelled; D: how deep it was. -/
def NrD (dl dr D : Nat) : Prop := dl ≤ dr + 2 ∧ dr ≤ dl + 2 ∧ (if dl ≤ dr + 1 ∧ dr ≤ dl + 1 then max dl dr + 1 ≤ D + 1 ∧ D ≤ max dl dr + 2 else max dl dr ≤ D ∧ D ≤ max dl dr + 1)
/-- The climb has come to node n, at the place c; R: the whole row. -/
def ClimbAt [Inhabited FarT] (w : World) (B : Nat) (top : Nat) (R : List (Nat × HKey)) (n : Nat) (c : List Fra) : Prop :=
  ∃ (M : MN) (k : HKey) (l r : Tr) (z d D : Nat), Ms w B M ∧ Path M top (some n) c ∧ M n = some ⟨k, some (hdF top c), l.root, r.root, z, d⟩ ∧ Sub M (some n) l ∧ Sub M (some n) r ∧ l.avl ∧ r.avl ∧ NrD l.deep r.deep D ∧ Okc c D ∧ bef c ++ (l.rows ++ (n, k) :: r.rows) ++ aft c = R
def Done [Inhabited FarT] (w : World) (B : Nat) (top : Nat) (R : List (Nat × HKey)) : Prop := ∃ (M : MN) (T : Tr), Ms w B M ∧ Wh M top T ∧ T.rows = R ∧ T.avl
theorem NrD.fits {dl dr D x : Nat} (h : NrD dl dr D) (h1 : max dl dr + (if dl ≤ dr + 1 ∧ dr ≤ dl + 1 then 1 else 0) ≤ x) (h2 : x ≤ 1 + max dl dr) : x ≤ D + 1 ∧ D ≤ x + 1 := by
  obtain ⟨_, _, h3⟩ := h
  by_cases q : dl ≤ dr + 1 ∧ dr ≤ dl + 1
  · rw [if_pos q] at h1 h3; omega
  · rw [if_neg q] at h1 h3; omega
theorem Path.topIs {M : MN} {top : Nat} : ∀ {c : List Fra} {p : Option Nat}, Path M top p c → ∃ x, M top = some x
  | [], _, h => ⟨_, h⟩
  | f :: c, _, h => Path.topIs h.2.2
theorem ad_rows (c : List Fra) (x : Tr) : (x.adds ++ adF c).Perm ((bef c ++ x.rows ++ aft c).map (·.1)) := by
  rw [← rows_plug]
  exact (adds_plug c x).symm
theorem rows_size (c : List Fra) (x : Tr) : x.size ≤ (bef c ++ x.rows ++ aft c).length := by
  rw [← Tr.size_rows]; simp; omega
/-- One step of the climb. -/
theorem climb_step [Inhabited FarT] (w w' : World) (B top : Nat) (R : List (Nat × HKey)) (n : Nat) (c : List Fra) (D : Nat) (M' : MN) (t : Tr) (h1 : Ms w' B M') (h3 : Path M' top t.root c) (h4 : Sub M' (some (hdF top c)) t) (h5 : bef c ++ t.rows ++ aft c = R) (h6 : t.avl) (h7 : t.deep ≤ D + 1) (h8 : D ≤ t.deep + 1) (hO : Okc c D) :
    (c = [] ∧ Done w' B top R) ∨ ∃ f c', c = f :: c' ∧ ClimbAt w' B top R f.a c' := by
  cases c with
  | nil =>
    refine .inl ⟨rfl, M', t, h1, ⟨h3, h4⟩, by simpa [bef, aft] using h5, h6⟩
  | cons f c =>
    obtain ⟨⟨z, d, g1⟩, g2, g3⟩ := h3
    obtain ⟨o1, o2, o3, o4⟩ := hO
    refine .inr ⟨f, c, rfl, ?_⟩
    obtain ⟨s, a, k, y⟩ := f
    have e0 : hdF top (⟨s, a, k, y⟩ :: c) = a := rfl
    rw [e0] at h4
    simp only at g1 g2 g3 o1 o2 o3 o4
    cases s with
    | false =>
      refine ⟨M', k, t, y, z, d, 1 + max D y.deep, h1, g3, by simpa [mkN] using g1, h4, g2, h6, o1, ?_, o4, ?_⟩
      · unfold NrD
        refine ⟨by omega, by omega, ?_⟩
        split <;> omega
      · rw [← h5]; simp [bef, aft]
    | true =>
      refine ⟨M', k, y, t, z, d, 1 + max D y.deep, h1, g3, by simpa [mkN] using g1, g2, h4, o1, h6, ?_, o4, ?_⟩
      · unfold NrD
        refine ⟨by omega, by omega, ?_⟩
        split <;> omega
      · rw [← h5]; simp [bef, aft]
theorem clevel_any [Inhabited FarT] (w : World) (B b m top n : Nat) (c : List Fra) (R : List (Nat × HKey)) (hb : w.heap[b]? = some (.cells #[.map (some m), .pointer (some ⟨top, 0, none⟩)] 111 (0, 0))) (h : (n = top ∧ Done w B top R) ∨ ClimbAt w B top R n c) (hnd : (top :: R.map (·.1)).Nodup) (hl : R.length ≤ 70000) :
    Calls Try.prog 104 #[.pointer (some ⟨b, 0, none⟩), .pointer (some ⟨n, 0, none⟩)] w fun e w' => e = .returned (.tuple #[]) ∧ Done w' B top R ∧ Fd B w w' := by
  replace hnd : Hid ((top :: R.map (·.1)).Nodup) := hnd
  go_enter Try.func104, Try.ntmps104
  go_wp2
  go_loopg [1] (c.length + 1) (fun g v wr => Fd B w wr ∧ ((v = .pointer (some ⟨top, 0, none⟩) ∧ Done wr B top R) ∨ ∃ n c, v = .pointer (some ⟨n, 0, none⟩) ∧ c.length + 1 ≤ g ∧ ClimbAt wr B top R n c))
  case atStart =>
    refine ⟨Fd.refl B w, ?_⟩
    rcases h with ⟨rfl, h⟩ | h
    · exact .inl ⟨rfl, h⟩
    · exact .inr ⟨n, c, rfl, Nat.le_refl _, h⟩
  case round =>
    obtain ⟨hF, h⟩ := hrel
    have hbr := hF.keep b _ hb (by intro cs e; cases e)
    have b1 : wr.cell? ⟨b, 1, none⟩ = some (.pointer (some ⟨top, 0, none⟩)) := by rw [cell_of hbr]; rfl
    rcases h with ⟨rfl, hD⟩ | ⟨n, c, rfl, hg, M, k, l, r, z, d, D, hM, hP, hn, hsl, hsr, al, ar, hN, hO, hR⟩
    · have q := neqp_same top wr
      go_wp2
      all_goals first | go_end0 | go_returns | skip
      all_goals exact ⟨rfl, hD, hF⟩
    · replace hR : Hid _ := hR
      have hp := ad_rows c (.nd n k l r)
      have hR' : bef c ++ (Tr.nd n k l r).rows ++ aft c = R := hR.out
      rw [hR'] at hp
      have hnd1 : (top :: R.map (·.1)).Nodup := hnd.out
      rw [List.nodup_cons] at hnd1
      have hpn := (hp.nodup_iff).2 hnd1.2
      have htop : top ∉ (Tr.nd n k l r).adds ++ adF c := fun q => hnd1.1 (hp.mem_iff.1 q)
      rw [List.nodup_append] at hpn
      obtain ⟨p1, p2, p3⟩ := hpn
      simp only [List.mem_append, not_or] at htop
      have hc : (top :: adF c).Nodup := List.nodup_cons.2 ⟨htop.2, p2⟩
      have hd : ∀ a ∈ (Tr.nd n k l r).adds, a ∉ top :: adF c := fun a ha q => by
        rcases List.mem_cons.1 q with rfl | q
        · exact htop.1 ha
        · exact p3 a ha a q rfl
      have hz : l.size + r.size ≤ 80000 := by
        have := rows_size c (.nd n k l r)
        rw [hR'] at this
        simp only [Tr.size] at this
        omega
      have kL := nlevel_any wr B M hM top c n k l r z d hP hn hsl hsr hc p1 hd hz al ar hN.1 hN.2.1
      have hntop : n ≠ top := fun e => hd n (by simp [Tr.adds_nd]) (by simp [e])
      have hMt := hP.topIs
      obtain ⟨xt, hxt⟩ := hMt
      have q := neqp_other (W := wr) hntop hM hn hxt
      have c2 := hM.c2 hn
      simp only [pO_some] at c2
      clear hp hR' hnd1 htop p1 p2 p3 hc hd hz hb hbr hxt hP hn hsl hsr hM al ar
      replace hN : Hid (NrD l.deep r.deep D) := hN
      replace hO : Hid _ := hO
      go_upto_region 3 with (go_at_call 106; go_loud (refine kL.mono ?_; rintro e w1 ⟨rfl, M1, t, j1, j2, j3, j4, j5, j6, j7, j8⟩))
      have hs := climb_step w w1 B top R n c D M1 t j1 j3 j4 (by rw [j5]; exact hR.out) j6 (hN.out.fits j7 j8).1 (hN.out.fits j7 j8).2 hO.out
      replace hs : Hid _ := hs
      clear kL
      go_wp2
      go_roundg (gk - 1)
      case measure => omega
      case rel =>
        refine ⟨hF.trans j2, ?_⟩
        rcases hs.out with ⟨rfl, hD⟩ | ⟨f, c', rfl, hC⟩
        · exact .inl ⟨rfl, hD⟩
        · exact .inr ⟨f.a, c', rfl, by simp at hg; omega, hC⟩
end Go.Proofs.Ythgpbbpmfpfjnaa.T
