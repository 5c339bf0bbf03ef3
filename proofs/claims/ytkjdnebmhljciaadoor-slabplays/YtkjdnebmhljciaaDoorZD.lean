/- Towards SlabPlays: the slab beside the document's; does. -/
import Derived.Test.YtkjdnebmhljciaaDoorZX
namespace Go.Proofs.YtkjdnebmhljciaaDoor
open Go.ChangeShapes Go.WideShapes Go.ChangeAt Go.RowKit
set_option linter.unusedVariables false
set_option linter.unusedSimpArgs false
set_option maxRecDepth 20000
theorem cell_dr12 {w : World} {p : Addr} {v : Value} (h : w.cell? p = some v) : w.drew.cell? p = some v := h
def bF (T : Nat → Th) : Nat → Option (List Int) := fun k => (T k).map Prod.snd
theorem bF_upd (T : Nat → Th) (k : Nat) (x : Th) : bF (upd T k x) = updD (bF T) k (x.map Prod.snd) := by
  funext s
  by_cases e : s = k
  · subst e; simp [bF, upd, updD]
  · simp only [bF, upd, updD, if_neg e]
/-- The slab and the document's, of the same bytes. -/
structure Sb (w : World) (B b r : Nat) (room used : Int) (T : Nat → Th) (n m : Nat) (v : Value) : Prop where
  s : Sl w B b room used T n
  r : Rm w B r room (bF T) used v m
  tab : Tab w
  us : Us T used
  z : 0 < B
theorem Sb.kept {w w' : World} {B b r : Nat} {room used : Int} {T : Nat → Th} {n m : Nat} {v : Value} (h : Sb w B b r room used T n m v) (hb : Below w.heap.size w w') : Sb w' B b r room used T n m v :=
  ⟨h.s.kept hb, h.r.below hb, h.tab.gr (Nat.lt_of_lt_of_le h.z (by obtain ⟨S, h1, _⟩ := h.r.ex; exact h1.size)) hb, h.us, h.z⟩
theorem Sb.size {w : World} {B b r : Nat} {room used : Int} {T : Nat → Th} {n m : Nat} {v : Value} (h : Sb w B b r room used T n m v) : B ≤ w.heap.size := by
  obtain ⟨S, h1, _⟩ := h.r.ex; exact h1.size
theorem Sl.fd {w w' : World} {B b r : Nat} {room used : Int} {T : Nat → Th} {n m : Nat} {v : Value} {F : Nat → Option (List Int)} {u : Int} (h : Sl w B b room used T n) (hR : Rm w B r room F u v m) (hF : Fd B r v w w') : Sl w' B b room used T n := by
  obtain ⟨S, hS, _⟩ := hR.ex
  have hk : ∀ (k : Nat) (cs : Array Value) (t : TypeId), w.heap[k]? = some (.cells cs t (0, 0)) → t = 63 ∨ t = 73 ∨ t = 5 → w'.heap[k]? = some (.cells cs t (0, 0)) := fun k cs t ho ht => by
    rw [hF.keep k (heap_lt ho) ?_ ?_]
    · exact ho
    · rintro rfl; rw [hS.cells] at ho; cases ho; simp at ht
    · intro e
      obtain ⟨c, hc⟩ := row_cells hS.row e.symm
      rw [hc] at ho; cases ho; simp at ht
  obtain ⟨v, xs, q, hv, hx⟩ := h.rows
  refine ⟨h.bB, h.nb, h.rm, h.us, ⟨v, xs, hk _ _ _ q (by simp), ⟨hv.1, ?_⟩, hx⟩, h.out, fun s hh bs e => ?_, h.apart⟩
  · rcases hv.2 with e | ⟨g, cap, cur, e, a1, a2, a3⟩
    · exact .inl e
    · exact .inr ⟨g, cap, cur, e, a1, hk _ _ _ a2 (by simp), a3⟩
  · obtain ⟨a1, a2, a3⟩ := h.th s hh bs e
    exact ⟨a1, hk _ _ _ a2 (by simp), a3⟩
theorem Rm.fr {w w' : World} {B b r : Nat} {room used : Int} {T : Nat → Th} {n m : Nat} {v : Value} {F : Nat → Option (List Int)} {u : Int} (h : Rm w B r room F u v m) (hS : Sl w B b room used T n) (hF : Fr B b w w') : Rm w' B r room F u v m := by
  obtain ⟨S, h1, h2⟩ := h.ex
  obtain ⟨v', xs, q, _⟩ := hS.rows
  have hk : ∀ (k : Nat) (cs : Array Value) (t : TypeId), w.heap[k]? = some (.cells cs t (0, 0)) → t = 32 ∨ t = 42 → w'.heap[k]? = some (.cells cs t (0, 0)) := fun k cs t ho ht =>
    hF.keep k _ (by rintro rfl; rw [q] at ho; cases ho; simp at ht) ho (by intro c z e; cases e; simp at ht) (by intro c z e; cases e; simp at ht)
  refine ⟨S, ⟨hk _ _ _ h1.cells (by simp), h1.rB, row_kept h1.row (fun g hg => ?_), h1.len, h1.bs⟩, h2⟩
  obtain ⟨c, e⟩ := row_cells h1.row hg
  rw [hk _ _ _ e (by simp), e]
/-- A box of a step is as it was. -/
def K34 (w w' : World) : Prop := ∀ (k : Nat) (cs : Array Value), w.heap[k]? = some (.cells cs 34 (0, 0)) → w'.heap[k]? = some (.cells cs 34 (0, 0))
theorem K34.trans {w w' w'' : World} (h : K34 w w') (k : K34 w' w'') : K34 w w'' := fun i c e => k i c (h i c e)
theorem K34.bel {w w' : World} (h : Below w.heap.size w w') : K34 w w' := fun i c e => (h.block i (heap_lt e)).trans e
theorem K34.fr {w w' : World} {B b : Nat} {room used : Int} {T : Nat → Th} {n : Nat} (hS : Sl w B b room used T n) (hF : Fr B b w w') : K34 w w' := fun k cs ho => by
  obtain ⟨v', xs, q, _⟩ := hS.rows
  exact hF.keep k _ (by rintro rfl; rw [q] at ho; cases ho) ho (by intro c z e; cases e) (by intro c z e; cases e)
theorem K34.fd {w w' : World} {B r m : Nat} {room u : Int} {F : Nat → Option (List Int)} {v : Value} (hR : Rm w B r room F u v m) (hF : Fd B r v w w') : K34 w w' := fun k cs ho => by
  obtain ⟨S, hS, _⟩ := hR.ex
  rw [hF.keep k (heap_lt ho) ?_ ?_]
  · exact ho
  · rintro rfl; rw [hS.cells] at ho; cases ho
  · intro e
    obtain ⟨c, hc⟩ := row_cells hS.row e.symm
    rw [hc] at ho; cases ho
theorem bF_none {T : Nat → Th} {s : Int} (h : getT T s = none) {S : List Ds} (hM : Ms S (bF T)) : ∀ x ∈ S, (x.1 : Int) ≠ s := fun x hx e => by
  subst e
  rw [getT_nat] at h
  exact hM.no (s := x.1) (by simp [bF, h]) x hx rfl
theorem getT_some {T : Nat → Th} {s : Int} {y : Nat × List Int} (h : getT T s = some y) : ∃ k : Nat, s = k ∧ T k = some y := by
  unfold getT at h
  split at h
  · cases h
  · exact ⟨s.toNat, by omega, h⟩
set_option maxHeartbeats 4000000 in
theorem does_any (w : World) (B b r : Nat) (room used : Int) (T : Nat → Th) (n m : Nat) (v : Value) (h : Sb w B b r room used T n m v) (hn : n + 1 ≤ 1000) (hm : m + 1 ≤ 1000) (x : Sp) (hx : SpOk x) :
    Calls Tryd.prog 11 #[.pointer (some ⟨b, 0, none⟩), .pointer (some ⟨r, 0, none⟩), .agg #[.int .i64 x.d, .int .i64 x.o, .int .i64 x.a, .int .i64 x.n, .string x.s]] w fun e w' => e = .returned (.bool true) ∧ (∃ used' T' n' m' v', n' ≤ n + 1 ∧ m' ≤ m + 1 ∧ Sb w' B b r room used' T' n' m' v') ∧ Below B w w' ∧ K34 w w' := by
  have hbz := (Below.refl _ w).alloc (Nat.le_refl _) (.cells #[.int .i64 x.d, .int .i64 x.o, .int .i64 x.a, .int .i64 x.n, .string x.s] 34)
  have hP := h.kept hbz
  have yz := heap_alloc_new w (.cells #[.int .i64 x.d, .int .i64 x.o, .int .i64 x.a, .int .i64 x.n, .string x.s] 34)
  have hBw := h.size
  have hbB := hbz.mono hBw
  have hK : K34 w (w.alloc (.cells #[.int .i64 x.d, .int .i64 x.o, .int .i64 x.a, .int .i64 x.n, .string x.s] 34)) := K34.bel hbz
  obtain ⟨hxd, hxo, hxa, hxn, hxs⟩ := hx
  go_enter Tryd.func11, Tryd.ntmps11
  go_upto_region 1 with fail
  generalize w.alloc (.cells #[.int .i64 x.d, .int .i64 x.o, .int .i64 x.a, .int .i64 x.n, .string x.s] 34) = W at yz hP hbB hK ⊢
  generalize w.heap.size = z at yz ⊢
  have z0 := cell_of yz 0
  have z1 := cell_of yz 1
  have z2 := cell_of yz 2
  have z3 := cell_of yz 3
  have z4 := cell_of yz 4
  simp at z0 z1 z2 z3 z4
  have hBW := hP.size
  obtain ⟨xd, xo, xa, xn, xs⟩ := x
  simp only at *
  by_cases h0 : xd = 0
  · subst h0
    by_cases hc : clsM xn = 0
    · have ka := take_bad W B b room used T n hP.s hP.tab xn hc
      have kb := dtake_bad W B r xn hc
      go_wp2_with (first
        | (go_at_call 19; refine ka.mono ?_; rintro e w' ⟨rfl, hw⟩; rw [hw]; clear hw)
        | (go_at_call 25; refine kb.mono ?_; rintro e w' ⟨rfl, hw⟩; rw [hw]; clear hw))
      all_goals go_returns
      all_goals exact ⟨rfl, ⟨used, T, n, m, v, by omega, by omega, hP⟩, hbB, hK⟩
    have hcb := clsM_bd xn
    by_cases hf : room < used + clsM xn
    · have ka := take_full W B b room used T n hP.s hP.tab xn (by omega) hf
      go_upto_region 4 with (go_at_call 19; go_loud (refine ka.mono ?_; rintro e w1 ⟨rfl, hS1, hF1⟩))
      have hR1 := hP.r.fr hP.s hF1
      have y1 := K34.fr hP.s hF1 _ _ yz
      have kb := rtake_full w1 B r room used (bF T) v m hR1 xn hc hf
      have z3 := cell_of y1 3
      simp at z3
      go_wp2_with (go_at_call 25; go_loud (refine kb.mono ?_; rintro e w2 ⟨rfl, hb2⟩))
      all_goals go_returns
      have hs1 : Sb w1 B b r room used T n m v := ⟨hS1, hR1, hP.tab.gr h.z hF1.bel, h.us, h.z⟩
      exact ⟨rfl, ⟨used, T, n, m, v, by omega, by omega, hs1.kept hb2⟩, (hbB.trans hF1.bel).trans (hb2.mono hs1.size), (hK.trans (K34.fr hP.s hF1)).trans (K34.bel hb2)⟩
    · have hs12 : 1 ≤ xn ∧ xn ≤ 128 := by
        have := clsM_pos xn
        rw [decide_eq_decide] at this
        exact this.1 (by omega)
      obtain ⟨s, rfl⟩ : ∃ s : Nat, xn = s := ⟨xn.toNat, by omega⟩
      have ka := take_ok W B b room used T n hP.s hP.tab s (by omega) (by omega) hBW (by omega)
      go_upto_region 4 with (go_at_call 19; go_loud (refine ka.mono ?_; rintro e w1 ⟨k, rfl, hk1, hk2, -, ⟨hh, n', hn', hS1⟩, hF1⟩))
      have hR1 := hP.r.fr hP.s hF1
      have y1 := K34.fr hP.s hF1 _ _ yz
      have kb := rtake_ok w1 B r room used (bF T) v m hR1 s (by omega) (by omega) hm
      have z3 := cell_of y1 3
      simp at z3
      replace kb : Calls Tryd.prog 25 #[.pointer (some ⟨r, 0, none⟩), .int .i64 s] w1 fun e w' => e = .returned (.tuple #[.int .i64 k, .int .i64 0]) ∧ (∃ v', Rm w' B r room (updD (bF T) k (some (List.replicate s 0))) (used + clsM s) v' (m + 1)) ∧ Fd B r v w1 w' := kb.mono fun e w' ⟨k', e1, e2, e3, e4, e5⟩ => by
        have : k' = k := by
          rcases Nat.lt_trichotomy k' k with q | q | q
          · have := hk2 k' q; simp [bF] at e2; rw [e2] at this; cases this
          · exact q
          · have := e3 k q; simp [bF, hk1] at this
        subst this
        exact ⟨e1, e4, e5⟩
      go_wp2_with (go_at_call 25; go_loud (refine kb.mono ?_; rintro e w2 ⟨rfl, ⟨v', hR2⟩, hF2⟩))
      all_goals go_returns
      have hus := h.us.upd k (some (hh, List.replicate s 0))
      rw [hk1] at hus
      simp only [clsO, List.length_replicate, Int.sub_zero] at hus
      refine ⟨rfl, ⟨used + clsM s, _, n', m + 1, v', hn', by omega, ⟨hS1.fd hR1 hF2, ?_, (hP.tab.gr h.z hF1.bel).gr h.z hF2.bel, hus, h.z⟩⟩, (hbB.trans hF1.bel).trans hF2.bel, (hK.trans (K34.fr hP.s hF1)).trans (K34.fd hR1 hF2)⟩
      rw [bF_upd]
      exact hR2
  by_cases h1 : xd = 1
  · subst h1
    cases hT : getT T xo with
    | none =>
      have ka := give_none W.drew B b room used T n (hP.s.kept (Below.refl _ _).drew) xo hxo hT
      have kb : Calls Tryd.prog 26 #[.pointer (some ⟨r, 0, none⟩), .int .i64 xo] W.drew fun e w' => e = .returned (.int .i64 5) ∧ w' = W.drew := by
        obtain ⟨S, hS, hM, _⟩ := (hP.r.below (Below.refl _ _).drew).ex
        exact dgive_no W.drew B r room S v hS xo (bF_none hT hM)
      go_upto_region 7 with fail
      go_region_held3 (fun w' => w'.cell? ⟨z, 1, none⟩ = some (.int .i64 xo)) ((repeat (with_reducible (first | assumption | apply cell_dr12)))) (first
        | (go_at_call 20; go_loud (refine ka.mono ?_; rintro e w' ⟨rfl, hw⟩; rw [hw]; clear hw))
        | (go_at_call 26; go_loud (refine kb.mono ?_; rintro e w' ⟨rfl, hw⟩; rw [hw]; clear hw)))
      all_goals go_wp2
      all_goals go_returns
      all_goals exact ⟨rfl, ⟨used, T, n, m, v, by omega, by omega, hP.kept (Below.refl _ _).drew⟩, hbB.drew, hK⟩
    | some y =>
      obtain ⟨hh, bs⟩ := y
      obtain ⟨k, rfl, hk⟩ := getT_some hT
      have hPd := hP.kept (Below.refl _ W).drew
      have hle : clsM bs.length ≤ used := by have := h.us.le k; rw [hk] at this; exact this
      have ka := give_ok W.drew B b room used T n hPd.s hPd.tab k hxo hh bs hk hle
      have kb := fun (u : World) (hu : Rm u B r room (bF T) used v m) => rgive_ok u B r room used (bF T) v m hu k bs (by simp [bF, hk])
      go_upto_region 7 with fail
      go_region_held3 (fun w' => w'.cell? ⟨z, 1, none⟩ = some (.int .i64 (k : Int))) ((repeat (with_reducible (first | assumption | apply cell_dr12)))) (first
        | (go_at_call 20; go_loud (refine ka.mono ?_; rintro e w1 ⟨rfl, hS1, hF1⟩; have hR1 := hPd.r.fr hPd.s hF1; have y1 := K34.fr hPd.s hF1 z _ yz; have kB := kb w1 hR1; have t1 := cell_of y1 1; simp at t1))
        | (go_at_call 26; go_loud (refine kB.mono ?_; rintro e w2 ⟨rfl, ⟨v', hR2⟩, hF2⟩; have y2 := K34.fd hR1 hF2 z _ y1; have u1 := cell_of y2 1; simp at u1)))
      all_goals go_wp2
      all_goals go_returns
      all_goals
        have hus := h.us.upd k none
        rw [hk] at hus
        simp only [clsO, Int.add_zero] at hus
        refine ⟨rfl, ⟨used - clsM bs.length, _, n, m, v', by omega, by omega, ⟨hS1.fd hR1 hF2, ?_, (hPd.tab.gr h.z hF1.bel).gr h.z hF2.bel, hus, h.z⟩⟩, (hbB.drew.trans hF1.bel).trans hF2.bel, ((show K34 w W.drew from hK).trans (K34.fr hPd.s hF1)).trans (K34.fd hR1 hF2)⟩
        rw [bF_upd]
        exact hR2
  by_cases h2 : xd = 2
  · subst h2
    have key : ∃ (t : ByteArray) (c : Int), (Calls Tryd.prog 23 #[.pointer (some ⟨b, 0, none⟩), .int .i64 xo, .int .i64 xa, .int .i64 xn] W fun e w' => e = .returned (.tuple #[.string t, .int .i64 c]) ∧ w' = W) ∧ (Calls Tryd.prog 27 #[.pointer (some ⟨r, 0, none⟩), .int .i64 xo, .int .i64 xa, .int .i64 xn] W fun e w' => e = .returned (.tuple #[.string t, .int .i64 c]) ∧ w' = W) := by
      cases hT : getT T xo with
      | none =>
        refine ⟨⟨#[]⟩, 5, read_bad W B b room used T n hP.s xo hxo xa xn hxa hxn 5 (by rw [hT]; rfl) (by omega), ?_⟩
        obtain ⟨S, hS, hM, _⟩ := hP.r.ex
        exact dread_no W B r room S v hS xo xa xn (bF_none hT hM)
      | some y =>
        obtain ⟨hh, bs⟩ := y
        obtain ⟨k, rfl, hk⟩ := getT_some hT
        have kb := rread_at W B r room used (bF T) v m hP.r k bs (by simp [bF, hk]) xa xn hxa hxn
        by_cases hf : 0 ≤ xa ∧ 0 ≤ xn ∧ xa + xn ≤ bs.length
        · obtain ⟨a', rfl⟩ : ∃ a' : Nat, xa = a' := ⟨xa.toNat, by omega⟩
          obtain ⟨n', rfl⟩ : ∃ n' : Nat, xn = n' := ⟨xn.toNat, by omega⟩
          rw [inS, inE, if_pos hf, if_pos hf, Int.toNat_natCast, Int.toNat_natCast] at kb
          exact ⟨_, _, read_ok W B b room used T n hP.s k hxo hh bs hT a' n' (by omega), kb⟩
        · rw [inS, inE, if_neg hf, if_neg hf] at kb
          exact ⟨_, _, read_bad W B b room used T n hP.s k hxo xa xn hxa hxn 120 (by rw [hT]; simp only [partE]; rw [if_neg hf]) (by omega), kb⟩
    obtain ⟨t, c, ka, kb⟩ := key
    have dd : (c == c) = true := by simp
    go_wp2_with (first
      | (go_at_call 23; refine ka.mono ?_; rintro e w' ⟨rfl, hw⟩; rw [hw]; clear hw)
      | (go_at_call 27; refine kb.mono ?_; rintro e w' ⟨rfl, hw⟩; rw [hw]; clear hw))
    all_goals go_returns
    all_goals exact ⟨rfl, ⟨used, T, n, m, v, by omega, by omega, hP⟩, hbB, hK⟩
  by_cases h3 : xd = 3
  · subst h3
    have hPd := hP.kept (Below.refl _ W).drew
    by_cases hw : ∃ (k hh : Nat) (bs : List Int) (a' : Nat), xo = k ∧ xa = a' ∧ T k = some (hh, bs) ∧ a' + xs.size ≤ bs.length
    · obtain ⟨k, hh, bs, a', rfl, rfl, hk, hf⟩ := hw
      have ka := write_ok W.drew B b room used T n hPd.s k hxo hh bs hk a' xs hf
      have kb := fun (u : World) (hu : Rm u B r room (bF T) used v m) => rwrite_ok u B r room used (bF T) v m hu k bs (by simp [bF, hk]) a' xs hf
      go_upto_region 13 with fail
      go_region_held3 (fun w' => w'.cell? ⟨z, 1, none⟩ = some (.int .i64 (k : Int)) ∧ w'.cell? ⟨z, 2, none⟩ = some (.int .i64 (a' : Int)) ∧ w'.cell? ⟨z, 4, none⟩ = some (.string xs)) ((refine ⟨?_, ?_, ?_⟩ <;> repeat (with_reducible (first | assumption | apply cell_dr12)))) (first
        | (go_at_call 21; go_loud (refine ka.mono ?_; rintro e w1 ⟨rfl, hS1, hF1⟩; have hR1 := hPd.r.fr hPd.s hF1; have y1 := K34.fr hPd.s hF1 z _ yz; have kB := kb w1 hR1; have t1 := cell_of y1 1; have t2 := cell_of y1 2; have t4 := cell_of y1 4; simp at t1 t2 t4))
        | (go_at_call 28; go_loud (refine kB.mono ?_; rintro e w2 ⟨rfl, hR2, hF2⟩; have y2 := K34.fd hR1 hF2 z _ y1; have u1 := cell_of y2 1; have u2 := cell_of y2 2; have u4 := cell_of y2 4; simp at u1 u2 u4)))
      all_goals go_wp2
      all_goals go_returns
      all_goals
        have hus := h.us.upd k (some (hh, wr bs a' xs))
        rw [hk] at hus
        simp only [clsO, wr_len bs a' xs hf] at hus
        rw [show used + clsM bs.length - clsM bs.length = used by omega] at hus
        refine ⟨rfl, ⟨used, _, n, m, v, by omega, by omega, ⟨hS1.fd hR1 hF2, ?_, (hPd.tab.gr h.z hF1.bel).gr h.z hF2.bel, hus, h.z⟩⟩, (hbB.drew.trans hF1.bel).trans hF2.bel, ((show K34 w W.drew from hK).trans (K34.fr hPd.s hF1)).trans (K34.fd hR1 hF2)⟩
        rw [bF_upd]
        exact hR2
    · have key : ∃ c : Int, (Calls Tryd.prog 21 #[.pointer (some ⟨b, 0, none⟩), .int .i64 xo, .int .i64 xa, .string xs] W.drew fun e w' => e = .returned (.int .i64 c) ∧ w' = W.drew) ∧ (Calls Tryd.prog 28 #[.pointer (some ⟨r, 0, none⟩), .int .i64 xo, .int .i64 xa, .string xs] W.drew fun e w' => e = .returned (.int .i64 c) ∧ Below W.drew.heap.size W.drew w') := by
        cases hT : getT T xo with
        | none =>
          refine ⟨5, write_bad W.drew B b room used T n hPd.s xo hxo xa xs hxa hxs 5 (by rw [hT]; rfl) (by omega), ?_⟩
          obtain ⟨S, hS, hM, _⟩ := hPd.r.ex
          exact (dwrite_no W.drew B r room S v hS xo xa xs (bF_none hT hM)).mono fun e w' ⟨e1, e2⟩ => ⟨e1, by rw [e2]; exact Below.refl _ _⟩
        | some y =>
          obtain ⟨hh, bs⟩ := y
          obtain ⟨k, rfl, hk⟩ := getT_some hT
          have hf : ¬ (0 ≤ xa ∧ xa + (xs.size : Int) ≤ bs.length) := fun hf => hw ⟨k, hh, bs, xa.toNat, rfl, by omega, hk, by omega⟩
          exact ⟨120, write_bad W.drew B b room used T n hPd.s k hxo xa xs hxa hxs 120 (by rw [hT]; simp only [partE]; rw [if_neg (fun q => hf ⟨q.1, q.2.2⟩)]) (by omega), rwrite_range W.drew B r room used (bF T) v m hPd.r k bs (by simp [bF, hk]) xa xs hxa hxs hf⟩
      obtain ⟨c, ka, kb⟩ := key
      have dd : (c == c) = true := by simp
      clear hw
      go_upto_region 13 with fail
      go_region_held3 (fun w' => w'.cell? ⟨z, 1, none⟩ = some (.int .i64 xo) ∧ w'.cell? ⟨z, 2, none⟩ = some (.int .i64 xa) ∧ w'.cell? ⟨z, 4, none⟩ = some (.string xs)) ((refine ⟨?_, ?_, ?_⟩ <;> repeat (with_reducible (first | assumption | apply cell_dr12)))) (first
        | (go_at_call 21; go_loud (refine ka.mono ?_; rintro e w' ⟨rfl, hw⟩; rw [hw]; clear hw))
        | (go_at_call 28; go_loud (refine kb.mono ?_; rintro e w2 ⟨rfl, hb2⟩; have y2 := (hb2.block z (heap_lt yz)).trans yz; have u1 := cell_of y2 1; have u2 := cell_of y2 2; have u4 := cell_of y2 4; simp at u1 u2 u4)))
      all_goals go_wp2
      all_goals go_returns
      all_goals exact ⟨rfl, ⟨used, T, n, m, v, by omega, by omega, hPd.kept hb2⟩, hbB.drew.trans (hb2.mono hPd.size), (show K34 w W.drew from hK).trans (K34.bel hb2)⟩
  have g0 : (xd == 0) = false := by simpa using h0
  have g1 : (xd == 1) = false := by simpa using h1
  have g2 : (xd == 2) = false := by simpa using h2
  have g3 : (xd == 3) = false := by simpa using h3
  go_wp2
  all_goals go_returns
  all_goals exact ⟨rfl, ⟨used, T, n, m, v, by omega, by omega, hP⟩, hbB, hK⟩
end Go.Proofs.YtkjdnebmhljciaaDoor
