/- Towards the statements of package types (layer 10): TypesSound. -/
import Derived.Test.YtmcjmdoeafhjpaaSA
import Derived.Test.YtmcjmdoeafhjpaaRD
namespace Go.Proofs.Ytmcjmdoeafhjpaa
open Go.ChangeShapes Go.WideShapes Go.ChangeAt Go.RowKit
set_option linter.unusedVariables false
set_option linter.unusedSimpArgs false
set_option maxRecDepth 20000

theorem mix_facts {fs : List Fd} (h : mixM fs = false) : ((fs.any fun x => x.k == 2) = true → (fs.any fun x => x.k == 7) = true ∧ (fs.any fun x => x.k == 3) = false ∧ objM fs = false) ∧ ((fs.any fun x => x.k == 3) = true → objM fs = true) := by
  have g : ∀ (K : List Int) (k : Int), k ∈ K → (fs.any fun x => x.k == k) = true → oneM K fs = true := by
    intro K k hk h
    obtain ⟨x, hx, he⟩ := List.any_eq_true.1 h
    exact List.any_eq_true.2 ⟨x, hx, List.any_eq_true.2 ⟨k, hk, he⟩⟩
  unfold mixM at h
  rw [Bool.or_eq_false_iff] at h
  obtain ⟨h1, h2⟩ := h
  have h7 : oneM [7] fs = fs.any fun x => x.k == 7 := (one_seven fs).symm
  refine ⟨fun ha => ?_, fun hc => ?_⟩
  · have e24 := g [2, 4] 2 (by simp) ha
    have e247 := g [2, 4, 7] 2 (by simp) ha
    rw [e24, h7] at h2
    have ho : objM fs = false := by unfold objM; rw [e247]; rfl
    rw [ho] at h1
    refine ⟨by simpa using h2, ?_, ho⟩
    cases hc : fs.any fun x => x.k == 3 with
    | false => rfl
    | true =>
      have := g [3, 5, 6] 3 (by simp) hc
      unfold valM at h1
      rw [this] at h1
      simp at h1
  · have := g [3, 5, 6] 3 (by simp) hc
    unfold valM at h1
    rw [this] at h1
    simpa using h1
theorem hold_facts {L : List Ty} {x : Fd} (h : holdM L x = true) (hk : x.k = 1 ∨ x.k = 2 ∨ x.k = 4) : ∃ (j : Nat) (u : Ty), x.o = j ∧ L[j]? = some u ∧ objM u.fs = true ∧ (x.k ≠ 1 → ∃ (m : Nat) (y : Fd), x.d = m ∧ u.fs[m]? = some y ∧ y.k = if x.k = 2 then 3 else 5) := by
  have nt : ∀ {α : Type} {l : List α} {i : Int} {z : α}, nthM l i = some z → ∃ j : Nat, i = j ∧ l[j]? = some z := fun h => by
    obtain ⟨h0, _, h2⟩ := nth_some h
    exact ⟨_, (Int.toNat_of_nonneg h0).symm, h2⟩
  unfold holdM at h
  by_cases h1 : x.k = 1
  · rw [if_pos h1, Bool.and_eq_true] at h
    obtain ⟨ho, _⟩ := h
    unfold isObjM at ho
    cases hn : nthM L x.o with
    | none => rw [hn] at ho; cases ho
    | some u =>
      rw [hn] at ho
      obtain ⟨j, hj, hu⟩ := nt hn
      exact ⟨j, u, hj, hu, ho, fun hh => absurd h1 hh⟩
  rw [if_neg h1] at h
  by_cases h2 : x.k = 2
  · rw [if_pos h2] at h
    cases hn : nthM L x.o with
    | none => rw [hn] at h; cases h
    | some u =>
      rw [hn] at h
      dsimp only at h
      rw [Bool.and_eq_true] at h
      obtain ⟨j, hj, hu⟩ := nt hn
      refine ⟨j, u, hj, hu, h.1, fun _ => ?_⟩
      have h4 := h.2
      unfold isKindM at h4
      cases hm : nthM u.fs x.d with
      | none => rw [hm] at h4; cases h4
      | some y =>
        rw [hm] at h4
        obtain ⟨m, hm1, hy⟩ := nt hm
        exact ⟨m, y, hm1, hy, by rw [if_pos h2]; simpa using h4⟩
  rw [if_neg h2] at h
  have h4' : x.k = 4 := by omega
  rw [if_pos h4'] at h
  cases hn : nthM L x.o with
  | none => rw [hn] at h; cases h
  | some u =>
    rw [hn] at h
    dsimp only at h
    rw [Bool.and_eq_true] at h
    obtain ⟨j, hj, hu⟩ := nt hn
    refine ⟨j, u, hj, hu, h.1, fun _ => ?_⟩
    have h4 := h.2
    unfold isKindM at h4
    cases hm : nthM u.fs x.d with
    | none => rw [hm] at h4; cases h4
    | some y =>
      rw [hm] at h4
      obtain ⟨m, hm1, hy⟩ := nt hm
      exact ⟨m, y, hm1, hy, by rw [if_neg h2]; simpa using h4⟩
set_option maxHeartbeats 16000000 in
theorem sound_any (p : Option Addr) (c : Nat) (L : List Ty) (hc : L.length ≤ c ∧ c ≤ maxLen) (w : World) (hL : Tys w p L) (hq : largeM L = false) (hz : (chkM L).2.2 = 0) :
    Calls Try.prog 6 #[.slice p L.length c] w fun e w' => e = .returned (.bool true) ∧ Bl w w' := by
  have hlen := hL.len
  unfold maxLen at hlen
  have hfit := large_fit hq
  have kl := large_any p c L w hL
  rw [hq] at kl
  have kc := check_any p c L hc w hL hfit
  unfold chkV at kc
  obtain ⟨hM, hH⟩ := chk_may hz
  rw [hz] at kc
  generalize chkM L = r at kc
  have hal := fun W => alive_any W
  clear hz hq
  go_enter Try.func6, Try.ntmps6
  go_wp2_with first | (go_at_call 8; refine kl.mono ?_; rintro e v1 ⟨rfl, hw⟩; rw [hw]; clear hw) | (go_at_call 16; refine kc.mono ?_; rintro e v2 ⟨rfl, hb2⟩)
  go_loopw [6] (fun v wr => ∃ i : Nat, v = .int .i64 i ∧ i ≤ L.length ∧ Bl w wr) (fun v _ => L.length - (intOf v).toNat)
  case atStart => exact ⟨0, rfl, by omega, hb2⟩
  case round =>
    clear hb2 kc kl
    obtain ⟨i, rfl, hi, hb⟩ := hrel
    by_cases h : i < L.length
    · have d : decide ((i : Int) < L.length) = true := by simp; omega
      obtain ⟨t, hx⟩ : ∃ t, L[i]? = some t := ⟨L[i], List.getElem?_eq_getElem _⟩
      have e9 : IntKind.i64.wrap ((i : Int) + 1) = (i : Int) + 1 := IntWalk.i64_in _ (by omega)
      obtain ⟨b, off, rfl, hb1, ⟨c0, c1, c2⟩, hok, hil⟩ := (hL.gr hb).get hx
      have hm := hM i t hx
      have hmem := List.mem_of_getElem? hx
      have hl32 : L.length ≤ 32 := by
        have := (hM (L.length - 1) L[L.length - 1] (List.getElem?_eq_getElem _)).i32
        omega
      have dl : decide ((32 : Int) < L.length) = false := by simp; omega
      have hft := hfit t hmem
      have hhold := hH t hmem
      have hof : firstI (fun u : Ty => u.n.toList == t.n.toList) L = i ∧ (L.any fun u => u.n.toList == t.n.toList) = true := by
        have hany : (L.any fun u => u.n.toList == t.n.toList) = true := List.any_eq_true.2 ⟨t, hmem, by simp⟩
        rcases first_take (P := fun u => u.n.toList == t.n.toList) hx (by simp) with ⟨h1, _⟩ | ⟨_, h2⟩
        · rw [hm.once] at h1; cases h1
        · exact ⟨h2, hany⟩
      have kof := fun W (h : Bl w W) => of_any' (some ⟨b, off, none⟩) c L t.n W (hL.gr h)
      rw [hof.1, hof.2] at kof
      have kmay := fun W => rmay_any t.n hft.1 W
      rw [hm.name] at kmay
      have hfw := (hok.f)
      have kcov := fun W (h : Bl wr W) => lcov_any t ⟨hm.size.1, hm.size.2.1⟩ hm.good hm.one (fun a => hm.plain) W (hfw.gr h)
      have dfl : decide ((8 : Int) < t.fs.length) = false := by have := hm.len; simp; omega
      have kat := fun (a : Int) W (h : Bl wr W) => at_any t a W (hfw.gr h)
      have khas := fun (k : Int) W (h : Bl wr W) => has_any t k W (hfw.gr h)
      have kobj := fun W (h : Bl wr W) => obj_any t W (hfw.gr h)
      have hfield := fun (k : Nat) (x : Fd) (hx : t.fs[k]? = some x) => hm.field hx
      have hatf := fun (k : Nat) (x : Fd) (hx : t.fs[k]? = some x) => hm.at hx
      have hmix := mix_facts hm.mix
      have hsz := hm.size
      have hpp : t.fs = [] ∨ ∃ b5 off5, t.p = some ⟨b5, off5, none⟩ := by
        rcases hfw.at' with h | ⟨b5, off5, h, _⟩
        · exact .inl h
        · exact .inr ⟨b5, off5, h⟩
      have hfl := hfw.len
      unfold maxLen at hfl
      clear hof hx hmem hm hok hM hH hfit
      obtain ⟨tn, ts, tp, tc, tfs⟩ := t
      dsimp only at *
      have eii : ((i : Int) != i) = false := by simp
      have hbx : Bl wr (wr.alloc (.cells #[.string tn, .int .i64 ts, .slice tp tfs.length tc] 42)) := (Bl.refl wr).alloc _
      have hX := heap_new wr #[.string tn, .int .i64 ts, .slice tp tfs.length tc] 42
      generalize hWa : (wr.alloc (.cells #[.string tn, .int .i64 ts, .slice tp tfs.length tc] 42)) = Wa at hbx hX
      generalize hB : wr.heap.size = X at hX
      replace hB : Hid (wr.heap.size = X) := hB
      rcases hpp with hnil | ⟨b5, off5, rfl⟩
      · replace hnil : Hid (tfs = []) := hnil
        as_aux_lemma =>
          go_upto_region 10 with fail
          try rw [hWa]
          try rw [hB.out]
          clear hWa
          have hb3 := Bl.refl Wa
          have hXr := hX
          have t0 : Wa.cell? ⟨X, 0, none⟩ = some (.string tn) := (by rw [cell_at hXr]; rfl)
          have t1 : Wa.cell? ⟨X, 1, none⟩ = some (.int .i64 ts) := (by rw [cell_at hXr]; rfl)
          have t2 : Wa.cell? ⟨X, 2, none⟩ = some (.slice tp tfs.length tc) := (by rw [cell_at hXr]; rfl)
          go_wp2_with first | (go_at_call 18; refine (kof _ (hb.trans (hbx.trans hb3))).mono ?_; rintro e w5 ⟨rfl, hb4⟩; replace hb3 := hb3.trans hb4; clear t0 t1 t2; replace hXr := it_keep (w := w) hXr hb4; have t0 : w5.cell? ⟨X, 0, none⟩ = some (.string tn) := (by rw [cell_at hXr]; rfl); have t1 : w5.cell? ⟨X, 1, none⟩ = some (.int .i64 ts) := (by rw [cell_at hXr]; rfl); have t2 : w5.cell? ⟨X, 2, none⟩ = some (.slice tp tfs.length tc) := (by rw [cell_at hXr]; rfl); clear hb4) | (go_at_call 19; refine (kmay _).mono ?_; rintro e w6 ⟨rfl, hb4⟩; replace hb3 := hb3.trans hb4; clear t0 t1 t2; replace hXr := it_keep (w := w) hXr hb4; have t0 : w6.cell? ⟨X, 0, none⟩ = some (.string tn) := (by rw [cell_at hXr]; rfl); have t1 : w6.cell? ⟨X, 1, none⟩ = some (.int .i64 ts) := (by rw [cell_at hXr]; rfl); have t2 : w6.cell? ⟨X, 2, none⟩ = some (.slice tp tfs.length tc) := (by rw [cell_at hXr]; rfl); clear hb4) | (go_at_call 20; refine (kcov _ (hbx.trans hb3)).mono ?_; rintro e w7 ⟨rfl, hb4⟩; replace hb3 := hb3.trans hb4; clear t0 t1 t2; replace hXr := it_keep (w := w) hXr hb4; have t0 : w7.cell? ⟨X, 0, none⟩ = some (.string tn) := (by rw [cell_at hXr]; rfl); have t1 : w7.cell? ⟨X, 1, none⟩ = some (.int .i64 ts) := (by rw [cell_at hXr]; rfl); have t2 : w7.cell? ⟨X, 2, none⟩ = some (.slice tp tfs.length tc) := (by rw [cell_at hXr]; rfl); clear hb4)
          clear kof kmay kcov t0 t1 t2 hXr
          go_loopw [10] (fun v wr => ∃ k : Nat, v = .int .i64 k ∧ k ≤ tfs.length ∧ Bl Wa wr) (fun v _ => tfs.length - (intOf v).toNat)
          case atStart => exact ⟨0, rfl, by omega, hb3⟩
          case round =>
            clear hb3
            obtain ⟨k, rfl, hk, hb3⟩ := hrel
            have hXr := it_keep (w := w) hX hb3
            have t0 : wr.cell? ⟨X, 0, none⟩ = some (.string tn) := (by rw [cell_at hXr]; rfl)
            have t1 : wr.cell? ⟨X, 1, none⟩ = some (.int .i64 ts) := (by rw [cell_at hXr]; rfl)
            have t2 : wr.cell? ⟨X, 2, none⟩ = some (.slice tp tfs.length tc) := (by rw [cell_at hXr]; rfl)
            by_cases h2 : k < tfs.length
            · exact absurd h2 (by rw [hnil.out]; simp)
            · have d2 : decide ((k : Int) < tfs.length) = false := by simp; omega
              as_aux_lemma =>
                obtain ⟨hmx1, hmx2⟩ := hmix
                have k2 := khas 2
                have k7 := khas 7
                have k3 := khas 3
                clear khas hhold hfield hatf kat
                generalize (tfs.any fun x => x.k == 2) = a2 at k2 hmx1
                generalize (tfs.any fun x => x.k == 7) = a7 at k7 hmx1
                generalize (tfs.any fun x => x.k == 3) = a3 at k3 hmx1 hmx2
                generalize objM tfs = ob at kobj hmx1 hmx2
                generalize firstI (fun x : Fd => x.k == 2) tfs = i2 at k2
                generalize firstI (fun x : Fd => x.k == 7) tfs = i7 at k7
                generalize firstI (fun x : Fd => x.k == 3) tfs = i3 at k3
                go_upto_region 28 with first | (go_at_call_of 24 (2 : Int); refine (k2 _ (hbx.trans hb3)).mono ?_; rintro e w5 ⟨rfl, hb4⟩; replace hb3 := hb3.trans hb4; clear t0 t1 t2; replace hXr := it_keep (w := w) hXr hb4; have t0 : w5.cell? ⟨X, 0, none⟩ = some (.string tn) := (by rw [cell_at hXr]; rfl); have t1 : w5.cell? ⟨X, 1, none⟩ = some (.int .i64 ts) := (by rw [cell_at hXr]; rfl); have t2 : w5.cell? ⟨X, 2, none⟩ = some (.slice tp tfs.length tc) := (by rw [cell_at hXr]; rfl); clear hb4) | (go_at_call_of 24 (7 : Int); refine (k7 _ (hbx.trans hb3)).mono ?_; rintro e w6 ⟨rfl, hb4⟩; replace hb3 := hb3.trans hb4; clear t0 t1 t2; replace hXr := it_keep (w := w) hXr hb4; have t0 : w6.cell? ⟨X, 0, none⟩ = some (.string tn) := (by rw [cell_at hXr]; rfl); have t1 : w6.cell? ⟨X, 1, none⟩ = some (.int .i64 ts) := (by rw [cell_at hXr]; rfl); have t2 : w6.cell? ⟨X, 2, none⟩ = some (.slice tp tfs.length tc) := (by rw [cell_at hXr]; rfl); clear hb4) | (go_at_call_of 24 (3 : Int); refine (k3 _ (hbx.trans hb3)).mono ?_; rintro e w7 ⟨rfl, hb4⟩; replace hb3 := hb3.trans hb4; clear t0 t1 t2; replace hXr := it_keep (w := w) hXr hb4; have t0 : w7.cell? ⟨X, 0, none⟩ = some (.string tn) := (by rw [cell_at hXr]; rfl); have t1 : w7.cell? ⟨X, 1, none⟩ = some (.int .i64 ts) := (by rw [cell_at hXr]; rfl); have t2 : w7.cell? ⟨X, 2, none⟩ = some (.slice tp tfs.length tc) := (by rw [cell_at hXr]; rfl); clear hb4)
                clear k2 k7 k3
                cases a2 with
                | true =>
                  obtain ⟨rfl, rfl, rfl⟩ := hmx1 rfl
                  clear hmx1 hmx2
                  go_wp2_with (go_at_call 23; refine (kobj _ (hbx.trans hb3)).mono ?_; rintro e w8 ⟨rfl, hb4⟩; replace hb3 := hb3.trans hb4; clear t0 t1 t2; replace hXr := it_keep (w := w) hXr hb4; have t0 : w8.cell? ⟨X, 0, none⟩ = some (.string tn) := (by rw [cell_at hXr]; rfl); have t1 : w8.cell? ⟨X, 1, none⟩ = some (.int .i64 ts) := (by rw [cell_at hXr]; rfl); have t2 : w8.cell? ⟨X, 2, none⟩ = some (.slice tp tfs.length tc) := (by rw [cell_at hXr]; rfl); clear hb4)
                  exact ⟨⟨i + 1, by simp, by omega, hb.trans (hbx.trans hb3)⟩, by simp [intOf]; omega⟩
                | false =>
                  clear hmx1
                  cases a3 with
                  | true =>
                    obtain rfl := hmx2 rfl
                    clear hmx2
                    go_wp2_with (go_at_call 23; refine (kobj _ (hbx.trans hb3)).mono ?_; rintro e w8 ⟨rfl, hb4⟩; replace hb3 := hb3.trans hb4; clear t0 t1 t2; replace hXr := it_keep (w := w) hXr hb4; have t0 : w8.cell? ⟨X, 0, none⟩ = some (.string tn) := (by rw [cell_at hXr]; rfl); have t1 : w8.cell? ⟨X, 1, none⟩ = some (.int .i64 ts) := (by rw [cell_at hXr]; rfl); have t2 : w8.cell? ⟨X, 2, none⟩ = some (.slice tp tfs.length tc) := (by rw [cell_at hXr]; rfl); clear hb4)
                    exact ⟨⟨i + 1, by simp, by omega, hb.trans (hbx.trans hb3)⟩, by simp [intOf]; omega⟩
                  | false =>
                    clear hmx2
                    go_wp2_with (go_at_call 23; refine (kobj _ (hbx.trans hb3)).mono ?_; rintro e w8 ⟨rfl, hb4⟩; replace hb3 := hb3.trans hb4; clear t0 t1 t2; replace hXr := it_keep (w := w) hXr hb4; have t0 : w8.cell? ⟨X, 0, none⟩ = some (.string tn) := (by rw [cell_at hXr]; rfl); have t1 : w8.cell? ⟨X, 1, none⟩ = some (.int .i64 ts) := (by rw [cell_at hXr]; rfl); have t2 : w8.cell? ⟨X, 2, none⟩ = some (.slice tp tfs.length tc) := (by rw [cell_at hXr]; rfl); clear hb4)
                    exact ⟨⟨i + 1, by simp, by omega, hb.trans (hbx.trans hb3)⟩, by simp [intOf]; omega⟩
      · as_aux_lemma =>
          go_upto_region 10 with fail
          try rw [hWa]
          try rw [hB.out]
          clear hWa
          have hb3 := Bl.refl Wa
          have hXr := hX
          have t0 : Wa.cell? ⟨X, 0, none⟩ = some (.string tn) := (by rw [cell_at hXr]; rfl)
          have t1 : Wa.cell? ⟨X, 1, none⟩ = some (.int .i64 ts) := (by rw [cell_at hXr]; rfl)
          have t2 : Wa.cell? ⟨X, 2, none⟩ = some (.slice (some ⟨b5, off5, none⟩) tfs.length tc) := (by rw [cell_at hXr]; rfl)
          go_wp2_with first | (go_at_call 18; refine (kof _ (hb.trans (hbx.trans hb3))).mono ?_; rintro e w5 ⟨rfl, hb4⟩; replace hb3 := hb3.trans hb4; clear t0 t1 t2; replace hXr := it_keep (w := w) hXr hb4; have t0 : w5.cell? ⟨X, 0, none⟩ = some (.string tn) := (by rw [cell_at hXr]; rfl); have t1 : w5.cell? ⟨X, 1, none⟩ = some (.int .i64 ts) := (by rw [cell_at hXr]; rfl); have t2 : w5.cell? ⟨X, 2, none⟩ = some (.slice (some ⟨b5, off5, none⟩) tfs.length tc) := (by rw [cell_at hXr]; rfl); clear hb4) | (go_at_call 19; refine (kmay _).mono ?_; rintro e w6 ⟨rfl, hb4⟩; replace hb3 := hb3.trans hb4; clear t0 t1 t2; replace hXr := it_keep (w := w) hXr hb4; have t0 : w6.cell? ⟨X, 0, none⟩ = some (.string tn) := (by rw [cell_at hXr]; rfl); have t1 : w6.cell? ⟨X, 1, none⟩ = some (.int .i64 ts) := (by rw [cell_at hXr]; rfl); have t2 : w6.cell? ⟨X, 2, none⟩ = some (.slice (some ⟨b5, off5, none⟩) tfs.length tc) := (by rw [cell_at hXr]; rfl); clear hb4) | (go_at_call 20; refine (kcov _ (hbx.trans hb3)).mono ?_; rintro e w7 ⟨rfl, hb4⟩; replace hb3 := hb3.trans hb4; clear t0 t1 t2; replace hXr := it_keep (w := w) hXr hb4; have t0 : w7.cell? ⟨X, 0, none⟩ = some (.string tn) := (by rw [cell_at hXr]; rfl); have t1 : w7.cell? ⟨X, 1, none⟩ = some (.int .i64 ts) := (by rw [cell_at hXr]; rfl); have t2 : w7.cell? ⟨X, 2, none⟩ = some (.slice (some ⟨b5, off5, none⟩) tfs.length tc) := (by rw [cell_at hXr]; rfl); clear hb4)
          clear kof kmay kcov t0 t1 t2 hXr
          go_loopw [10] (fun v wr => ∃ k : Nat, v = .int .i64 k ∧ k ≤ tfs.length ∧ Bl Wa wr) (fun v _ => tfs.length - (intOf v).toNat)
          case atStart => exact ⟨0, rfl, by omega, hb3⟩
          case round =>
            clear hb3
            obtain ⟨k, rfl, hk, hb3⟩ := hrel
            have hXr := it_keep (w := w) hX hb3
            have t0 : wr.cell? ⟨X, 0, none⟩ = some (.string tn) := (by rw [cell_at hXr]; rfl)
            have t1 : wr.cell? ⟨X, 1, none⟩ = some (.int .i64 ts) := (by rw [cell_at hXr]; rfl)
            have t2 : wr.cell? ⟨X, 2, none⟩ = some (.slice (some ⟨b5, off5, none⟩) tfs.length tc) := (by rw [cell_at hXr]; rfl)
            by_cases h2 : k < tfs.length
            · have d2 : decide ((k : Int) < tfs.length) = true := by simp; omega
              have e8 : IntKind.i64.wrap ((k : Int) + 1) = (k : Int) + 1 := IntWalk.i64_in _ (by omega)
              obtain ⟨x, hx⟩ : ∃ x, tfs[k]? = some x := ⟨tfs[k], List.getElem?_eq_getElem _⟩
              obtain ⟨b6, off6, hp6, hb6, ⟨z0, z1, z2, z3, z4⟩, hxok, _⟩ := (hfw.gr (hbx.trans hb3)).get hx
              cases hp6
              obtain ⟨f1, f2, f3, f4, f5, -⟩ := hfield k x hx
              have hka := kat x.a
              have hkf := hatf k x hx
              rw [hkf.1, hkf.2] at hka
              have hho := hhold x (List.mem_of_getElem? hx)
              have hnx := hft.2 x (List.mem_of_getElem? hx)
              have kmx := fun W => rmay_any x.n hnx W
              rw [f1] at kmx
              have ksz := fun W => tsize_any x.k W
              have hsb := sizeM_bd x.k
              have s1 : ((k : Int) != k) = false := by simp
              have s2 : (x.a.tmod 8 != 0) = false := by simpa using f2
              have s2b : (x.a % 8 != 0) = false := by rw [← Int.tmod_eq_emod_of_nonneg f4]; exact s2
              have s3 : decide (x.a < 0) = false := by simp; omega
              have s4 : decide (ts < x.a + sizeM x.k) = false := by simp; omega
              have s5 : IntKind.i64.wrap (x.a + sizeM x.k) = x.a + sizeM x.k := IntWalk.i64_in _ (by omega)
              have hbf : Bl wr (wr.alloc (.cells #[.string x.n, .int .u8 x.k, .int .i64 x.a, .int .i64 x.o, .int .i64 x.d] 48)) := (Bl.refl _).alloc _
              have hF := heap_new wr #[.string x.n, .int .u8 x.k, .int .i64 x.a, .int .i64 x.o, .int .i64 x.d] 48
              have hXf := it_keep (w := w) hXr hbf
              clear hfield hatf hx hkf f1 f2
              have hxk := hxok.k
              clear hxok
              obtain ⟨xn, xk, xa, xo, xd⟩ := x
              dsimp only at *
              have hkinds : xk = 1 ∨ xk = 2 ∨ xk = 4 ∨ ¬ (xk = 1 ∨ xk = 2 ∨ xk = 4) := by omega
              generalize hn : sizeM xk = n at ksz s4 s5 hsb
              clear hn f3 f5
              generalize hWf : (wr.alloc (.cells #[.string xn, .int .u8 xk, .int .i64 xa, .int .i64 xo, .int .i64 xd] 48)) = Wf at hbf hF hXf
              generalize hFb : wr.heap.size = F at hF
              replace hFb : Hid (wr.heap.size = F) := hFb
              go_upto_region 17 with fail
              try rw [hWf]
              try rw [hFb.out]
              clear hWf
              have x0 : Wf.cell? ⟨F, 0, none⟩ = some (.string xn) := (by rw [cell_at hF]; rfl)
              have x1 : Wf.cell? ⟨F, 1, none⟩ = some (.int .u8 xk) := (by rw [cell_at hF]; rfl)
              have x2 : Wf.cell? ⟨F, 2, none⟩ = some (.int .i64 xa) := (by rw [cell_at hF]; rfl)
              have x3 : Wf.cell? ⟨F, 3, none⟩ = some (.int .i64 xo) := (by rw [cell_at hF]; rfl)
              have x4 : Wf.cell? ⟨F, 4, none⟩ = some (.int .i64 xd) := (by rw [cell_at hF]; rfl)
              have y0 : Wf.cell? ⟨X, 0, none⟩ = some (.string tn) := (by rw [cell_at hXf]; rfl)
              have y1 : Wf.cell? ⟨X, 1, none⟩ = some (.int .i64 ts) := (by rw [cell_at hXf]; rfl)
              have y2 : Wf.cell? ⟨X, 2, none⟩ = some (.slice (some ⟨b5, off5, none⟩) tfs.length tc) := (by rw [cell_at hXf]; rfl)
              go_upto_region 18 with (go_at_call 21; refine (hka _ (hbx.trans (hb3.trans hbf))).mono ?_; rintro e w8 ⟨rfl, hb8⟩)
              clear x0 x1 x2 x3 x4 y0 y1 y2 t0 t1 t2 z0 z1 z2 z3 z4 hXr
              replace hF := it_keep (w := w) hF hb8
              replace hXf := it_keep (w := w) hXf hb8
              replace hbf := hbf.trans hb8
              clear hb8
              have hne : Nonempty (BlBy w8) := ⟨⟨_, Bl.refl _⟩⟩
              have x0 := fun p : BlBy w8 => (show p.wo.cell? ⟨F, 0, none⟩ = some (.string xn) by rw [cell_at (it_keep (w := w) hF p.bl)]; rfl)
              have x1 := fun p : BlBy w8 => (show p.wo.cell? ⟨F, 1, none⟩ = some (.int .u8 xk) by rw [cell_at (it_keep (w := w) hF p.bl)]; rfl)
              have x2 := fun p : BlBy w8 => (show p.wo.cell? ⟨F, 2, none⟩ = some (.int .i64 xa) by rw [cell_at (it_keep (w := w) hF p.bl)]; rfl)
              have x3 := fun p : BlBy w8 => (show p.wo.cell? ⟨F, 3, none⟩ = some (.int .i64 xo) by rw [cell_at (it_keep (w := w) hF p.bl)]; rfl)
              have x4 := fun p : BlBy w8 => (show p.wo.cell? ⟨F, 4, none⟩ = some (.int .i64 xd) by rw [cell_at (it_keep (w := w) hF p.bl)]; rfl)
              have y0 := fun p : BlBy w8 => (show p.wo.cell? ⟨X, 0, none⟩ = some (.string tn) by rw [cell_at (it_keep (w := w) hXf p.bl)]; rfl)
              have y1 := fun p : BlBy w8 => (show p.wo.cell? ⟨X, 1, none⟩ = some (.int .i64 ts) by rw [cell_at (it_keep (w := w) hXf p.bl)]; rfl)
              have y2 := fun p : BlBy w8 => (show p.wo.cell? ⟨X, 2, none⟩ = some (.slice (some ⟨b5, off5, none⟩) tfs.length tc) by rw [cell_at (it_keep (w := w) hXf p.bl)]; rfl)
              refine wp_region_bl (by kernel_rfl) (by kernel_rfl) ?_
              repeat (first
                | go_big_quiet_skip
                | (go_big_quiet_want; go_big_quiet_op; first
                  | go_big_quiet_on
                  | (apply Exists.intro
                     refine ⟨fun p => ?_, ?_⟩
                     · first
                         | (go_at_call 22; exact calls_eq (ksz _))
                         | (go_at_call 19; exact calls_bl (kmx _))
                     go_big_quiet_on)))
              refine wpQuiet_nil ?_
              intro wq hw'
              obtain ⟨⟨wq2, hq⟩, rfl⟩ := hw'
              clear x0 x1 x2 x3 x4 y0 y1 y2 hne
              replace hF := it_keep (w := w) hF hq
              replace hXf := it_keep (w := w) hXf hq
              replace hbf := hbf.trans hq
              clear hq kmx ksz hka s1 s2 s2b s3 s4 s5
              go_upto_region 20 with fail
              rcases hkinds with rfl | rfl | rfl | hk1
              · as_aux_lemma =>
                  obtain ⟨j, u, ho, hu, hou, hrest⟩ := hold_facts hho (by first | exact .inl rfl | exact .inr (.inl rfl) | exact .inr (.inr rfl))
                  dsimp only at ho
                  subst ho
                  have g1 : j < L.length := (List.getElem?_eq_some_iff.1 hu).1
                  have g2 : decide ((j : Int) < 0) = false := by simp <;> omega
                  have g3 : decide ((L.length : Int) ≤ j) = false := by simp <;> omega
                  have g4 : decide ((j : Int) < L.length) = true := by simp <;> omega
                  have g3b : decide (L.length ≤ j) = false := by simp <;> omega
                  have g3c : decide (j < L.length) = true := by simp <;> omega
                  clear hho hxk
                  have x0 : wq.cell? ⟨F, 0, none⟩ = some (.string xn) := (by rw [cell_at hF]; rfl)
                  have x1 : wq.cell? ⟨F, 1, none⟩ = some (.int .u8 1) := (by rw [cell_at hF]; rfl)
                  have x2 : wq.cell? ⟨F, 2, none⟩ = some (.int .i64 xa) := (by rw [cell_at hF]; rfl)
                  have x3 : wq.cell? ⟨F, 3, none⟩ = some (.int .i64 j) := (by rw [cell_at hF]; rfl)
                  have x4 : wq.cell? ⟨F, 4, none⟩ = some (.int .i64 xd) := (by rw [cell_at hF]; rfl)
                  go_upto_region 21 with fail
                  clear x0 x1 x2 x3 x4
                  have hne : Nonempty (BlBy wq) := ⟨⟨_, Bl.refl _⟩⟩
                  have x0 := fun p : BlBy wq => (show p.wo.cell? ⟨F, 0, none⟩ = some (.string xn) by rw [cell_at (it_keep (w := w) hF p.bl)]; rfl)
                  have x1 := fun p : BlBy wq => (show p.wo.cell? ⟨F, 1, none⟩ = some (.int .u8 1) by rw [cell_at (it_keep (w := w) hF p.bl)]; rfl)
                  have x2 := fun p : BlBy wq => (show p.wo.cell? ⟨F, 2, none⟩ = some (.int .i64 xa) by rw [cell_at (it_keep (w := w) hF p.bl)]; rfl)
                  have x3 := fun p : BlBy wq => (show p.wo.cell? ⟨F, 3, none⟩ = some (.int .i64 j) by rw [cell_at (it_keep (w := w) hF p.bl)]; rfl)
                  have x4 := fun p : BlBy wq => (show p.wo.cell? ⟨F, 4, none⟩ = some (.int .i64 xd) by rw [cell_at (it_keep (w := w) hF p.bl)]; rfl)
                  have hLq := hL.gr (hb.trans (hbx.trans (hb3.trans hbf)))
                  obtain ⟨b9, off9, hp9, hb9, hT9, hok9, _⟩ := hLq.get hu
                  cases hp9
                  have v0 := fun p : BlBy wq => (hT9.gr hb9 p.bl).1
                  have v1 := fun p : BlBy wq => (hT9.gr hb9 p.bl).2.1
                  have v2 := fun p : BlBy wq => (hT9.gr hb9 p.bl).2.2
                  have kou := fun W (h : Bl wq W) => obj_any u W (hok9.f.gr h)
                  rw [hou] at kou
                  refine wp_region_bl (by kernel_rfl) (by kernel_rfl) ?_
                  repeat (first
                    | go_big_quiet_skip
                    | (go_big_quiet_want; go_big_quiet_op; first
                      | go_big_quiet_on
                      | (apply Exists.intro
                         refine ⟨fun p => ?_, ?_⟩
                         · first
                             | (go_at_call 23; exact calls_bl (kou _ p.bl))
                         go_big_quiet_on)))
                  refine wpQuiet_nil ?_
                  intro wz hw'
                  obtain ⟨⟨wz2, hz⟩, rfl⟩ := hw'
                  clear x0 x1 x2 x3 x4 hne
                  replace hF := it_keep (w := w) hF hz
                  replace hbf := hbf.trans hz
                  have x0 : wz.cell? ⟨F, 0, none⟩ = some (.string xn) := (by rw [cell_at hF]; rfl)
                  have x1 : wz.cell? ⟨F, 1, none⟩ = some (.int .u8 1) := (by rw [cell_at hF]; rfl)
                  have x2 : wz.cell? ⟨F, 2, none⟩ = some (.int .i64 xa) := (by rw [cell_at hF]; rfl)
                  have x3 : wz.cell? ⟨F, 3, none⟩ = some (.int .i64 j) := (by rw [cell_at hF]; rfl)
                  have x4 : wz.cell? ⟨F, 4, none⟩ = some (.int .i64 xd) := (by rw [cell_at hF]; rfl)
                  clear v0 v1 v2
                  go_upto_region 23 with fail
                  go_quiet (fail)
                  go_wp2
                  exact ⟨⟨k + 1, by simp, by omega, drewN_bl (hb3.trans hbf) nq⟩, by simp [intOf]; omega⟩
              · as_aux_lemma =>
                  obtain ⟨j, u, ho, hu, hou, hrest⟩ := hold_facts hho (by first | exact .inl rfl | exact .inr (.inl rfl) | exact .inr (.inr rfl))
                  obtain ⟨m, y, hd, hy, hyk⟩ := hrest (by show (2 : Int) ≠ 1; decide)
                  replace hyk : y.k = 3 := by simpa using hyk
                  dsimp only at ho hd
                  subst ho
                  subst hd
                  have g1 : j < L.length := (List.getElem?_eq_some_iff.1 hu).1
                  have g2 : decide ((j : Int) < 0) = false := by simp <;> omega
                  have g3 : decide ((L.length : Int) ≤ j) = false := by simp <;> omega
                  have g4 : decide ((j : Int) < L.length) = true := by simp <;> omega
                  have g3b : decide (L.length ≤ j) = false := by simp <;> omega
                  have g3c : decide (j < L.length) = true := by simp <;> omega
                  have g5 : m < u.fs.length := (List.getElem?_eq_some_iff.1 hy).1
                  have g6 : decide ((m : Int) < 0) = false := by simp <;> omega
                  have g7 : decide ((u.fs.length : Int) ≤ m) = false := by simp <;> omega
                  have g8 : decide ((m : Int) < u.fs.length) = true := by simp <;> omega
                  have g7b : decide (u.fs.length ≤ m) = false := by simp <;> omega
                  have g7c : decide (m < u.fs.length) = true := by simp <;> omega
                  clear hho hxk
                  have x0 : wq.cell? ⟨F, 0, none⟩ = some (.string xn) := (by rw [cell_at hF]; rfl)
                  have x1 : wq.cell? ⟨F, 1, none⟩ = some (.int .u8 2) := (by rw [cell_at hF]; rfl)
                  have x2 : wq.cell? ⟨F, 2, none⟩ = some (.int .i64 xa) := (by rw [cell_at hF]; rfl)
                  have x3 : wq.cell? ⟨F, 3, none⟩ = some (.int .i64 j) := (by rw [cell_at hF]; rfl)
                  have x4 : wq.cell? ⟨F, 4, none⟩ = some (.int .i64 m) := (by rw [cell_at hF]; rfl)
                  go_upto_region 21 with fail
                  clear x0 x1 x2 x3 x4
                  have hne : Nonempty (BlBy wq) := ⟨⟨_, Bl.refl _⟩⟩
                  have x0 := fun p : BlBy wq => (show p.wo.cell? ⟨F, 0, none⟩ = some (.string xn) by rw [cell_at (it_keep (w := w) hF p.bl)]; rfl)
                  have x1 := fun p : BlBy wq => (show p.wo.cell? ⟨F, 1, none⟩ = some (.int .u8 2) by rw [cell_at (it_keep (w := w) hF p.bl)]; rfl)
                  have x2 := fun p : BlBy wq => (show p.wo.cell? ⟨F, 2, none⟩ = some (.int .i64 xa) by rw [cell_at (it_keep (w := w) hF p.bl)]; rfl)
                  have x3 := fun p : BlBy wq => (show p.wo.cell? ⟨F, 3, none⟩ = some (.int .i64 j) by rw [cell_at (it_keep (w := w) hF p.bl)]; rfl)
                  have x4 := fun p : BlBy wq => (show p.wo.cell? ⟨F, 4, none⟩ = some (.int .i64 m) by rw [cell_at (it_keep (w := w) hF p.bl)]; rfl)
                  have hLq := hL.gr (hb.trans (hbx.trans (hb3.trans hbf)))
                  obtain ⟨b9, off9, hp9, hb9, hT9, hok9, _⟩ := hLq.get hu
                  cases hp9
                  have v0 := fun p : BlBy wq => (hT9.gr hb9 p.bl).1
                  have v1 := fun p : BlBy wq => (hT9.gr hb9 p.bl).2.1
                  have v2 := fun p : BlBy wq => (hT9.gr hb9 p.bl).2.2
                  have kou := fun W (h : Bl wq W) => obj_any u W (hok9.f.gr h)
                  rw [hou] at kou
                  refine wp_region_bl (by kernel_rfl) (by kernel_rfl) ?_
                  repeat (first
                    | go_big_quiet_skip
                    | (go_big_quiet_want; go_big_quiet_op; first
                      | go_big_quiet_on
                      | (apply Exists.intro
                         refine ⟨fun p => ?_, ?_⟩
                         · first
                             | (go_at_call 23; exact calls_bl (kou _ p.bl))
                         go_big_quiet_on)))
                  refine wpQuiet_nil ?_
                  intro wz hw'
                  obtain ⟨⟨wz2, hz⟩, rfl⟩ := hw'
                  clear x0 x1 x2 x3 x4 hne
                  replace hF := it_keep (w := w) hF hz
                  replace hbf := hbf.trans hz
                  have x0 : wz.cell? ⟨F, 0, none⟩ = some (.string xn) := (by rw [cell_at hF]; rfl)
                  have x1 : wz.cell? ⟨F, 1, none⟩ = some (.int .u8 2) := (by rw [cell_at hF]; rfl)
                  have x2 : wz.cell? ⟨F, 2, none⟩ = some (.int .i64 xa) := (by rw [cell_at hF]; rfl)
                  have x3 : wz.cell? ⟨F, 3, none⟩ = some (.int .i64 j) := (by rw [cell_at hF]; rfl)
                  have x4 : wz.cell? ⟨F, 4, none⟩ = some (.int .i64 m) := (by rw [cell_at hF]; rfl)
                  replace hT9 := hT9.gr hb9 hz
                  obtain ⟨v0, v1, v2⟩ := hT9
                  obtain ⟨b7, off7, hp7, hb7, ⟨q0, q1, q2, q3, q4⟩, _, _⟩ := (hok9.f.gr hz).get hy
                  rw [hyk] at q1
                  rw [hp7] at v2
                  go_upto_region 23 with fail
                  go_quiet (fail)
                  go_wp2
                  exact ⟨⟨k + 1, by simp, by omega, drewN_bl (hb3.trans hbf) nq⟩, by simp [intOf]; omega⟩
              · as_aux_lemma =>
                  obtain ⟨j, u, ho, hu, hou, hrest⟩ := hold_facts hho (by first | exact .inl rfl | exact .inr (.inl rfl) | exact .inr (.inr rfl))
                  obtain ⟨m, y, hd, hy, hyk⟩ := hrest (by show (4 : Int) ≠ 1; decide)
                  replace hyk : y.k = 5 := by simpa using hyk
                  dsimp only at ho hd
                  subst ho
                  subst hd
                  have g1 : j < L.length := (List.getElem?_eq_some_iff.1 hu).1
                  have g2 : decide ((j : Int) < 0) = false := by simp <;> omega
                  have g3 : decide ((L.length : Int) ≤ j) = false := by simp <;> omega
                  have g4 : decide ((j : Int) < L.length) = true := by simp <;> omega
                  have g3b : decide (L.length ≤ j) = false := by simp <;> omega
                  have g3c : decide (j < L.length) = true := by simp <;> omega
                  have g5 : m < u.fs.length := (List.getElem?_eq_some_iff.1 hy).1
                  have g6 : decide ((m : Int) < 0) = false := by simp <;> omega
                  have g7 : decide ((u.fs.length : Int) ≤ m) = false := by simp <;> omega
                  have g8 : decide ((m : Int) < u.fs.length) = true := by simp <;> omega
                  have g7b : decide (u.fs.length ≤ m) = false := by simp <;> omega
                  have g7c : decide (m < u.fs.length) = true := by simp <;> omega
                  clear hho hxk
                  have x0 : wq.cell? ⟨F, 0, none⟩ = some (.string xn) := (by rw [cell_at hF]; rfl)
                  have x1 : wq.cell? ⟨F, 1, none⟩ = some (.int .u8 4) := (by rw [cell_at hF]; rfl)
                  have x2 : wq.cell? ⟨F, 2, none⟩ = some (.int .i64 xa) := (by rw [cell_at hF]; rfl)
                  have x3 : wq.cell? ⟨F, 3, none⟩ = some (.int .i64 j) := (by rw [cell_at hF]; rfl)
                  have x4 : wq.cell? ⟨F, 4, none⟩ = some (.int .i64 m) := (by rw [cell_at hF]; rfl)
                  go_upto_region 21 with fail
                  clear x0 x1 x2 x3 x4
                  have hne : Nonempty (BlBy wq) := ⟨⟨_, Bl.refl _⟩⟩
                  have x0 := fun p : BlBy wq => (show p.wo.cell? ⟨F, 0, none⟩ = some (.string xn) by rw [cell_at (it_keep (w := w) hF p.bl)]; rfl)
                  have x1 := fun p : BlBy wq => (show p.wo.cell? ⟨F, 1, none⟩ = some (.int .u8 4) by rw [cell_at (it_keep (w := w) hF p.bl)]; rfl)
                  have x2 := fun p : BlBy wq => (show p.wo.cell? ⟨F, 2, none⟩ = some (.int .i64 xa) by rw [cell_at (it_keep (w := w) hF p.bl)]; rfl)
                  have x3 := fun p : BlBy wq => (show p.wo.cell? ⟨F, 3, none⟩ = some (.int .i64 j) by rw [cell_at (it_keep (w := w) hF p.bl)]; rfl)
                  have x4 := fun p : BlBy wq => (show p.wo.cell? ⟨F, 4, none⟩ = some (.int .i64 m) by rw [cell_at (it_keep (w := w) hF p.bl)]; rfl)
                  have hLq := hL.gr (hb.trans (hbx.trans (hb3.trans hbf)))
                  obtain ⟨b9, off9, hp9, hb9, hT9, hok9, _⟩ := hLq.get hu
                  cases hp9
                  have v0 := fun p : BlBy wq => (hT9.gr hb9 p.bl).1
                  have v1 := fun p : BlBy wq => (hT9.gr hb9 p.bl).2.1
                  have v2 := fun p : BlBy wq => (hT9.gr hb9 p.bl).2.2
                  have kou := fun W (h : Bl wq W) => obj_any u W (hok9.f.gr h)
                  rw [hou] at kou
                  refine wp_region_bl (by kernel_rfl) (by kernel_rfl) ?_
                  repeat (first
                    | go_big_quiet_skip
                    | (go_big_quiet_want; go_big_quiet_op; first
                      | go_big_quiet_on
                      | (apply Exists.intro
                         refine ⟨fun p => ?_, ?_⟩
                         · first
                             | (go_at_call 23; exact calls_bl (kou _ p.bl))
                         go_big_quiet_on)))
                  refine wpQuiet_nil ?_
                  intro wz hw'
                  obtain ⟨⟨wz2, hz⟩, rfl⟩ := hw'
                  clear x0 x1 x2 x3 x4 hne
                  replace hF := it_keep (w := w) hF hz
                  replace hbf := hbf.trans hz
                  have x0 : wz.cell? ⟨F, 0, none⟩ = some (.string xn) := (by rw [cell_at hF]; rfl)
                  have x1 : wz.cell? ⟨F, 1, none⟩ = some (.int .u8 4) := (by rw [cell_at hF]; rfl)
                  have x2 : wz.cell? ⟨F, 2, none⟩ = some (.int .i64 xa) := (by rw [cell_at hF]; rfl)
                  have x3 : wz.cell? ⟨F, 3, none⟩ = some (.int .i64 j) := (by rw [cell_at hF]; rfl)
                  have x4 : wz.cell? ⟨F, 4, none⟩ = some (.int .i64 m) := (by rw [cell_at hF]; rfl)
                  replace hT9 := hT9.gr hb9 hz
                  obtain ⟨v0, v1, v2⟩ := hT9
                  obtain ⟨b7, off7, hp7, hb7, ⟨q0, q1, q2, q3, q4⟩, _, _⟩ := (hok9.f.gr hz).get hy
                  rw [hyk] at q1
                  rw [hp7] at v2
                  go_upto_region 23 with fail
                  go_quiet (fail)
                  go_wp2
                  exact ⟨⟨k + 1, by simp, by omega, drewN_bl (hb3.trans hbf) nq⟩, by simp [intOf]; omega⟩
              · as_aux_lemma =>
                  have n1 : (xk == 1) = false := by simp; omega
                  have n2 : (xk == 2) = false := by simp; omega
                  have n4 : (xk == 4) = false := by simp; omega
                  have n5 : (xk != 1) = true := by simp; omega
                  clear hk1
                  clear hho hxk
                  have x0 : wq.cell? ⟨F, 0, none⟩ = some (.string xn) := (by rw [cell_at hF]; rfl)
                  have x1 : wq.cell? ⟨F, 1, none⟩ = some (.int .u8 xk) := (by rw [cell_at hF]; rfl)
                  have x2 : wq.cell? ⟨F, 2, none⟩ = some (.int .i64 xa) := (by rw [cell_at hF]; rfl)
                  have x3 : wq.cell? ⟨F, 3, none⟩ = some (.int .i64 xo) := (by rw [cell_at hF]; rfl)
                  have x4 : wq.cell? ⟨F, 4, none⟩ = some (.int .i64 xd) := (by rw [cell_at hF]; rfl)
                  go_upto_region 21 with fail
                  clear x0 x1 x2 x3 x4
                  have hne : Nonempty (BlBy wq) := ⟨⟨_, Bl.refl _⟩⟩
                  have x0 := fun p : BlBy wq => (show p.wo.cell? ⟨F, 0, none⟩ = some (.string xn) by rw [cell_at (it_keep (w := w) hF p.bl)]; rfl)
                  have x1 := fun p : BlBy wq => (show p.wo.cell? ⟨F, 1, none⟩ = some (.int .u8 xk) by rw [cell_at (it_keep (w := w) hF p.bl)]; rfl)
                  have x2 := fun p : BlBy wq => (show p.wo.cell? ⟨F, 2, none⟩ = some (.int .i64 xa) by rw [cell_at (it_keep (w := w) hF p.bl)]; rfl)
                  have x3 := fun p : BlBy wq => (show p.wo.cell? ⟨F, 3, none⟩ = some (.int .i64 xo) by rw [cell_at (it_keep (w := w) hF p.bl)]; rfl)
                  have x4 := fun p : BlBy wq => (show p.wo.cell? ⟨F, 4, none⟩ = some (.int .i64 xd) by rw [cell_at (it_keep (w := w) hF p.bl)]; rfl)
                  refine wp_region_bl (by kernel_rfl) (by kernel_rfl) ?_
                  repeat (first
                    | go_big_quiet_skip
                    | (go_big_quiet_want; go_big_quiet_op; first
                      | go_big_quiet_on
                      | (apply Exists.intro
                         refine ⟨fun p => ?_, ?_⟩
                         · first
                             | fail
                         go_big_quiet_on)))
                  refine wpQuiet_nil ?_
                  intro wz hw'
                  obtain ⟨⟨wz2, hz⟩, rfl⟩ := hw'
                  clear x0 x1 x2 x3 x4 hne
                  replace hF := it_keep (w := w) hF hz
                  replace hbf := hbf.trans hz
                  have x0 : wz.cell? ⟨F, 0, none⟩ = some (.string xn) := (by rw [cell_at hF]; rfl)
                  have x1 : wz.cell? ⟨F, 1, none⟩ = some (.int .u8 xk) := (by rw [cell_at hF]; rfl)
                  have x2 : wz.cell? ⟨F, 2, none⟩ = some (.int .i64 xa) := (by rw [cell_at hF]; rfl)
                  have x3 : wz.cell? ⟨F, 3, none⟩ = some (.int .i64 xo) := (by rw [cell_at hF]; rfl)
                  have x4 : wz.cell? ⟨F, 4, none⟩ = some (.int .i64 xd) := (by rw [cell_at hF]; rfl)
                  go_upto_region 23 with fail
                  go_quiet (fail)
                  go_wp2
                  exact ⟨⟨k + 1, by simp, by omega, drewN_bl (hb3.trans hbf) nq⟩, by simp [intOf]; omega⟩
            · have d2 : decide ((k : Int) < tfs.length) = false := by simp; omega
              as_aux_lemma =>
                obtain ⟨hmx1, hmx2⟩ := hmix
                have k2 := khas 2
                have k7 := khas 7
                have k3 := khas 3
                clear khas hhold hfield hatf kat
                generalize (tfs.any fun x => x.k == 2) = a2 at k2 hmx1
                generalize (tfs.any fun x => x.k == 7) = a7 at k7 hmx1
                generalize (tfs.any fun x => x.k == 3) = a3 at k3 hmx1 hmx2
                generalize objM tfs = ob at kobj hmx1 hmx2
                generalize firstI (fun x : Fd => x.k == 2) tfs = i2 at k2
                generalize firstI (fun x : Fd => x.k == 7) tfs = i7 at k7
                generalize firstI (fun x : Fd => x.k == 3) tfs = i3 at k3
                go_upto_region 28 with first | (go_at_call_of 24 (2 : Int); refine (k2 _ (hbx.trans hb3)).mono ?_; rintro e w5 ⟨rfl, hb4⟩; replace hb3 := hb3.trans hb4; clear t0 t1 t2; replace hXr := it_keep (w := w) hXr hb4; have t0 : w5.cell? ⟨X, 0, none⟩ = some (.string tn) := (by rw [cell_at hXr]; rfl); have t1 : w5.cell? ⟨X, 1, none⟩ = some (.int .i64 ts) := (by rw [cell_at hXr]; rfl); have t2 : w5.cell? ⟨X, 2, none⟩ = some (.slice (some ⟨b5, off5, none⟩) tfs.length tc) := (by rw [cell_at hXr]; rfl); clear hb4) | (go_at_call_of 24 (7 : Int); refine (k7 _ (hbx.trans hb3)).mono ?_; rintro e w6 ⟨rfl, hb4⟩; replace hb3 := hb3.trans hb4; clear t0 t1 t2; replace hXr := it_keep (w := w) hXr hb4; have t0 : w6.cell? ⟨X, 0, none⟩ = some (.string tn) := (by rw [cell_at hXr]; rfl); have t1 : w6.cell? ⟨X, 1, none⟩ = some (.int .i64 ts) := (by rw [cell_at hXr]; rfl); have t2 : w6.cell? ⟨X, 2, none⟩ = some (.slice (some ⟨b5, off5, none⟩) tfs.length tc) := (by rw [cell_at hXr]; rfl); clear hb4) | (go_at_call_of 24 (3 : Int); refine (k3 _ (hbx.trans hb3)).mono ?_; rintro e w7 ⟨rfl, hb4⟩; replace hb3 := hb3.trans hb4; clear t0 t1 t2; replace hXr := it_keep (w := w) hXr hb4; have t0 : w7.cell? ⟨X, 0, none⟩ = some (.string tn) := (by rw [cell_at hXr]; rfl); have t1 : w7.cell? ⟨X, 1, none⟩ = some (.int .i64 ts) := (by rw [cell_at hXr]; rfl); have t2 : w7.cell? ⟨X, 2, none⟩ = some (.slice (some ⟨b5, off5, none⟩) tfs.length tc) := (by rw [cell_at hXr]; rfl); clear hb4)
                clear k2 k7 k3
                cases a2 with
                | true =>
                  obtain ⟨rfl, rfl, rfl⟩ := hmx1 rfl
                  clear hmx1 hmx2
                  go_wp2_with (go_at_call 23; refine (kobj _ (hbx.trans hb3)).mono ?_; rintro e w8 ⟨rfl, hb4⟩; replace hb3 := hb3.trans hb4; clear t0 t1 t2; replace hXr := it_keep (w := w) hXr hb4; have t0 : w8.cell? ⟨X, 0, none⟩ = some (.string tn) := (by rw [cell_at hXr]; rfl); have t1 : w8.cell? ⟨X, 1, none⟩ = some (.int .i64 ts) := (by rw [cell_at hXr]; rfl); have t2 : w8.cell? ⟨X, 2, none⟩ = some (.slice (some ⟨b5, off5, none⟩) tfs.length tc) := (by rw [cell_at hXr]; rfl); clear hb4)
                  exact ⟨⟨i + 1, by simp, by omega, hb.trans (hbx.trans hb3)⟩, by simp [intOf]; omega⟩
                | false =>
                  clear hmx1
                  cases a3 with
                  | true =>
                    obtain rfl := hmx2 rfl
                    clear hmx2
                    go_wp2_with (go_at_call 23; refine (kobj _ (hbx.trans hb3)).mono ?_; rintro e w8 ⟨rfl, hb4⟩; replace hb3 := hb3.trans hb4; clear t0 t1 t2; replace hXr := it_keep (w := w) hXr hb4; have t0 : w8.cell? ⟨X, 0, none⟩ = some (.string tn) := (by rw [cell_at hXr]; rfl); have t1 : w8.cell? ⟨X, 1, none⟩ = some (.int .i64 ts) := (by rw [cell_at hXr]; rfl); have t2 : w8.cell? ⟨X, 2, none⟩ = some (.slice (some ⟨b5, off5, none⟩) tfs.length tc) := (by rw [cell_at hXr]; rfl); clear hb4)
                    exact ⟨⟨i + 1, by simp, by omega, hb.trans (hbx.trans hb3)⟩, by simp [intOf]; omega⟩
                  | false =>
                    clear hmx2
                    go_wp2_with (go_at_call 23; refine (kobj _ (hbx.trans hb3)).mono ?_; rintro e w8 ⟨rfl, hb4⟩; replace hb3 := hb3.trans hb4; clear t0 t1 t2; replace hXr := it_keep (w := w) hXr hb4; have t0 : w8.cell? ⟨X, 0, none⟩ = some (.string tn) := (by rw [cell_at hXr]; rfl); have t1 : w8.cell? ⟨X, 1, none⟩ = some (.int .i64 ts) := (by rw [cell_at hXr]; rfl); have t2 : w8.cell? ⟨X, 2, none⟩ = some (.slice (some ⟨b5, off5, none⟩) tfs.length tc) := (by rw [cell_at hXr]; rfl); clear hb4)
                    exact ⟨⟨i + 1, by simp, by omega, hb.trans (hbx.trans hb3)⟩, by simp [intOf]; omega⟩
    · have d : decide ((i : Int) < L.length) = false := by simp; omega
      go_wp2_with (go_at_call 9; refine (hal _).mono ?_; rintro e w4 ⟨rfl, hb4⟩)
      go_returns
      exact ⟨rfl, hb.trans hb4⟩
end Go.Proofs.Ytmcjmdoeafhjpaa
