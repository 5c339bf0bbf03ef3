/- Towards the statements of package types (layer 10): TypesPlains. -/
import Derived.Test.YtmcjmdoeafhjpabMT
namespace Go.Proofs.Ytmcjmdoeafhjpab
open Go.ChangeShapes Go.WideShapes Go.ChangeAt Go.RowKit
set_option linter.unusedVariables false
set_option linter.unusedSimpArgs false
set_option maxRecDepth 20000

/-- Are so many bytes plain, one by one? -/
def pAll (s : Int) (fs : List Fd) (a : Int) : Nat → Bool
  | 0 => true
  | k + 1 => pAll s fs a k && plainM s fs (a + k) 1
theorem pAll_iff {s : Int} {fs : List Fd} {a : Int} : ∀ n : Nat, pAll s fs a n = true ↔ ∀ i : Nat, i < n → plainM s fs (a + i) 1 = true
  | 0 => by simp [pAll]
  | n + 1 => by
    rw [pAll, Bool.and_eq_true, pAll_iff n]
    constructor
    · rintro ⟨h1, h2⟩ i hi
      by_cases hn : i = n
      · subst hn; exact h2
      · exact h1 i (by omega)
    · intro h
      exact ⟨fun i hi => h i (by omega), h n (by omega)⟩
theorem pAll_eq {s : Int} {fs : List Fd} {a : Int} (hG : Good fs) (h0 : 0 ≤ a) {n : Nat} (hn : 0 < n) : plainM s fs a n = pAll s fs a n := by
  rw [Bool.eq_iff_iff, plain_ref (by omega) hG, pAll_iff]
  constructor
  · rintro ⟨h1, h2, h3, h4⟩ i hi
    rw [plain_ref (by omega) hG]
    exact ⟨by omega, by omega, by omega, fun y hy hc => h4 y hy (by omega)⟩
  · intro h
    have hl := (plain_ref (by omega) hG).1 (h (n - 1) (by omega))
    refine ⟨h0, by omega, by omega, fun y hy hc => ?_⟩
    have hg := (hG y hy).2
    have hi := (plain_ref (by omega) hG).1 (h (y.a - a).toNat (by omega))
    exact hi.2.2.2 y hy (by omega)
theorem plain_at {s : Int} {fs : List Fd} (hG : Good fs) {x : Fd} (hx : x ∈ fs) : plainM s fs x.a 1 = false ∧ plainM s fs (x.a + sizeM x.k - 1) 1 = false := by
  have hg := (hG x hx).2
  constructor
  · cases h : plainM s fs x.a 1 with
    | false => rfl
    | true => exact absurd ⟨by omega, by omega⟩ (((plain_ref (by omega) hG).1 h).2.2.2 x hx)
  · cases h : plainM s fs (x.a + sizeM x.k - 1) 1 with
    | false => rfl
    | true => exact absurd ⟨by omega, by omega⟩ (((plain_ref (by omega) hG).1 h).2.2.2 x hx)
set_option maxHeartbeats 16000000 in
theorem plains_any (p : Option Addr) (c : Nat) (L : List Ty) (hc : L.length ≤ c ∧ c ≤ maxLen) (a1 a2 a3 : Int) (h1 : 0 ≤ a1 ∧ a1 ≤ 255) (h2 : 0 ≤ a2 ∧ a2 ≤ 255) (h3 : 0 ≤ a3 ∧ a3 ≤ 255) (w : World) (hL : Tys w p L) (hq : largeM L = false) (hz : (chkM L).2.2 = 0) (hne0 : L ≠ []) :
    Calls Try.prog 3 #[.slice p L.length c, .int .u8 a1, .int .u8 a2, .int .u8 a3] w fun e w' => e = .returned (.bool true) ∧ Bl w w' := by
  have hlen := hL.len
  unfold maxLen at hlen
  have hfit := large_fit hq
  have kl := large_any p c L w hL
  rw [hq] at kl
  have kc := check_any p c L hc w hL hfit
  unfold chkV at kc
  obtain ⟨hM, hH⟩ := chk_may hz
  rw [hz] at kc
  generalize chkM L = r at kc
  have hal := fun W => alive_any W
  have hpos : 0 < L.length := List.length_pos_iff.2 hne0
  have dz : ((L.length : Int) == 0) = false := by simp; omega
  have hem : a1.tmod L.length = a1 % L.length := Int.tmod_eq_emod_of_nonneg h1.1
  have hr0 := Int.emod_nonneg a1 (b := (L.length : Int)) (by omega)
  have hr1 := Int.emod_lt_of_pos a1 (b := (L.length : Int)) (by omega)
  obtain ⟨i, hi⟩ : ∃ i : Nat, a1 % (L.length : Int) = i := ⟨_, (Int.toNat_of_nonneg hr0).symm⟩
  have hi1 : i < L.length := by omega
  have em1 : a1.tmod L.length = i := by omega
  have em2 : (a1 % (L.length : Int)) = i := hi
  obtain ⟨n, hn, hn1⟩ : ∃ n : Nat, 1 + a3.tmod 32 = (n : Int) ∧ 0 < n ∧ n ≤ 32 := by
    have : a3.tmod 32 = a3 % 32 := Int.tmod_eq_emod_of_nonneg h3.1
    exact ⟨(1 + a3 % 32).toNat, by omega, by omega⟩
  have en1 : IntKind.i64.wrap (1 + a3.tmod 32) = n := by rw [hn]; exact IntWalk.i64_in _ (by omega)
  have en2 : IntKind.i64.wrap (1 + a3 % 32) = n := by rw [← Int.tmod_eq_emod_of_nonneg h3.1]; exact en1
  obtain ⟨t, hx⟩ : ∃ t, L[i]? = some t := ⟨L[i], List.getElem?_eq_getElem _⟩
  have hm := hM i t hx
  have hGd := hm.good
  have d1 : decide ((i : Int) < L.length) = true := by simp; omega
  have hpp : t.fs = [] ∨ ∃ b5 off5, t.p = some ⟨b5, off5, none⟩ := by
    obtain ⟨_, _, _, _, _, hok, _⟩ := hL.get hx
    rcases hok.f.at' with h | ⟨b5, off5, h, _⟩
    · exact .inl h
    · exact .inr ⟨b5, off5, h⟩
  have hend := pAll_eq (s := t.s) (a := a2) hGd h2.1 hn1.1
  have hbad := fun x hx => plain_at (s := t.s) hGd (x := x) hx
  have hsz := hm.size
  have hflx := fun (k : Nat) (x : Fd) (hx : t.fs[k]? = some x) => hm.field hx
  have hfw := (hL.get hx).choose_spec.choose_spec.2.2.2.1.f
  have hfl := hfw.len
  unfold maxLen at hfl
  have kp := fun (a z : Int) (ha : I64 a) W (h : Bl w W) => plain_any t a z W (hfw.gr h) ⟨by omega, by omega⟩ ha
  have cells0 := fun W (h : Bl w W) => (hL.gr h).get hx
  clear hm hM hH hfit hem hr0 hr1 hi hn hx hz hq hGd
  obtain ⟨tn, ts, tp, tc, tfs⟩ := t
  dsimp only at *
  have ksz := fun k W => tsize_any k W
  rcases hpp with hnil | ⟨b5, off5, rfl⟩
  · replace hnil : Hid (tfs = []) := hnil
    go_enter Try.func3, Try.ntmps3
    go_upto_region 6 with first | (go_at_call 5; refine kl.mono ?_; rintro e v1 ⟨rfl, hw⟩; rw [hw]; clear hw) | (go_at_call 7; refine kc.mono ?_; rintro e v2 ⟨rfl, hb2⟩)
    obtain ⟨b, off, hp, hb1, ⟨c0, c1, c2⟩, _, _⟩ := cells0 _ hb2
    subst hp
    have hbx : Bl v2 (v2.alloc (.cells #[.string tn, .int .i64 ts, .slice tp tfs.length tc] 30)) := (Bl.refl v2).alloc _
    have hX := heap_new v2 #[.string tn, .int .i64 ts, .slice tp tfs.length tc] 30
    clear kl kc cells0
    go_upto_region 7 with fail
    generalize (v2.alloc (.cells #[.string tn, .int .i64 ts, .slice tp tfs.length tc] 30)) = Wa at hbx hX ⊢
    generalize v2.heap.size = X at hX ⊢
    replace hb2 := hb2.trans hbx
    clear hbx c0 c1 c2 hb1
    go_wp2
    go_loopw [15, 16] (fun q v wr => ∃ k : Nat, v = .int .i64 k ∧ k ≤ n ∧ q = .bool (pAll ts tfs a2 k) ∧ Bl Wa wr) (fun q v _ => n - (intOf v).toNat)
    case atStart => exact ⟨0, rfl, by omega, rfl, Bl.refl _⟩
    case round =>
      obtain ⟨k, rfl, hk, rfl, hb⟩ := hrel
      have hXr := it_keep (w := w) hX hb
      have t0 : wr.cell? ⟨X, 0, none⟩ = some (.string tn) := (by rw [cell_at hXr]; rfl)
      have t1 : wr.cell? ⟨X, 1, none⟩ = some (.int .i64 ts) := (by rw [cell_at hXr]; rfl)
      have t2 : wr.cell? ⟨X, 2, none⟩ = some (.slice tp tfs.length tc) := (by rw [cell_at hXr]; rfl)
      by_cases hkn : k < n
      · have d2 : decide ((k : Int) < n) = true := by simp; omega
        have e8 : IntKind.i64.wrap ((k : Int) + 1) = (k : Int) + 1 := IntWalk.i64_in _ (by omega)
        have e7 : IntKind.i64.wrap (a2 + (k : Int)) = a2 + (k : Int) := IntWalk.i64_in _ (by omega)
        have hst : pAll ts tfs a2 (k + 1) = (pAll ts tfs a2 k && plainM ts tfs (a2 + k) 1) := rfl
        have kq := kp (a2 + k) 1 ⟨by omega, by omega⟩
        generalize pAll ts tfs a2 (k + 1) = q2 at hst
        cases hq9 : pAll ts tfs a2 k with
        | false =>
          rw [hq9] at hst
          replace hst : Hid (q2 = false) := hst
          go_wp2
          exact ⟨⟨k + 1, by simp, by omega, by rw [show pAll ts tfs a2 (k + 1) = false by rw [pAll, hq9]; rfl], hb⟩, by simp [intOf]; omega⟩
        | true =>
          rw [hq9] at hst
          have hst2 : pAll ts tfs a2 (k + 1) = plainM ts tfs (a2 + k) 1 := by rw [pAll, hq9]; rfl
          clear hst
          generalize plainM ts tfs (a2 + k) 1 = q3 at hst2 kq
          replace hst2 : Hid (pAll ts tfs a2 (k + 1) = q3) := hst2
          go_wp2_with (go_at_call 8; refine (kq _ (hb2.trans hb)).mono ?_; rintro e w5 ⟨rfl, hb5⟩)
          exact ⟨⟨k + 1, by simp, by omega, by rw [hst2.out], hb.trans hb5⟩, by simp [intOf]; omega⟩
      · have d2 : decide ((k : Int) < n) = false := by simp; omega
        obtain hkn2 : k = n := by omega
        rw [hkn2, ← hend]
        rw [hkn2] at d2
        clear hkn hkn2 hk t0 t1 t2 hXr
        have kend := kp a2 n ⟨by omega, by omega⟩
        generalize plainM ts tfs a2 n = q at kend
        go_wp2
        go_loopw [17] (fun v wr => ∃ k : Nat, v = .int .i64 k ∧ k ≤ tfs.length ∧ Bl Wa wr) (fun v _ => tfs.length - (intOf v).toNat)
        case atStart => exact ⟨0, rfl, by omega, hb⟩
        case round =>
          clear hb
          obtain ⟨m, rfl, hmk, hb⟩ := hrel
          have hXr := it_keep (w := w) hX hb
          by_cases hmt : m < tfs.length
          · exact absurd hmt (by rw [hnil.out]; simp)
          · have d3 : decide ((m : Int) < tfs.length) = false := by simp; omega
            have t0 : wr.cell? ⟨X, 0, none⟩ = some (.string tn) := (by rw [cell_at hXr]; rfl)
            have t1 : wr.cell? ⟨X, 1, none⟩ = some (.int .i64 ts) := (by rw [cell_at hXr]; rfl)
            have t2 : wr.cell? ⟨X, 2, none⟩ = some (.slice tp tfs.length tc) := (by rw [cell_at hXr]; rfl)
            have eqq : (q == q) = true := by simp
            go_wp2_with first | (go_at_call 8; refine (kend _ (hb2.trans hb)).mono ?_; rintro e w5 ⟨rfl, hb5⟩) | (go_at_call 6; refine (hal _).mono ?_; rintro e w6 ⟨rfl, hb6⟩)
            go_returns
            exact ⟨rfl, (hb2.trans hb).trans (hb5.trans hb6)⟩
  · go_enter Try.func3, Try.ntmps3
    go_upto_region 6 with first | (go_at_call 5; refine kl.mono ?_; rintro e v1 ⟨rfl, hw⟩; rw [hw]; clear hw) | (go_at_call 7; refine kc.mono ?_; rintro e v2 ⟨rfl, hb2⟩)
    obtain ⟨b, off, hp, hb1, ⟨c0, c1, c2⟩, _, _⟩ := cells0 _ hb2
    subst hp
    have hbx : Bl v2 (v2.alloc (.cells #[.string tn, .int .i64 ts, .slice (some ⟨b5, off5, none⟩) tfs.length tc] 30)) := (Bl.refl v2).alloc _
    have hX := heap_new v2 #[.string tn, .int .i64 ts, .slice (some ⟨b5, off5, none⟩) tfs.length tc] 30
    clear kl kc cells0
    go_upto_region 7 with fail
    generalize (v2.alloc (.cells #[.string tn, .int .i64 ts, .slice (some ⟨b5, off5, none⟩) tfs.length tc] 30)) = Wa at hbx hX ⊢
    generalize v2.heap.size = X at hX ⊢
    replace hb2 := hb2.trans hbx
    clear hbx c0 c1 c2 hb1
    go_wp2
    go_loopw [15, 16] (fun q v wr => ∃ k : Nat, v = .int .i64 k ∧ k ≤ n ∧ q = .bool (pAll ts tfs a2 k) ∧ Bl Wa wr) (fun q v _ => n - (intOf v).toNat)
    case atStart => exact ⟨0, rfl, by omega, rfl, Bl.refl _⟩
    case round =>
      obtain ⟨k, rfl, hk, rfl, hb⟩ := hrel
      have hXr := it_keep (w := w) hX hb
      have t0 : wr.cell? ⟨X, 0, none⟩ = some (.string tn) := (by rw [cell_at hXr]; rfl)
      have t1 : wr.cell? ⟨X, 1, none⟩ = some (.int .i64 ts) := (by rw [cell_at hXr]; rfl)
      have t2 : wr.cell? ⟨X, 2, none⟩ = some (.slice (some ⟨b5, off5, none⟩) tfs.length tc) := (by rw [cell_at hXr]; rfl)
      by_cases hkn : k < n
      · have d2 : decide ((k : Int) < n) = true := by simp; omega
        have e8 : IntKind.i64.wrap ((k : Int) + 1) = (k : Int) + 1 := IntWalk.i64_in _ (by omega)
        have e7 : IntKind.i64.wrap (a2 + (k : Int)) = a2 + (k : Int) := IntWalk.i64_in _ (by omega)
        have hst : pAll ts tfs a2 (k + 1) = (pAll ts tfs a2 k && plainM ts tfs (a2 + k) 1) := rfl
        have kq := kp (a2 + k) 1 ⟨by omega, by omega⟩
        generalize pAll ts tfs a2 (k + 1) = q2 at hst
        cases hq9 : pAll ts tfs a2 k with
        | false =>
          rw [hq9] at hst
          replace hst : Hid (q2 = false) := hst
          go_wp2
          exact ⟨⟨k + 1, by simp, by omega, by rw [show pAll ts tfs a2 (k + 1) = false by rw [pAll, hq9]; rfl], hb⟩, by simp [intOf]; omega⟩
        | true =>
          rw [hq9] at hst
          have hst2 : pAll ts tfs a2 (k + 1) = plainM ts tfs (a2 + k) 1 := by rw [pAll, hq9]; rfl
          clear hst
          generalize plainM ts tfs (a2 + k) 1 = q3 at hst2 kq
          replace hst2 : Hid (pAll ts tfs a2 (k + 1) = q3) := hst2
          go_wp2_with (go_at_call 8; refine (kq _ (hb2.trans hb)).mono ?_; rintro e w5 ⟨rfl, hb5⟩)
          exact ⟨⟨k + 1, by simp, by omega, by rw [hst2.out], hb.trans hb5⟩, by simp [intOf]; omega⟩
      · have d2 : decide ((k : Int) < n) = false := by simp; omega
        obtain hkn2 : k = n := by omega
        rw [hkn2, ← hend]
        rw [hkn2] at d2
        clear hkn hkn2 hk t0 t1 t2 hXr
        have kend := kp a2 n ⟨by omega, by omega⟩
        generalize plainM ts tfs a2 n = q at kend
        go_wp2
        go_loopw [17] (fun v wr => ∃ k : Nat, v = .int .i64 k ∧ k ≤ tfs.length ∧ Bl Wa wr) (fun v _ => tfs.length - (intOf v).toNat)
        case atStart => exact ⟨0, rfl, by omega, hb⟩
        case round =>
          clear hb
          obtain ⟨m, rfl, hmk, hb⟩ := hrel
          have hXr := it_keep (w := w) hX hb
          by_cases hmt : m < tfs.length
          · have d3 : decide ((m : Int) < tfs.length) = true := by simp; omega
            have e6 : IntKind.i64.wrap ((m : Int) + 1) = (m : Int) + 1 := IntWalk.i64_in _ (by omega)
            obtain ⟨x, hxm⟩ : ∃ x, tfs[m]? = some x := ⟨tfs[m], List.getElem?_eq_getElem _⟩
            have hf6 := (hfw.gr (hb2.trans hb)).get hxm
            obtain ⟨b6, off6, hp6, hb6, hz6, hxok, _⟩ := hf6
            cases hp6
            obtain ⟨_, _, f3, f4, f5, _⟩ := hflx m x hxm
            obtain ⟨w1, w2⟩ := hbad x (List.mem_of_getElem? hxm)
            have hsb := sizeM_bd x.k
            have i1 : I64 x.a := ⟨by omega, by omega⟩
            have i2 : I64 (x.a + sizeM x.k - 1) := ⟨by omega, by omega⟩
            have s5 : IntKind.i64.wrap (x.a + sizeM x.k) = x.a + sizeM x.k := IntWalk.i64_in _ (by omega)
            have s6 : IntKind.i64.wrap (x.a + sizeM x.k - 1) = x.a + sizeM x.k - 1 := IntWalk.i64_in _ (by omega)
            have ks := ksz x.k
            have kb : ∀ a, (plainM ts tfs a 1 = false ∧ I64 a) → ∀ W, Bl w W → Calls Try.prog 8 #[.agg #[.string tn, .int .i64 ts, .slice (some ⟨b5, off5, none⟩) tfs.length tc], .int .i64 a, .int .i64 1] W fun e w' => e = .returned (.bool false) ∧ Bl W w' := fun a ha W h => by
              have := kp a 1 ha.2 W h
              rwa [ha.1] at this
            have b1 := And.intro w1 i1
            have b2 := And.intro w2 i2
            clear hxm w1 w2 i1 i2 f3 f4 f5
            generalize sizeM x.k = z at ks s5 s6 b2 hsb
            clear hsb
            have hz0 := hz6
            obtain ⟨z0, z1, z2, z3, z4⟩ := hz0
            have t0 : wr.cell? ⟨X, 0, none⟩ = some (.string tn) := (by rw [cell_at hXr]; rfl)
            have t1 : wr.cell? ⟨X, 1, none⟩ = some (.int .i64 ts) := (by rw [cell_at hXr]; rfl)
            have t2 : wr.cell? ⟨X, 2, none⟩ = some (.slice (some ⟨b5, off5, none⟩) tfs.length tc) := (by rw [cell_at hXr]; rfl)
            go_upto_region 16 with fail
            clear z0 z1 z2 z3 z4 t0 t1 t2
            have hne : Nonempty (BlBy wr) := ⟨⟨_, Bl.refl _⟩⟩
            have t0 := fun p : BlBy wr => (show p.wo.cell? ⟨X, 0, none⟩ = some (.string tn) by rw [cell_at (it_keep (w := w) hXr p.bl)]; rfl)
            have t1 := fun p : BlBy wr => (show p.wo.cell? ⟨X, 1, none⟩ = some (.int .i64 ts) by rw [cell_at (it_keep (w := w) hXr p.bl)]; rfl)
            have t2 := fun p : BlBy wr => (show p.wo.cell? ⟨X, 2, none⟩ = some (.slice (some ⟨b5, off5, none⟩) tfs.length tc) by rw [cell_at (it_keep (w := w) hXr p.bl)]; rfl)
            have z0 := fun p : BlBy wr => (hz6.gr hb6 p.bl).1
            have z1 := fun p : BlBy wr => (hz6.gr hb6 p.bl).2.1
            have z2 := fun p : BlBy wr => (hz6.gr hb6 p.bl).2.2.1
            refine wp_region_bl (by kernel_rfl) (by kernel_rfl) ?_
            repeat (first
              | go_big_quiet_skip
              | (go_big_quiet_want; go_big_quiet_op; first
                | go_big_quiet_on
                | (apply Exists.intro
                   refine ⟨fun p => ?_, ?_⟩
                   · first
                       | (go_at_call 8; exact calls_bl (kb _ (by first | exact b1 | exact b2) _ ((hb2.trans hb).trans p.bl)))
                       | (go_at_call 9; exact calls_eq (ks _))
                   go_big_quiet_on)))
            refine wpQuiet_nil ?_
            intro _ hw'
            obtain ⟨⟨wq, hq⟩, rfl⟩ := hw'
            go_wp2
            exact ⟨⟨m + 1, by simp, by omega, hb.trans hq⟩, by simp [intOf]; omega⟩
          · have d3 : decide ((m : Int) < tfs.length) = false := by simp; omega
            have t0 : wr.cell? ⟨X, 0, none⟩ = some (.string tn) := (by rw [cell_at hXr]; rfl)
            have t1 : wr.cell? ⟨X, 1, none⟩ = some (.int .i64 ts) := (by rw [cell_at hXr]; rfl)
            have t2 : wr.cell? ⟨X, 2, none⟩ = some (.slice (some ⟨b5, off5, none⟩) tfs.length tc) := (by rw [cell_at hXr]; rfl)
            have eqq : (q == q) = true := by simp
            go_wp2_with first | (go_at_call 8; refine (kend _ (hb2.trans hb)).mono ?_; rintro e w5 ⟨rfl, hb5⟩) | (go_at_call 6; refine (hal _).mono ?_; rintro e w6 ⟨rfl, hb6⟩)
            go_returns
            exact ⟨rfl, (hb2.trans hb).trans (hb5.trans hb6)⟩
end Go.Proofs.Ytmcjmdoeafhjpab
