/- TreeBack: a handle which is put in and taken out again leaves all others where they were, wherever it stood; and one that is taken out and put back stands as before (P16.1, P16.3), for any numbers: the statement as given. No condition. -/
import Derived.Test.YthgmfcklipkbiaaTY
import Derived.WalkKit
import Derived.ProofKit
import Derived.OpenShut
import Derived.ShutString
namespace Go.Proofs.Ythgmfcklipkbiaa.treeBack
open Go.ChangeShapes Go.WideShapes Go.ChangeAt Go.RowKit
open Go.ChangeMaps (open_string shut_string)
set_option linter.unusedVariables false
set_option linter.unusedSimpArgs false

theorem own : ownKnob Try.prog.godebug = none := by kernel_rfl

set_option maxRecDepth 100000 in
set_option maxHeartbeats 16000000 in
theorem walk (a0 : Int) (p1 : Option Addr) (L1 : List Int) (c1 : Nat) (w : World) (w0 : (Lit.int .u8 a0).wf = true) (hL1 : Row8 w p1 L1) :
    Calls Try.prog 7 #[.int .u8 a0, .slice p1 L1.length c1] w fun e w' => e = .returned (.bool true) ∧ Below w.heap.size w w' := by
  obtain ⟨mm, rfl⟩ : ∃ M : Nat, a0 = M := ⟨a0.toNat, by have := wf_u8 w0; omega⟩
  have hmm : mm ≤ 255 := by have := wf_u8 w0; omega
  have kw := fun W => works_any W
  by_cases hlong : 200 < L1.length
  · have d : decide ((200 : Int) < (L1.length : Int)) = true := by simp; omega
    go_enter Try.func7, Try.ntmps7
    go_wp2_with (go_at_call 8; refine (kw _).mono ?_; rintro e w3 ⟨rfl, hb⟩)
    all_goals go_returns
    exact ⟨rfl, hb⟩
  have d1 : decide ((200 : Int) < (L1.length : Int)) = false := by simp; omega
  have k1 := new_tk w
  obtain ⟨N0, hN, hN8⟩ : ∃ N : Nat, (mm : Int).tmod 100 = (N : Int) ∧ N < 100 := ⟨mm % 100, by rw [Int.tmod_eq_emod_of_nonneg (by omega)]; omega, by omega⟩
  have e0 : IntKind.u8.wrap (N0 : Int) = N0 := IntWalk.u8_in _ (by omega)
  have e1 : IntKind.i64.wrap (N0 : Int) = N0 := IntWalk.i64_in _ (by omega)
  obtain ⟨N, hNN⟩ : ∃ N, N0 + 1 = N := ⟨_, rfl⟩
  have e2 : IntKind.i64.wrap ((N0 : Int) + 1) = (N : Int) := by rw [IntWalk.i64_in _ (by omega)]; omega
  have hN1 : 0 < N ∧ N ≤ 100 := by omega
  go_enter Try.func7, Try.ntmps7
  go_upto_region 4 with (go_at_call 9; refine k1.mono ?_; rintro e w1 ⟨b, rfl, h1, hb1⟩)
  clear k1
  generalize hB0 : w.heap.size = B at h1 hb1 ⊢
  replace hB0 : Hid _ := hB0
  replace hL1 : Hid _ := hL1
  rw [show ([] : List HKey) = keysN 0 from rfl] at h1
  go_wp2
  clear hN e0 e1 e2 d1 hNN
  go_loopw [7] (fun n7 wr => ∃ i : Nat, n7 = .int .i64 i ∧ i ≤ N ∧ Tk wr B b (keysN i) ∧ Below B w wr) (fun n7 _ => N - (valOf n7).toNat)
  case atStart => exact ⟨0, rfl, by omega, h1, hb1⟩
  case round =>
    clear h1 hb1
    obtain ⟨i, rfl, hi, hTk, hbl⟩ := hrel
    by_cases hin : i < N
    · have d : decide ((i : Int) < N) = true := by simp; omega
      have e9 : IntKind.i64.wrap ((i : Int) + 1) = (i : Int) + 1 := IntWalk.i64_in _ (by omega)
      have k2 := one16 (i : Int) wr
      have k3 := fun W hb => ins_yes (hTk.keep (w' := W) hb) i (by rw [keysN_len]; omega) ((i : Int), 1) (keysN_not (by omega)) (by rw [keysN_len]; omega)
      simp only [keysN_put] at k3
      go_wp2_with (first
        | (go_at_call 18; go_loud (refine k2.mono ?_; rintro e w3 ⟨rfl, hb3⟩))
        | (go_at_call 13; go_loud (refine (k3 _ hb3).mono ?_; rintro e w4 ⟨rfl, h4, hF4⟩)))
      exact ⟨⟨i + 1, by simp, by omega, h4, (hbl.trans (hb3.mono hTk.size)).trans hF4.bel⟩, by simp [valOf]; omega⟩
    · have d : decide ((i : Int) < N) = false := by simp; omega
      obtain rfl : i = N := by omega
      go_wp2
      go_loopw [8, 9, 10, 11, 12, 13, 14, 15] (fun n8 _ _ _ _ _ _ _ wr => ∃ g : Nat, n8 = .int .i64 g ∧ g ≤ L1.length ∧ Tk wr B b (keysN i) ∧ Below B w wr) (fun n8 _ _ _ _ _ _ _ _ => L1.length - (valOf n8).toNat)
      case atStart => exact ⟨0, rfl, by omega, hTk, hbl⟩
      case round =>
        clear hTk hbl
        obtain ⟨g, rfl, hg, hTk, hbl⟩ := hrel
        by_cases hgl : g < L1.length
        · have dg : decide ((g : Int) < L1.length) = true := by simp; omega
          have e9 : IntKind.i64.wrap ((g : Int) + 1) = (g : Int) + 1 := IntWalk.i64_in _ (by omega)
          obtain ⟨xb, xo, x, hxj, hxc, hxr, hxb, hai⟩ := idx8 hL1.out hgl
          obtain ⟨c, rfl⟩ : ∃ c : Nat, x = c := ⟨x.toNat, by omega⟩
          have hB1 := hB0.out
          have hbs := hbl.size
          have r0 := (hbl.cell (p := ⟨xb, xo, none⟩) (by simp; omega)).trans hxc
          have hai' := hai c1
          have ec : IntKind.i64.wrap (c : Int) = c := IntWalk.i64_in _ (by omega)
          obtain ⟨j, hjm, hj⟩ : ∃ j : Nat, (c : Int).tmod ((i : Int) + 1) = (j : Int) ∧ j ≤ i := ⟨c % (i + 1), by rw [Int.tmod_eq_emod_of_nonneg (by omega)]; simp, by have := Nat.mod_lt c (show 0 < i + 1 by omega); omega⟩
          have ei : IntKind.i64.wrap ((i : Int) + 1) = (i : Int) + 1 := IntWalk.i64_in _ (by omega)
          have nz : ((i : Int) + 1 == 0) = false := by rw [beq_eq_false_iff_ne]; omega
          have nz' : ¬ ((i : Int) + 1 = 0) := by omega
          have ej : IntKind.i64.wrap (j : Int) = j := IntWalk.i64_in _ (by omega)
          go_upto_region 14 with fail
          clear hjm r0 hai hai' hxc hxb hxj ec nz nz' ei
          have k2 := one16 1000 wr
          have hjK : j ≤ (keysN i).length := by rw [keysN_len]; exact hj
          have k3 := fun W hb => ins_yes (hTk.keep (w' := W) hb) j hjK ((1000 : Int), 1) (keysN_not (by omega)) (by rw [keysN_len]; omega)
          go_upto_region 16 with (first
            | (go_at_call 18; go_loud (refine k2.mono ?_; rintro e w3 ⟨rfl, hb3⟩))
            | (go_at_call 13; go_loud (refine (k3 _ hb3).mono ?_; rintro e w4 ⟨rfl, h4, hF4⟩)))
          have e4 : Below B w w4 := (hbl.trans (hb3.mono hTk.size)).trans hF4.bel
          have k5 := one16 1000 w4
          have k6 := fun W hb => rem_yes (h4.keep (w' := W) hb) j _ (ins_at j ((1000 : Int), 1) hjK)
          rw [cut_ins j _ hjK] at k6
          clear k2 k3 hTk hbl hb3 hF4
          have jj : ((j : Int) == (j : Int)) = true := by simp
          go_upto_region 19 with (first
            | (go_at_call 18; go_loud (refine k5.mono ?_; rintro e w5 ⟨rfl, hb5⟩))
            | (go_at_call 11; go_loud (refine (k6 _ hb5).mono ?_; rintro e w6 ⟨rfl, h6, hF6⟩)))
          have e6 : Below B w w6 := (e4.trans (hb5.mono h4.size)).trans hF6.bel
          clear k5 k6 h4 e4 hb5 hF6
          obtain ⟨q, hqm, hq⟩ : ∃ q : Nat, (j : Int).tmod (i : Int) = (q : Int) ∧ q < i := ⟨j % i, by rw [Int.tmod_eq_emod_of_nonneg (by omega)]; simp, Nat.mod_lt j (by omega)⟩
          have nz : ((i : Int) == 0) = false := by rw [beq_eq_false_iff_ne]; omega
          have nz' : ¬ ((i : Int) = 0) := by omega
          have nz2 : ¬ i = 0 := by omega
          have eq9 : IntKind.i64.wrap (q : Int) = q := IntWalk.i64_in _ (by omega)
          have hqk := keysN_at hq
          have k7 := at_yes h6 q _ hqk
          simp only at k7
          go_upto_region 20 with (go_at_call 15; go_loud (refine k7.mono ?_; rintro e w7 ⟨rfl, hb7⟩))
          have h8 := (h6.keep hb7).alloc (.cells #[.int .i64 q, .int .u64 1] 34)
          have za := heap_alloc_new w7 (.cells #[.int .i64 q, .int .u64 1] 34)
          have e8 : Below B w (w7.alloc (.cells #[.int .i64 q, .int .u64 1] 34)) := (e6.trans (hb7.mono h6.size)).alloc (h6.keep hb7).size _
          clear k7 h6 hb7 e6
          try simp only [show (((1 : Nat) : Int)) = 1 from rfl]
          generalize w7.alloc (.cells #[.int .i64 q, .int .u64 1] 34) = w8 at h8 za e8 ⊢
          generalize w7.heap.size = z at za ⊢
          have z0 := cell_of za 0
          have z1 := cell_of za 1
          simp at z0 z1
          have k9 := rem_yes h8 q _ hqk
          have hkn := h8.nd
          go_upto_region 21 with (go_at_call 11; go_loud (refine k9.mono ?_; rintro e w9 ⟨rfl, h9, hF9⟩))
          have za9 := hF9.keep _ _ _ za (by decide)
          have e9' := e8.trans hF9.bel
          clear k9 z0 z1 za h8 hF9 e8
          have z0 := cell_of za9 0
          have z1 := cell_of za9 1
          simp at z0 z1
          have k10 := ins_yes h9 q (by rw [cut_len q (by rw [keysN_len]; exact hq), keysN_len]; omega) ((q : Int), 1) (cut_not hkn hqk) (by rw [cut_len q (by rw [keysN_len]; exact hq), keysN_len]; omega)
          rw [ins_cut q _ hqk] at k10
          have qq : ((q : Int) == (q : Int)) = true := by simp
          go_wp2_with (go_at_call 13; go_loud (refine k10.mono ?_; rintro e w10 ⟨rfl, h10, hF10⟩))
          exact ⟨⟨g + 1, by simp, by omega, h10, e9'.trans hF10.bel⟩, by simp [valOf]; omega⟩
        · have dg : decide ((g : Int) < L1.length) = false := by simp; omega
          have k23 := all_tk wr B b _ hTk
          rw [keysN_len] at k23
          go_upto_region 24 with (go_at_call 22; go_loud (refine k23.mono ?_; rintro e w3 ⟨v, rfl, hrow, hb3⟩; obtain ⟨vp, vc, rfl⟩ : ∃ p cap, v = .slice p i cap := own_shape hrow))
          have e3 : Below B w w3 := hbl.trans (hb3.mono hTk.size)
          replace hrow := row_base hrow hTk.size
          have hs3 : B ≤ w3.heap.size := Nat.le_trans hTk.size hb3.size
          clear k23 hTk hbl hb3
          go_wp2
          go_loopw [17] (fun n17 wk => ∃ k : Nat, n17 = .int .i64 k ∧ k ≤ i ∧ Below w3.heap.size w3 wk) (fun n17 _ => i - (valOf n17).toNat)
          case atStart => exact ⟨0, rfl, by omega, Below.refl _ _⟩
          case round =>
            obtain ⟨k, rfl, hk, hbk⟩ := hrel
            by_cases hki : k < i
            · have dk : decide ((k : Int) < i) = true := by simp; omega
              have e9 : IntKind.i64.wrap ((k : Int) + 1) = (k : Int) + 1 := IntWalk.i64_in _ (by omega)
              have hrk := row_kept hrow fun g hg => hbk.block g (hrow.lt g hg).2
              have hrk' : wr.ownsRow B 34 2 (.slice vp (keysN i).length vc) (keysN i).length (hCells (keysN i)) := by rw [keysN_len]; exact hrk
              obtain ⟨gg, y, hy, hgl', hgo, hc0, hc1, hai⟩ := idx34 hrk' (j := k) (by rw [keysN_len]; exact hki) (by rw [keysN_len]; omega)
              rw [keysN_at hki] at hy
              obtain rfl := Option.some.inj hy
              simp only at hc0 hc1
              rw [keysN_len] at hai
              have nq := fun W => neqH (k : Int) k 1 1 W
              simp only [beq_self_eq_true, Bool.and_self, Bool.not_true] at nq
              have kO := fun p : BlBy wr => one16 (k : Int) p.wo
              have x0 := fun p : BlBy wr => (p.bl.cell (p := ⟨gg, k * 2, none⟩) hgl').trans hc0
              have x1 := fun p : BlBy wr => (p.bl.cell (p := ⟨gg, k * 2 + 1, none⟩) hgl').trans hc1
              go_upto_region 27 with fail
              try dsimp only [List.append]
              try simp only [List.append_eq, List.cons_append, List.nil_append]
              have hne : Nonempty (BlBy wr) := ⟨⟨wr, Below.refl _ wr⟩⟩
              refine wp_region_bl (by kernel_rfl) (by kernel_rfl) ?_
              repeat (first
                | go_big_quiet_skip
                | (go_big_quiet_want; go_big_quiet_op; first
                  | go_big_quiet_on
                  | (apply Exists.intro
                     refine ⟨fun p => ?_, ?_⟩
                     · first
                         | (go_at_call 18; exact calls_bl (kO p))
                     go_big_quiet_on)))
              refine wpQuiet_nil ?_
              intro wq hw'
              obtain ⟨⟨wq2, hq⟩, e⟩ := hw'
              simp only at e
              subst e
              clear x0 x1 hc0 hc1 hai kO nq
              go_wp2
              exact ⟨⟨k + 1, by simp, by omega, hbk.trans (hq.mono hbk.size)⟩, by simp [valOf]; omega⟩
            · have dk : decide ((k : Int) < i) = false := by simp; omega
              have ii : ((i : Int) == (i : Int)) = true := by simp
              go_wp2_with (go_at_call 8; refine (kw _).mono ?_; rintro e w4 ⟨rfl, hb4⟩)
              all_goals go_returns
              exact ⟨rfl, by rw [hB0.out]; exact (e3.trans (hbk.mono hs3)).trans (hb4.mono (Nat.le_trans hs3 hbk.size))⟩

theorem readable : ∀ t ∈ Try.f7.params.toList, Try.prog.readableRec t = true ∧ t < Try.prog.types.size := by
  rw [Try.params7]
  intro t ht
  simp at ht
  rcases ht with rfl | rfl
  all_goals exact ⟨by kernel_rfl, of_decide_eq_true (by kernel_rfl)⟩
set_option maxRecDepth 100000 in
theorem lifted (os : Os) (started : os.Started) (H : Type) (enc : TypeId × Value → H) :
    ReturnsInHanded {} Try.checked os 7 .any (Rows.treeBackSpec.pre6 enc Try.prog Try.f7 Rows.treeBackRow.domain false) (Rows.treeBackSpec.post enc Try.prog Try.f7 false true false false) := by
  refine returnsInHanded_of_change (C := Try.checked) own started (by kernel_rfl) Try.func7
    (ChangeSpec.witness6 (enc := enc) (C := Try.checked) false ⟨#[], #[.int .u8 0, .slice none 0 0], []⟩ 8 (by kernel_rfl) (by kernel_rfl) (by kernel_rfl) (by kernel_rfl)) ?_
  intro W base args ds gs before hval0 hW hcnd _
  have hval : ∀ (j : Nat) t v, Try.f7.params[j]? = some t → args[j]? = some v → Value.okWide Try.prog W .any base t v := hval0
  have hW' := hW
  obtain ⟨p, q, hA0, hV, rfl, hfz, hnd⟩ := hW
  have hA : DataW.TrodAll enc Try.prog W 0 (fun _ => true) true Try.f7.params.toList args.toList ds p := hA0
  rw [Try.params7] at hA hval
  obtain ⟨v0, vs0, d0, ds0, p0, q0, hargs, rfl, rfl, h0, r0⟩ := trodAll_cons hA
  obtain ⟨v1, vs1, d1, ds1, p1, q1, rfl, rfl, rfl, h1, r1⟩ := trodAll_cons r0
  obtain ⟨rfl, rfl, rfl⟩ := trodAll_nil r1
  obtain rfl : args = #[v0, v1] := by cases args; simp_all
  obtain ⟨rfl, rfl⟩ := trodVars_none hV
  obtain ⟨a0, rfl, rfl, rfl, w0⟩ := open_int Try.underlying5 (hval 0 5 v0 rfl rfl) h0
  obtain ⟨p1, L1, c1, rfl, hL1⟩ := open_row8 (hval 1 55 v1 rfl rfl) h1
  clear hA0 hval0
  refine (walk a0 p1 L1 c1 W w0 hL1).mono fun e W' ⟨he, hg⟩ => ?_
  subst he
  exact ⟨_, rfl, post_bel readable hW' rfl (fun _ _ _ => (trodAll_cons_mk (shut_bool Try.underlying4 _) trodAll_mk0)) rfl (fun _ => rfl)
    hg (ok_one (by kernel_rfl) rfl (okWide_bool_mk Try.underlying4 _))⟩

theorem over : Rows.treeBackRow.holds Try.pinned (OpenSpec.ofChange Rows.treeBackSpec) :=
  OpenClaim.holds_of_wide 7 Try.f7 rfl rfl rfl rfl rfl rfl rfl ⟨rfl, rfl, rfl, rfl, rfl⟩ rfl rfl rfl rfl rfl (by kernel_rfl) Try.func7 (by kernel_rfl)
    (of_decide_eq_true (by kernel_rfl)) (by unfold Func.isWrapper; first | (rw [if_pos (by decide +kernel)]; kernel_rfl) | (rw [if_neg (by decide +kernel)]; exact ⟨rfl, rfl⟩))
    (fun os started H enc _ => lifted os started H enc)

theorem proved : Rows.TreeBackSaid :=
  over
end Go.Proofs.Ythgmfcklipkbiaa.treeBack
namespace Go.Proofs.Ythgmfcklipkbiaa
theorem treeBack_holds : Rows.TreeBackSaid :=
  treeBack.proved
#print axioms treeBack_holds
end Go.Proofs.Ythgmfcklipkbiaa
