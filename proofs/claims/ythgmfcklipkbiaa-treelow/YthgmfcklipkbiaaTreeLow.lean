/- TreeLow (the theorem of stage 16): a tree of very many handles, put at whatever places, and taken away again, stays low, and in its order (P16.3), for any numbers: the statement as given. No condition. -/
import Derived.Test.YthgmfcklipkbiaaTZ
import Derived.WalkKit
import Derived.ProofKit
import Derived.OpenShut
import Derived.ShutString
namespace Go.Proofs.Ythgmfcklipkbiaa.treeLow
open Go.ChangeShapes Go.WideShapes Go.ChangeAt Go.RowKit
open Go.ChangeMaps (open_string shut_string)
set_option linter.unusedVariables false
set_option linter.unusedSimpArgs false

theorem own : ownKnob Try.prog.godebug = none := by kernel_rfl

set_option maxRecDepth 100000 in
set_option maxHeartbeats 16000000 in
theorem walk (a0 : Int) (p1 : Option Addr) (L1 : List Int) (c1 : Nat) (p2 : Option Addr) (L2 : List Int) (c2 : Nat) (w : World) (w0 : (Lit.int .u16 a0).wf = true) (hL1 : Row16 w p1 L1) (hL2 : Row16 w p2 L2) :
    Calls Try.prog 4 #[.int .u16 a0, .slice p1 L1.length c1, .slice p2 L2.length c2] w fun e w' => e = .returned (.bool true) ∧ Below w.heap.size w w' := by
  obtain ⟨mm, rfl⟩ : ∃ M : Nat, a0 = M := ⟨a0.toNat, by have := wf_u16 w0; omega⟩
  have hmm : mm ≤ 65535 := by have := wf_u16 w0; omega
  have kw := fun W => works_any W
  by_cases hlong : 500 < L1.length ∨ 500 < L2.length
  · by_cases h1 : 500 < L1.length
    · have d : decide ((500 : Int) < (L1.length : Int)) = true := by simp; omega
      go_enter Try.func4, Try.ntmps4
      go_wp2_with (go_at_call 8; refine (kw _).mono ?_; rintro e w3 ⟨rfl, hb⟩)
      all_goals go_returns
      exact ⟨rfl, hb⟩
    · have d : decide ((500 : Int) < (L1.length : Int)) = false := by simp; omega
      have d2 : decide ((500 : Int) < (L2.length : Int)) = true := by simp; omega
      go_enter Try.func4, Try.ntmps4
      go_wp2_with (go_at_call 8; refine (kw _).mono ?_; rintro e w3 ⟨rfl, hb⟩)
      all_goals go_returns
      exact ⟨rfl, hb⟩
  have d1 : decide ((500 : Int) < (L1.length : Int)) = false := by simp; omega
  have d2 : decide ((500 : Int) < (L2.length : Int)) = false := by simp; omega
  have k1 := new_tk w
  obtain ⟨N, hN, hN8⟩ : ∃ N : Nat, (mm : Int).tmod 800 = (N : Int) ∧ N < 800 := ⟨mm % 800, by rw [Int.tmod_eq_emod_of_nonneg (by omega)]; omega, by omega⟩
  have e0 : IntKind.i64.wrap (mm : Int) = mm := IntWalk.i64_in _ (by omega)
  have e1 : IntKind.i64.wrap (N : Int) = N := IntWalk.i64_in _ (by omega)
  go_enter Try.func4, Try.ntmps4
  go_upto_region 4 with (go_at_call 9; refine k1.mono ?_; rintro e w1 ⟨b, rfl, h1, hb1⟩)
  clear k1
  generalize hB0 : w.heap.size = B at h1 hb1 ⊢
  replace hB0 : Hid _ := hB0
  replace hL1 : Hid _ := hL1
  replace hL2 : Hid _ := hL2
  go_wp2
  clear hN e0 e1 d1 d2
  go_loopw [9, 10, 11, 12] (fun n9 _ _ _ wr => ∃ (i : Nat) (K : List HKey), n9 = .int .i64 i ∧ i ≤ N ∧ Tk wr B b K ∧ K.length = i ∧ (∀ x ∈ K, x.1 < (i : Int)) ∧ Below B w wr) (fun n9 _ _ _ _ => N - (valOf n9).toNat)
  case atStart => exact ⟨0, [], rfl, by omega, h1, rfl, by simp, hb1⟩
  case round =>
    clear h1 hb1
    obtain ⟨i, K, rfl, hi, hTk, hlK, hKb, hbl⟩ := hrel
    by_cases hin : i < N
    · have d : decide ((i : Int) < N) = true := by simp; omega
      have e9 : IntKind.i64.wrap ((i : Int) + 1) = (i : Int) + 1 := IntWalk.i64_in _ (by omega)
      by_cases hil : i < L1.length
      · have dj : decide ((i : Int) < L1.length) = true := by simp; omega
        obtain ⟨xb, xo, x, hxj, hxc, hxr, hxb, hai⟩ := idx16 hL1.out hil
        obtain ⟨c, rfl⟩ : ∃ c : Nat, x = c := ⟨x.toNat, by omega⟩
        have hB1 := hB0.out
        have hbs := hbl.size
        have r0 := (hbl.cell (p := ⟨xb, xo, none⟩) (by simp; omega)).trans hxc
        have hai' := hai c1
        have ec : IntKind.i64.wrap (c : Int) = c := IntWalk.i64_in _ (by omega)
        obtain ⟨j, hjm, hj⟩ : ∃ j : Nat, (c : Int).tmod ((i : Int) + 1) = (j : Int) ∧ j ≤ i := ⟨c % (i + 1), by rw [Int.tmod_eq_emod_of_nonneg (by omega)]; simp, by have := Nat.mod_lt c (show 0 < i + 1 by omega); omega⟩
        have nz : ((i : Int) + 1 == 0) = false := by rw [beq_eq_false_iff_ne]; omega
        have nz' : ¬ ((i : Int) + 1 = 0) := by omega
        have ej : IntKind.i64.wrap (j : Int) = j := IntWalk.i64_in _ (by omega)
        go_upto_region 11 with fail
        clear hjm r0 hai hai' hxc hxb hxj ec nz nz' ej
        have k2 := one16 (i : Int) wr
        have hnk : (((i : Int), 1) : HKey) ∉ K := fun q => by have := hKb _ q; simp at this
        have hjK : j ≤ K.length := by omega
        have k3 := fun W hb => ins_yes (hTk.keep (w' := W) hb) j hjK ((i : Int), 1) hnk (by omega)
        go_upto_region 13 with (first
          | (go_at_call 18; go_loud (refine k2.mono ?_; rintro e w3 ⟨rfl, hb3⟩))
          | (go_at_call 13; go_loud (refine (k3 _ hb3).mono ?_; rintro e w4 ⟨rfl, h4, hF4⟩)))
        have e4 : Below B w w4 := (hbl.trans (hb3.mono hTk.size)).trans hF4.bel
        have hl4 := ins_len j ((i : Int), 1) hjK
        have k5 := at_yes h4 j _ (ins_at j ((i : Int), 1) hjK)
        have hKb4 : ∀ x ∈ K.take j ++ ((i : Int), 1) :: K.drop j, x.1 < ((i + 1 : Nat) : Int) := by
          intro x hx
          simp only [List.mem_append, List.mem_cons] at hx
          rcases hx with hx | rfl | hx
          · have := hKb x (List.mem_of_mem_take hx); omega
          · simp; omega
          · have := hKb x (List.mem_of_mem_drop hx); omega
        clear k2 k3 hTk hKb hbl hb3 hF4 hnk
        generalize K.take j ++ ((i : Int), 1) :: K.drop j = K4 at h4 hl4 k5 hKb4
        go_upto_region 14 with (go_at_call 15; go_loud (refine k5.mono ?_; rintro e w5 ⟨rfl, hb5⟩))
        have h6 := (h4.keep hb5).alloc (.cells #[.int .i64 i, .int .u64 1] 34)
        have za := heap_alloc_new w5 (.cells #[.int .i64 i, .int .u64 1] 34)
        have e6 : Below B w (w5.alloc (.cells #[.int .i64 i, .int .u64 1] 34)) := (e4.trans (hb5.mono h4.size)).alloc (h4.keep hb5).size _
        clear k5 h4 hb5 e4
        generalize w5.alloc (.cells #[.int .i64 i, .int .u64 1] 34) = w6 at h6 za e6 ⊢
        generalize w5.heap.size = z at za ⊢
        obtain ⟨dp, hdp, kd⟩ := deep_at h6 (i + 2) (by omega)
        have hdl := digM_le (i + 2)
        have kD := fun p : BlBy w6 => kd p.wo p.bl
        have kO := fun p : BlBy w6 => one16 (i : Int) p.wo
        have kL := fun p : BlBy w6 => len_tk p.wo _ _ _ (h6.keep p.bl)
        have kG := fun p : BlBy w6 => dig_any (i + 2) (by omega) p.wo
        have x0 := fun p : BlBy w6 => (p.bl.cell (p := ⟨z, 0, none⟩) (heap_lt za)).trans (by rw [cell_of za]; rfl : w6.cell? ⟨z, 0, none⟩ = some (.int .i64 i))
        have x1 := fun p : BlBy w6 => (p.bl.cell (p := ⟨z, 1, none⟩) (heap_lt za)).trans (by rw [cell_of za]; rfl : w6.cell? ⟨z, 1, none⟩ = some (.int .u64 1))
        rw [hl4, hlK] at kL
        rw [show (((i + 1 : Nat) : Nat) : Int) = (i : Int) + 1 by simp] at kL
        rw [show (((i + 2 : Nat) : Nat) : Int) = (i : Int) + 2 by simp] at kG
        have w2 : IntKind.i64.wrap ((i : Int) + 1 + 1) = (i : Int) + 2 := by rw [IntWalk.i64_in _ (by omega)]; omega
        generalize digM (i + 2) = D at hdp kG hdl
        have w3' : IntKind.i64.wrap (2 * (D : Int)) = ((2 * D : Nat) : Int) := by rw [IntWalk.i64_in _ (by omega)]; omega
        have hdp2 : decide ((dp : Int) > ((2 * D : Nat) : Int)) = false := hdp
        have nq := fun W => neqH (i : Int) i 1 1 W
        simp only [beq_self_eq_true, Bool.and_self, Bool.not_true] at nq
        clear kd
        generalize ((2 * D : Nat) : Int) = D2 at hdp hdp2 w3'
        try dsimp only [List.append]
        try simp only [List.append_eq, List.cons_append, List.nil_append]
        have hne : Nonempty (BlBy w6) := ⟨⟨w6, Below.refl _ w6⟩⟩
        refine wp_region_bl (by kernel_rfl) (by kernel_rfl) ?_
        repeat (first
          | go_big_quiet_skip
          | (go_big_quiet_want; go_big_quiet_op; first
            | go_big_quiet_on
            | (apply Exists.intro
               refine ⟨fun p => ?_, ?_⟩
               · first
                   | (go_at_call 18; exact calls_bl (kO p))
                   | (go_at_call 19; exact calls_same (kD p))
                   | (go_at_call 21; exact calls_same (kL p))
                   | (go_at_call 20; exact calls_same (kG p))
               go_big_quiet_on)))
        refine wpQuiet_nil ?_
        intro wq hw'
        obtain ⟨⟨wq2, hq⟩, e⟩ := hw'
        simp only at e
        subst e
        clear x0 x1 kO kD kL kG nq hdp hdp2 w2 w3' za
        go_wp2
        exact ⟨⟨i + 1, K4, by simp, by omega, h6.keep hq, by omega, hKb4, e6.trans (hq.mono h6.size)⟩, by simp [valOf]; omega⟩
      · have dj : decide ((i : Int) < L1.length) = false := by simp; omega
        obtain ⟨j, hji⟩ : ∃ j : Nat, j = i := ⟨i, rfl⟩
        have hj : j ≤ i := by omega
        go_upto_region 11 with fail
        rw [show Value.int .i64 (i : Int) = Value.int .i64 (i : Int) from rfl]
        clear hji hj
        have hj : i ≤ i := Nat.le_refl _
        have k2 := one16 (i : Int) wr
        have hnk : (((i : Int), 1) : HKey) ∉ K := fun q => by have := hKb _ q; simp at this
        have hjK : i ≤ K.length := by omega
        have k3 := fun W hb => ins_yes (hTk.keep (w' := W) hb) i hjK ((i : Int), 1) hnk (by omega)
        go_upto_region 13 with (first
          | (go_at_call 18; go_loud (refine k2.mono ?_; rintro e w3 ⟨rfl, hb3⟩))
          | (go_at_call 13; go_loud (refine (k3 _ hb3).mono ?_; rintro e w4 ⟨rfl, h4, hF4⟩)))
        have e4 : Below B w w4 := (hbl.trans (hb3.mono hTk.size)).trans hF4.bel
        have hl4 := ins_len i ((i : Int), 1) hjK
        have k5 := at_yes h4 i _ (ins_at i ((i : Int), 1) hjK)
        have hKb4 : ∀ x ∈ K.take i ++ ((i : Int), 1) :: K.drop i, x.1 < ((i + 1 : Nat) : Int) := by
          intro x hx
          simp only [List.mem_append, List.mem_cons] at hx
          rcases hx with hx | rfl | hx
          · have := hKb x (List.mem_of_mem_take hx); omega
          · simp; omega
          · have := hKb x (List.mem_of_mem_drop hx); omega
        clear k2 k3 hTk hKb hbl hb3 hF4 hnk
        generalize K.take i ++ ((i : Int), 1) :: K.drop i = K4 at h4 hl4 k5 hKb4
        go_upto_region 14 with (go_at_call 15; go_loud (refine k5.mono ?_; rintro e w5 ⟨rfl, hb5⟩))
        have h6 := (h4.keep hb5).alloc (.cells #[.int .i64 i, .int .u64 1] 34)
        have za := heap_alloc_new w5 (.cells #[.int .i64 i, .int .u64 1] 34)
        have e6 : Below B w (w5.alloc (.cells #[.int .i64 i, .int .u64 1] 34)) := (e4.trans (hb5.mono h4.size)).alloc (h4.keep hb5).size _
        clear k5 h4 hb5 e4
        generalize w5.alloc (.cells #[.int .i64 i, .int .u64 1] 34) = w6 at h6 za e6 ⊢
        generalize w5.heap.size = z at za ⊢
        obtain ⟨dp, hdp, kd⟩ := deep_at h6 (i + 2) (by omega)
        have hdl := digM_le (i + 2)
        have kD := fun p : BlBy w6 => kd p.wo p.bl
        have kO := fun p : BlBy w6 => one16 (i : Int) p.wo
        have kL := fun p : BlBy w6 => len_tk p.wo _ _ _ (h6.keep p.bl)
        have kG := fun p : BlBy w6 => dig_any (i + 2) (by omega) p.wo
        have x0 := fun p : BlBy w6 => (p.bl.cell (p := ⟨z, 0, none⟩) (heap_lt za)).trans (by rw [cell_of za]; rfl : w6.cell? ⟨z, 0, none⟩ = some (.int .i64 i))
        have x1 := fun p : BlBy w6 => (p.bl.cell (p := ⟨z, 1, none⟩) (heap_lt za)).trans (by rw [cell_of za]; rfl : w6.cell? ⟨z, 1, none⟩ = some (.int .u64 1))
        rw [hl4, hlK] at kL
        rw [show (((i + 1 : Nat) : Nat) : Int) = (i : Int) + 1 by simp] at kL
        rw [show (((i + 2 : Nat) : Nat) : Int) = (i : Int) + 2 by simp] at kG
        have w2 : IntKind.i64.wrap ((i : Int) + 1 + 1) = (i : Int) + 2 := by rw [IntWalk.i64_in _ (by omega)]; omega
        generalize digM (i + 2) = D at hdp kG hdl
        have w3' : IntKind.i64.wrap (2 * (D : Int)) = ((2 * D : Nat) : Int) := by rw [IntWalk.i64_in _ (by omega)]; omega
        have hdp2 : decide ((dp : Int) > ((2 * D : Nat) : Int)) = false := hdp
        have nq := fun W => neqH (i : Int) i 1 1 W
        simp only [beq_self_eq_true, Bool.and_self, Bool.not_true] at nq
        clear kd
        generalize ((2 * D : Nat) : Int) = D2 at hdp hdp2 w3'
        try dsimp only [List.append]
        try simp only [List.append_eq, List.cons_append, List.nil_append]
        have hne : Nonempty (BlBy w6) := ⟨⟨w6, Below.refl _ w6⟩⟩
        refine wp_region_bl (by kernel_rfl) (by kernel_rfl) ?_
        repeat (first
          | go_big_quiet_skip
          | (go_big_quiet_want; go_big_quiet_op; first
            | go_big_quiet_on
            | (apply Exists.intro
               refine ⟨fun p => ?_, ?_⟩
               · first
                   | (go_at_call 18; exact calls_bl (kO p))
                   | (go_at_call 19; exact calls_same (kD p))
                   | (go_at_call 21; exact calls_same (kL p))
                   | (go_at_call 20; exact calls_same (kG p))
               go_big_quiet_on)))
        refine wpQuiet_nil ?_
        intro wq hw'
        obtain ⟨⟨wq2, hq⟩, e⟩ := hw'
        simp only at e
        subst e
        clear x0 x1 kO kD kL kG nq hdp hdp2 w2 w3' za
        go_wp2
        exact ⟨⟨i + 1, K4, by simp, by omega, h6.keep hq, by omega, hKb4, e6.trans (hq.mono h6.size)⟩, by simp [valOf]; omega⟩
    · have d : decide ((i : Int) < N) = false := by simp; omega
      obtain rfl : i = N := by omega
      go_wp2
      go_loopw [13, 14, 15, 16, 17, 18, 19, 20, 21, 22] (fun n13 _ _ _ _ _ _ _ _ _ wr => ∃ (g : Nat) (K : List HKey), n13 = .int .i64 g ∧ g ≤ L2.length ∧ Tk wr B b K ∧ K.length ≤ 800 ∧ Below B w wr) (fun n13 _ _ _ _ _ _ _ _ _ _ => L2.length - (valOf n13).toNat)
      case atStart => exact ⟨0, K, rfl, by omega, hTk, by omega, hbl⟩
      case round =>
        clear hTk hKb hbl hlK
        obtain ⟨g, K, rfl, hg, hTk, hlK, hbl⟩ := hrel
        have kl := len_tk wr _ _ _ hTk
        by_cases hgl : g < L2.length
        · have dg : decide ((g : Int) < L2.length) = true := by simp; omega
          have e9 : IntKind.i64.wrap ((g : Int) + 1) = (g : Int) + 1 := IntWalk.i64_in _ (by omega)
          by_cases hK0 : 0 < K.length
          · have dk : decide ((0 : Int) < (K.length : Int)) = true := by rw [decide_eq_true_eq]; omega
            have dk1 : decide ((K.length : Int) > 0) = true := dk
            have dk2 : decide (0 < K.length) = true := decide_eq_true hK0
            obtain ⟨xb, xo, x, hxj, hxc, hxr, hxb, hai⟩ := idx16 hL2.out hgl
            obtain ⟨c, rfl⟩ : ∃ c : Nat, x = c := ⟨x.toNat, by omega⟩
            have hB1 := hB0.out
            have hbs := hbl.size
            have r0 := (hbl.cell (p := ⟨xb, xo, none⟩) (by simp; omega)).trans hxc
            have hrl : xb < wr.heap.size := by omega
            have hai' := hai c2
            have ec : IntKind.i64.wrap (c : Int) = c := IntWalk.i64_in _ (by omega)
            obtain ⟨j, hjm, hj⟩ : ∃ j : Nat, (c : Int).tmod (K.length : Int) = (j : Int) ∧ j < K.length := ⟨c % K.length, by rw [Int.tmod_eq_emod_of_nonneg (by omega)]; simp, Nat.mod_lt c hK0⟩
            have nz : ((K.length : Int) == 0) = false := by rw [beq_eq_false_iff_ne]; omega
            have nz' : ¬ ((K.length : Int) = 0) := by omega
            have nz2 : K ≠ [] := fun e => by subst e; simp at hK0
            have ej0 : IntKind.i64.wrap (j : Int) = j := IntWalk.i64_in _ (by omega)
            obtain ⟨k, hk⟩ : ∃ k, K[j]? = some k := ⟨K[j], List.getElem?_eq_getElem hj⟩
            generalize hLn : (K.length : Int) = Ln at kl dk dk1 hjm nz nz'
            go_upto_region 19 with (go_at_call 21; refine kl.mono ?_; rintro e w' ⟨rfl, hw⟩; rw [hw]; clear hw)
            have x0 := fun p : BlBy wr => (p.bl.cell (p := ⟨xb, xo, none⟩) hrl).trans r0
            have kL := fun p : BlBy wr => (len_tk p.wo _ _ _ (hTk.keep p.bl))
            rw [hLn] at kL
            try dsimp only [List.append]
            try simp only [List.append_eq, List.cons_append, List.nil_append]
            have hne : Nonempty (BlBy wr) := ⟨⟨wr, Below.refl _ wr⟩⟩
            refine wp_region_bl (by kernel_rfl) (by kernel_rfl) ?_
            repeat (first
              | go_big_quiet_skip
              | (go_big_quiet_want; go_big_quiet_op; first
                | go_big_quiet_on
                | (apply Exists.intro
                   refine ⟨fun p => ?_, ?_⟩
                   · first
                       | (go_at_call 21; exact calls_same (kL p))
                   go_big_quiet_on)))
            refine wpQuiet_nil ?_
            intro wq hw'
            obtain ⟨⟨wq2, hq⟩, e⟩ := hw'
            simp only at e
            subst e
            clear x0 kL r0 hai hai' hxc hxb hxj ec nz nz' nz2 hjm ej0 dk dk1 dk2 kl hLn
            replace hTk := hTk.keep hq
            replace hbl := hbl.trans (hq.mono (by omega))
            clear hq
            have k20 := at_yes hTk j k hk
            go_upto_region 21 with (go_at_call 15; go_loud (refine k20.mono ?_; rintro e w3 ⟨rfl, hb3⟩))
            have h4 := (hTk.keep hb3).alloc (.cells #[.int .i64 k.1, .int .u64 k.2] 34)
            have za := heap_alloc_new w3 (.cells #[.int .i64 k.1, .int .u64 k.2] 34)
            have e4 : Below B w (w3.alloc (.cells #[.int .i64 k.1, .int .u64 k.2] 34)) := (hbl.trans (hb3.mono hTk.size)).alloc (hTk.keep hb3).size _
            clear k20 hTk hb3 hbl
            generalize w3.alloc (.cells #[.int .i64 k.1, .int .u64 k.2] 34) = w4 at h4 za e4 ⊢
            generalize w3.heap.size = z at za ⊢
            have ej : IntKind.i64.wrap ((j : Int) + 1) = ((j + 1 : Nat) : Int) := by rw [IntWalk.i64_in _ (by omega)]; simp
            have hcl := cut_len j hj
            have hca := cut_at j hj
            cases hnx : K[j + 1]? with
            | none =>
              have k21 := at_none h4 (j + 1) hnx
              go_upto_region 22 with (go_at_call 15; go_loud (refine k21.mono ?_; rintro e w5 ⟨rfl, hb5⟩))
              have h6 := (h4.keep hb5).alloc (.cells #[.int .i64 0, .int .u64 0] 34)
              have zb := heap_alloc_new w5 (.cells #[.int .i64 0, .int .u64 0] 34)
              have za6 := heap_al ((hb5.block _ (heap_lt za)).trans za) (.cells #[.int .i64 0, .int .u64 0] 34)
              have e6 : Below B w (w5.alloc (.cells #[.int .i64 0, .int .u64 0] 34)) := (e4.trans (hb5.mono h4.size)).alloc (h4.keep hb5).size _
              clear k21 h4 hb5 za e4
              generalize w5.alloc (.cells #[.int .i64 0, .int .u64 0] 34) = w6 at h6 zb za6 e6 ⊢
              generalize w5.heap.size = y at zb ⊢
              have a0 := cell_of za6 0
              have a1' := cell_of za6 1
              simp at a0 a1'
              have k22 := rem_yes h6 j k hk
              go_upto_region 23 with (go_at_call 11; go_loud (refine k22.mono ?_; rintro e w7 ⟨rfl, h7, hF7⟩))
              have zb7 := hF7.keep _ _ _ zb (by decide)
              have e7 := e6.trans hF7.bel
              rw [hnx] at hca
              clear k22 a0 a1' zb za6 h6 hF7 e6
              generalize K.take j ++ K.drop (j + 1) = K7 at h7 hcl hca
              obtain ⟨dp, hdp, kd⟩ := deep_at h7 K.length (by omega)
              have kD := kd w7 (Below.refl _ _)
              have hdl := digM_le K.length
              have kL := len_tk w7 _ _ _ h7
              have kG := dig_any K.length (by omega) w7
              rw [hcl] at kL
              have w2 : IntKind.i64.wrap (((K.length - 1 : Nat) : Int) + 1) = (K.length : Int) := by rw [IntWalk.i64_in _ (by omega)]; omega
              generalize ((K.length - 1 : Nat) : Int) = Km at kL w2
              generalize digM K.length = D at hdp kG hdl
              have w3' : IntKind.i64.wrap (2 * (D : Int)) = ((2 * D : Nat) : Int) := by rw [IntWalk.i64_in _ (by omega)]; omega
              have hdp2 : decide ((dp : Int) > ((2 * D : Nat) : Int)) = false := hdp
              generalize ((2 * D : Nat) : Int) = D2 at hdp hdp2 w3'
              have jj : ((j : Int) == (j : Int)) = true := by simp
              go_upto_region 25 with (first
                | (go_at_call 19; refine kD.mono ?_; rintro e w' ⟨rfl, hw⟩; rw [hw]; clear hw)
                | (go_at_call 21; refine kL.mono ?_; rintro e w' ⟨rfl, hw⟩; rw [hw]; clear hw)
                | (go_at_call 20; refine kG.mono ?_; rintro e w' ⟨rfl, hw⟩; rw [hw]; clear hw))
              have k25 := at_none h7 j hca
              clear kD kL kG kd hdp hdp2 w2 w3'
              go_upto_region 26 with (go_at_call 15; go_loud (refine k25.mono ?_; rintro e w8 ⟨rfl, hb8⟩))
              have h9 := (h7.keep hb8).alloc (.cells #[.int .i64 0, .int .u64 0] 34)
              have zc := heap_alloc_new w8 (.cells #[.int .i64 0, .int .u64 0] 34)
              have zb9 := heap_al ((hb8.block _ (heap_lt zb7)).trans zb7) (.cells #[.int .i64 0, .int .u64 0] 34)
              have e9' : Below B w (w8.alloc (.cells #[.int .i64 0, .int .u64 0] 34)) := (e7.trans (hb8.mono h7.size)).alloc (h7.keep hb8).size _
              clear k25 h7 hb8 zb7 e7
              generalize w8.alloc (.cells #[.int .i64 0, .int .u64 0] 34) = w9 at h9 zc zb9 e9' ⊢
              generalize w8.heap.size = x' at zc ⊢
              have b0 := cell_of zb9 0
              have b1 := cell_of zb9 1
              have d0 := cell_of zc 0
              have d1' := cell_of zc 1
              simp at b0 b1 d0 d1'
              have nq := fun W => neqH 0 0 0 0 W
              simp only [beq_self_eq_true, Bool.and_self, Bool.not_true] at nq
              go_wp2
              exact ⟨⟨g + 1, K7, by simp, by omega, h9, by omega, e9'⟩, by simp [valOf]; omega⟩
            | some k2 =>
              have k21 := at_yes h4 (j + 1) k2 hnx
              go_upto_region 22 with (go_at_call 15; go_loud (refine k21.mono ?_; rintro e w5 ⟨rfl, hb5⟩))
              have h6 := (h4.keep hb5).alloc (.cells #[.int .i64 k2.1, .int .u64 (k2.2 : Int)] 34)
              have zb := heap_alloc_new w5 (.cells #[.int .i64 k2.1, .int .u64 (k2.2 : Int)] 34)
              have za6 := heap_al ((hb5.block _ (heap_lt za)).trans za) (.cells #[.int .i64 k2.1, .int .u64 (k2.2 : Int)] 34)
              have e6 : Below B w (w5.alloc (.cells #[.int .i64 k2.1, .int .u64 (k2.2 : Int)] 34)) := (e4.trans (hb5.mono h4.size)).alloc (h4.keep hb5).size _
              clear k21 h4 hb5 za e4
              generalize w5.alloc (.cells #[.int .i64 k2.1, .int .u64 (k2.2 : Int)] 34) = w6 at h6 zb za6 e6 ⊢
              generalize w5.heap.size = y at zb ⊢
              have a0 := cell_of za6 0
              have a1' := cell_of za6 1
              simp at a0 a1'
              have k22 := rem_yes h6 j k hk
              go_upto_region 23 with (go_at_call 11; go_loud (refine k22.mono ?_; rintro e w7 ⟨rfl, h7, hF7⟩))
              have zb7 := hF7.keep _ _ _ zb (by decide)
              have e7 := e6.trans hF7.bel
              rw [hnx] at hca
              clear k22 a0 a1' zb za6 h6 hF7 e6
              generalize K.take j ++ K.drop (j + 1) = K7 at h7 hcl hca
              obtain ⟨dp, hdp, kd⟩ := deep_at h7 K.length (by omega)
              have kD := kd w7 (Below.refl _ _)
              have hdl := digM_le K.length
              have kL := len_tk w7 _ _ _ h7
              have kG := dig_any K.length (by omega) w7
              rw [hcl] at kL
              have w2 : IntKind.i64.wrap (((K.length - 1 : Nat) : Int) + 1) = (K.length : Int) := by rw [IntWalk.i64_in _ (by omega)]; omega
              generalize ((K.length - 1 : Nat) : Int) = Km at kL w2
              generalize digM K.length = D at hdp kG hdl
              have w3' : IntKind.i64.wrap (2 * (D : Int)) = ((2 * D : Nat) : Int) := by rw [IntWalk.i64_in _ (by omega)]; omega
              have hdp2 : decide ((dp : Int) > ((2 * D : Nat) : Int)) = false := hdp
              generalize ((2 * D : Nat) : Int) = D2 at hdp hdp2 w3'
              have jj : ((j : Int) == (j : Int)) = true := by simp
              go_upto_region 25 with (first
                | (go_at_call 19; refine kD.mono ?_; rintro e w' ⟨rfl, hw⟩; rw [hw]; clear hw)
                | (go_at_call 21; refine kL.mono ?_; rintro e w' ⟨rfl, hw⟩; rw [hw]; clear hw)
                | (go_at_call 20; refine kG.mono ?_; rintro e w' ⟨rfl, hw⟩; rw [hw]; clear hw))
              have k25 := at_yes h7 j k2 hca
              clear kD kL kG kd hdp hdp2 w2 w3'
              go_upto_region 26 with (go_at_call 15; go_loud (refine k25.mono ?_; rintro e w8 ⟨rfl, hb8⟩))
              have h9 := (h7.keep hb8).alloc (.cells #[.int .i64 k2.1, .int .u64 (k2.2 : Int)] 34)
              have zc := heap_alloc_new w8 (.cells #[.int .i64 k2.1, .int .u64 (k2.2 : Int)] 34)
              have zb9 := heap_al ((hb8.block _ (heap_lt zb7)).trans zb7) (.cells #[.int .i64 k2.1, .int .u64 (k2.2 : Int)] 34)
              have e9' : Below B w (w8.alloc (.cells #[.int .i64 k2.1, .int .u64 (k2.2 : Int)] 34)) := (e7.trans (hb8.mono h7.size)).alloc (h7.keep hb8).size _
              clear k25 h7 hb8 zb7 e7
              generalize w8.alloc (.cells #[.int .i64 k2.1, .int .u64 (k2.2 : Int)] 34) = w9 at h9 zc zb9 e9' ⊢
              generalize w8.heap.size = x' at zc ⊢
              have b0 := cell_of zb9 0
              have b1 := cell_of zb9 1
              have d0 := cell_of zc 0
              have d1' := cell_of zc 1
              simp at b0 b1 d0 d1'
              have nq := fun W => neqH k2.1 k2.1 (k2.2 : Int) (k2.2 : Int) W
              simp only [beq_self_eq_true, Bool.and_self, Bool.not_true] at nq
              go_wp2
              exact ⟨⟨g + 1, K7, by simp, by omega, h9, by omega, e9'⟩, by simp [valOf]; omega⟩
          · have dk : decide ((0 : Int) < (K.length : Int)) = false := by rw [decide_eq_false_iff_not]; omega
            have dk1 : decide ((K.length : Int) > 0) = false := dk
            have dk2 : decide (0 < K.length) = false := decide_eq_false hK0
            have dk3 : ¬ 0 < K.length := hK0
            go_upto_region 28 with (go_at_call 21; refine kl.mono ?_; rintro e w' ⟨rfl, hw⟩; rw [hw]; clear hw)
            clear kl dk dk1 dk2 dk3
            have k28 := all_tk wr B b K hTk
            go_wp2_with (first
              | (go_at_call 22; go_loud (refine k28.mono ?_; rintro e w3 ⟨v, rfl, hrow, hb3⟩; obtain ⟨vp, vc, rfl⟩ : ∃ p cap, v = .slice p K.length cap := own_shape hrow; have kL := len_tk w3 _ _ _ (hTk.keep hb3); have jj : ((K.length : Int) == (K.length : Int)) = true := (by simp)))
              | (go_at_call 21; refine kL.mono ?_; rintro e w' ⟨rfl, hw⟩; rw [hw]; clear hw)
              | (go_at_call 8; refine (kw _).mono ?_; rintro e w4 ⟨rfl, hb4⟩))
            all_goals go_returns
            exact ⟨rfl, by rw [hB0.out]; exact (hbl.trans (hb3.mono hTk.size)).trans (hb4.mono (hTk.keep hb3).size)⟩
        · have dg : decide ((g : Int) < L2.length) = false := by simp; omega
          go_upto_region 28 with fail
          clear kl
          have k28 := all_tk wr B b K hTk
          go_wp2_with (first
            | (go_at_call 22; go_loud (refine k28.mono ?_; rintro e w3 ⟨v, rfl, hrow, hb3⟩; obtain ⟨vp, vc, rfl⟩ : ∃ p cap, v = .slice p K.length cap := own_shape hrow; have kL := len_tk w3 _ _ _ (hTk.keep hb3); have jj : ((K.length : Int) == (K.length : Int)) = true := (by simp)))
            | (go_at_call 21; refine kL.mono ?_; rintro e w' ⟨rfl, hw⟩; rw [hw]; clear hw)
            | (go_at_call 8; refine (kw _).mono ?_; rintro e w4 ⟨rfl, hb4⟩))
          all_goals go_returns
          exact ⟨rfl, by rw [hB0.out]; exact (hbl.trans (hb3.mono hTk.size)).trans (hb4.mono (hTk.keep hb3).size)⟩

theorem readable : ∀ t ∈ Try.f4.params.toList, Try.prog.readableRec t = true ∧ t < Try.prog.types.size := by
  rw [Try.params4]
  intro t ht
  simp at ht
  rcases ht with rfl | rfl | rfl
  all_goals exact ⟨by kernel_rfl, of_decide_eq_true (by kernel_rfl)⟩
set_option maxRecDepth 100000 in
theorem lifted (os : Os) (started : os.Started) (H : Type) (enc : TypeId × Value → H) :
    ReturnsInHanded {} Try.checked os 4 .any (Rows.treeLowSpec.pre6 enc Try.prog Try.f4 Rows.treeLowRow.domain false) (Rows.treeLowSpec.post enc Try.prog Try.f4 false true false false) := by
  refine returnsInHanded_of_change (C := Try.checked) own started (by kernel_rfl) Try.func4
    (ChangeSpec.witness6 (enc := enc) (C := Try.checked) false ⟨#[], #[.int .u16 0, .slice none 0 0, .slice none 0 0], []⟩ 8 (by kernel_rfl) (by kernel_rfl) (by kernel_rfl) (by kernel_rfl)) ?_
  intro W base args ds gs before hval0 hW hcnd _
  have hval : ∀ (j : Nat) t v, Try.f4.params[j]? = some t → args[j]? = some v → Value.okWide Try.prog W .any base t v := hval0
  have hW' := hW
  obtain ⟨p, q, hA0, hV, rfl, hfz, hnd⟩ := hW
  have hA : DataW.TrodAll enc Try.prog W 0 (fun _ => true) true Try.f4.params.toList args.toList ds p := hA0
  rw [Try.params4] at hA hval
  obtain ⟨v0, vs0, d0, ds0, p0, q0, hargs, rfl, rfl, h0, r0⟩ := trodAll_cons hA
  obtain ⟨v1, vs1, d1, ds1, p1, q1, rfl, rfl, rfl, h1, r1⟩ := trodAll_cons r0
  obtain ⟨v2, vs2, d2, ds2, p2, q2, rfl, rfl, rfl, h2, r2⟩ := trodAll_cons r1
  obtain ⟨rfl, rfl, rfl⟩ := trodAll_nil r2
  obtain rfl : args = #[v0, v1, v2] := by cases args; simp_all
  obtain ⟨rfl, rfl⟩ := trodVars_none hV
  obtain ⟨a0, rfl, rfl, rfl, w0⟩ := open_int Try.underlying47 (hval 0 47 v0 rfl rfl) h0
  obtain ⟨p1, L1, c1, rfl, hL1⟩ := open_row16 (hval 1 48 v1 rfl rfl) h1
  obtain ⟨p2, L2, c2, rfl, hL2⟩ := open_row16 (hval 2 48 v2 rfl rfl) h2
  clear hA0 hval0
  refine (walk a0 p1 L1 c1 p2 L2 c2 W w0 hL1 hL2).mono fun e W' ⟨he, hg⟩ => ?_
  subst he
  exact ⟨_, rfl, post_bel readable hW' rfl (fun _ _ _ => (trodAll_cons_mk (shut_bool Try.underlying4 _) trodAll_mk0)) rfl (fun _ => rfl)
    hg (ok_one (by kernel_rfl) rfl (okWide_bool_mk Try.underlying4 _))⟩

theorem over : Rows.treeLowRow.holds Try.pinned (OpenSpec.ofChange Rows.treeLowSpec) :=
  OpenClaim.holds_of_wide 4 Try.f4 rfl rfl rfl rfl rfl rfl rfl ⟨rfl, rfl, rfl, rfl, rfl⟩ rfl rfl rfl rfl rfl (by kernel_rfl) Try.func4 (by kernel_rfl)
    (of_decide_eq_true (by kernel_rfl)) (by unfold Func.isWrapper; first | (rw [if_pos (by decide +kernel)]; kernel_rfl) | (rw [if_neg (by decide +kernel)]; exact ⟨rfl, rfl⟩))
    (fun os started H enc _ => lifted os started H enc)

theorem proved : Rows.TreeLowSaid :=
  over
end Go.Proofs.Ythgmfcklipkbiaa.treeLow
namespace Go.Proofs.Ythgmfcklipkbiaa
theorem treeLow_holds : Rows.TreeLowSaid :=
  treeLow.proved
#print axioms treeLow_holds
end Go.Proofs.Ythgmfcklipkbiaa
