/- SlabPlays: what each call answers, which slots are taken, and how much is used, as the document says, for any room and any script: the statement as given. No condition. -/
import Derived.Test.YtkjdnebmhljciaaDoorZD
import Derived.Test.YtkjdnebmhljciaaDoorCards
import Derived.Test.YtkjdnebmhljciaaDoorTie
import Derived.WalkKit
import Derived.ProofKit
import Derived.OpenShut
import Derived.ShutString
import Derived.SevenTiedAt
namespace Go.Proofs.YtkjdnebmhljciaaDoor.slabPlays
open Go.ChangeShapes Go.WideShapes Go.ChangeAt Go.RowKit
set_option linter.unusedVariables false
set_option linter.unusedSimpArgs false
theorem own : ownKnob Tryd.prog.godebug = none := by kernel_rfl
theorem taken_up (T : Nat → Th) (m : Nat) : (takenL T m).Pairwise (· < ·) := (List.pairwise_lt_range).filter _
theorem taken_eq {T : Nat → Th} {m : Nat} {S : List Ds} (hM : Ms S (bF T)) (ho : ∀ s, m ≤ s → T s = none) : takenL T m = S.map Prod.fst := by
  have h1 := taken_up T m
  have h2 : (S.map Prod.fst).Pairwise (· < ·) := by rw [List.pairwise_map]; exact hM.up
  have hnd : ∀ l : List Nat, l.Pairwise (· < ·) → l.Nodup := fun l hl => hl.imp fun {a b} hab e => by subst e; omega
  have hp : (takenL T m).Perm (S.map Prod.fst) := by
    refine (List.perm_ext_iff_of_nodup (hnd _ h1) (hnd _ h2)).2 fun k => ?_
    rw [taken_mem, List.mem_map]
    constructor
    · rintro ⟨hk, hs⟩
      obtain ⟨⟨hh, bs⟩, e⟩ := Option.isSome_iff_exists.1 hs
      exact ⟨(k, bs), (hM.mem k bs).2 (by simp [bF, e]), rfl⟩
    · rintro ⟨⟨k', bs⟩, hx, rfl⟩
      have := (hM.mem k' bs).1 hx
      refine ⟨?_, ?_⟩
      · rcases Nat.lt_or_ge k' m with q | q
        · exact q
        · simp [bF, ho k' q] at this
      · cases e : T k' with
        | none => simp [bF, e] at this
        | some y => rfl
  exact List.Perm.eq_of_pairwise (le := (· < ·)) (fun a b _ _ h1 h2 => by omega) h1 h2 hp
set_option maxRecDepth 100000 in
set_option maxHeartbeats 16000000 in
theorem walk (a0 : Int) (p1 : Option Addr) (L1 : List Sp) (c1 : Nat) (w : World) (hT : Tab w) (h0 : 0 < w.heap.size) (w0 : (Lit.int .i64 a0).wf = true) (hL1 : Sps w p1 L1) :
    Calls Tryd.prog 3 #[.int .i64 a0, .slice p1 L1.length c1] w fun e w' => e = .returned (.bool true) ∧ Below w.heap.size w w' := by
  have hroom := wf_i64 w0
  have kh := heavy_any w p1 L1 c1 hL1
  have k9 := fun W hT h0 => works_any W hT h0
  by_cases hlen : L1.length ≤ 250
  case neg =>
    replace kh : Calls Tryd.prog 8 #[.slice p1 L1.length c1] w fun e w' => e = .returned (.bool true) ∧ w' = w := kh.mono fun e w' ⟨⟨b, e1, e2⟩, e3⟩ => by
      rcases e2 with e2 | rfl
      · exact absurd e2 hlen
      · exact ⟨e1, e3⟩
    have k9' := k9 w hT h0
    go_enter Tryd.func3, Tryd.ntmps3
    go_wp2_with (first | (go_at_call 8; refine kh.mono ?_; rintro e w' ⟨rfl, hw⟩; rw [hw]; clear hw) | (go_at_call 9; refine k9'.mono ?_; rintro e w3 ⟨rfl, hb⟩))
    all_goals go_returns
    exact ⟨rfl, hb⟩
  case pos =>
  have kn : Calls Tryd.prog 10 #[.int .i64 a0] w fun e w' => ∃ v c, e = .returned (.tuple #[v, .int .i64 c]) ∧ ((v = .pointer none ∧ c = 2 ∧ (a0 < 0 ∨ 65536 < a0) ∧ w' = w) ∨ (v = .pointer (some ⟨w.heap.size, 0, none⟩) ∧ c = 0 ∧ 0 ≤ a0 ∧ a0 ≤ 65536 ∧ Sl w' w.heap.size w.heap.size a0 0 (fun _ => none) 0 ∧ Below w.heap.size w w')) := by
    by_cases hr : 0 ≤ a0 ∧ a0 ≤ 65536
    · exact (new_any a0 hr w).mono fun e w' ⟨e1, e2, e3⟩ => ⟨_, _, e1, .inr ⟨rfl, rfl, hr.1, hr.2, e2, e3⟩⟩
    · exact (new_bad a0 (by omega) w).mono fun e w' ⟨e1, e2⟩ => ⟨_, _, e1, .inl ⟨rfl, rfl, by omega, e2⟩⟩
  go_enter Tryd.func3, Tryd.ntmps3
  go_upto_if 17 with (go_at_call 8; refine kh.mono ?_; rintro e w' ⟨⟨hv, rfl, -⟩, hw⟩; rw [hw]; clear hw)
  cases hv with
  | true =>
    have k9' := k9 w hT h0
    go_wp2_with (go_at_call 9; refine k9'.mono ?_; rintro e w3 ⟨rfl, hb⟩)
    all_goals go_returns
    exact ⟨rfl, hb⟩
  | false =>
  go_upto_region 4 with (go_at_call 10; go_loud (refine kn.mono ?_; rintro e wa ⟨v, c, rfl, hvc⟩))
  rcases hvc with ⟨rfl, rfl, hr, hw⟩ | ⟨rfl, rfl, hr1, hr2, hSa, hba⟩
  · rw [hw]; clear hw
    have k9' := k9 w hT h0
    have q1 : (binOp .eql 25 (.pointer none) (.pointer none)).run Tryd.prog w = .ok (.bool true) w := by kernel_rfl
    by_cases hn : a0 < 0
    · have d1 : decide (a0 < 0) = true := by simpa using hn
      go_wp2_with (go_at_call 9; refine k9'.mono ?_; rintro e w3 ⟨rfl, hb⟩)
      all_goals go_returns
      exact ⟨rfl, hb⟩
    · have d1 : decide (a0 < 0) = false := by simpa using hn
      have d2 : decide ((65536 : Int) < a0) = true := by rw [decide_eq_true_eq]; omega
      go_wp2_with (go_at_call 9; refine k9'.mono ?_; rintro e w3 ⟨rfl, hb⟩)
      all_goals go_returns
      exact ⟨rfl, hb⟩
  have d1 : decide (a0 < 0) = false := by rw [decide_eq_false_iff_not]; omega
  have d2 : decide ((65536 : Int) < a0) = false := by rw [decide_eq_false_iff_not]; omega
  have q1 : ∀ z, (binOp .eql 25 (.pointer (some ⟨z, 0, none⟩)) (.pointer none)).run Tryd.prog wa = .ok (.bool false) wa := fun z => by kernel_rfl
  go_upto_region 9 with fail
  have hSb : Sb (wa.alloc (.cells #[.int .i64 a0, .slice none 0 0] 32)) w.heap.size w.heap.size wa.heap.size a0 0 (fun _ => none) 0 0 (.slice none 0 0) := by
    have hbn : Below wa.heap.size wa (wa.alloc (.cells #[.int .i64 a0, .slice none 0 0] 32)) := (Below.refl _ wa).alloc (Nat.le_refl _) _
    exact ⟨hSa.kept hbn, ⟨[], ⟨heap_alloc_new wa _, hba.size, World.ownsRow_nil _ _ _ _, by simp, by simp⟩, ⟨by simp [bF], by simp⟩, rfl, by simp⟩, (hT.gr h0 hba).gr (Nat.lt_of_lt_of_le h0 hba.size) hbn, Us.new, h0⟩
  have hbl : Below w.heap.size w (wa.alloc (.cells #[.int .i64 a0, .slice none 0 0] 32)) := hba.alloc hba.size _
  clear kn kh hSa hba q1
  generalize wa.alloc (.cells #[.int .i64 a0, .slice none 0 0] 32) = wb at hSb hbl ⊢
  generalize wa.heap.size = r at hSb ⊢
  generalize hB0 : w.heap.size = B at hSb hbl h0 ⊢
  have hR1 : Hid (Sps w p1 L1) := hL1
  clear hL1
  replace hB0 : Hid _ := hB0
  go_wp2
  go_loopw [8] (fun n8 wr => ∃ (i : Nat) (used : Int) (T : Nat → Th) (n m : Nat) (v : Value), n8 = .int .i64 i ∧ i ≤ L1.length ∧ n ≤ i ∧ m ≤ i ∧ Sb wr B B r a0 used T n m v ∧ Below B w wr) (fun n8 _ => L1.length - (valOf n8).toNat)
  case atStart => exact ⟨0, 0, _, 0, 0, _, rfl, by omega, by omega, by omega, hSb, hbl⟩
  case round =>
    clear hSb hbl
    obtain ⟨i, used, T, n, m, v, rfl, hi, hni, hmi, hSb, hbl⟩ := hrel
    by_cases hin : i < L1.length
    · have dA : decide ((i : Int) < L1.length) = true := by simp; omega
      have e9 : IntKind.i64.wrap ((i : Int) + 1) = (i : Int) + 1 := IntWalk.i64_in _ (by omega)
      obtain ⟨xb, xo, x, hxL, hxo, hxa, hxb, hix⟩ := idx34 hR1.out hin
      have hxB : xb < B := by have := hB0.out; omega
      have q0 := (hbl.cell (p := ⟨xb, xo, none⟩) hxB).trans hxa.c0
      have q1 := (hbl.cell (p := ⟨xb, xo + 1, none⟩) hxB).trans hxa.c1
      have q2 := (hbl.cell (p := ⟨xb, xo + 2, none⟩) hxB).trans hxa.c2
      have q3 := (hbl.cell (p := ⟨xb, xo + 3, none⟩) hxB).trans hxa.c3
      have q4 := (hbl.cell (p := ⟨xb, xo + 4, none⟩) hxB).trans hxa.c4
      have hix' := hix c1
      clear hix hxa hxL
      go_upto_region 13 with fail
      have yz := heap_alloc_new wr (.cells #[.int .i64 x.d, .int .i64 x.o, .int .i64 x.a, .int .i64 x.n, .string x.s] 34)
      have hbz := (Below.refl _ wr).alloc (Nat.le_refl _) (.cells #[.int .i64 x.d, .int .i64 x.o, .int .i64 x.a, .int .i64 x.n, .string x.s] 34)
      have hPz := hSb.kept hbz
      have hbZ : Below B w (wr.alloc (.cells #[.int .i64 x.d, .int .i64 x.o, .int .i64 x.a, .int .i64 x.n, .string x.s] 34)) := hbl.alloc hSb.size _
      clear q0 q1 q2 q3 q4 hix' hSb hbl hbz
      generalize wr.alloc (.cells #[.int .i64 x.d, .int .i64 x.o, .int .i64 x.a, .int .i64 x.n, .string x.s] 34) = W at yz hPz hbZ ⊢
      generalize wr.heap.size = z at yz ⊢
      have z0 := cell_of yz 0
      have z1 := cell_of yz 1
      have z2 := cell_of yz 2
      have z3 := cell_of yz 3
      have z4 := cell_of yz 4
      simp at z0 z1 z2 z3 z4
      have kd := does_any W B B r a0 used T n m v hPz (by omega) (by omega) x hxo
      go_upto_region 15 with (first
        | (go_at_call 11; go_loud (refine kd.mono ?_; rintro e w1 ⟨rfl, ⟨used1, T1, n1, m1, v1, hn1, hm1, hS1⟩, hb1, hk1⟩; have ku := used_any w1 B B a0 used1 T1 n1 hS1.s; have kru := rused_any w1 B r a0 used1 (bF T1) v1 m1 hS1.r; have kro := room_any w1 B B a0 used1 T1 n1 hS1.s))
        | (go_at_call 12; refine ku.mono ?_; rintro e w' ⟨rfl, hw⟩; rw [hw]; clear hw)
        | (go_at_call 13; refine kru.mono ?_; rintro e w' ⟨rfl, hw⟩; rw [hw]; clear hw)
        | (go_at_call 14; refine kro.mono ?_; rintro e w' ⟨rfl, hw⟩; rw [hw]; clear hw))
      have y1 := hk1 z _ yz
      have hb2 := hbZ.trans hb1
      clear kd ku kru kro z0 z1 z2 z3 z4 yz hPz hbZ hb1 hk1
      obtain ⟨S, hRs, hMs, hU, hSl⟩ := hS1.r.ex
      have htk := taken_eq hMs hS1.s.out
      have hSl1 := hRs.len
      have ks := slots_any w1 B B a0 used1 T1 n1 hS1.s
      rw [htk, List.length_map] at ks
      go_upto_region 16 with (go_at_call 15; go_loud (refine ks.mono ?_; rintro e w2 ⟨⟨vl, rfl, hrow⟩, hb3⟩; obtain ⟨pl, cl, rfl⟩ : ∃ p cap, vl = .slice p S.length cap := row_shape hrow))
      have hS2 := hS1.kept hb3
      have hRs2 := hRs.below hb3
      have y2 := (hb3.block _ (heap_lt y1)).trans y1
      have hb4 := hb2.trans (hb3.mono hS1.size)
      have hrow' : w2.ownsRow w1.heap.size 3 1 (.slice pl (S.map Prod.fst).length cl) (S.map Prod.fst).length (intsV (S.map Prod.fst)) := by rw [List.length_map]; exact hrow
      clear ks hrow hS1 hRs hb3 hb2 y1
      obtain ⟨pv, cv, rfl⟩ : ∃ p cap, v1 = .slice p S.length cap := row_shape hRs2.row
      have cL : w2.cell? ⟨r, 1, none⟩ = some (.slice pv S.length cv) := by rw [cell_of hRs2.cells]; rfl
      go_upto_region 18 with fail
      go_wp2
      go_loopw [11] (fun n11 wk => ∃ k : Nat, n11 = .int .i64 k ∧ k ≤ S.length ∧ Below w2.heap.size w2 wk) (fun n11 _ => S.length - (valOf n11).toNat)
      case atStart => exact ⟨0, rfl, by omega, Below.refl _ _⟩
      case round =>
        clear cL
        obtain ⟨k, rfl, hk, hbk⟩ := hrel
        have hSk := hS2.kept hbk
        have hRk := hRs2.below hbk
        by_cases hkl : k < S.length
        · have dK : decide ((k : Int) < S.length) = true := by simp; omega
          have e8 : IntKind.i64.wrap ((k : Int) + 1) = (k : Int) + 1 := IntWalk.i64_in _ (by omega)
          have hrk := H.row_base (row_kept hrow' fun g hg => hbk.block g (hrow'.lt g hg).2) (Nat.le_refl _)
          obtain ⟨g1, y, hy, t0, hai1⟩ := idx3 hrk (j := k) (by rw [List.length_map]; exact hkl) (by rw [List.length_map]; omega)
          obtain ⟨g2, ⟨ks, bs⟩, hu, -, -, s0, s1, hai2⟩ := idx92 hRk.row hkl (by omega)
          obtain rfl : ks = y := by rw [List.getElem?_map, hu] at hy; simpa using hy
          rw [List.length_map] at hai1
          simp only at s0 s1
          have hks := hRk.bs _ (List.mem_of_getElem? hu)
          simp only at hks
          have hF : bF T1 ks = some bs := (hMs.mem ks bs).1 (List.mem_of_getElem? hu)
          obtain ⟨hh, hTk⟩ : ∃ hh, T1 ks = some (hh, bs) := by
            cases e : T1 ks with
            | none => simp [bF, e] at hF
            | some y => obtain ⟨a, b⟩ := y; simp [bF, e] at hF; subst hF; exact ⟨a, rfl⟩
          have kz := size_any wr B B a0 used1 T1 n1 hSk.s ks (by unfold I64; omega)
          rw [getT_nat, hTk] at kz
          simp only [szOf, Option.isSome_some] at kz
          have hsz : ((strOfNums bs).size : Int) = (bs.length : Int) := by rw [strOfNums_size]
          have cK : wr.cell? ⟨r, 1, none⟩ = some (.slice pv S.length cv) := by rw [cell_of hRk.cells]; rfl
          generalize strOfNums bs = ss at s1 hsz
          rw [← hsz] at kz
          clear hy hu hks hF hTk hsz
          go_upto_region 22 with (go_at_call 16; refine kz.mono ?_; rintro e w' ⟨rfl, hw⟩; rw [hw]; clear hw)
          go_quiet (fail)
          go_wp2
          exact ⟨⟨k + 1, by simp, by omega, dr_n hbk _⟩, by simp [valOf]; omega⟩
        · have dK : decide ((k : Int) < S.length) = false := by simp; omega
          have yk := (hbk.block _ (heap_lt y2)).trans y2
          have z1 := cell_of yk 1
          simp at z1
          have kz := size_any wr B B a0 used1 T1 n1 hSk.s x.o hxo.o
          have hb5 := hb4.trans (hbk.mono hS2.size)
          cases hT : getT T1 x.o with
          | none =>
            rw [hT] at kz
            simp only [szOf, Option.isSome_none] at kz
            have kA := dat_no wr B r a0 S _ hRk x.o (bF_none hT hMs)
            go_wp2_with (first
              | (go_at_call 16; refine kz.mono ?_; rintro e w' ⟨rfl, hw⟩; rw [hw]; clear hw)
              | (go_at_call 17; refine kA.mono ?_; rintro e w' ⟨rfl, hw⟩; rw [hw]; clear hw))
            exact ⟨⟨i + 1, used1, T1, n1, m1, _, by simp, by omega, by omega, by omega, hSk, hb5⟩, by simp [valOf]; omega⟩
          | some y =>
            obtain ⟨hh, bs⟩ := y
            obtain ⟨ks, hks, hTk⟩ := getT_some hT
            rw [hT] at kz
            simp only [szOf, Option.isSome_some] at kz
            obtain ⟨j, hj, hd⟩ := hMs.yes (s := ks) (bs := bs) (by simp [bF, hTk])
            have kA := dat_yes wr B r a0 S _ hRk j ks bs hj hd
            rw [← hks] at kA
            have dJ : decide ((0 : Int) ≤ j) = true := by simp
            clear hj hd hks
            go_wp2_with (first
              | (go_at_call 16; refine kz.mono ?_; rintro e w' ⟨rfl, hw⟩; rw [hw]; clear hw)
              | (go_at_call 17; refine kA.mono ?_; rintro e w' ⟨rfl, hw⟩; rw [hw]; clear hw))
            exact ⟨⟨i + 1, used1, T1, n1, m1, _, by simp, by omega, by omega, by omega, hSk, hb5⟩, by simp [valOf]; omega⟩
    · have dA : decide ((i : Int) < L1.length) = false := by simp; omega
      obtain rfl : i = L1.length := by omega
      have k9' := k9 wr hSb.tab (Nat.lt_of_lt_of_le h0 hSb.size)
      go_wp2_with (go_at_call 9; refine k9'.mono ?_; rintro e w9 ⟨rfl, hb9⟩)
      all_goals go_returns
      have hbe := hbl.trans (hb9.mono hSb.size)
      exact ⟨rfl, by rw [hB0.out]; exact hbe⟩

theorem readable : ∀ t ∈ Tryd.f3.params.toList, Tryd.prog.readableRec t = true ∧ t < Tryd.prog.types.size := by
  rw [Tryd.params3]
  intro t ht
  simp at ht
  rcases ht with rfl | rfl
  all_goals exact ⟨by kernel_rfl, of_decide_eq_true (by kernel_rfl)⟩
set_option maxRecDepth 100000 in
theorem lifted (os : Os) (started : os.Started) (H : Type) (enc : TypeId × Value → H) :
    ReturnsInHanded {} Tryd.checked os 3 .any (fun w args => (Rows.slabPlaysSpec.pre enc Tryd.prog Tryd.f3 [] false w args ∧ laidMetH Tryd.prog laidL w) ∧ sizedMet enc Tryd.prog Tryd.f3 (OpenSpec.ofChange Rows.slabPlaysSpec) false w args) (Rows.slabPlaysSpec.post enc Tryd.prog Tryd.f3 false true false false) := by
  refine returnsInHanded_of_change_and (C := Tryd.checked) (X := fun w _ => laidMetH Tryd.prog laidL w) (fun _ _ _ hh h => h.of_heap hh) own started (by kernel_rfl) Tryd.func3
    (ChangeSpec.witness_shaped (enc := enc) (C := Tryd.checked) (os := os) (X := fun w _ => laidMetH Tryd.prog laidL w) false (World.doorLaid Tryd.prog 400 os) #[.int .i64 0, .slice none 0 0] 8 rfl (World.shaped_of_RefB (by kernel_rfl) (by kernel_rfl)) (by kernel_rfl) (by kernel_rfl) (by kernel_rfl) (door_met os _)) ?_
  intro W base args ds gs before hval0 hW _ _ hL _
  have hval : ∀ (j : Nat) t v, Tryd.f3.params[j]? = some t → args[j]? = some v → Value.okWide Tryd.prog W .any base t v := hval0
  have hW' := hW
  obtain ⟨p, q, hA0, hV, rfl, hfz, hnd⟩ := hW
  have hA : DataW.TrodAll enc Tryd.prog W 0 (fun _ => true) true Tryd.f3.params.toList args.toList ds p := hA0
  rw [Tryd.params3] at hA hval
  obtain ⟨v0, vs0, d0, ds0, p0, q0, hargs, rfl, rfl, h0, r0⟩ := trodAll_cons hA
  obtain ⟨v1, vs1, d1, ds1, p1, q1, rfl, rfl, rfl, h1, r1⟩ := trodAll_cons r0
  obtain ⟨rfl, rfl, rfl⟩ := trodAll_nil r1
  obtain rfl : args = #[v0, v1] := by cases args; simp_all
  obtain ⟨rfl, rfl⟩ := trodVars_none hV
  obtain ⟨a0, rfl, rfl, rfl, w0⟩ := open_int Tryd.underlying3 (hval 0 3 v0 rfl rfl) h0
  obtain ⟨p1, L1, c1, rfl, hL1⟩ := open_sps (hval 1 22 v1 rfl rfl) h1
  clear hA0 hval0
  obtain ⟨hTab, hpos⟩ := tab_of hL
  refine (walk a0 p1 L1 c1 W hTab hpos w0 hL1).mono fun e W' ⟨he, hg⟩ => ?_
  subst he
  exact ⟨_, rfl, post_bel readable hW' rfl (fun _ _ _ => (trodAll_cons_mk (shut_bool Tryd.underlying4 _) trodAll_mk0)) rfl (fun _ => rfl)
    hg (ok_one (by kernel_rfl) rfl (okWide_bool_mk Tryd.underlying4 _))⟩

theorem over : Rows.SlabPlaysSaid :=
  OpenClaim.holds_of_wide 3 Tryd.f3 rfl rfl rfl rfl rfl rfl rfl ⟨rfl, rfl, rfl, rfl, rfl⟩ rfl rfl rfl rfl rfl (by kernel_rfl) Tryd.func3 (by kernel_rfl)
    (of_decide_eq_true (by kernel_rfl)) (by unfold Func.isWrapper; first | (rw [if_pos (by decide +kernel)]; kernel_rfl) | (rw [if_neg (by decide +kernel)]; exact ⟨rfl, rfl⟩))
    (fun os started H enc _ => lifted os started H enc)
end Go.Proofs.YtkjdnebmhljciaaDoor.slabPlays
namespace Go.Proofs.YtkjdnebmhljciaaDoor
theorem slabPlays_holds : Rows.SlabPlaysCardSaid :=
  Claim7.holds_tied_plain_at .later [] [.data] true (true, "d08cc78eabc309313952ab51cf6bb01585a3f0dccbd52a6795d3e19212e06ae1") false
    slabPlays.over (fun _ h => by cases h) (by kernel_rfl) (fun _ h => by cases h) slabPlays_row_tie rfl ⟨rfl, rfl⟩ (by kernel_rfl) rfl
    (fun f fn hf hfn => by
      obtain rfl : f = 3 := Option.some.inj ((show Tryd.prog.funcNamed "warden/wardenlaw12.SlabPlays" = some 3 by kernel_rfl).symm.trans hf) |>.symm
      obtain rfl : fn = Tryd.f3 := (Option.some.inj (Tryd.func3.symm.trans hfn)).symm
      exact ⟨by kernel_rfl, fun j t ht => by
        rw [Tryd.params3] at ht
        have hm : t ∈ [3, 22] := by simpa using Array.mem_of_getElem? ht
        have hall : ([3, 22].all fun u => !Tryd.prog.wantsStandIn u) = true := by kernel_rfl
        exact (show Tryd.prog.wantsStandIn t = false by simpa using List.all_eq_true.1 hall t hm)⟩)
    (by kernel_rfl)
#print axioms slabPlays_holds
end Go.Proofs.YtkjdnebmhljciaaDoor
