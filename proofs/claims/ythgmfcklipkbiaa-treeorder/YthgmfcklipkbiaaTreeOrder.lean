/- TreeOrder: handles which are put behind all lesser ones, found by halves, stand in rising order, whichever come first (P16.1 to P16.3), for any numbers: the statement as given. No condition. -/
import Derived.Test.YthgmfcklipkbiaaTY
import Derived.WalkKit
import Derived.ProofKit
import Derived.OpenShut
import Derived.ShutString
namespace Go.Proofs.Ythgmfcklipkbiaa.treeOrder
open Go.ChangeShapes Go.WideShapes Go.ChangeAt Go.RowKit
open Go.ChangeMaps (open_string shut_string)
set_option linter.unusedVariables false
set_option linter.unusedSimpArgs false

theorem own : ownKnob Try.prog.godebug = none := by kernel_rfl
def le (x y : HKey) : Prop := x.1 < y.1 ∨ (x.1 = y.1 ∧ x.2 ≤ y.2)
theorem le_fst {x y : HKey} (h : le x y) : x.1 ≤ y.1 := by
  rcases h with h | h <;> omega
theorem pair_at {K : List HKey} (h : K.Pairwise le) {a b : Nat} {x y : HKey} (hab : a < b) (hx : K[a]? = some x) (hy : K[b]? = some y) : le x y := by
  obtain ⟨ha, rfl⟩ := List.getElem?_eq_some_iff.1 hx
  obtain ⟨hb, rfl⟩ := List.getElem?_eq_some_iff.1 hy
  exact List.pairwise_iff_getElem.1 h a b ha hb hab
theorem put_sorted {K : List HKey} (h : K.Pairwise le) {p : Nat} {v : Int} {i : Nat} (h1 : ∀ x ∈ K.take p, x.1 ≤ v) (h2 : ∀ x ∈ K.drop p, v < x.1) (hg : ∀ x ∈ K, x.2 < i) : (K.take p ++ (v, i) :: K.drop p).Pairwise le := by
  have hk : (K.take p ++ K.drop p).Pairwise le := by rw [List.take_append_drop]; exact h
  rw [List.pairwise_append] at hk ⊢
  obtain ⟨k1, k2, k3⟩ := hk
  refine ⟨k1, List.pairwise_cons.2 ⟨fun y hy => .inl (h2 y hy), k2⟩, fun x hx y hy => ?_⟩
  rcases List.mem_cons.1 hy with rfl | hy
  · have a := h1 x hx
    have b := hg x (List.mem_of_mem_take hx)
    by_cases e : x.1 = v
    · exact .inr ⟨e, Nat.le_of_lt b⟩
    · exact .inl (by simp only; omega)
  · exact k3 x hx y hy
theorem low_up {K : List HKey} (h : K.Pairwise le) {m : Nat} {k : HKey} (hk : K[m]? = some k) {v : Int} (hv : k.1 ≤ v) : ∀ x ∈ K.take (m + 1), x.1 ≤ v := by
  intro x hx
  obtain ⟨j, hj⟩ := List.getElem?_of_mem hx
  rw [List.getElem?_take] at hj
  split at hj
  · rename_i hlt
    by_cases e : j = m
    · subst e; rw [hk] at hj; cases hj; exact hv
    · have := le_fst (pair_at h (show j < m by omega) hj hk); omega
  · cases hj
theorem high_down {K : List HKey} (h : K.Pairwise le) {m : Nat} {k : HKey} (hk : K[m]? = some k) {v : Int} (hv : v < k.1) : ∀ x ∈ K.drop m, v < x.1 := by
  intro x hx
  obtain ⟨j, hj⟩ := List.getElem?_of_mem hx
  rw [List.getElem?_drop] at hj
  by_cases e : j = 0
  · subst e; rw [Nat.add_zero, hk] at hj; cases hj; exact hv
  · have := le_fst (pair_at h (show m < m + j by omega) hk hj); omega

set_option maxRecDepth 100000 in
set_option maxHeartbeats 16000000 in
theorem walk (p0 : Option Addr) (L0 : List Int) (c0 : Nat) (w : World) (hL0 : Row16 w p0 L0) :
    Calls Try.prog 5 #[.slice p0 L0.length c0] w fun e w' => e = .returned (.bool true) ∧ Below w.heap.size w w' := by
  have kw := fun W => works_any W
  by_cases hlong : 300 < L0.length
  · have d : decide ((300 : Int) < (L0.length : Int)) = true := by simp; omega
    go_enter Try.func5, Try.ntmps5
    go_wp2_with (go_at_call 8; refine (kw _).mono ?_; rintro e w3 ⟨rfl, hb⟩)
    all_goals go_returns
    exact ⟨rfl, hb⟩
  have d1 : decide ((300 : Int) < (L0.length : Int)) = false := by simp; omega
  have k1 := new_tk w
  go_enter Try.func5, Try.ntmps5
  go_upto_region 4 with (go_at_call 9; refine k1.mono ?_; rintro e w1 ⟨b, rfl, h1, hb1⟩)
  clear k1
  generalize hB0 : w.heap.size = B at h1 hb1 ⊢
  replace hB0 : Hid _ := hB0
  replace hL0 : Hid _ := hL0
  go_wp2
  clear d1
  go_loopw [4, 5, 6, 7, 8, 9, 10] (fun n4 _ _ _ _ _ _ wr => ∃ (i : Nat) (K : List HKey), n4 = .int .i64 i ∧ i ≤ L0.length ∧ Tk wr B b K ∧ K.length = i ∧ K.Pairwise le ∧ (∀ x ∈ K, x.2 < i) ∧ Below B w wr) (fun n4 _ _ _ _ _ _ _ => L0.length - (valOf n4).toNat)
  case atStart => exact ⟨0, [], rfl, by omega, h1, rfl, .nil, by simp, hb1⟩
  case round =>
    clear h1 hb1
    obtain ⟨i, K, rfl, hi, hTk, hlK, hso, hge, hbl⟩ := hrel
    replace hso : Hid _ := hso
    replace hge : Hid _ := hge
    have kl := len_tk wr _ _ _ hTk
    by_cases hin : i < L0.length
    · have d : decide ((i : Int) < L0.length) = true := by simp; omega
      have e9 : IntKind.i64.wrap ((i : Int) + 1) = (i : Int) + 1 := IntWalk.i64_in _ (by omega)
      obtain ⟨xb, xo, x, hxj, hxc, hxr, hxb, hai⟩ := idx16 hL0.out hin
      have hB1 := hB0.out
      have hbs := hbl.size
      have r0 := (hbl.cell (p := ⟨xb, xo, none⟩) (by simp; omega)).trans hxc
      have hrl : xb < wr.heap.size := by omega
      have hai' := hai c0
      have ec : IntKind.i64.wrap x = x := IntWalk.i64_in _ (by omega)
      rw [hlK] at kl
      go_upto_region 8 with (go_at_call 21; refine kl.mono ?_; rintro e w' ⟨rfl, hw⟩; rw [hw]; clear hw)
      clear kl
      generalize hwo : wr = wo at hTk hbl r0 hrl hbs ⊢
      clear hwo
      go_wp2
      go_loopw [5, 6, 7, 8, 9] (fun n5 n6 _ _ _ wr => ∃ lo hi : Nat, n5 = .int .i64 lo ∧ n6 = .int .i64 hi ∧ lo ≤ hi ∧ hi ≤ i ∧ Hid (∀ x' ∈ K.take lo, x'.1 ≤ x) ∧ Hid (∀ x' ∈ K.drop hi, x < x'.1) ∧ Below wo.heap.size wo wr) (fun n5 n6 _ _ _ _ => (valOf n6).toNat - (valOf n5).toNat)
      case atStart =>
        have hA : Hid (∀ x' ∈ K.take 0, x'.1 ≤ x) := by simp [Hid]
        have hB : Hid (∀ x' ∈ K.drop i, x < x'.1) := fun x' hx' => by rw [List.drop_of_length_le (by omega)] at hx'; cases hx'
        refine ⟨0, i, rfl, rfl, ?_⟩
        exact ⟨by omega, Nat.le_refl _, hA, hB, Below.refl _ _⟩
      case round =>
        obtain ⟨lo, hi', rfl, rfl, hlh, hhi, hlo, hup, hbi⟩ := hrel
        have hT := hTk.keep hbi
        by_cases hlt : lo < hi'
        · have dl : decide ((lo : Int) < (hi' : Int)) = true := by simp; omega
          have es : IntKind.i64.wrap ((lo : Int) + (hi' : Int)) = (lo : Int) + (hi' : Int) := IntWalk.i64_in _ (by omega)
          obtain ⟨m, hm, hm1, hm2⟩ : ∃ m : Nat, ((lo : Int) + (hi' : Int)).tdiv 2 = (m : Int) ∧ lo ≤ m ∧ m < hi' := ⟨(lo + hi') / 2, by rw [Int.tdiv_eq_ediv_of_nonneg (by omega)]; omega, by omega, by omega⟩
          have em : IntKind.i64.wrap (m : Int) = m := IntWalk.i64_in _ (by omega)
          have em1 : IntKind.i64.wrap ((m : Int) + 1) = ((m + 1 : Nat) : Int) := by rw [IntWalk.i64_in _ (by omega)]; simp
          obtain ⟨k, hk⟩ : ∃ k, K[m]? = some k := ⟨K[m]'(by omega), List.getElem?_eq_getElem (by omega)⟩
          have ka := at_yes hT m k hk
          replace hk : Hid _ := hk
          go_upto_region 11 with (go_at_call 15; go_loud (refine ka.mono ?_; rintro e w3 ⟨rfl, hb3⟩))
          have za := heap_alloc_new w3 (.cells #[.int .i64 k.1, .int .u64 k.2] 34)
          have hb4 : Below wo.heap.size wo (w3.alloc (.cells #[.int .i64 k.1, .int .u64 k.2] 34)) := (hbi.trans (hb3.mono hbi.size)).alloc (Nat.le_trans hbi.size hb3.size) _
          clear ka hT hb3 hbi hm em es
          generalize w3.alloc (.cells #[.int .i64 k.1, .int .u64 k.2] 34) = w4 at za hb4 ⊢
          generalize w3.heap.size = z at za ⊢
          have z0 := cell_of za 0
          simp at z0
          have r4 := (hb4.cell (p := ⟨xb, xo, none⟩) hrl).trans r0
          by_cases hv : x < k.1
          · have dv : decide (x < k.1) = true := by simpa using hv
            go_quiet (fail)
            go_wp2
            exact ⟨⟨lo, m, rfl, rfl, by omega, by omega, hlo, high_down hso.out hk.out hv, Below.drewN hb4 _⟩, by simp [valOf]; omega⟩
          · have dv : decide (x < k.1) = false := by simpa using hv
            go_quiet (fail)
            go_wp2
            exact ⟨⟨m + 1, hi', rfl, rfl, by omega, by omega, low_up hso.out hk.out (by omega), hup, Below.drewN hb4 _⟩, by simp [valOf]; omega⟩
        · have dl : decide ((lo : Int) < (hi' : Int)) = false := by simp; omega
          obtain rfl : lo = hi' := by omega
          have r4 := (hbi.cell (p := ⟨xb, xo, none⟩) hrl).trans r0
          have eu : IntKind.u64.wrap (i : Int) = i := IntWalk.u64_in _ (by omega)
          go_upto_region 15 with fail
          have za := heap_alloc_new wr (.cells #[.int .i64 x, .int .u64 i] 34)
          have h5 := hT.alloc (.cells #[.int .i64 x, .int .u64 i] 34)
          have hb5 : Below B w (wr.alloc (.cells #[.int .i64 x, .int .u64 i] 34)) := (hbl.trans (hbi.mono hTk.size)).alloc hT.size _
          clear hT hTk hbi hbl r0 r4 hai hai' hxc hxb hrl
          generalize wr.alloc (.cells #[.int .i64 x, .int .u64 i] 34) = w5 at za h5 hb5 ⊢
          generalize wr.heap.size = z at za ⊢
          have z0 := cell_of za 0
          have z1 := cell_of za 1
          simp at z0 z1
          have hnk : ((x, i) : HKey) ∉ K := fun q => by have := hge.out _ q; simp at this
          have k5 := ins_yes h5 lo (by omega) (x, i) hnk (by omega)
          have hso2 := put_sorted hso.out hlo.out hup.out hge.out
          have hln := ins_len lo ((x, i) : HKey) (show lo ≤ K.length by omega)
          have hge2 : ∀ y ∈ K.take lo ++ (x, i) :: K.drop lo, y.2 < i + 1 := by
            intro y hy
            simp only [List.mem_append, List.mem_cons] at hy
            rcases hy with hy | rfl | hy
            · have := hge.out y (List.mem_of_mem_take hy); omega
            · simp
            · have := hge.out y (List.mem_of_mem_drop hy); omega
          clear hso hge hlo hup hnk
          generalize K.take lo ++ (x, i) :: K.drop lo = K6 at k5 hso2 hln hge2
          replace hso2 : Hid _ := hso2
          replace hge2 : Hid _ := hge2
          go_wp2_with (go_at_call 13; go_loud (refine k5.mono ?_; rintro e w6 ⟨rfl, h6, hF6⟩))
          exact ⟨⟨i + 1, K6, by simp, by omega, h6, by omega, hso2.out, hge2.out, hb5.trans hF6.bel⟩, by simp [valOf]; omega⟩
    · have d : decide ((i : Int) < L0.length) = false := by simp; omega
      obtain rfl : i = L0.length := by omega
      have hK3 : K.length ≤ 300 := by omega
      replace hlK : Hid (K.length = L0.length) := hlK
      have k17 := all_tk wr B b _ hTk
      go_upto_region 18 with (go_at_call 22; go_loud (refine k17.mono ?_; rintro e w3 ⟨v, rfl, hrow, hb3⟩; obtain ⟨vp, vc, rfl⟩ : ∃ p cap, v = .slice p K.length cap := own_shape hrow))
      have e3 : Below B w w3 := hbl.trans (hb3.mono hTk.size)
      replace hrow := row_base hrow hTk.size
      have hs3 : B ≤ w3.heap.size := Nat.le_trans hTk.size hb3.size
      clear k17 hTk hbl hb3 kl
      go_wp2
      go_loopw [12] (fun n12 wk => ∃ k : Nat, n12 = .int .i64 ((k + 1 : Nat) : Int) ∧ k ≤ K.length ∧ Below w3.heap.size w3 wk) (fun n12 _ => K.length + 1 - (valOf n12).toNat)
      case atStart => exact ⟨0, rfl, by omega, Below.refl _ _⟩
      case round =>
        obtain ⟨k, rfl, hk, hbk⟩ := hrel
        have e8 : IntKind.i64.wrap (((k + 1 : Nat) : Int) - 1) = (k : Int) := by rw [IntWalk.i64_in _ (by omega)]; omega
        have e9 : IntKind.i64.wrap (((k + 1 : Nat) : Int) + 1) = ((k + 1 + 1 : Nat) : Int) := by rw [IntWalk.i64_in _ (by omega)]; omega
        by_cases hki : k + 1 < K.length
        · have dk : decide (((k + 1 : Nat) : Int) < (K.length : Int)) = true := by rw [decide_eq_true_eq]; omega
          have hrk := row_kept hrow fun g hg => hbk.block g (hrow.lt g hg).2
          obtain ⟨g1, y1, hy1, hgl1, -, c10, c11, ha1⟩ := idx34 hrk (j := k) (by omega) (by omega)
          obtain ⟨g2, y2, hy2, hgl2, -, c20, c21, ha2⟩ := idx34 hrk (j := k + 1) hki (by omega)
          have hle := pair_at hso.out (Nat.lt_succ_self k) hy1 hy2
          have q1 : decide (y2.1 < y1.1) = false := decide_eq_false (by have := le_fst hle; omega)
          have q1' : decide (y1.1 > y2.1) = false := q1
          clear hy1 hy2
          generalize hkk : ((k + 1 : Nat) : Int) = kk at e8 e9 dk ha2 ⊢
          by_cases he : y1.1 = y2.1
          · have q2 : (y1.1 == y2.1) = true := by simp [he]
            have q3 : decide ((y2.2 : Int) < (y1.2 : Int)) = false := decide_eq_false (by rcases hle with h | h <;> omega)
            have q3' : decide ((y1.2 : Int) > (y2.2 : Int)) = false := q3
            replace he : Hid _ := he
            replace hle : Hid _ := hle
            generalize hy11 : y1.1 = s1 at c10 q1 q1' q2
            generalize hy21 : y2.1 = s2 at c20 q1 q1' q2
            generalize hy12 : (y1.2 : Int) = t1 at c11 q3 q3'
            generalize hy22 : (y2.2 : Int) = t2 at c21 q3 q3'
            clear hy11 hy21 hy12 hy22
            go_upto_region 21 with fail
            go_quiet (fail)
            go_wp2
            exact ⟨⟨k + 1, by first | rfl | (simp; omega), by omega, Below.drewN hbk _⟩, by simp [valOf]; omega⟩
          · have q2 : (y1.1 == y2.1) = false := beq_false_of_ne he
            replace he : Hid _ := he
            replace hle : Hid _ := hle
            generalize hy11 : y1.1 = s1 at c10 q1 q1' q2
            generalize hy21 : y2.1 = s2 at c20 q1 q1' q2
            clear hy11 hy21
            go_upto_region 21 with fail
            go_quiet (fail)
            go_wp2
            exact ⟨⟨k + 1, by first | rfl | (simp; omega), by omega, Below.drewN hbk _⟩, by simp [valOf]; omega⟩
        · have dk : decide (((k + 1 : Nat) : Int) < (K.length : Int)) = false := by rw [decide_eq_false_iff_not]; omega
          have ii : ((K.length : Int) == (L0.length : Int)) = true := by have := hlK.out; simp; omega
          go_wp2_with (go_at_call 8; refine (kw _).mono ?_; rintro e w4 ⟨rfl, hb4⟩)
          all_goals go_returns
          exact ⟨rfl, by rw [hB0.out]; exact (e3.trans (hbk.mono hs3)).trans (hb4.mono (Nat.le_trans hs3 hbk.size))⟩

theorem readable : ∀ t ∈ Try.f5.params.toList, Try.prog.readableRec t = true ∧ t < Try.prog.types.size := by
  rw [Try.params5]
  intro t ht
  simp at ht
  rcases ht with rfl
  all_goals exact ⟨by kernel_rfl, of_decide_eq_true (by kernel_rfl)⟩
set_option maxRecDepth 100000 in
theorem lifted (os : Os) (started : os.Started) (H : Type) (enc : TypeId × Value → H) :
    ReturnsInHanded {} Try.checked os 5 .any (Rows.treeOrderSpec.pre6 enc Try.prog Try.f5 Rows.treeOrderRow.domain false) (Rows.treeOrderSpec.post enc Try.prog Try.f5 false true false false) := by
  refine returnsInHanded_of_change (C := Try.checked) own started (by kernel_rfl) Try.func5
    (ChangeSpec.witness6 (enc := enc) (C := Try.checked) false ⟨#[], #[.slice none 0 0], []⟩ 8 (by kernel_rfl) (by kernel_rfl) (by kernel_rfl) (by kernel_rfl)) ?_
  intro W base args ds gs before hval0 hW hcnd _
  have hval : ∀ (j : Nat) t v, Try.f5.params[j]? = some t → args[j]? = some v → Value.okWide Try.prog W .any base t v := hval0
  have hW' := hW
  obtain ⟨p, q, hA0, hV, rfl, hfz, hnd⟩ := hW
  have hA : DataW.TrodAll enc Try.prog W 0 (fun _ => true) true Try.f5.params.toList args.toList ds p := hA0
  rw [Try.params5] at hA hval
  obtain ⟨v0, vs0, d0, ds0, p0, q0, hargs, rfl, rfl, h0, r0⟩ := trodAll_cons hA
  obtain ⟨rfl, rfl, rfl⟩ := trodAll_nil r0
  obtain rfl : args = #[v0] := by cases args; simp_all
  obtain ⟨rfl, rfl⟩ := trodVars_none hV
  obtain ⟨p0, L0, c0, rfl, hL0⟩ := open_row16 (hval 0 48 v0 rfl rfl) h0
  clear hA0 hval0
  refine (walk p0 L0 c0 W hL0).mono fun e W' ⟨he, hg⟩ => ?_
  subst he
  exact ⟨_, rfl, post_bel readable hW' rfl (fun _ _ _ => (trodAll_cons_mk (shut_bool Try.underlying4 _) trodAll_mk0)) rfl (fun _ => rfl)
    hg (ok_one (by kernel_rfl) rfl (okWide_bool_mk Try.underlying4 _))⟩

theorem over : Rows.treeOrderRow.holds Try.pinned (OpenSpec.ofChange Rows.treeOrderSpec) :=
  OpenClaim.holds_of_wide 5 Try.f5 rfl rfl rfl rfl rfl rfl rfl ⟨rfl, rfl, rfl, rfl, rfl⟩ rfl rfl rfl rfl rfl (by kernel_rfl) Try.func5 (by kernel_rfl)
    (of_decide_eq_true (by kernel_rfl)) (by unfold Func.isWrapper; first | (rw [if_pos (by decide +kernel)]; kernel_rfl) | (rw [if_neg (by decide +kernel)]; exact ⟨rfl, rfl⟩))
    (fun os started H enc _ => lifted os started H enc)

theorem proved : Rows.TreeOrderSaid :=
  over
end Go.Proofs.Ythgmfcklipkbiaa.treeOrder
namespace Go.Proofs.Ythgmfcklipkbiaa
theorem treeOrder_holds : Rows.TreeOrderSaid :=
  treeOrder.proved
#print axioms treeOrder_holds
end Go.Proofs.Ythgmfcklipkbiaa
