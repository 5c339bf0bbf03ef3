/- NameBegins, for every text and number: a name's beginning is a name; with a letter or a digit behind it it is one, as long as it is not too long, and with anything else it is none. No conditions. -/
import Derived.Test.YtkndkniimlckeaaNU
import Derived.WalkKit
import Derived.ProofKit
import Derived.OpenShut
import Derived.ShutString
namespace Go.Proofs.Ytkndkniimlckeaa.nameBegins
open Go.ChangeShapes Go.WideShapes Go.ChangeAt Go.RowKit
open Go.ChangeMaps (open_string shut_string)
set_option linter.unusedVariables false
set_option linter.unusedSimpArgs false

theorem own : ownKnob Try.prog.godebug = none := by kernel_rfl

set_option maxRecDepth 100000 in
set_option maxHeartbeats 16000000 in
theorem walk (a0 : ByteArray) (a1 : Int) (w0 : a0.size ≤ maxLen) (w1 : (Lit.int .u16 a1).wf = true) (w : World) :
    Calls Try.prog 7 #[.string a0, .int .u16 a1] w fun e w' => e = .returned (.bool true) ∧ Below w.heap.size w w' := by
  obtain ⟨u0, u1⟩ := bd_u16 w1
  have hal := fun W => alive_any W
  by_cases h0 : 2048 < a0.size
  · have d0 : decide ((2048 : Int) < a0.size) = true := by simp; omega
    go_enter Try.func7, Try.ntmps7
    go_wp2_with (first | (go_at_call 9; refine (hal _).mono ?_; rintro e w' ⟨rfl, hb⟩))
    go_returns
    exact ⟨rfl, hb⟩
  have d0 : decide ((2048 : Int) < a0.size) = false := by simp; omega
  have km := fun W => may_any a0 (by omega) W
  cases hm : mayM (bt a0) with
  | false =>
    rw [hm] at km
    go_enter Try.func7, Try.ntmps7
    go_wp2_with (first | (go_at_call 10; refine (km _).mono ?_; rintro e w1 ⟨rfl, hb1⟩) | (go_at_call 9; refine (hal _).mono ?_; rintro e w' ⟨rfl, hb⟩))
    go_returns
    exact ⟨rfl, hb1.trans hb⟩
  | true =>
    rw [hm] at km
    obtain ⟨C, hT, hC⟩ := may_txt (bt_lt a0) hm
    clear hm
    -- names with more behind them
    have hlong : ∀ (x : ByteArray) (c : Nat × List Nat), x.size ≤ 4 → Rune (bt x) c.1 (bt x).length → c.2 = bt x → ∀ W, Calls Try.prog 10 #[.string (a0 ++ x)] W fun e w' => e = .returned (.bool (decide (C.length < 32) && (letterB c.1 || digitB c.1))) ∧ Bl W w' := fun x c hx hr hc W => by
      have h1 := may_any (a0 ++ x) (by rw [ByteArray.size_append]; omega) W
      have h2 : Txt (bt (a0 ++ x)) (C ++ [c]) := by
        rw [bt_app]
        have := hT.app (Txt.one hr)
        rwa [← hc] at this ⊢
      rwa [h2.mayM, may_snoc hC] at h1
    have k1 : ∀ W, Calls Try.prog 10 #[.string (a0 ++ ⟨#[32]⟩)] W fun e w' => e = .returned (.bool false) ∧ Bl W w' := fun W => by
      have := hlong ⟨#[32]⟩ (32, [32]) (by decide) (.one 32 [] (by decide)) rfl W
      rwa [show (letterB (32 : Nat) || digitB (32 : Nat)) = false by decide, Bool.and_false] at this
    have k2 : ∀ W, Calls Try.prog 10 #[.string (a0 ++ ⟨#[195, 151]⟩)] W fun e w' => e = .returned (.bool false) ∧ Bl W w' := fun W => by
      have := hlong ⟨#[195, 151]⟩ (215, [195, 151]) (by decide) (.two 195 151 [] (by decide) (by decide) (by decide) (by decide)) rfl W
      rwa [show (letterB (215 : Nat) || digitB (215 : Nat)) = false by decide, Bool.and_false] at this
    have k4 : ∀ W, Calls Try.prog 10 #[.string (a0 ++ ⟨#[45]⟩)] W fun e w' => e = .returned (.bool false) ∧ Bl W w' := fun W => by
      have := hlong ⟨#[45]⟩ (45, [45]) (by decide) (.one 45 [] (by decide)) rfl W
      rwa [show (letterB (45 : Nat) || digitB (45 : Nat)) = false by decide, Bool.and_false] at this
    have k3 : ∀ W, Calls Try.prog 10 #[.string (a0 ++ ⟨#[255]⟩)] W fun e w' => e = .returned (.bool false) ∧ Bl W w' := fun W => by
      have h1 := may_any (a0 ++ ⟨#[255]⟩) (by rw [ByteArray.size_append]; show a0.size + 1 ≤ _; omega) W
      have h2 : mayM (bt (a0 ++ ⟨#[255]⟩)) = false := by
        rw [bt_app, mayM, ch_none hT (bt ⟨#[255]⟩) (bt_lt _) (by decide) (by decide)]
      rwa [h2] at h1
    have hz1 : ¬ 9223372036854775807 < a0.size + 1 := by omega
    have hz2 : ¬ 9223372036854775807 < a0.size + 2 := by omega
    -- the end, whatever x is
    go_enter Try.func7, Try.ntmps7
    go_upto_region 3 with (first | (go_at_call 10; refine (km _).mono ?_; rintro e w1 ⟨rfl, hb1⟩))
    go_wp2
    go_loopw [5, 6] (fun n i wr => ∃ (at_ : Nat) (pre D : List (Nat × List Nat)), n = .int .i64 pre.length ∧ i = .int .i64 at_ ∧ at_ ≤ a0.size ∧ pre.length ≤ at_ ∧ C = pre ++ D ∧ Txt ((bt a0).drop at_) D ∧ Txt (bt (a0.extract 0 at_)) pre ∧ Bl w wr) (fun _ i _ => a0.size - (intOf i).toNat)
    case atStart => exact ⟨0, [], C, rfl, rfl, by omega, Nat.le_refl _, rfl, hT, by rw [ext_none]; exact .nil, hb1⟩
    case round =>
      obtain ⟨at_, pre, D, rfl, rfl, hat, hpl, hCD, hD, hP, hb⟩ := hrel
      by_cases hlt : at_ < a0.size
      · have hd7 : decide ((at_ : Int) < a0.size) = true := by simp; omega
        obtain ⟨hw1, hw2⟩ := dec_width a0 hlt
        obtain ⟨D', rfl, hD', ho⟩ := hD.step (bt_drop_ne hlt)
        rw [List.drop_drop] at hD'
        have hru := rune_of (bt_drop_ne hlt) (bt_drop_lt a0 at_) ho
        have kread := fun W => read_any (a0.extract at_ a0.size) W
        rw [bt_rest, read_yes hru] at kread
        have hone : Txt (((bt a0).drop at_).take (dec ((bt a0).drop at_)).2) [((dec ((bt a0).drop at_)).1, ((bt a0).drop at_).take (dec ((bt a0).drop at_)).2)] := Txt.one (by
          have := hru.take
          have hl := hru.width.2.2
          rwa [List.length_take, Nat.min_eq_left hl])
        have hext := ext_more a0 0 at_ (at_ + (dec ((bt a0).drop at_)).2) (by omega) (by omega)
        rw [Nat.add_sub_cancel_left] at hext
        have hP' := hP.app hone
        rw [← hext] at hP'
        generalize ((bt a0).drop at_).take (dec ((bt a0).drop at_)).2 = pc at hD hCD hone hP' hext
        generalize (dec ((bt a0).drop at_)).1 = r at kread hD hCD hone hP' hru
        generalize (dec ((bt a0).drop at_)).2 = wd at kread hD' hw1 hw2 hP' hext hru
        have hC2 : C = (pre ++ [(r, pc)]) ++ D' := by rw [hCD]; simp
        have hmp : mayM (bt (a0.extract 0 (at_ + wd))) = true := by
          rw [hP'.mayM]
          exact may_begin (by rw [← hC2]; exact hC) (by simp)
        have hrp : runM (bt (a0.extract 0 (at_ + wd))) = ((pre.length + 1 : Nat) : Int) := by rw [hP'.runM]; simp
        have hsz : (a0.extract 0 (at_ + wd)).size ≤ 1048576 := by simp; omega
        have kmp := fun W => may_any (a0.extract 0 (at_ + wd)) (by omega) W
        have krp := fun W => runes_any (a0.extract 0 (at_ + wd)) (by omega) W
        rw [hmp] at kmp
        rw [hrp] at krp
        have hcf := fun W => cut_from a0 hat W
        have hct := fun W => cut_to a0 hw2 W
        have dw : decide ((wd : Int) < 1) = false := by simp; omega
        have e1 : IntKind.i64.wrap ((at_ : Int) + wd) = ((at_ + wd : Nat) : Int) := by rw [IntWalk.i64_in _ (by omega)]; omega
        have e2 : IntKind.i64.wrap ((pre.length : Int) + 1) = ((pre.length + 1 : Nat) : Int) := by rw [IntWalk.i64_in _ (by omega)]; omega
        generalize hA : at_ + wd = at' at hct kmp krp hP' hD' hw2 e1
        have hA' : at_ < at' := by omega
        generalize hL' : pre.length + 1 = np at krp e2
        generalize hxp : a0.extract 0 at' = xp at kmp krp hct hP'
        replace hxp : Hid (a0.extract 0 at' = xp) := hxp
        replace hC2 : Hid (C = (pre ++ [(r, pc)]) ++ D') := hC2
        replace hA : Hid (at_ + wd = at') := hA
        replace hL' : Hid (pre.length + 1 = np) := hL'
        have hP2 : Hid (Txt (bt xp) (pre ++ [(r, pc)])) := hP'
        clear hCD hD hone hP' hext hru hmp hrp
        go_wp2_with (first | (go_at_call 21; refine (kread _).mono ?_; rintro e w2 ⟨rfl, rfl⟩) | (go_at_call 10; refine (kmp _).mono ?_; rintro e w3 ⟨rfl, hb3⟩) | (go_at_call 12; refine (krp _).mono ?_; rintro e w4 ⟨rfl, hb4⟩))
        exact ⟨⟨at', pre ++ [(r, pc)], D', by rw [← hL'.out]; simp, rfl, hw2, by simp; omega, hC2.out, hD', by rw [hxp.out]; exact hP2.out, (hb.trans hb3).trans hb4⟩, by simp [intOf]; omega⟩
      · have hd7 : decide ((at_ : Int) < a0.size) = false := by simp; omega
        rw [List.drop_eq_nil_of_le (by rw [bt_len]; omega)] at hD
        obtain rfl := hD.empty
        rw [List.append_nil] at hCD
        subst hCD
        have HB := hb
        have h3 : a1 % 3 = 0 ∨ a1 % 3 = 1 ∨ a1 % 3 = 2 := by omega
        have htm : a1.tmod 3 = a1 % 3 := Int.tmod_eq_emod_of_nonneg u0
        have hd9 : decide (at_ < a0.size) = false := by simp; omega
        clear km hT hP hb hat hpl hD
        rcases h3 with h3 | h3 | h3
        · rw [h3] at htm
          have kax := hlong ⟨#[48]⟩ (48, [48]) (by decide) (.one 48 [] (by decide)) rfl
          rw [show (letterB (48 : Nat) || digitB (48 : Nat)) = true by decide, Bool.and_true] at kax
          have kx := fun W => may_any ⟨#[48]⟩ (by decide) W
          rw [show mayM (bt ⟨#[48]⟩) = false by decide +kernel] at kx
          by_cases hn : C.length < 32
          · have dn : decide ((C.length : Int) < 32) = true := by simp; omega
            rw [decide_eq_true hn] at kax
            clear hn hlong
            go_wp2_with (first | (go_at_call_of 10 (⟨#[32]⟩ : ByteArray); refine (k1 _).mono ?_; rintro e v1 ⟨rfl, hv1⟩; replace HB := HB.trans hv1) | (go_at_call_of 10 (⟨#[195, 151]⟩ : ByteArray); refine (k2 _).mono ?_; rintro e v2 ⟨rfl, hv2⟩; replace HB := HB.trans hv2) | (go_at_call_of 10 (⟨#[255]⟩ : ByteArray); refine (k3 _).mono ?_; rintro e v3 ⟨rfl, hv3⟩; replace HB := HB.trans hv3) | (go_at_call_of 10 (⟨#[45]⟩ : ByteArray); refine (k4 _).mono ?_; rintro e v4 ⟨rfl, hv4⟩; replace HB := HB.trans hv4) | (go_at_call_of 10 a0; refine (kax _).mono ?_; rintro e v5 ⟨rfl, hv5⟩; replace HB := HB.trans hv5) | (go_at_call 10; refine (kx _).mono ?_; rintro e v6 ⟨rfl, hv6⟩; replace HB := HB.trans hv6) | (go_at_call 9; refine (hal _).mono ?_; rintro e v7 ⟨rfl, hv7⟩; replace HB := HB.trans hv7))
            go_returns
            exact ⟨rfl, HB⟩
          · have dn : decide ((C.length : Int) < 32) = false := by simp; omega
            rw [decide_eq_false hn] at kax
            clear hn hlong
            go_wp2_with (first | (go_at_call_of 10 (⟨#[32]⟩ : ByteArray); refine (k1 _).mono ?_; rintro e v1 ⟨rfl, hv1⟩; replace HB := HB.trans hv1) | (go_at_call_of 10 (⟨#[195, 151]⟩ : ByteArray); refine (k2 _).mono ?_; rintro e v2 ⟨rfl, hv2⟩; replace HB := HB.trans hv2) | (go_at_call_of 10 (⟨#[255]⟩ : ByteArray); refine (k3 _).mono ?_; rintro e v3 ⟨rfl, hv3⟩; replace HB := HB.trans hv3) | (go_at_call_of 10 (⟨#[45]⟩ : ByteArray); refine (k4 _).mono ?_; rintro e v4 ⟨rfl, hv4⟩; replace HB := HB.trans hv4) | (go_at_call_of 10 a0; refine (kax _).mono ?_; rintro e v5 ⟨rfl, hv5⟩; replace HB := HB.trans hv5) | (go_at_call 10; refine (kx _).mono ?_; rintro e v6 ⟨rfl, hv6⟩; replace HB := HB.trans hv6) | (go_at_call 9; refine (hal _).mono ?_; rintro e v7 ⟨rfl, hv7⟩; replace HB := HB.trans hv7))
            go_returns
            exact ⟨rfl, HB⟩
        · rw [h3] at htm
          obtain ⟨y, hy, hy0, hy1⟩ : ∃ y, (a1.tdiv 3).tmod 26 = y ∧ 0 ≤ y ∧ y < 26 := ⟨_, rfl, Int.tmod_nonneg _ (Int.tdiv_nonneg u0 (by decide)), Int.tmod_lt_of_pos _ (by decide)⟩
          have ed : IntKind.u16.wrap (a1.tdiv 3) = a1.tdiv 3 := IntWalk.u16_in _ (by rw [Int.tdiv_eq_ediv_of_nonneg u0]; omega)
          have em : (97 + y) % 256 = 97 + y := by omega
          have em2 : y % 256 = y := by omega
          have ey : IntKind.u8.wrap y = y := IntWalk.u8_in _ (by omega)
          have ez : IntKind.u8.wrap (97 + y) = 97 + y := IntWalk.u8_in _ (by omega)
          have hbx : bt (strOfNums [97 + y]) = [97 + y.toNat] := by rw [bt_nums _ (by simp; omega)]; simp; omega
          have hru : Rune (bt (strOfNums [97 + y])) (97 + y.toNat) (bt (strOfNums [97 + y])).length := by rw [hbx]; exact .one _ [] (by omega)
          have hle : letterB ((97 + y.toNat : Nat) : Int) = true := by
            have h1 : (97 : Int) ≤ ((97 + y.toNat : Nat) : Int) ∧ ((97 + y.toNat : Nat) : Int) ≤ 122 := by omega
            simp only [letterB, decide_eq_true h1, Bool.true_or]
          have hsx : (strOfNums [97 + y]).size = 1 := by rw [← bt_len, hbx]; rfl
          have kax := hlong (strOfNums [97 + y]) (97 + y.toNat, bt (strOfNums [97 + y])) (by omega) hru rfl
          have kx := fun W => may_any (strOfNums [97 + y]) (by omega) W
          have hmx : mayM (bt (strOfNums [97 + y])) = true := by
            rw [(Txt.one hru).mayM]
            unfold mayC
            simp only [List.length_singleton, List.all_cons, List.all_nil, List.headD_cons, hle, Bool.true_or, Bool.and_true]
            rfl
          rw [hmx] at kx
          dsimp only at kax
          rw [hle, Bool.true_or, Bool.and_true] at kax
          have hcv : ∀ (W : World) (t : TypeId) (g : Nat), g = W.heap.size → (convert 36 9 (.slice (some ⟨g, 0, none⟩) 1 1)).run Try.prog (W.alloc (.cells #[.int .u8 (97 + y)] t)) = .ok (.string (strOfNums [97 + y])) (W.alloc (.cells #[.int .u8 (97 + y)] t)) := fun W t g hg => conv_new W _ t g 1 1 [97 + y] hg rfl (fun i hi => by
            match i, hi with
            | 0, _ => rfl)
          clear hmx hle hru hbx
          generalize strOfNums [97 + y] = xx at kax kx hsx hcv
          have hzx : ¬ 9223372036854775807 < a0.size + xx.size := by omega
          have hzy : ¬ 9223372036854775807 < a0.size + 1 := by omega
          by_cases hn : C.length < 32
          · have dn : decide ((C.length : Int) < 32) = true := by simp; omega
            rw [decide_eq_true hn] at kax
            clear hn hlong
            replace HB := HB.alloc (Obj.cells #[.int .u8 (97 + y)] 5)
            go_wp2_with (first | (go_at_call_of 10 (⟨#[32]⟩ : ByteArray); refine (k1 _).mono ?_; rintro e v1 ⟨rfl, hv1⟩; replace HB := HB.trans hv1) | (go_at_call_of 10 (⟨#[195, 151]⟩ : ByteArray); refine (k2 _).mono ?_; rintro e v2 ⟨rfl, hv2⟩; replace HB := HB.trans hv2) | (go_at_call_of 10 (⟨#[255]⟩ : ByteArray); refine (k3 _).mono ?_; rintro e v3 ⟨rfl, hv3⟩; replace HB := HB.trans hv3) | (go_at_call_of 10 (⟨#[45]⟩ : ByteArray); refine (k4 _).mono ?_; rintro e v4 ⟨rfl, hv4⟩; replace HB := HB.trans hv4) | (go_at_call_of 10 a0; refine (kax _).mono ?_; rintro e v5 ⟨rfl, hv5⟩; replace HB := HB.trans hv5) | (go_at_call 10; refine (kx _).mono ?_; rintro e v6 ⟨rfl, hv6⟩; replace HB := HB.trans hv6) | (go_at_call 9; refine (hal _).mono ?_; rintro e v7 ⟨rfl, hv7⟩; replace HB := HB.trans hv7))
            go_returns
            exact ⟨rfl, HB⟩
          · have dn : decide ((C.length : Int) < 32) = false := by simp; omega
            rw [decide_eq_false hn] at kax
            clear hn hlong
            replace HB := HB.alloc (Obj.cells #[.int .u8 (97 + y)] 5)
            go_wp2_with (first | (go_at_call_of 10 (⟨#[32]⟩ : ByteArray); refine (k1 _).mono ?_; rintro e v1 ⟨rfl, hv1⟩; replace HB := HB.trans hv1) | (go_at_call_of 10 (⟨#[195, 151]⟩ : ByteArray); refine (k2 _).mono ?_; rintro e v2 ⟨rfl, hv2⟩; replace HB := HB.trans hv2) | (go_at_call_of 10 (⟨#[255]⟩ : ByteArray); refine (k3 _).mono ?_; rintro e v3 ⟨rfl, hv3⟩; replace HB := HB.trans hv3) | (go_at_call_of 10 (⟨#[45]⟩ : ByteArray); refine (k4 _).mono ?_; rintro e v4 ⟨rfl, hv4⟩; replace HB := HB.trans hv4) | (go_at_call_of 10 a0; refine (kax _).mono ?_; rintro e v5 ⟨rfl, hv5⟩; replace HB := HB.trans hv5) | (go_at_call 10; refine (kx _).mono ?_; rintro e v6 ⟨rfl, hv6⟩; replace HB := HB.trans hv6) | (go_at_call 9; refine (hal _).mono ?_; rintro e v7 ⟨rfl, hv7⟩; replace HB := HB.trans hv7))
            go_returns
            exact ⟨rfl, HB⟩
        · rw [h3] at htm
          obtain ⟨y, hy, hy0, hy1⟩ : ∃ y, (a1.tdiv 3).tmod 30 = y ∧ 0 ≤ y ∧ y < 30 := ⟨_, rfl, Int.tmod_nonneg _ (Int.tdiv_nonneg u0 (by decide)), Int.tmod_lt_of_pos _ (by decide)⟩
          have ed : IntKind.u16.wrap (a1.tdiv 3) = a1.tdiv 3 := IntWalk.u16_in _ (by rw [Int.tdiv_eq_ediv_of_nonneg u0]; omega)
          have em : (152 + y) % 256 = 152 + y := by omega
          have em2 : y % 256 = y := by omega
          have ey : IntKind.u8.wrap y = y := IntWalk.u8_in _ (by omega)
          have ez : IntKind.u8.wrap (152 + y) = 152 + y := IntWalk.u8_in _ (by omega)
          have hbx : bt (strOfNums [195, 152 + y]) = [195, 152 + y.toNat] := by rw [bt_nums _ (by simp; omega)]; simp; omega
          have hru : Rune (bt (strOfNums [195, 152 + y])) (216 + y.toNat) (bt (strOfNums [195, 152 + y])).length := by rw [hbx]; exact (by have := Rune.two 195 (152 + y.toNat) [] (by decide) (by decide) (by omega) (by omega); rwa [show (195 - 192) * 64 + (152 + y.toNat - 128) = 216 + y.toNat by omega] at this)
          have hle : letterB ((216 + y.toNat : Nat) : Int) = true := by
            have h1 : (192 : Int) ≤ ((216 + y.toNat : Nat) : Int) ∧ ((216 + y.toNat : Nat) : Int) ≠ 215 ∧ ((216 + y.toNat : Nat) : Int) ≠ 247 := by omega
            have h2 : Utf8.valid ((216 + y.toNat : Nat) : Int) = true := by simp [Utf8.valid]; omega
            simp only [letterB, decide_eq_true h1, h2, Bool.and_true, Bool.or_true]
          have hsx : (strOfNums [195, 152 + y]).size = 2 := by rw [← bt_len, hbx]; rfl
          have kax := hlong (strOfNums [195, 152 + y]) (216 + y.toNat, bt (strOfNums [195, 152 + y])) (by omega) hru rfl
          have kx := fun W => may_any (strOfNums [195, 152 + y]) (by omega) W
          have hmx : mayM (bt (strOfNums [195, 152 + y])) = true := by
            rw [(Txt.one hru).mayM]
            unfold mayC
            simp only [List.length_singleton, List.all_cons, List.all_nil, List.headD_cons, hle, Bool.true_or, Bool.and_true]
            rfl
          rw [hmx] at kx
          dsimp only at kax
          rw [hle, Bool.true_or, Bool.and_true] at kax
          have hcv : ∀ (W : World) (t : TypeId) (g : Nat), g = W.heap.size → (convert 36 9 (.slice (some ⟨g, 0, none⟩) 2 2)).run Try.prog (W.alloc (.cells #[.int .u8 (195), .int .u8 (152 + y)] t)) = .ok (.string (strOfNums [195, 152 + y])) (W.alloc (.cells #[.int .u8 (195), .int .u8 (152 + y)] t)) := fun W t g hg => conv_new W _ t g 2 2 [195, 152 + y] hg rfl (fun i hi => by
            match i, hi with
            | 0, _ => rfl
            | 1, _ => rfl)
          clear hmx hle hru hbx
          generalize strOfNums [195, 152 + y] = xx at kax kx hsx hcv
          have hzx : ¬ 9223372036854775807 < a0.size + xx.size := by omega
          have hzy : ¬ 9223372036854775807 < a0.size + 2 := by omega
          by_cases hn : C.length < 32
          · have dn : decide ((C.length : Int) < 32) = true := by simp; omega
            rw [decide_eq_true hn] at kax
            clear hn hlong
            replace HB := HB.alloc (Obj.cells #[.int .u8 (195), .int .u8 (152 + y)] 5)
            go_wp2_with (first | (go_at_call_of 10 (⟨#[32]⟩ : ByteArray); refine (k1 _).mono ?_; rintro e v1 ⟨rfl, hv1⟩; replace HB := HB.trans hv1) | (go_at_call_of 10 (⟨#[195, 151]⟩ : ByteArray); refine (k2 _).mono ?_; rintro e v2 ⟨rfl, hv2⟩; replace HB := HB.trans hv2) | (go_at_call_of 10 (⟨#[255]⟩ : ByteArray); refine (k3 _).mono ?_; rintro e v3 ⟨rfl, hv3⟩; replace HB := HB.trans hv3) | (go_at_call_of 10 (⟨#[45]⟩ : ByteArray); refine (k4 _).mono ?_; rintro e v4 ⟨rfl, hv4⟩; replace HB := HB.trans hv4) | (go_at_call_of 10 a0; refine (kax _).mono ?_; rintro e v5 ⟨rfl, hv5⟩; replace HB := HB.trans hv5) | (go_at_call 10; refine (kx _).mono ?_; rintro e v6 ⟨rfl, hv6⟩; replace HB := HB.trans hv6) | (go_at_call 9; refine (hal _).mono ?_; rintro e v7 ⟨rfl, hv7⟩; replace HB := HB.trans hv7))
            go_returns
            exact ⟨rfl, HB⟩
          · have dn : decide ((C.length : Int) < 32) = false := by simp; omega
            rw [decide_eq_false hn] at kax
            clear hn hlong
            replace HB := HB.alloc (Obj.cells #[.int .u8 (195), .int .u8 (152 + y)] 5)
            go_wp2_with (first | (go_at_call_of 10 (⟨#[32]⟩ : ByteArray); refine (k1 _).mono ?_; rintro e v1 ⟨rfl, hv1⟩; replace HB := HB.trans hv1) | (go_at_call_of 10 (⟨#[195, 151]⟩ : ByteArray); refine (k2 _).mono ?_; rintro e v2 ⟨rfl, hv2⟩; replace HB := HB.trans hv2) | (go_at_call_of 10 (⟨#[255]⟩ : ByteArray); refine (k3 _).mono ?_; rintro e v3 ⟨rfl, hv3⟩; replace HB := HB.trans hv3) | (go_at_call_of 10 (⟨#[45]⟩ : ByteArray); refine (k4 _).mono ?_; rintro e v4 ⟨rfl, hv4⟩; replace HB := HB.trans hv4) | (go_at_call_of 10 a0; refine (kax _).mono ?_; rintro e v5 ⟨rfl, hv5⟩; replace HB := HB.trans hv5) | (go_at_call 10; refine (kx _).mono ?_; rintro e v6 ⟨rfl, hv6⟩; replace HB := HB.trans hv6) | (go_at_call 9; refine (hal _).mono ?_; rintro e v7 ⟨rfl, hv7⟩; replace HB := HB.trans hv7))
            go_returns
            exact ⟨rfl, HB⟩

set_option maxRecDepth 100000 in
theorem lifted (os : Os) (started : os.Started) (H : Type) (enc : TypeId × Value → H) :
    ReturnsInHanded {} Try.checked os 7 .any (Rows.nameBeginsSpec.pre6 enc Try.prog Try.f7 Rows.nameBeginsRow.domain false) (Rows.nameBeginsSpec.post enc Try.prog Try.f7 false true false false) := by
  refine returnsInHanded_of_change (C := Try.checked) own started (by kernel_rfl) Try.func7
    (ChangeSpec.witness6 (enc := enc) (C := Try.checked) false ⟨#[], #[.string ByteArray.empty, .int .u16 0], []⟩ 8 (by kernel_rfl) (by kernel_rfl) (by kernel_rfl) (by kernel_rfl)) ?_
  intro W base args ds gs before hval0 hW hcnd _
  have hval : ∀ (j : Nat) t v, Try.f7.params[j]? = some t → args[j]? = some v → Value.okWide Try.prog W .any base t v := hval0
  have hW' := hW
  obtain ⟨p, q, hA0, hV, rfl, hfz, hnd⟩ := hW
  have hA : DataW.TrodAll enc Try.prog W 0 (fun _ => true) true Try.f7.params.toList args.toList ds p := hA0
  rw [Try.params7] at hA hval
  obtain ⟨v0, vs0, d0, ds0, p0, q0, hargs, rfl, rfl, h0, r0⟩ := trodAll_cons hA
  obtain ⟨v1, vs1, d1, ds1, p1, q1, rfl, rfl, rfl, h1, r1⟩ := trodAll_cons r0
  obtain ⟨rfl, rfl, rfl⟩ := trodAll_nil r1
  obtain rfl : args = #[v0, v1] := by cases args; simp_all
  obtain ⟨rfl, rfl⟩ := trodVars_none hV
  obtain ⟨a0, rfl, rfl, rfl, w0⟩ := open_string Try.underlying9 (hval 0 9 v0 rfl rfl) h0
  obtain ⟨a1, rfl, rfl, rfl, w1⟩ := open_int Try.underlying33 (hval 1 33 v1 rfl rfl) h1
  clear hA0 hval0
  simp only [List.append_nil] at hW'
  refine (walk a0 a1 w0 w1 W).mono fun e W' ⟨he, hg⟩ => ?_
  subst he
  exact ⟨_, rfl, post_nil hW' (fun _ _ _ => (trodAll_cons_mk (shut_bool Try.underlying4 _) trodAll_mk0)) (fun sp => (trodAll_cons_mk (shut_string Try.underlying9 w0) (trodAll_cons_mk (shut_int Try.underlying33 w1) trodAll_mk0))) (fun _ => rfl)
    hg (ok_one (by kernel_rfl) rfl (okWide_bool_mk Try.underlying4 _))⟩

theorem over : Rows.nameBeginsRow.holds Try.pinned (OpenSpec.ofChange Rows.nameBeginsSpec) :=
  OpenClaim.holds_of_wide 7 Try.f7 rfl rfl rfl rfl rfl rfl rfl ⟨rfl, rfl, rfl, rfl, rfl⟩ rfl rfl rfl rfl rfl (by kernel_rfl) Try.func7 (by kernel_rfl)
    (of_decide_eq_true (by kernel_rfl)) (by unfold Func.isWrapper; first | (rw [if_pos (by decide +kernel)]; kernel_rfl) | (rw [if_neg (by decide +kernel)]; exact ⟨rfl, rfl⟩))
    (fun os started H enc _ => lifted os started H enc)

theorem proved : Rows.NameBeginsSaid :=
  over
end Go.Proofs.Ytkndkniimlckeaa.nameBegins
namespace Go.Proofs.Ytkndkniimlckeaa
theorem nameBegins_holds : Rows.NameBeginsSaid :=
  nameBegins.proved
#print axioms nameBegins_holds
end Go.Proofs.Ytkndkniimlckeaa
