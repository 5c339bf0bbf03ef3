/- Towards the statements of package tnum (layer 3): what TnumOrder asks, for every two sets, whatever of them is known besides, any shift. -/
import Derived.Test.YtoomcnjpomdbpaaSoundM
import Derived.Test.YtoomcnjpomdbpaaWorks
import Derived.Test.YtoomcnjpomdbpaaPMul
import Derived.Deep.RegionHeld3
import Derived.Deep.DeepCutAuto
namespace Go.Proofs.Ytoomcnjpomdbpaa
open Go.ChangeShapes Go.WideShapes Go.ChangeAt Go.RowKit
set_option linter.unusedVariables false
set_option maxRecDepth 20000

theorem in_e (av am bv bm : BitVec 64) (b : Bool) (h : (am &&& ~~~bm == 0#64 && av &&& ~~~bm == bv) = b) (w : World) : Calls Try.prog 15 #[.agg #[.int .u64 (iv av), .int .u64 (iv am)], .agg #[.int .u64 (iv bv), .int .u64 (iv bm)]] w fun e w' => e = .returned (.bool b) ∧ Gr w w' := by
  subst h
  exact in_any av am bv bm w
theorem cell_al {w : World} {a : Addr} {v : Value} {o : Obj} (h : w.cell? a = some v) : (w.alloc o).cell? a = some v := by
  rw [World.cell?_alloc_some _ _ _ (by rw [h]; rfl), h]
theorem cell_gr {w w' : World} {a : Addr} {v : Value} (g : Gr w w') (h : w.cell? a = some v) : w'.cell? a = some v := by
  rw [← h]
  exact (World.cell?_of_block (g.below.block a.block (World.block_lt_of_cell? w a h)))
theorem cell_dr {w : World} {a : Addr} {v : Value} (h : w.cell? a = some v) : w.drew.cell? a = some v := h
theorem cell_st {w : World} {a p : Addr} {v u : Value} (hp : p.block ≠ a.block) (h : w.cell? a = some v) : (w.setCell p u).cell? a = some v := by
  rw [World.cell?_setCell_far _ _ _ _ hp, h]
theorem of_e (v m v' : BitVec 64) (h : v &&& ~~~m = v') (w : World) : Calls Try.prog 9 #[.int .u64 (iv v), .int .u64 (iv m)] w fun e w' => e = .returned (.agg #[.int .u64 (iv v'), .int .u64 (iv m)]) ∧ w' = w.alloc (.cells #[.int .u64 (iv v'), .int .u64 (iv m)] 24) := by
  subst h
  exact of_any v m w
theorem some_e (v m x p : BitVec 64) (h : v ||| x &&& m = p) (w : World) : Calls Try.prog 38 #[.agg #[.int .u64 (iv v), .int .u64 (iv m)], .int .u64 (iv x)] w fun e w' => e = .returned (.int .u64 (iv p)) ∧ w' = w.alloc (.cells #[.int .u64 (iv v), .int .u64 (iv m)] 24) := by
  subst h
  exact some_any v m x w
set_option maxHeartbeats 4000000 in
theorem order_any (v m z n x y : BitVec 64) (s : Nat) (hs : s < 256) (w : World) : Calls Try.prog 7 #[.int .u64 (iv v), .int .u64 (iv m), .int .u64 (iv z), .int .u64 (iv n), .int .u64 (iv x), .int .u64 (iv y), .int .u8 (s : Int)] w fun e w' => e = .returned (.bool true) ∧ Gr w w' := by
  have oa : Tn.Ok (v &&& ~~~m) m := Tn.ok_cut v m
  have ob : Tn.Ok (z &&& ~~~n) n := Tn.ok_cut z n
  obtain ⟨av, ha⟩ : ∃ av, v &&& ~~~m = av := ⟨_, rfl⟩
  obtain ⟨bv, hb⟩ : ∃ bv, z &&& ~~~n = bv := ⟨_, rfl⟩
  rw [ha] at oa
  rw [hb] at ob
  have HG : Gr w w := Gr.refl w
  obtain ⟨cm, hcm⟩ : ∃ z, m &&& x = z := ⟨_, rfl⟩
  obtain ⟨dm, hdm⟩ : ∃ z, n &&& y = z := ⟨_, rfl⟩
  obtain ⟨p, hp⟩ : ∃ z, av ||| x &&& m = z := ⟨_, rfl⟩
  obtain ⟨q, hq⟩ : ∃ z, bv ||| y &&& n = z := ⟨_, rfl⟩
  obtain ⟨cv, hcv⟩ : ∃ z, p &&& ~~~cm = z := ⟨_, rfl⟩
  obtain ⟨dv, hdv⟩ : ∃ z, q &&& ~~~dm = z := ⟨_, rfl⟩
  have rx := iv_and m x
  have ry := iv_and n y
  go_enter Try.func7, Try.ntmps7
  go_upto_region 2 with (first
    | (go_at_call 9; refine (of_gr _ _ _).mono ?_; rintro e w' ⟨rfl, hg⟩; replace HG := HG.trans hg; clear hg))
  clear ha hb
  have HA : Hid (At ((w'.alloc (.cells #[.int .u64 (iv av), .int .u64 (iv m)] 24)).alloc (.cells #[.int .u64 (iv bv), .int .u64 (iv n)] 24)) w'.heap.size av m) := (At.newb w' rfl av m).alloc _
  have HB : Hid (At ((w'.alloc (.cells #[.int .u64 (iv av), .int .u64 (iv m)] 24)).alloc (.cells #[.int .u64 (iv bv), .int .u64 (iv n)] 24)) (w'.heap.size + 1) bv n) := At.newb _ (by simp) bv n
  have HF : Hid (Gr w ((w'.alloc (.cells #[.int .u64 (iv av), .int .u64 (iv m)] 24)).alloc (.cells #[.int .u64 (iv bv), .int .u64 (iv n)] 24))) := (HG.alloc _ _).alloc _ _
  clear HG
  revert HA HB HF
  generalize ((w'.alloc (.cells #[.int .u64 (iv av), .int .u64 (iv m)] 24)).alloc (.cells #[.int .u64 (iv bv), .int .u64 (iv n)] 24)) = W
  intro HA HB HF
  have a0 := HA.out.c0
  have a1 := HA.out.c1
  have b0 := HB.out.c0
  have b1 := HB.out.c1
  have hlt : w'.heap.size + 1 < W.heap.size := HB.out.lt
  generalize w'.heap.size = A at *
  go_cut [17, 18] (fun c d wx => ∃ bc bd, c = .pointer (some ⟨bc, 0, none⟩) ∧ d = .pointer (some ⟨bd, 0, none⟩) ∧ At wx A av m ∧ At wx (A + 1) bv n ∧ At wx bc cv cm ∧ At wx bd dv dm ∧ Gr w wx)
  case first =>
    go_region_held3 (fun w' => w'.cell? ⟨A, 0, none⟩ = some (.int .u64 (iv av)) ∧ w'.cell? ⟨A, 1, none⟩ = some (.int .u64 (iv m)) ∧ w'.cell? ⟨A + 1, 0, none⟩ = some (.int .u64 (iv bv)) ∧ w'.cell? ⟨A + 1, 1, none⟩ = some (.int .u64 (iv n))) ((refine ⟨?_, ?_, ?_, ?_⟩ <;> repeat (with_reducible (first | assumption | apply cell_al | apply cell_dr | (refine cell_gr (by assumption) ?_) | (refine cell_st (by simp; omega) ?_)))))
      (first
      | (go_at_call 38; refine (some_e _ _ _ _ (by with_reducible assumption) _).mono ?_; rintro e w'' ⟨rfl, rfl⟩)
      | (go_at_call 9; refine (of_e _ _ _ (by with_reducible assumption) _).mono ?_; rintro e w'' ⟨rfl, rfl⟩))
    all_goals go_wp2_with fail
    all_goals go_meet
    all_goals
      case rel =>
        refine ⟨_, _, rfl, rfl, ?_, ?_, ?_, ?_, ?_⟩
        · repeat (with_reducible (first | exact HA.out | apply At.drew | apply At.alloc))
        · repeat (with_reducible (first | exact HB.out | apply At.drew | apply At.alloc))
        · repeat (first | (with_reducible apply At.drew) | (with_reducible refine At.newb _ ?_ _ _; simp; done) | (with_reducible apply At.alloc))
        · repeat (first | (with_reducible apply At.drew) | (with_reducible refine At.newb _ ?_ _ _; simp; done) | (with_reducible apply At.alloc))
        · repeat (with_reducible (first | exact HF.out | apply Gr.drew | apply Gr.alloc))
  case rest =>
    obtain ⟨bc, bd, rfl, rfl, h1, h2, h3, h4, h5⟩ := hcut
    have HA2 : Hid (At wc A av m) := h1
    have HB2 : Hid (At wc (A + 1) bv n) := h2
    have HC2 : Hid (At wc bc cv cm) := h3
    have HD2 : Hid (At wc bd dv dm) := h4
    have HF2 : Hid (Gr w wc) := h5
    clear h1 h2 h3 h4 h5 HA HB HF a0 a1 b0 b1 hlt
    have oc : Tn.Ok cv cm := by rw [← hcv]; exact Tn.ok_cut _ _
    have od : Tn.Ok dv dm := by rw [← hdv]; exact Tn.ok_cut _ _
    have ia : Tn.In cv cm av m := by rw [← hcv, ← hp, ← hcm]; exact some_in av m x
    have ib : Tn.In dv dm bv n := by rw [← hdv, ← hq, ← hdm]; exact some_in bv n y
    clear hcm hdm hp hq hcv hdv rx ry
    have hne : Nonempty (GrBy wc) := ⟨⟨wc, Gr.refl wc⟩⟩
    have a0 : ∀ p : GrBy wc, p.to.cell? ⟨A, 0, none⟩ = some (.int .u64 (iv av)) := fun p => (HA2.out.gr p.gr).c0
    have a1 : ∀ p : GrBy wc, p.to.cell? ⟨A, 1, none⟩ = some (.int .u64 (iv m)) := fun p => (HA2.out.gr p.gr).c1
    have b0 : ∀ p : GrBy wc, p.to.cell? ⟨A + 1, 0, none⟩ = some (.int .u64 (iv bv)) := fun p => (HB2.out.gr p.gr).c0
    have b1 : ∀ p : GrBy wc, p.to.cell? ⟨A + 1, 1, none⟩ = some (.int .u64 (iv n)) := fun p => (HB2.out.gr p.gr).c1
    have c0 : ∀ p : GrBy wc, p.to.cell? ⟨bc, 0, none⟩ = some (.int .u64 (iv cv)) := fun p => (HC2.out.gr p.gr).c0
    have c1 : ∀ p : GrBy wc, p.to.cell? ⟨bc, 1, none⟩ = some (.int .u64 (iv cm)) := fun p => (HC2.out.gr p.gr).c1
    have d0 : ∀ p : GrBy wc, p.to.cell? ⟨bd, 0, none⟩ = some (.int .u64 (iv dv)) := fun p => (HD2.out.gr p.gr).c0
    have d1 : ∀ p : GrBy wc, p.to.cell? ⟨bd, 1, none⟩ = some (.int .u64 (iv dm)) := fun p => (HD2.out.gr p.gr).c1
    obtain ⟨p', hp'⟩ : ∃ p : GrBy wc, p.to = wc := ⟨⟨wc, Gr.refl wc⟩, rfl⟩
    rw [← hp']
    clear hp'
    have k1 := in_true oa ia
    have k2 := in_true ob ib
    go_wp2_with (first
    | (go_at_call 15; refine (in_e _ _ _ _ _ (by with_reducible assumption) _).mono ?_; rintro e w' ⟨rfl, hg⟩; obtain ⟨q', rfl⟩ := by_of hg; clear hg)
)
    clear k1 k2
    have k1 := in_true (add_ok av m bv n) (Tn.add_mono oa ob oc od ia ib)
    have k2 := in_true (sub_ok av m bv n) (Tn.sub_mono oa ob oc od ia ib)
    have k3 := in_true (and_ok av m bv n) (bits_in Tn.andF and_lesser ia ib (and_bit oc od) (and_bit oa ob))
    have k4 := in_true (or_ok av m bv n) (bits_in Tn.orF or_lesser ia ib (or_bit oc od) (or_bit oa ob))
    have k5 := in_true (Tn.ok_cut (av ^^^ bv) (m ||| n)) (bits_in Tn.xorF xor_lesser ia ib (xor_bit oc od) (xor_bit oa ob))
    try simp only [List.append_eq, List.cons_append, List.nil_append]
    refine wp_region_by (by kernel_rfl) (by kernel_rfl) ?_
    repeat (first
      | go_big_quiet_skip
      | (go_big_quiet_want; go_big_quiet_op; first
        | go_big_quiet_on
        | (apply Exists.intro
           refine ⟨fun p => ?_, ?_⟩
           · first
             | (go_at_call 15; exact calls_gr (in_e _ _ _ _ _ (by with_reducible assumption) _))
             | (go_at_call 25; exact calls_gr (add_any _ _ _ _ _))
             | (go_at_call 27; exact calls_gr (sub_any _ _ _ _ _))
             | (go_at_call 31; exact calls_gr (and_any _ _ _ _ _))
             | (go_at_call 32; exact calls_gr (or_any _ _ _ _ _))
             | (go_at_call 33; exact calls_gr (xor_any _ _ _ _ _))
           go_big_quiet_on)))
    refine wpQuiet_nil ?_
    intro _ hw'
    obtain ⟨q, rfl⟩ := hw'
    clear k1 k2 k3 k4 k5
    go_wp2_with fail
    have k1 := in_true (shl_ok oa s) (shl_in ia s)
    have k2 := in_true (sar_ok oa s) (sar_in ia s)
    have k3 := in_true (Tn.ok_cut cv (joinM cv cm dv dm)) (join_in oc od)
    try simp only [List.append_eq, List.cons_append, List.nil_append]
    refine wp_region_by (by kernel_rfl) (by kernel_rfl) ?_
    repeat (first
      | go_big_quiet_skip
      | (go_big_quiet_want; go_big_quiet_op; first
        | go_big_quiet_on
        | (apply Exists.intro
           refine ⟨fun p => ?_, ?_⟩
           · first
             | (go_at_call 15; exact calls_gr (in_e _ _ _ _ _ (by with_reducible assumption) _))
             | (go_at_call 34; exact calls_gr (shl_any _ _ _ _))
             | (go_at_call 37; exact calls_gr (sar_any _ _ _ _))
             | (go_at_call 20; exact calls_gr (join_any _ _ _ _ _))
           go_big_quiet_on)))
    refine wpQuiet_nil ?_
    intro _ hw'
    obtain ⟨q, rfl⟩ := hw'
    clear k1 k2 k3
    go_wp2_with (first
      | (go_at_call_of 17 (Value.int IntKind.u64 (iv v)); refine (cst_gr _ _).mono ?_; rintro e w1 ⟨rfl, g1⟩)
      | (go_at_call_of 17 (Value.int IntKind.u64 (iv z)); refine (cst_gr _ _).mono ?_; rintro e w2 ⟨rfl, g2⟩))
    have HP3 : Hid (At ((w2.alloc (.cells #[.int .u64 (iv v), .int .u64 (iv 0#64)] 24)).alloc (.cells #[.int .u64 (iv z), .int .u64 (iv 0#64)] 24)) w2.heap.size v 0#64) := (At.newb w2 rfl v 0#64).alloc _
    have HQ3 : Hid (At ((w2.alloc (.cells #[.int .u64 (iv v), .int .u64 (iv 0#64)] 24)).alloc (.cells #[.int .u64 (iv z), .int .u64 (iv 0#64)] 24)) (w2.heap.size + 1) z 0#64) := At.newb _ (by simp) z 0#64
    have HF3 : Hid (Gr w ((w2.alloc (.cells #[.int .u64 (iv v), .int .u64 (iv 0#64)] 24)).alloc (.cells #[.int .u64 (iv z), .int .u64 (iv 0#64)] 24))) := ((((HF2.out.trans q.gr).trans g1).trans g2).alloc _ _).alloc _ _
    clear g1 g2 HF2 HA2 HB2 HC2 HD2 a0 a1 b0 b1 c0 c1 d0 d1
    revert HP3 HQ3 HF3
    generalize ((w2.alloc (.cells #[.int .u64 (iv v), .int .u64 (iv 0#64)] 24)).alloc (.cells #[.int .u64 (iv z), .int .u64 (iv 0#64)] 24)) = W3
    intro HP3 HQ3 HF3
    have hne3 : Nonempty (GrBy W3) := ⟨⟨W3, Gr.refl W3⟩⟩
    have p0 : ∀ p : GrBy W3, p.to.cell? ⟨w2.heap.size, 0, none⟩ = some (.int .u64 (iv v)) := fun p => (HP3.out.gr p.gr).c0
    have p1 : ∀ p : GrBy W3, p.to.cell? ⟨w2.heap.size, 1, none⟩ = some (.int .u64 (iv 0#64)) := fun p => (HP3.out.gr p.gr).c1
    have q0 : ∀ p : GrBy W3, p.to.cell? ⟨w2.heap.size + 1, 0, none⟩ = some (.int .u64 (iv z)) := fun p => (HQ3.out.gr p.gr).c0
    have q1 : ∀ p : GrBy W3, p.to.cell? ⟨w2.heap.size + 1, 1, none⟩ = some (.int .u64 (iv 0#64)) := fun p => (HQ3.out.gr p.gr).c1
    have op : Tn.Ok v 0#64 := Tn.ok_const v
    obtain ⟨m1, m2⟩ := mul_const v z
    obtain ⟨m3, m4⟩ := add_const v z
    obtain ⟨m5, m6⟩ := sub_const v z
    have r1 := iv_mul v z
    have r2 := iv_sub v z
    have r3 := iv_add v z
    obtain ⟨p3, hp3⟩ : ∃ p : GrBy W3, p.to = W3 := ⟨⟨W3, Gr.refl W3⟩, rfl⟩
    rw [← hp3]
    clear hp3
    go_wp2_with (first
    | (go_at_call 15; refine (in_e _ _ _ _ _ (by with_reducible assumption) _).mono ?_; rintro e w' ⟨rfl, hg⟩; obtain ⟨q', rfl⟩ := by_of hg; clear hg)
    | (go_at_call 29; refine (mul_any _ _ _ _ (by first | exact oa | exact oz | exact op) _).mono ?_; rintro e w' ⟨rfl, hg⟩; obtain ⟨q', rfl⟩ := by_of hg; clear hg)
    | (go_at_call 17; refine (cst_gr _ _).mono ?_; rintro e w' ⟨rfl, hg⟩; obtain ⟨q', rfl⟩ := by_of hg; clear hg)
    | (go_at_call 27; refine (sub_any _ _ _ _ _).mono ?_; rintro e w' ⟨rfl, hg⟩; obtain ⟨q', rfl⟩ := by_of hg; clear hg)
    | (go_at_call 25; refine (add_any _ _ _ _ _).mono ?_; rintro e w' ⟨rfl, hg⟩; obtain ⟨q', rfl⟩ := by_of hg; clear hg)
    | (go_at_call 24; refine (works_any _).mono ?_; rintro e w' ⟨rfl, hg⟩; obtain ⟨q', rfl⟩ := by_of hg; clear hg))
    go_ret
    exact ⟨rfl, HF3.out.trans q'.gr⟩
end Go.Proofs.Ytoomcnjpomdbpaa
