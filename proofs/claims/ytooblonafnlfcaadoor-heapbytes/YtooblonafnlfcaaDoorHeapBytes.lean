/- HeapBytes: an object's bytes are 0 at first, and what is written into it then, whatever happens to others, also in a slot that another one had (P14.1, P14.2), for every two sizes, every place, every texts: the statement as given, its table of classes tied to the text of the program. No condition beside those of the card itself. -/
import Derived.Test.YtooblonafnlfcaaDoorPK
import Derived.Test.YtooblonafnlfcaaDoorPS
import Derived.Test.YtooblonafnlfcaaDoorCards
import Derived.Test.YtooblonafnlfcaaDoorTie
import Derived.WalkKit
import Derived.ProofKit
import Derived.OpenShut
import Derived.SizedLaws
import Derived.ShutString
import Derived.SevenTiedAt
namespace Go.Proofs.YtooblonafnlfcaaDoor.heapBytes
open Go.ChangeShapes Go.WideShapes Go.ChangeAt Go.RowKit
set_option linter.unusedVariables false
set_option linter.unusedSimpArgs false
theorem own : ownKnob Tryd.prog.godebug = none := by kernel_rfl
theorem dead_none {M : MJ} {k : Nat} (h : M k = none) (g : Nat) : liveB M k g = false := by
  unfold liveB
  rw [lOf_nat, h]
  rfl
set_option maxRecDepth 100000 in
set_option maxHeartbeats 16000000 in
theorem walk (a0 : Int) (a1 : Int) (a2 : Int) (a3 : ByteArray) (a4 : ByteArray) (w : World) (hT : Tab w) (h0 : 0 < w.heap.size) (w0 : (Lit.int .u8 a0).wf = true) (w1 : (Lit.int .u8 a1).wf = true) (w2 : (Lit.int .u8 a2).wf = true) (w3 : a3.size ≤ reachBytes) (w4 : a4.size ≤ reachBytes) :
    Calls Tryd.prog 5 #[.int .u8 a0, .int .u8 a1, .int .u8 a2, .string a3, .string a4] w fun e w' => e = .returned (.bool true) ∧ Below w.heap.size w w' := by
  have b0 := wf_u8' w0
  have b1 := wf_u8' w1
  have b2 := wf_u8' w2
  have r3 : a3.size < 140737488355328 := Nat.lt_of_le_of_lt w3 reachBytes_lt
  have r4 : a4.size < 140737488355328 := Nat.lt_of_le_of_lt w4 reachBytes_lt
  have e34 : IntKind.i64.wrap ((a3.size : Int) + a4.size) = (a3.size : Int) + a4.size := IntWalk.i64_in _ (by omega)
  by_cases hlen : 1024 < a3.size + a4.size
  · have d1 : decide ((1024 : Int) < (a3.size : Int) + a4.size) = true := decide_eq_true (by omega)
    have k9 := hworks_any w hT h0
    go_enter Tryd.func5, Tryd.ntmps5
    go_wp2_with (go_at_call 9; refine k9.mono ?_; rintro e w3 ⟨rfl, hb⟩)
    all_goals go_returns
    exact ⟨rfl, hb⟩
  have d1 : decide ((1024 : Int) < (a3.size : Int) + a4.size) = false := decide_eq_false (by omega)
  obtain ⟨n, hn⟩ : ∃ n : Nat, a0 % 128 + 1 = (n : Int) := ⟨(a0 % 128 + 1).toNat, by omega⟩
  obtain ⟨m, hm⟩ : ∃ m : Nat, a1 % 128 + 1 = (m : Int) := ⟨(a1 % 128 + 1).toNat, by omega⟩
  have hn1 : 1 ≤ n ∧ n ≤ 128 := by omega
  have hm1 : 1 ≤ m ∧ m ≤ 128 := by omega
  obtain ⟨cn0, cn1, cn2, -⟩ := cls_facts hn1.1 hn1.2
  obtain ⟨cm0, cm1, cm2, -⟩ := cls_facts hm1.1 hm1.2
  have cv0 : IntKind.i64.wrap a0 = a0 := IntWalk.i64_in _ (by omega)
  have cv1 : IntKind.i64.wrap a1 = a1 := IntWalk.i64_in _ (by omega)
  have cv2 : IntKind.i64.wrap a2 = a2 := IntWalk.i64_in _ (by omega)
  have k1 := hnew_any (Yo := fun _ => False) 65536 (by omega) w (by simp)
  go_enter Tryd.func5, Tryd.ntmps5
  clear cv0 cv1
  generalize hB0 : w.heap.size = B at k1 h0
  replace hB0 : Hid _ := hB0
  go_upto_region 7 with (go_at_call 10; refine k1.mono ?_; rintro e wa ⟨q, rfl, hHa, hba⟩)
  have Ta := hT.gr h0 hba
  have k2 := hmake_ok wa _ _ _ _ _ _ _ _ _ _ hHa Ta h0 1 n hn1 (by omega) (by omega)
  have k2' : Calls Tryd.prog 13 #[.pointer (some ⟨q.b, 0, none⟩), .int .i64 1, .int .i64 (n : Int)] wa fun e w' => e = .returned (.tuple #[.agg #[.int .i64 0, .int .u64 1], .int .i64 0]) ∧ ∃ ns A K, Hp (fun _ => False) w' B q 65536 (0 + clsM n) (H.updN (fun _ => 0) 0 1) (updM (fun _ => none) 0 (some ⟨1, 1, 1, List.replicate n 0⟩)) ns A K 1 ∧ Fq (fun _ => False) B q wa w' :=
    k2.mono fun e w' ⟨k, he, hk1, hk2, ⟨ns, A, K, hx⟩, hF⟩ => by
      obtain rfl := first0 rfl hk2
      exact ⟨he, _, _, _, hx, hF⟩
  clear k1 k2
  go_upto_region 8 with (go_at_call 13; refine k2'.mono ?_; rintro e wb ⟨rfl, nsb, Ab, Kb, hHb, hFb⟩)
  have bb := hba.trans hFb.bel
  have za := heap_alloc_new wb (.cells #[.int .i64 0, .int .u64 1] 34)
  have hHc := hHb.kept ((Below.refl _ wb).alloc (Nat.le_refl _) (.cells #[.int .i64 0, .int .u64 1] 34))
  have bc : Below B w (wb.alloc (.cells #[.int .i64 0, .int .u64 1] 34)) := bb.alloc hHb.size _
  clear k2'
  generalize wb.alloc (.cells #[.int .i64 0, .int .u64 1] 34) = wc at za hHc bc ⊢
  generalize wb.heap.size = za' at za ⊢
  have Tc := hT.gr h0 bc
  have k3 := hmake_ok wc _ _ _ _ _ _ _ _ _ _ hHc Tc h0 2 m hm1 (by omega) (by omega)
  have k3' : Calls Tryd.prog 13 #[.pointer (some ⟨q.b, 0, none⟩), .int .i64 2, .int .i64 (m : Int)] wc fun e w' => e = .returned (.tuple #[.agg #[.int .i64 1, .int .u64 1], .int .i64 0]) ∧ ∃ ns A K, Hp (fun _ => False) w' B q 65536 (0 + clsM n + clsM m) (H.updN (H.updN (fun _ => 0) 0 1) 1 1) (updM (updM (fun _ => none) 0 (some ⟨1, 1, 1, List.replicate n 0⟩)) 1 (some ⟨1, 1, 2, List.replicate m 0⟩)) ns A K 2 ∧ Fq (fun _ => False) B q wc w' :=
    k3.mono fun e w' ⟨k, he, hk1, hk2, ⟨ns, A, K, hx⟩, hF⟩ => by
      obtain rfl := first1 (by rw [updM_self]; rfl) hk1 (by rw [updM_ne _ _ (by decide)]) hk2
      exact ⟨he, _, _, _, hx, hF⟩
  clear k3
  go_upto_region 9 with (go_at_call 13; refine k3'.mono ?_; rintro e wd ⟨rfl, nsd, Ad, Kd, hHd, hFd⟩)
  have zad := hFd.at34 hHc za
  have zb := heap_alloc_new wd (.cells #[.int .i64 1, .int .u64 1] 34)
  have zae := heap_al zad (.cells #[.int .i64 1, .int .u64 1] 34)
  have hHe := hHd.kept ((Below.refl _ wd).alloc (Nat.le_refl _) (.cells #[.int .i64 1, .int .u64 1] 34))
  have be : Below B w (wd.alloc (.cells #[.int .i64 1, .int .u64 1] 34)) := (bc.trans hFd.bel).alloc hHd.size _
  clear k3' zad
  generalize wd.alloc (.cells #[.int .i64 1, .int .u64 1] 34) = we at zb zae hHe be ⊢
  generalize wd.heap.size = zb' at zb ⊢
  have a00 := (cell_of zae 0).trans (show _ = some (Value.int .i64 0) from rfl)
  have a01 := (cell_of zae 1).trans (show _ = some (Value.int .u64 1) from rfl)
  have kO := ones_any n hn1 we.drew
  have hHe' := hHe.kept (Below.refl _ we).drew
  have be' := be.drew
  go_cut [] (fun wx => Hp (fun _ => False) wx B q 65536 (0 + clsM n + clsM m) (H.updN (H.updN (fun _ => 0) 0 1) 1 1) (onM (updM (updM (fun _ => none) 0 (some ⟨1, 1, 1, List.replicate n 0⟩)) 1 (some ⟨1, 1, 2, List.replicate m 0⟩)) 0 1 (wtF 0 (strOfNums (List.replicate n 255)))) nsd Ad Kd 2 ∧ wx.heap[za']? = some (.cells #[.int .i64 0, .int .u64 1] 34 (0, 0)) ∧ wx.heap[zb']? = some (.cells #[.int .i64 1, .int .u64 1] 34 (0, 0)) ∧ Below B w wx)
  case first =>
    go_region_with (first
      | (go_at_call 28; go_loud (refine kO.mono ?_; rintro e v1 ⟨rfl, hbo, hb1⟩; have hcv : (convert 65 9 (.slice (some ⟨we.heap.size, 0, none⟩) n n)).run Tryd.prog v1 = .ok (.string (strOfNums (List.replicate n 255))) v1 := conv_row hbo (by simp); have zaf := (hb1.block _ (heap_lt zae)).trans zae; have zbf := (hb1.block _ (heap_lt zb)).trans zb; have s0 := (cell_of zaf 0).trans (show _ = some (Value.int .i64 0) from rfl); have s1 := (cell_of zaf 1).trans (show _ = some (Value.int .u64 1) from rfl); have hHf := hHe'.kept hb1; have kW := wt_any v1 _ _ _ _ _ _ _ _ _ _ hHf 0 1 0 (strOfNums (List.replicate n 255)) (by unfold I64; omega) (by rw [strOfNums_size, List.length_replicate]; simp only [maxLen]; omega)))
      | (go_at_call 27; go_loud (refine kW.mono ?_; rintro e v2 ⟨rfl, hHg, hFg⟩; have zag := hFg.at34 hHf zaf; have zbg := hFg.at34 hHf zbf; have t0 := (cell_of zag 0).trans (show _ = some (Value.int .i64 0) from rfl); have t1 := (cell_of zag 1).trans (show _ = some (Value.int .u64 1) from rfl); have bg := (be'.trans (hb1.mono hHe.size)).trans hFg.bel)))
    all_goals go_wp2_with fail
    all_goals go_meet
    all_goals exact ⟨hHg, zag, zbg, bg⟩
  case rest =>
  obtain ⟨hHg, zag, zbg, bg⟩ := hcut
  obtain ⟨v2, hv2⟩ : ∃ x, x = wc := ⟨wc, rfl⟩
  subst hv2
  have t0 := (cell_of zag 0).trans (show _ = some (Value.int .i64 0) from rfl)
  have t1 := (cell_of zag 1).trans (show _ = some (Value.int .u64 1) from rfl)
  have oA : updM (updM (fun _ => none) 0 (some ⟨1, 1, 1, List.replicate n 0⟩)) 1 (some ⟨1, 1, 2, List.replicate m 0⟩) 0 = some (⟨1, 1, 1, List.replicate n 0⟩ : Oj) := by rw [updM_ne _ _ (by decide), updM_self]
  have oB : updM (updM (fun _ => none) 0 (some ⟨1, 1, 1, List.replicate n 0⟩)) 1 (some ⟨1, 1, 2, List.replicate m 0⟩) 1 = some (⟨1, 1, 2, List.replicate m 0⟩ : Oj) := updM_self _ _ _
  generalize updM (updM (fun _ => none) 0 (some ⟨1, 1, 1, List.replicate n 0⟩)) 1 (some ⟨1, 1, 2, List.replicate m 0⟩) = M1 at hHg oA oB
  have e2 : onM M1 0 1 (wtF 0 (strOfNums (List.replicate n 255))) = updM M1 0 (wtF 0 (strOfNums (List.replicate n 255)) ⟨1, 1, 1, List.replicate n 0⟩) := on_live (k := 0) oA _
  obtain ⟨bs2, hbs2, hl2⟩ : ∃ bs2 : List Int, wtF 0 (strOfNums (List.replicate n 255)) ⟨1, 1, 1, List.replicate n 0⟩ = some (⟨1, 1, 1, bs2⟩ : Oj) ∧ bs2.length = n := by
    refine ⟨wr (List.replicate n 0) (0 : Int).toNat (strOfNums (List.replicate n 255)), ?_, by rw [wr_len _ _ _ (by simp [strOfNums_size]), List.length_replicate]⟩
    unfold wtF
    rw [if_pos (by simp [strOfNums_size])]
  rw [e2, hbs2] at hHg
  clear e2 hbs2 kO
  have kD := hdrop_ok v2 _ _ _ _ _ _ _ _ _ _ hHg 0 ⟨1, 1, 1, bs2⟩ (updM_self _ _ _) (show (0 : Int) < 1 by decide)
  go_upto_region 11 with (go_at_call 24; refine kD.mono ?_; rintro e v3 ⟨rfl, hH3, hF3⟩)
  have za3 := hF3.at34 hHg zag
  have zb3 := hF3.at34 hHg zbg
  have b3 := bg.trans hF3.bel
  have T3 := hT.gr h0 b3
  clear t0 t1 kD a00 a01
  have t0 := (cell_of za3 0).trans (show _ = some (Value.int .i64 0) from rfl)
  have t1 := (cell_of za3 1).trans (show _ = some (Value.int .u64 1) from rfl)
  have kF := free_ok v3 _ _ _ _ _ _ _ _ _ _ hH3 T3 h0 0 ⟨1, 1 - 1, 1, bs2⟩ (updM_self _ _ _) (show (1 : Int) - 1 = 0 by decide)
  have hoB : updM (updM (updM M1 0 (some ⟨1, 1, 1, bs2⟩)) 0 (some ⟨1, 1 - 1, 1, bs2⟩)) 0 none 1 = some (⟨1, 1, 2, List.replicate m 0⟩ : Oj) := by rw [updM_ne _ _ (by decide), updM_ne _ _ (by decide), updM_ne _ _ (by decide)]; exact oB
  have hoA : updM (updM (updM M1 0 (some ⟨1, 1, 1, bs2⟩)) 0 (some ⟨1, 1 - 1, 1, bs2⟩)) 0 none 0 = none := updM_self _ _ _
  go_upto_region 13 with (first
    | (go_at_call 25; go_loud (refine kF.mono ?_; rintro e v4 ⟨rfl, hH4, hF4⟩; have za4 := hF4.at34 hH3 za3; have zb4 := hF4.at34 hH3 zb3; have b4 := b3.trans hF4.bel; have p0 := (cell_of za4 0).trans (show _ = some (Value.int .i64 0) from rfl); have p1 := (cell_of za4 1).trans (show _ = some (Value.int .u64 1) from rfl); have kX := write_no v4 _ _ _ _ _ _ _ _ _ _ hH4 0 1 (dead_none (k := 0) hoA 1) 0 ⟨#[120]⟩))
    | (go_at_call 27; go_loud (refine kX.mono ?_; rintro e v5 ⟨rfl, hb5⟩)))
  have hH5 := hH4.kept hb5
  have za5 := (hb5.block _ (heap_lt za4)).trans za4
  have zb5 := (hb5.block _ (heap_lt zb4)).trans zb4
  have b5 := b4.trans (hb5.mono hH4.size)
  have T5 := hT.gr h0 b5
  simp only [hl2] at hH5
  clear p0 p1 kX kF t0 t1 hH4 hF4
  generalize updM (updM (updM M1 0 (some ⟨1, 1, 1, bs2⟩)) 0 (some ⟨1, 1 - 1, 1, bs2⟩)) 0 none = M4 at hH5 hoA hoB
  have k6 := hmake_ok v5 _ _ _ _ _ _ _ _ _ _ hH5 T5 h0 3 n hn1 (by omega) (by omega)
  have k6' : Calls Tryd.prog 13 #[.pointer (some ⟨q.b, 0, none⟩), .int .i64 3, .int .i64 (n : Int)] v5 fun e w' => e = .returned (.tuple #[.agg #[.int .i64 0, .int .u64 2], .int .i64 0]) ∧ ∃ u N ns A K, Hp (fun _ => False) w' B q 65536 u N (updM M4 0 (some ⟨2, 1, 3, List.replicate n 0⟩)) ns A K 3 ∧ Fq (fun _ => False) B q v5 w' :=
    k6.mono fun e w' ⟨k, he, hk1, hk2, ⟨ns, A, K, hx⟩, hF⟩ => by
      obtain rfl := first0 hoA hk2
      exact ⟨he, _, _, _, _, _, hx, hF⟩
  clear k6
  go_upto_region 14 with (go_at_call 13; refine k6'.mono ?_; rintro e v6 ⟨rfl, u6, N6, ns6, A6, K6, hH6, hF6⟩)
  have za6 := heap_al (hF6.at34 hH5 za5) (.cells #[.int .i64 0, .int .u64 2] 34)
  have zb6 := heap_al (hF6.at34 hH5 zb5) (.cells #[.int .i64 0, .int .u64 2] 34)
  have zc6 := heap_alloc_new v6 (.cells #[.int .i64 0, .int .u64 2] 34)
  have b6 : Below B w (v6.alloc (.cells #[.int .i64 0, .int .u64 2] 34)) := (b5.trans hF6.bel).alloc hH6.size _
  have hH7 := hH6.kept ((Below.refl _ v6).alloc (Nat.le_refl _) (.cells #[.int .i64 0, .int .u64 2] 34))
  have o5 : updM M4 0 (some ⟨2, 1, 3, List.replicate n 0⟩) 0 = some (⟨2, 1, 3, List.replicate n 0⟩ : Oj) := updM_self _ _ _
  have oB5 : updM M4 0 (some ⟨2, 1, 3, List.replicate n 0⟩) 1 = some (⟨1, 1, 2, List.replicate m 0⟩ : Oj) := by rw [updM_ne _ _ (by decide)]; exact hoB
  clear k6'
  generalize v6.alloc (.cells #[.int .i64 0, .int .u64 2] 34) = v7 at za6 zb6 zc6 b6 hH7 ⊢
  generalize v6.heap.size = zc' at zc6 ⊢
  generalize updM M4 0 (some ⟨2, 1, 3, List.replicate n 0⟩) = M5 at hH7 o5 oB5
  have t0 := (cell_of zc6 0).trans (show _ = some (Value.int .i64 0) from rfl)
  have t1 := (cell_of zc6 1).trans (show _ = some (Value.int .u64 2) from rfl)
  have kR := read_at v7 _ _ _ _ _ _ _ _ _ _ hH7 0 _ o5 0 n (by unfold I64; omega) (by unfold I64; omega)
  obtain ⟨ea, eb⟩ := inS_all (bs := List.replicate n 0)
  rw [List.length_replicate] at ea eb
  simp only at kR
  rw [ea, eb] at kR
  clear ea eb
  go_upto_region 15 with (go_at_call 26; refine kR.mono ?_; rintro e v8 ⟨rfl, hb8⟩)
  have hH8 := hH7.kept hb8
  have za8 := (hb8.block _ (heap_lt za6)).trans za6
  have zb8 := (hb8.block _ (heap_lt zb6)).trans zb6
  have zc8 := (hb8.block _ (heap_lt zc6)).trans zc6
  have b8 := b6.trans (hb8.mono hH7.size)
  clear t0 t1 kR
  have t0 := (cell_of zc8 0).trans (show _ = some (Value.int .i64 0) from rfl)
  have t1 := (cell_of zc8 1).trans (show _ = some (Value.int .u64 2) from rfl)
  have p0 := (cell_of za8 0).trans (show _ = some (Value.int .i64 0) from rfl)
  have p1 := (cell_of za8 1).trans (show _ = some (Value.int .u64 1) from rfl)
  have q1 : ∀ W : World, (binOp .eql 34 (.agg #[.int .i64 0, .int .u64 2]) (.agg #[.int .i64 0, .int .u64 1])).run Tryd.prog W = .ok (.bool false) W := fun W => H.eqlH 0 0 2 1 W
  have m5 := make5 n hn1 v8
  have hcv := conv_row (heap_alloc_new v8 (.cells (byV (List.replicate n 0)) 5)) (l := List.replicate n 0) (s := n) (by simp)
  have hb9 := (Below.refl v8.heap.size v8).alloc (Nat.le_refl _) (.cells (byV (List.replicate n 0)) 5)
  generalize strOfNums (List.replicate n 0) = st at hcv ⊢
  go_upto_region 17 with fail
  have hH9 := hH8.kept hb9
  have za9 := heap_al za8 (.cells (byV (List.replicate n 0)) 5)
  have zb9 := heap_al zb8 (.cells (byV (List.replicate n 0)) 5)
  have zc9 := heap_al zc8 (.cells (byV (List.replicate n 0)) 5)
  have b9 := b8.alloc hH8.size (.cells (byV (List.replicate n 0)) 5)
  clear t0 t1 p0 p1 m5 hcv hb9 za8 zb8 zc8
  generalize v8.alloc (.cells (byV (List.replicate n 0)) 5) = v9 at hH9 za9 zb9 zc9 b9 ⊢
  have t0 := (cell_of zc9 0).trans (show _ = some (Value.int .i64 0) from rfl)
  have t1 := (cell_of zc9 1).trans (show _ = some (Value.int .u64 2) from rfl)
  have kW := wt_any v9 _ _ _ _ _ _ _ _ _ _ hH9 0 2 a2 a3 (by unfold I64; omega) (by simp only [maxLen]; omega)
  have eW : wtE M5 0 2 a2 a3 = if a2 + a3.size ≤ n then 0 else 120 := by
    have hl : liveB M5 ((0 : Nat) : Int) 2 = true := live_of o5
    have hb : (bsM M5 ((0 : Nat) : Int)).length = n := by rw [bs_live o5]; simp
    show wtE M5 ((0 : Nat) : Int) 2 a2 a3 = _
    rw [wtE, if_pos hl, hb]
    by_cases e : a2 + a3.size ≤ (n : Int)
    · rw [if_pos e, if_pos ⟨by omega, e⟩]
    · rw [if_neg e, if_neg (fun h => e h.2)]
  have e6 : onM M5 0 2 (wtF a2 a3) = updM M5 0 (wtF a2 a3 ⟨2, 1, 3, List.replicate n 0⟩) := on_live (k := 0) o5 _
  rw [eW, e6] at kW
  clear eW e6
  obtain ⟨bs6, hbs6, hin6⟩ : ∃ bs6 : List Int, wtF a2 a3 ⟨2, 1, 3, List.replicate n 0⟩ = some (⟨2, 1, 3, bs6⟩ : Oj) ∧ ((a2 + a3.size ≤ (n : Int) → inS bs6 a2 a3.size = a3 ∧ inE bs6 a2 a3.size = 0) ∧ (¬ a2 + a3.size ≤ (n : Int) → inE bs6 a2 a3.size = 120)) := by
    unfold wtF
    by_cases e : a2 + a3.size ≤ (n : Int)
    · rw [if_pos ⟨by omega, by simpa using e⟩]
      obtain ⟨i, rfl⟩ : ∃ i : Nat, a2 = i := ⟨a2.toNat, by omega⟩
      exact ⟨_, rfl, fun _ => inS_wr (bs := List.replicate n 0) (a := i) (t := a3) (by rw [List.length_replicate]; omega), fun h => absurd e h⟩
    · rw [if_neg (fun h => e (by simpa using h.2))]
      refine ⟨_, rfl, fun h => absurd h e, fun _ => ?_⟩
      rw [inE, if_neg (fun h => e (by have := h.2.2; rw [List.length_replicate] at this; exact this))]
  rw [hbs6] at kW
  clear hbs6
  have hadd : IntKind.i64.wrap (a2 + (a3.size : Int)) = a2 + (a3.size : Int) := IntWalk.i64_in _ (by omega)
  have o6 : updM M5 0 (some ⟨2, 1, 3, bs6⟩) 0 = some (⟨2, 1, 3, bs6⟩ : Oj) := updM_self _ _ _
  have oB6 : updM M5 0 (some ⟨2, 1, 3, bs6⟩) 1 = some (⟨1, 1, 2, List.replicate m 0⟩ : Oj) := by rw [updM_ne _ _ (by decide)]; exact oB5
  generalize updM M5 0 (some ⟨2, 1, 3, bs6⟩) = M6 at kW o6 oB6
  generalize hg6 : (if a2 + a3.size ≤ (n : Int) then (0 : Int) else 120) = g6 at kW
  replace hg6 : Hid _ := hg6
  replace hin6 : Hid _ := hin6
  go_upto_region 18 with (go_at_call 27; refine kW.mono ?_; rintro e v10 ⟨rfl, hHA, hFA⟩)
  have zbA := hFA.at34 hH9 zb9
  have zcA := hFA.at34 hH9 zc9
  have bA := b9.trans hFA.bel
  clear t0 t1 kW
  have t0 := (cell_of zbA 0).trans (show _ = some (Value.int .i64 1) from rfl)
  have t1 := (cell_of zbA 1).trans (show _ = some (Value.int .u64 1) from rfl)
  have kW := wt_any v10 _ _ _ _ _ _ _ _ _ _ hHA 1 1 0 a4 (by unfold I64; omega) (by simp only [maxLen]; omega)
  have e7 : onM M6 1 1 (wtF 0 a4) = updM M6 1 (wtF 0 a4 ⟨1, 1, 2, List.replicate m 0⟩) := on_live (k := 1) oB6 _
  rw [e7] at kW
  clear e7
  have o7 : updM M6 1 (wtF 0 a4 ⟨1, 1, 2, List.replicate m 0⟩) 0 = some (⟨2, 1, 3, bs6⟩ : Oj) := by rw [updM_ne _ _ (by decide)]; exact o6
  generalize updM M6 1 (wtF 0 a4 ⟨1, 1, 2, List.replicate m 0⟩) = M7 at kW o7
  generalize wtE M6 1 1 0 a4 = x7 at kW
  go_upto_region 19 with (go_at_call 27; refine kW.mono ?_; rintro e v11 ⟨rfl, hHB, hFB⟩)
  have zcB := hFB.at34 hHA zcA
  have bB := bA.trans hFB.bel
  clear t0 t1 kW
  have t0 := (cell_of zcB 0).trans (show _ = some (Value.int .i64 0) from rfl)
  have t1 := (cell_of zcB 1).trans (show _ = some (Value.int .u64 2) from rfl)
  have kR := read_at v11 _ _ _ _ _ _ _ _ _ _ hHB 0 _ o7 a2 a3.size (by unfold I64; omega) (by unfold I64; omega)
  simp only at kR
  generalize hx1 : inS bs6 a2 a3.size = x1 at kR
  generalize hx2 : inE bs6 a2 a3.size = x2 at kR
  replace hx1 : Hid _ := hx1
  replace hx2 : Hid _ := hx2
  go_upto_region 20 with (go_at_call 26; refine kR.mono ?_; rintro e v12 ⟨rfl, hbC⟩)
  have bC := bB.trans (hbC.mono hHB.size)
  have k9 := hworks_any v12 (hT.gr h0 bC) (by have := bC.size; have := hB0.out; omega)
  clear t0 t1 kR
  have hi := hin6.out
  rw [hx1.out, hx2.out] at hi
  have hg := hg6.out
  by_cases hfit : a2 + a3.size ≤ (n : Int)
  · rw [if_pos hfit] at hg
    obtain ⟨h1, rfl⟩ := hi.1 hfit
    replace h1 := h1.symm
    subst h1
    subst hg
    have df : decide (a2 + (a3.size : Int) ≤ (n : Int)) = true := decide_eq_true hfit
    go_wp2_with (go_at_call 9; refine k9.mono ?_; rintro e v13 ⟨rfl, hbD⟩)
    all_goals go_returns
    all_goals exact ⟨rfl, by first | exact bC.trans (hbD.mono (by have := bC.size; have := hB0.out; omega)) | (rw [hB0.out]; exact bC.trans (hbD.mono (by have := bC.size; have := hB0.out; omega)))⟩
  · rw [if_neg hfit] at hg
    obtain rfl := hi.2 (by omega)
    subst hg
    have df : decide (a2 + (a3.size : Int) ≤ (n : Int)) = false := decide_eq_false hfit
    go_wp2_with (go_at_call 9; refine k9.mono ?_; rintro e v13 ⟨rfl, hbD⟩)
    all_goals go_returns
    all_goals exact ⟨rfl, by first | exact bC.trans (hbD.mono (by have := bC.size; have := hB0.out; omega)) | (rw [hB0.out]; exact bC.trans (hbD.mono (by have := bC.size; have := hB0.out; omega)))⟩

theorem readable : ∀ t ∈ Tryd.f5.params.toList, Tryd.prog.readableRec t = true ∧ t < Tryd.prog.types.size := by
  rw [Tryd.params5]
  intro t ht
  simp at ht
  rcases ht with rfl | rfl | rfl | rfl | rfl
  all_goals exact ⟨by kernel_rfl, of_decide_eq_true (by kernel_rfl)⟩
set_option maxRecDepth 100000 in
theorem lifted (os : Os) (started : os.Started) (H : Type) (enc : TypeId × Value → H) :
    ReturnsInHanded {} Tryd.checked os 5 .any (fun w args => (Rows.heapBytesSpec.pre enc Tryd.prog Tryd.f5 [] false w args ∧ laidMetH Tryd.prog laidL w) ∧ sizedMet enc Tryd.prog Tryd.f5 (OpenSpec.ofChange Rows.heapBytesSpec) false w args) (Rows.heapBytesSpec.post enc Tryd.prog Tryd.f5 false true false false) := by
  refine returnsInHanded_of_change_and (C := Tryd.checked) (X := fun w _ => laidMetH Tryd.prog laidL w) (fun _ _ _ hh h => h.of_heap hh) own started (by kernel_rfl) Tryd.func5
    (ChangeSpec.witness_shaped (enc := enc) (C := Tryd.checked) (os := os) (X := fun w _ => laidMetH Tryd.prog laidL w) false (World.doorLaid Tryd.prog 400 os) #[.int .u8 0, .int .u8 0, .int .u8 0, .string ByteArray.empty, .string ByteArray.empty] 8 rfl (World.shaped_of_RefB (by kernel_rfl) (by kernel_rfl)) (by kernel_rfl) (by kernel_rfl) (by kernel_rfl) (door_met os _)) ?_
  intro W base args ds gs before hval0 hW _ hsz hL _
  have hval : ∀ (j : Nat) t v, Tryd.f5.params[j]? = some t → args[j]? = some v → Value.okWide Tryd.prog W .any base t v := hval0
  have hW' := hW
  obtain ⟨p, q, hA0, hV, rfl, hfz, hnd⟩ := hW
  have hA : DataW.TrodAll enc Tryd.prog W 0 (fun _ => true) true Tryd.f5.params.toList args.toList ds p := hA0
  rw [Tryd.params5] at hA hval
  obtain ⟨v0, vs0, d0, ds0, p0, q0, hargs, rfl, rfl, h0, r0⟩ := trodAll_cons hA
  obtain ⟨v1, vs1, d1, ds1, p1, q1, rfl, rfl, rfl, h1, r1⟩ := trodAll_cons r0
  obtain ⟨v2, vs2, d2, ds2, p2, q2, rfl, rfl, rfl, h2, r2⟩ := trodAll_cons r1
  obtain ⟨v3, vs3, d3, ds3, p3, q3, rfl, rfl, rfl, h3, r3⟩ := trodAll_cons r2
  obtain ⟨v4, vs4, d4, ds4, p4, q4, rfl, rfl, rfl, h4, r4⟩ := trodAll_cons r3
  obtain ⟨rfl, rfl, rfl⟩ := trodAll_nil r4
  obtain rfl : args = #[v0, v1, v2, v3, v4] := by cases args; simp_all
  obtain ⟨rfl, rfl⟩ := trodVars_none hV
  obtain ⟨a0, rfl, rfl, rfl, w0⟩ := open_int Tryd.underlying5 (hval 0 5 v0 rfl rfl) h0
  obtain ⟨a1, rfl, rfl, rfl, w1⟩ := open_int Tryd.underlying5 (hval 1 5 v1 rfl rfl) h1
  obtain ⟨a2, rfl, rfl, rfl, w2⟩ := open_int Tryd.underlying5 (hval 2 5 v2 rfl rfl) h2
  obtain ⟨a3, rfl, rfl, rfl, w30⟩ := Go.ChangeMaps.open_string Tryd.underlying9 (hval 3 9 v3 rfl rfl) h3
  obtain ⟨a4, rfl, rfl, rfl, w40⟩ := Go.ChangeMaps.open_string Tryd.underlying9 (hval 4 9 v4 rfl rfl) h4
  have w3 : a3.size ≤ reachBytes := by
    have hs := sized_string hsz (j := 3) (t := 9) rfl rfl
    rw [Array.length_toList] at hs
    exact hs
  have w4 : a4.size ≤ reachBytes := by
    have hs := sized_string hsz (j := 4) (t := 9) rfl rfl
    rw [Array.length_toList] at hs
    exact hs
  clear hA0 hval0
  obtain ⟨hTab, hpos⟩ := tab_of hL
  refine (walk a0 a1 a2 a3 a4 W hTab hpos w0 w1 w2 w3 w4).mono fun e W' ⟨he, hg⟩ => ?_
  subst he
  exact ⟨_, rfl, post_bel readable hW' rfl (fun _ _ _ => (trodAll_cons_mk (shut_bool Tryd.underlying4 _) trodAll_mk0)) rfl (fun _ => rfl)
    hg (ok_one (by kernel_rfl) rfl (okWide_bool_mk Tryd.underlying4 _))⟩

theorem over : Rows.HeapBytesSaid :=
  OpenClaim.holds_of_wide 5 Tryd.f5 rfl rfl rfl rfl rfl rfl rfl ⟨rfl, rfl, rfl, rfl, rfl⟩ rfl rfl rfl rfl rfl (by kernel_rfl) Tryd.func5 (by kernel_rfl)
    (of_decide_eq_true (by kernel_rfl)) (by unfold Func.isWrapper; first | (rw [if_pos (by decide +kernel)]; kernel_rfl) | (rw [if_neg (by decide +kernel)]; exact ⟨rfl, rfl⟩))
    (fun os started H enc _ => lifted os started H enc)
end Go.Proofs.YtooblonafnlfcaaDoor.heapBytes
namespace Go.Proofs.YtooblonafnlfcaaDoor
theorem heapBytes_holds : Rows.HeapBytesCardSaid :=
  Claim7.holds_tied_plain_at .later [] [.data] true (true, "b767f1769450228dc74670ef9fc0548c4ed2a596c62c776f9a54ab77b3249b2a") false
    heapBytes.over (fun _ h => by cases h) (by kernel_rfl) (fun _ h => by cases h) heapBytes_row_tie rfl ⟨rfl, rfl⟩ (by kernel_rfl) rfl
    (fun f fn hf hfn => by
      obtain rfl : f = 5 := Option.some.inj ((show Tryd.prog.funcNamed "warden/wardenlaw14.HeapBytes" = some 5 by kernel_rfl).symm.trans hf) |>.symm
      obtain rfl : fn = Tryd.f5 := (Option.some.inj (Tryd.func5.symm.trans hfn)).symm
      exact ⟨by kernel_rfl, fun j t ht => by
        rw [Tryd.params5] at ht
        have hm : t ∈ [5, 5, 5, 9, 9] := by simpa using Array.mem_of_getElem? ht
        have hall : ([5, 5, 5, 9, 9].all fun u => !Tryd.prog.wantsStandIn u) = true := by kernel_rfl
        exact (show Tryd.prog.wantsStandIn t = false by simpa using List.all_eq_true.1 hall t hm)⟩)
    (by kernel_rfl)
#print axioms heapBytes_holds
end Go.Proofs.YtooblonafnlfcaaDoor
