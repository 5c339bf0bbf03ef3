/- Towards the statements of package types (layer 10): the document's Encode. -/
import Derived.Test.YtmcjmdoeafhjpaaEB
namespace Go.Proofs.Ytmcjmdoeafhjpaa
open Go.ChangeShapes Go.WideShapes Go.ChangeAt Go.RowKit Go.Shelf
set_option linter.unusedVariables false
set_option linter.unusedSimpArgs false
set_option maxRecDepth 20000

theorem encF_len' {x : Fd} (h : fldB x = true) : (encF x).length ≤ 260 := encF_len h
theorem flat_bd {fs : List Fd} {k : Nat} (h : (fs.take k).all fldB = true) : ((fs.take k).flatMap encF).length ≤ (fs.take k).length * 260 := flat_len encF 260 _ fun x hx => encF_len (List.all_eq_true.1 h x hx)
theorem flatT_bd {L : List Ty} {k : Nat} (h : (L.take k).all tyB = true) : ((L.take k).flatMap encT).length ≤ (L.take k).length * 66558 := flat_len encT 66558 _ fun x hx => encT_len (List.all_eq_true.1 h x hx)
theorem tx_ba (a : List UInt8) (n : ByteArray) : tx a ++ n = tx (a ++ n.data.toList) := tx_app a n.data.toList
theorem ba_tx (n : ByteArray) (b : List UInt8) : n ++ tx b = tx (n.data.toList ++ b) := tx_app n.data.toList b
theorem ba_nil (n : ByteArray) : n ++ tx [] = n := by
  rw [ba_tx, List.append_nil]; rfl
set_option maxHeartbeats 16000000 in
theorem rencode_any (p : Option Addr) (c : Nat) (L : List Ty) (w : World) (hL : Tys w p L) : Calls Try.prog 11 #[.slice p L.length c] w fun e w' => e = .returned (if areB L then .tuple #[.string ⟨(encM L).toArray⟩, .int .i64 0] else .tuple #[.string ⟨#[]⟩, .int .i64 2]) ∧ Bl w w' := by
  have hlen := hL.len
  unfold maxLen at hlen
  have ksm := fun x W => rsmall_any x W
  have hcv1 : ∀ (W : World) (b0 : Int) (g : Nat), g = W.heap.size → (convert 53 9 (.slice (some ⟨g, 0, none⟩) 1 1)).run Try.prog (W.alloc (.cells #[.int .u8 b0] 5)) = .ok (.string (strOfNums [b0])) (W.alloc (.cells #[.int .u8 b0] 5)) := fun W b0 g hg => conv_new W _ 5 _ 1 1 [b0] hg rfl (by intro i hi; match i, hi with | 0, _ => rfl)
  have hcv2 : ∀ (W : World) (b0 b1 : Int) (g : Nat), g = W.heap.size → (convert 53 9 (.slice (some ⟨g, 0, none⟩) 2 2)).run Try.prog (W.alloc (.cells #[.int .u8 b0, .int .u8 b1] 5)) = .ok (.string (strOfNums [b0, b1])) (W.alloc (.cells #[.int .u8 b0, .int .u8 b1] 5)) := fun W b0 b1 g hg => conv_new W _ 5 _ 2 2 [b0, b1] hg rfl (by intro i hi; match i, hi with | 0, _ => rfl | 1, _ => rfl)
  have hcv4 : ∀ (W : World) (b0 b1 b2 b3 : Int) (g : Nat), g = W.heap.size → (convert 53 9 (.slice (some ⟨g, 0, none⟩) 4 4)).run Try.prog (W.alloc (.cells #[.int .u8 b0, .int .u8 b1, .int .u8 b2, .int .u8 b3] 5)) = .ok (.string (strOfNums [b0, b1, b2, b3])) (W.alloc (.cells #[.int .u8 b0, .int .u8 b1, .int .u8 b2, .int .u8 b3] 5)) := fun W b0 b1 b2 b3 g hg => conv_new W _ 5 _ 4 4 [b0, b1, b2, b3] hg rfl (by intro i hi; match i, hi with | 0, _ => rfl | 1, _ => rfl | 2, _ => rfl | 3, _ => rfl)
  generalize hans : (if areB L then Value.tuple #[.string ⟨(encM L).toArray⟩, .int .i64 0] else .tuple #[.string ⟨#[]⟩, .int .i64 2]) = ans
  replace hans : Hid ((if areB L then Value.tuple #[.string ⟨(encM L).toArray⟩, .int .i64 0] else .tuple #[.string ⟨#[]⟩, .int .i64 2]) = ans) := hans
  by_cases h255 : 255 < L.length
  · have d : decide ((255 : Int) < L.length) = true := by simp; omega
    have hr : Hid (ans = .tuple #[.string ⟨#[]⟩, .int .i64 2]) := by
      show _ = _
      have : areB L = false := by
        unfold areB
        rw [show inB (L.length : Int) = false by simp [inB]; omega]; rfl
      rw [← hans.out, this]; rfl
    clear h255
    go_enter Try.func11, Try.ntmps11
    go_wp2
    go_returns
    exact ⟨by rw [hr.out]; rfl, Bl.refl _⟩
  have d : decide ((255 : Int) < L.length) = false := by simp; omega
  have hinl : inB (L.length : Int) = true := by simp [inB]; omega
  have ewl := wrap_u8 hinl
  have hbad : ∀ t ∈ L, tyB t = false → Hid (ans = .tuple #[.string ⟨#[]⟩, .int .i64 2]) := fun t ht hb => by
    show _ = _
    have : areB L = false := by unfold areB; rw [all_bad ht hb, Bool.and_false]
    rw [← hans.out, this]; rfl
  have hgood : L.all tyB = true → Hid (ans = .tuple #[.string ⟨(encM L).toArray⟩, .int .i64 0]) := fun h => by
    show _ = _
    have : areB L = true := by unfold areB; rw [hinl, h]; rfl
    rw [← hans.out, this]; rfl
  clear hinl
  have hcv0 : ∀ W : World, (convert 53 9 (.slice (some ⟨W.heap.size, 0, none⟩) 1 1)).run Try.prog (W.alloc (.cells #[.int .u8 (L.length : Int)] 5)) = .ok (.string (strOfNums [(L.length : Int)])) (W.alloc (.cells #[.int .u8 (L.length : Int)] 5)) := fun W => hcv1 W _ _ rfl
  replace hcv1 : Hid _ := hcv1
  replace hcv2 : Hid _ := hcv2
  replace hcv4 : Hid _ := hcv4
  go_enter Try.func11, Try.ntmps11
  go_wp2
  clear hcv0
  go_loopw [4, 5] (fun s v wr => ∃ (i : Nat) (A : ByteArray), v = .int .i64 i ∧ i ≤ L.length ∧ s = .string A ∧ A = tx (toU8 L.length :: (L.take i).flatMap encT) ∧ (L.take i).all tyB = true ∧ Bl w wr) (fun s v _ => L.length - (intOf v).toNat)
  case atStart => exact ⟨0, _, rfl, by omega, rfl, by rw [tx_nums]; simp, by simp, (Bl.refl _).alloc _⟩
  case round =>
    obtain ⟨i, A, rfl, hi, rfl, hA, hall, hb⟩ := hrel
    have hAs : A.size ≤ 17000000 := by
      rw [hA, tx_size, List.length_cons]
      have h1 := flatT_bd hall
      rw [List.length_take] at h1
      have : min i L.length ≤ 255 := by omega
      have := Nat.mul_le_mul_right 66558 this
      omega
    replace hA : Hid (A = tx (toU8 L.length :: (L.take i).flatMap encT)) := hA
    replace hall : Hid ((L.take i).all tyB = true) := hall
    by_cases h : i < L.length
    · have d2 : decide ((i : Int) < L.length) = true := by simp; omega
      obtain ⟨t, hx⟩ : ∃ t, L[i]? = some t := ⟨L[i], List.getElem?_eq_getElem _⟩
      have e9 : IntKind.i64.wrap ((i : Int) + 1) = (i : Int) + 1 := IntWalk.i64_in _ (by omega)
      obtain ⟨b, off, rfl, hb1, ⟨c0, c1, c2⟩, hok, hil⟩ := (hL.gr hb).get hx
      have hbt := hbad t (List.mem_of_getElem? hx)
      have hstep := all_take_step (P := tyB) hx
      have hflat := flat_take encT hx
      have hfw := hok.f
      have hpp : t.fs = [] ∨ ∃ b5 off5, t.p = some ⟨b5, off5, none⟩ := by
        rcases hfw.at' with h | ⟨b5, off5, h, _⟩
        · exact .inl h
        · exact .inr ⟨b5, off5, h⟩
      have hfl := hfw.len
      unfold maxLen at hfl
      clear hx hok hbad
      have htyB : tyB t = (inB t.n.size && inB t.s && inB t.fs.length && t.fs.all fldB) := rfl
      have hencT : encT t = txtM t.n ++ [t.s, (t.fs.length : Int)].map toU8 ++ t.fs.flatMap encF := rfl
      generalize tyB t = tb at hbt hstep htyB
      generalize hET : encT t = et at hflat hencT
      clear hET
      obtain ⟨tn, ts, tp, tc, tfs⟩ := t
      dsimp only at *
      have k1 := ksm (tn.size : Int)
      have k2 := ksm ts
      have k3 := ksm (tfs.length : Int)
      replace hflat : Hid _ := hflat
      replace hstep : Hid _ := hstep
      replace hencT : Hid _ := hencT
      cases q1 : inB (tn.size : Int) with
      | false =>
        have hr := hbt (by rw [htyB, q1]; rfl)
        rw [q1] at k1
        clear htyB hbt
        go_wp2_with (go_at_call 33; refine (k1 _).mono ?_; rintro e w5 ⟨rfl, hw⟩; rw [hw]; clear hw)
        try rw [Exit.noGoto_ret]
        go_returns
        exact ⟨by rw [hr.out]; rfl, hb.alloc _⟩
      | true =>
      rw [q1] at k1
      cases q2 : inB ts with
      | false =>
        have hr := hbt (by rw [htyB, q1, q2]; rfl)
        rw [q2] at k2
        clear htyB hbt
        go_wp2_with first | (go_at_call_of 33 (tn.size : Int); refine (k1 _).mono ?_; rintro e w5 ⟨rfl, hw⟩; rw [hw]; clear hw) | (go_at_call_of 33 ts; refine (k2 _).mono ?_; rintro e w5 ⟨rfl, hw⟩; rw [hw]; clear hw)
        try rw [Exit.noGoto_ret]
        go_returns
        exact ⟨by rw [hr.out]; rfl, hb.alloc _⟩
      | true =>
      rw [q2] at k2
      cases q3 : inB (tfs.length : Int) with
      | false =>
        have hr := hbt (by rw [htyB, q1, q2, q3]; rfl)
        rw [q3] at k3
        clear htyB hbt
        go_wp2_with first | (go_at_call_of 33 (tn.size : Int); refine (k1 _).mono ?_; rintro e w5 ⟨rfl, hw⟩; rw [hw]; clear hw) | (go_at_call_of 33 ts; refine (k2 _).mono ?_; rintro e w5 ⟨rfl, hw⟩; rw [hw]; clear hw) | (go_at_call_of 33 (tfs.length : Int); refine (k3 _).mono ?_; rintro e w5 ⟨rfl, hw⟩; rw [hw]; clear hw)
        try rw [Exit.noGoto_ret]
        go_returns
        exact ⟨by rw [hr.out]; rfl, hb.alloc _⟩
      | true =>
      rw [q3] at k3
      have x1 := wrap_u8 q1
      have x2 := wrap_u8 q2
      have x3 := wrap_u8 q3
      have n1 := inB_iff.1 q1
      have n3 := inB_iff.1 q3
      have htb : tb = tfs.all fldB := by rw [htyB, q1, q2, q3]; rfl
      clear htyB q1 q2 q3
      replace htb : Hid (tb = tfs.all fldB) := htb
      obtain ⟨S1, hS1, hc1⟩ : ∃ S1 : ByteArray, (S1 = tx [toU8 tn.size]) ∧ ∀ W : World, (convert 53 9 (.slice (some ⟨W.heap.size, 0, none⟩) 1 1)).run Try.prog (W.alloc (.cells #[.int .u8 (tn.size : Int)] 5)) = .ok (.string S1) (W.alloc (.cells #[.int .u8 (tn.size : Int)] 5)) := ⟨_, tx_nums _, fun W => hcv1.out W _ _ rfl⟩
      obtain ⟨S2, hS2, hc2⟩ : ∃ S2 : ByteArray, (S2 = tx [toU8 ts, toU8 tfs.length]) ∧ ∀ (W : World) (g : Nat), g = W.heap.size → (convert 53 9 (.slice (some ⟨g, 0, none⟩) 2 2)).run Try.prog (W.alloc (.cells #[.int .u8 ts, .int .u8 (tfs.length : Int)] 5)) = .ok (.string S2) (W.alloc (.cells #[.int .u8 ts, .int .u8 (tfs.length : Int)] 5)) := ⟨_, tx_nums _, fun W g hg => hcv2.out W _ _ g hg⟩
      have z1 : S1.size = 1 := by rw [hS1, tx_size]; rfl
      have z2 : S2.size = 2 := by rw [hS2, tx_size]; rfl
      replace hS1 : Hid (S1 = tx [toU8 tn.size]) := hS1
      replace hS2 : Hid (S2 = tx [toU8 ts, toU8 tfs.length]) := hS2
      have y1 : ¬ 9223372036854775807 < A.size + S1.size := by omega
      have y2 : ¬ 9223372036854775807 < A.size + S1.size + tn.size := by omega
      have y3 : ¬ 9223372036854775807 < A.size + S1.size + tn.size + S2.size := by omega
      have hZs : (A ++ S1 ++ tn ++ S2).size ≤ 17000300 := by simp only [ByteArray.size_append]; omega
      replace z1 : Hid (S1.size = 1) := z1
      replace z2 : Hid (S2.size = 2) := z2
      have hbx : Bl wr (wr.alloc (.cells #[.string tn, .int .i64 ts, .slice tp tfs.length tc] 42)) := (Bl.refl wr).alloc _
      have hX := heap_new wr #[.string tn, .int .i64 ts, .slice tp tfs.length tc] 42
      generalize hWa : (wr.alloc (.cells #[.string tn, .int .i64 ts, .slice tp tfs.length tc] 42)) = Wa at hbx hX
      generalize hB : wr.heap.size = X at hX
      replace hB : Hid (wr.heap.size = X) := hB
      rcases hpp with hnil | ⟨b5, off5, rfl⟩
      · replace hnil : Hid (tfs = []) := hnil
        go_upto_region 8 with fail
        try rw [hWa]
        try rw [hB.out]
        clear hWa
        have t0 : Wa.cell? ⟨X, 0, none⟩ = some (.string tn) := (by rw [cell_at hX]; rfl)
        have t1 : Wa.cell? ⟨X, 1, none⟩ = some (.int .i64 ts) := (by rw [cell_at hX]; rfl)
        have t2 : Wa.cell? ⟨X, 2, none⟩ = some (.slice tp tfs.length tc) := (by rw [cell_at hX]; rfl)
        have hXb := it_keep (w := w) hX ((Bl.refl Wa).alloc (.cells #[.int .u8 (tn.size : Int)] 5))
        have r0 : (Wa.alloc (.cells #[.int .u8 (tn.size : Int)] 5)).cell? ⟨X, 0, none⟩ = some (.string tn) := (by rw [cell_at hXb]; rfl)
        have r1 : (Wa.alloc (.cells #[.int .u8 (tn.size : Int)] 5)).cell? ⟨X, 1, none⟩ = some (.int .i64 ts) := (by rw [cell_at hXb]; rfl)
        have r2 : (Wa.alloc (.cells #[.int .u8 (tn.size : Int)] 5)).cell? ⟨X, 2, none⟩ = some (.slice tp tfs.length tc) := (by rw [cell_at hXb]; rfl)
        go_wp2_with first | (go_at_call_of 33 (tn.size : Int); refine (k1 _).mono ?_; rintro e w5 ⟨rfl, hw⟩; rw [hw]; clear hw) | (go_at_call_of 33 ts; refine (k2 _).mono ?_; rintro e w5 ⟨rfl, hw⟩; rw [hw]; clear hw) | (go_at_call_of 33 (tfs.length : Int); refine (k3 _).mono ?_; rintro e w5 ⟨rfl, hw⟩; rw [hw]; clear hw)
        clear t0 t1 t2 r0 r1 r2 hXb k1 k2 k3 hc1 hc2 x1 x2 x3 y1 y2 y3
        generalize hZ : (A ++ S1 ++ tn ++ S2) = Z at hZs
        replace hZ : Hid (A ++ S1 ++ tn ++ S2 = Z) := hZ
        go_loopw [4, 7] (fun s v wr => ∃ (k : Nat) (C : ByteArray), v = .int .i64 k ∧ k ≤ tfs.length ∧ s = .string C ∧ C = Z ++ tx ((tfs.take k).flatMap encF) ∧ (tfs.take k).all fldB = true ∧ Bl Wa wr) (fun s v _ => tfs.length - (intOf v).toNat)
        case atStart => exact ⟨0, Z, rfl, by omega, by rw [← hZ.out], by rw [List.take_zero, List.flatMap_nil, ba_nil], by simp, ((Bl.refl _).alloc _).alloc _⟩
        case round =>
          obtain ⟨k, C, rfl, hk, rfl, hC, hfa, hb3⟩ := hrel
          have hCs : C.size ≤ 18000000 := by
            rw [hC, ByteArray.size_append, tx_size]
            have h1 := flat_bd hfa
            rw [List.length_take] at h1
            have : min k tfs.length ≤ 255 := by omega
            have := Nat.mul_le_mul_right 260 this
            omega
          replace hC : Hid (C = Z ++ tx ((tfs.take k).flatMap encF)) := hC
          replace hfa : Hid ((tfs.take k).all fldB = true) := hfa
          have hXr := it_keep (w := w) hX hb3
          have t0 : wr.cell? ⟨X, 0, none⟩ = some (.string tn) := (by rw [cell_at hXr]; rfl)
          have t1 : wr.cell? ⟨X, 1, none⟩ = some (.int .i64 ts) := (by rw [cell_at hXr]; rfl)
          have t2 : wr.cell? ⟨X, 2, none⟩ = some (.slice tp tfs.length tc) := (by rw [cell_at hXr]; rfl)
          by_cases h2 : k < tfs.length
          · exact absurd h2 (by rw [hnil.out]; simp)
          · have d3 : decide ((k : Int) < tfs.length) = false := by simp; omega
            have hkk : k = tfs.length := by omega
            have htk : tfs.take k = tfs := by rw [hkk, List.take_length]
            have hnext : Hid (C = tx (toU8 L.length :: (L.take (i + 1)).flatMap encT) ∧ (L.take (i + 1)).all tyB = true) := by
              have h5 := hfa.out
              rw [htk] at h5
              refine ⟨?_, by rw [hstep.out, hall.out, htb.out, h5]; rfl⟩
              rw [hC.out, htk, ← hZ.out, hA.out, hS1.out, hS2.out, tx_app, tx_ba, tx_app, tx_app, hflat.out, hencT.out]
              exact congrArg tx (by simp [txtM])
            clear hkk htk
            go_wp2
            exact ⟨⟨i + 1, _, by simp, by omega, rfl, hnext.out.1, hnext.out.2, hb.trans (hbx.trans hb3)⟩, by simp [intOf]; omega⟩
      · go_upto_region 8 with fail
        try rw [hWa]
        try rw [hB.out]
        clear hWa
        have t0 : Wa.cell? ⟨X, 0, none⟩ = some (.string tn) := (by rw [cell_at hX]; rfl)
        have t1 : Wa.cell? ⟨X, 1, none⟩ = some (.int .i64 ts) := (by rw [cell_at hX]; rfl)
        have t2 : Wa.cell? ⟨X, 2, none⟩ = some (.slice (some ⟨b5, off5, none⟩) tfs.length tc) := (by rw [cell_at hX]; rfl)
        have hXb := it_keep (w := w) hX ((Bl.refl Wa).alloc (.cells #[.int .u8 (tn.size : Int)] 5))
        have r0 : (Wa.alloc (.cells #[.int .u8 (tn.size : Int)] 5)).cell? ⟨X, 0, none⟩ = some (.string tn) := (by rw [cell_at hXb]; rfl)
        have r1 : (Wa.alloc (.cells #[.int .u8 (tn.size : Int)] 5)).cell? ⟨X, 1, none⟩ = some (.int .i64 ts) := (by rw [cell_at hXb]; rfl)
        have r2 : (Wa.alloc (.cells #[.int .u8 (tn.size : Int)] 5)).cell? ⟨X, 2, none⟩ = some (.slice (some ⟨b5, off5, none⟩) tfs.length tc) := (by rw [cell_at hXb]; rfl)
        go_wp2_with first | (go_at_call_of 33 (tn.size : Int); refine (k1 _).mono ?_; rintro e w5 ⟨rfl, hw⟩; rw [hw]; clear hw) | (go_at_call_of 33 ts; refine (k2 _).mono ?_; rintro e w5 ⟨rfl, hw⟩; rw [hw]; clear hw) | (go_at_call_of 33 (tfs.length : Int); refine (k3 _).mono ?_; rintro e w5 ⟨rfl, hw⟩; rw [hw]; clear hw)
        clear t0 t1 t2 r0 r1 r2 hXb k1 k2 k3 hc1 hc2 x1 x2 x3 y1 y2 y3
        generalize hZ : (A ++ S1 ++ tn ++ S2) = Z at hZs
        replace hZ : Hid (A ++ S1 ++ tn ++ S2 = Z) := hZ
        go_loopw [4, 7] (fun s v wr => ∃ (k : Nat) (C : ByteArray), v = .int .i64 k ∧ k ≤ tfs.length ∧ s = .string C ∧ C = Z ++ tx ((tfs.take k).flatMap encF) ∧ (tfs.take k).all fldB = true ∧ Bl Wa wr) (fun s v _ => tfs.length - (intOf v).toNat)
        case atStart => exact ⟨0, Z, rfl, by omega, by rw [← hZ.out], by rw [List.take_zero, List.flatMap_nil, ba_nil], by simp, ((Bl.refl _).alloc _).alloc _⟩
        case round =>
          obtain ⟨k, C, rfl, hk, rfl, hC, hfa, hb3⟩ := hrel
          have hCs : C.size ≤ 18000000 := by
            rw [hC, ByteArray.size_append, tx_size]
            have h1 := flat_bd hfa
            rw [List.length_take] at h1
            have : min k tfs.length ≤ 255 := by omega
            have := Nat.mul_le_mul_right 260 this
            omega
          replace hC : Hid (C = Z ++ tx ((tfs.take k).flatMap encF)) := hC
          replace hfa : Hid ((tfs.take k).all fldB = true) := hfa
          have hXr := it_keep (w := w) hX hb3
          have t0 : wr.cell? ⟨X, 0, none⟩ = some (.string tn) := (by rw [cell_at hXr]; rfl)
          have t1 : wr.cell? ⟨X, 1, none⟩ = some (.int .i64 ts) := (by rw [cell_at hXr]; rfl)
          have t2 : wr.cell? ⟨X, 2, none⟩ = some (.slice (some ⟨b5, off5, none⟩) tfs.length tc) := (by rw [cell_at hXr]; rfl)
          by_cases h2 : k < tfs.length
          · have d3 : decide ((k : Int) < tfs.length) = true := by simp; omega
            have e8 : IntKind.i64.wrap ((k : Int) + 1) = (k : Int) + 1 := IntWalk.i64_in _ (by omega)
            obtain ⟨x, hx⟩ : ∃ x, tfs[k]? = some x := ⟨tfs[k], List.getElem?_eq_getElem _⟩
            obtain ⟨b6, off6, hp6, hb6, ⟨v0, v1, v2, v3, v4⟩, hxok, _⟩ := (hfw.gr (hbx.trans hb3)).get hx
            cases hp6
            have hbf : fldB x = false → Hid (ans = .tuple #[.string ⟨#[]⟩, .int .i64 2]) := fun hf => hbt (by rw [htb.out]; exact all_bad (List.mem_of_getElem? hx) hf)
            have hst2 := all_take_step (P := fldB) hx
            have hfl2 := flat_take encF hx
            have hfx : fldB x = (inB x.n.size && inB x.a && inB x.o && inB x.d) := rfl
            have hex : encF x = txtM x.n ++ [x.k, x.a, x.o, x.d].map toU8 := rfl
            generalize fldB x = fb at hbf hst2 hfx
            generalize hEF : encF x = ex at hfl2 hex
            clear hEF hx
            have hxk := hxok.k
            obtain ⟨xn, xk, xa, xo, xd⟩ := x
            dsimp only at *
            replace hst2 : Hid _ := hst2
            replace hfl2 : Hid _ := hfl2
            replace hex : Hid _ := hex
            have k1 := ksm (xn.size : Int)
            have k2 := ksm xa
            have k3 := ksm xo
            have k4 := ksm xd
            have hbF : Bl wr (wr.alloc (.cells #[.string xn, .int .u8 xk, .int .i64 xa, .int .i64 xo, .int .i64 xd] 48)) := (Bl.refl wr).alloc _
            cases q1 : inB (xn.size : Int) with
            | false =>
              have hr := hbf (by rw [hfx, q1]; simp)
              rw [q1] at k1
              clear hfx hbf hst2 hfl2 hex hbt hstep hflat hencT
              go_wp2_with first | (go_at_call_of 33 (xn.size : Int); refine (k1 _).mono ?_; rintro e w5 ⟨rfl, hw⟩; rw [hw]; clear hw)
              try rw [Exit.noGoto_ret]
              go_returns
              exact ⟨by rw [hr.out]; rfl, (hb.trans (hbx.trans hb3)).trans hbF⟩
            | true =>
            rw [q1] at k1
            cases q2 : inB xa with
            | false =>
              have hr := hbf (by rw [hfx, q1, q2]; simp)
              rw [q2] at k2
              clear hfx hbf hst2 hfl2 hex hbt hstep hflat hencT
              go_wp2_with first | (go_at_call_of 33 (xn.size : Int); refine (k1 _).mono ?_; rintro e w5 ⟨rfl, hw⟩; rw [hw]; clear hw) | (go_at_call_of 33 xa; refine (k2 _).mono ?_; rintro e w5 ⟨rfl, hw⟩; rw [hw]; clear hw)
              try rw [Exit.noGoto_ret]
              go_returns
              exact ⟨by rw [hr.out]; rfl, (hb.trans (hbx.trans hb3)).trans hbF⟩
            | true =>
            rw [q2] at k2
            cases q3 : inB xo with
            | false =>
              have hr := hbf (by rw [hfx, q1, q2, q3]; simp)
              rw [q3] at k3
              clear hfx hbf hst2 hfl2 hex hbt hstep hflat hencT
              go_wp2_with first | (go_at_call_of 33 (xn.size : Int); refine (k1 _).mono ?_; rintro e w5 ⟨rfl, hw⟩; rw [hw]; clear hw) | (go_at_call_of 33 xa; refine (k2 _).mono ?_; rintro e w5 ⟨rfl, hw⟩; rw [hw]; clear hw) | (go_at_call_of 33 xo; refine (k3 _).mono ?_; rintro e w5 ⟨rfl, hw⟩; rw [hw]; clear hw)
              try rw [Exit.noGoto_ret]
              go_returns
              exact ⟨by rw [hr.out]; rfl, (hb.trans (hbx.trans hb3)).trans hbF⟩
            | true =>
            rw [q3] at k3
            cases q4 : inB xd with
            | false =>
              have hr := hbf (by rw [hfx, q1, q2, q3, q4]; simp)
              rw [q4] at k4
              clear hfx hbf hst2 hfl2 hex hbt hstep hflat hencT
              go_wp2_with first | (go_at_call_of 33 (xn.size : Int); refine (k1 _).mono ?_; rintro e w5 ⟨rfl, hw⟩; rw [hw]; clear hw) | (go_at_call_of 33 xa; refine (k2 _).mono ?_; rintro e w5 ⟨rfl, hw⟩; rw [hw]; clear hw) | (go_at_call_of 33 xo; refine (k3 _).mono ?_; rintro e w5 ⟨rfl, hw⟩; rw [hw]; clear hw) | (go_at_call_of 33 xd; refine (k4 _).mono ?_; rintro e w5 ⟨rfl, hw⟩; rw [hw]; clear hw)
              try rw [Exit.noGoto_ret]
              go_returns
              exact ⟨by rw [hr.out]; rfl, (hb.trans (hbx.trans hb3)).trans hbF⟩
            | true =>
            rw [q4] at k4
            have x1 := wrap_u8 q1
            have x2 := wrap_u8 q2
            have x3 := wrap_u8 q3
            have x4 := wrap_u8 q4
            have m1 := inB_iff.1 q1
            have hft : fb = true := by rw [hfx, q1, q2, q3, q4]; rfl
            clear hfx q1 q2 q3 q4 hbf
            obtain ⟨U1, hU1, hc1⟩ : ∃ U1 : ByteArray, (U1 = tx [toU8 xn.size]) ∧ ∀ W : World, (convert 53 9 (.slice (some ⟨W.heap.size, 0, none⟩) 1 1)).run Try.prog (W.alloc (.cells #[.int .u8 (xn.size : Int)] 5)) = .ok (.string U1) (W.alloc (.cells #[.int .u8 (xn.size : Int)] 5)) := ⟨_, tx_nums _, fun W => hcv1.out W _ _ rfl⟩
            obtain ⟨U2, hU2, hc2⟩ : ∃ U2 : ByteArray, (U2 = tx [toU8 xk, toU8 xa, toU8 xo, toU8 xd]) ∧ ∀ (W : World) (g : Nat), g = W.heap.size → (convert 53 9 (.slice (some ⟨g, 0, none⟩) 4 4)).run Try.prog (W.alloc (.cells #[.int .u8 xk, .int .u8 xa, .int .u8 xo, .int .u8 xd] 5)) = .ok (.string U2) (W.alloc (.cells #[.int .u8 xk, .int .u8 xa, .int .u8 xo, .int .u8 xd] 5)) := ⟨_, tx_nums _, fun W g hg => hcv4.out W _ _ _ _ g hg⟩
            have z3 : U1.size = 1 := by rw [hU1, tx_size]; rfl
            have z4 : U2.size = 4 := by rw [hU2, tx_size]; rfl
            have y1 : ¬ 9223372036854775807 < C.size + U1.size := by omega
            have y2 : ¬ 9223372036854775807 < C.size + U1.size + xn.size := by omega
            have y3 : ¬ 9223372036854775807 < C.size + U1.size + xn.size + U2.size := by omega
            replace z3 : Hid (U1.size = 1) := z3
            replace z4 : Hid (U2.size = 4) := z4
            have hnext : Hid (C ++ U1 ++ xn ++ U2 = Z ++ tx ((tfs.take (k + 1)).flatMap encF) ∧ (tfs.take (k + 1)).all fldB = true) := by
              refine ⟨?_, by rw [hst2.out, hfa.out, hft]; rfl⟩
              rw [hfl2.out, hex.out, hC.out, hU1, hU2]
              simp only [ByteArray.append_assoc]
              rw [ba_tx, tx_app, tx_app]
              exact congrArg (fun l => Z ++ tx l) (by simp [txtM])
            clear hU1 hU2 hft
            have hF := heap_new wr #[.string xn, .int .u8 xk, .int .i64 xa, .int .i64 xo, .int .i64 xd] 48
            have hFb := it_keep (w := w) hF ((Bl.refl _).alloc (.cells #[.int .u8 (xn.size : Int)] 5))
            generalize hWf : (wr.alloc (.cells #[.string xn, .int .u8 xk, .int .i64 xa, .int .i64 xo, .int .i64 xd] 48)) = Wf at hbF hF hFb
            generalize hFn : wr.heap.size = F at hF hFb
            replace hFn : Hid (wr.heap.size = F) := hFn
            go_upto_region 15 with fail
            try rw [hWf]
            try rw [hFn.out]
            clear hWf
            have s0 : Wf.cell? ⟨F, 0, none⟩ = some (.string xn) := (by rw [cell_at hF]; rfl)
            have s1 : Wf.cell? ⟨F, 1, none⟩ = some (.int .u8 xk) := (by rw [cell_at hF]; rfl)
            have s2 : Wf.cell? ⟨F, 2, none⟩ = some (.int .i64 xa) := (by rw [cell_at hF]; rfl)
            have s3 : Wf.cell? ⟨F, 3, none⟩ = some (.int .i64 xo) := (by rw [cell_at hF]; rfl)
            have s4 : Wf.cell? ⟨F, 4, none⟩ = some (.int .i64 xd) := (by rw [cell_at hF]; rfl)
            have r0 : (Wf.alloc (.cells #[.int .u8 (xn.size : Int)] 5)).cell? ⟨F, 0, none⟩ = some (.string xn) := (by rw [cell_at hFb]; rfl)
            have r1 : (Wf.alloc (.cells #[.int .u8 (xn.size : Int)] 5)).cell? ⟨F, 1, none⟩ = some (.int .u8 xk) := (by rw [cell_at hFb]; rfl)
            have r2 : (Wf.alloc (.cells #[.int .u8 (xn.size : Int)] 5)).cell? ⟨F, 2, none⟩ = some (.int .i64 xa) := (by rw [cell_at hFb]; rfl)
            have r3 : (Wf.alloc (.cells #[.int .u8 (xn.size : Int)] 5)).cell? ⟨F, 3, none⟩ = some (.int .i64 xo) := (by rw [cell_at hFb]; rfl)
            have r4 : (Wf.alloc (.cells #[.int .u8 (xn.size : Int)] 5)).cell? ⟨F, 4, none⟩ = some (.int .i64 xd) := (by rw [cell_at hFb]; rfl)
            go_wp2_with first | (go_at_call_of 33 (xn.size : Int); refine (k1 _).mono ?_; rintro e w5 ⟨rfl, hw⟩; rw [hw]; clear hw) | (go_at_call_of 33 xa; refine (k2 _).mono ?_; rintro e w5 ⟨rfl, hw⟩; rw [hw]; clear hw) | (go_at_call_of 33 xo; refine (k3 _).mono ?_; rintro e w5 ⟨rfl, hw⟩; rw [hw]; clear hw) | (go_at_call_of 33 xd; refine (k4 _).mono ?_; rintro e w5 ⟨rfl, hw⟩; rw [hw]; clear hw)
            exact ⟨⟨k + 1, _, by simp, by omega, rfl, hnext.out.1, hnext.out.2, ((hb3.trans hbF).alloc _).alloc _⟩, by simp [intOf]; omega⟩
          · have d3 : decide ((k : Int) < tfs.length) = false := by simp; omega
            have hkk : k = tfs.length := by omega
            have htk : tfs.take k = tfs := by rw [hkk, List.take_length]
            have hnext : Hid (C = tx (toU8 L.length :: (L.take (i + 1)).flatMap encT) ∧ (L.take (i + 1)).all tyB = true) := by
              have h5 := hfa.out
              rw [htk] at h5
              refine ⟨?_, by rw [hstep.out, hall.out, htb.out, h5]; rfl⟩
              rw [hC.out, htk, ← hZ.out, hA.out, hS1.out, hS2.out, tx_app, tx_ba, tx_app, tx_app, hflat.out, hencT.out]
              exact congrArg tx (by simp [txtM])
            clear hkk htk
            go_wp2
            exact ⟨⟨i + 1, _, by simp, by omega, rfl, hnext.out.1, hnext.out.2, hb.trans (hbx.trans hb3)⟩, by simp [intOf]; omega⟩
    · have d2 : decide ((i : Int) < L.length) = false := by simp; omega
      have hii : i = L.length := by omega
      have htk : L.take i = L := by rw [hii, List.take_length]
      have h5 := hall.out
      rw [htk] at h5
      have hr := hgood h5
      have hA2 : Hid (A = ⟨(encM L).toArray⟩) := by
        show _ = _
        rw [hA.out, htk]; rfl
      clear hii htk h5
      go_wp2
      go_returns
      exact ⟨by rw [hr.out, hA2.out]; rfl, hb⟩
end Go.Proofs.Ytmcjmdoeafhjpaa
