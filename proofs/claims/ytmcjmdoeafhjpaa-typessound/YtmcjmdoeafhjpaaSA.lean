/- Towards the statements of package types (layer 10): covers of TypesSound. -/
import Derived.Test.YtmcjmdoeafhjpaaMT
namespace Go.Proofs.Ytmcjmdoeafhjpaa
open Go.ChangeShapes Go.WideShapes Go.ChangeAt Go.RowKit
set_option linter.unusedVariables false
set_option linter.unusedSimpArgs false
set_option maxRecDepth 20000

theorem cnt_step {P : Fd → Bool} {fs : List Fd} {k : Nat} {x : Fd} (h : fs[k]? = some x) : (fs.take (k + 1)).countP P = (fs.take k).countP P + if P x then 1 else 0 := by
  rw [List.take_add_one, h, List.countP_append]
  simp [List.countP_cons]
set_option maxHeartbeats 8000000 in
theorem lcov_any (t : Ty) (hs : 8 ≤ t.s ∧ t.s ≤ 128) (hG : Good t.fs) (hone : ∀ a : Int, t.fs.countP (isAt a) ≤ 1) (hpl : ∀ a : Int, 0 ≤ a → a < t.s → plainM t.s t.fs a 1 = (t.fs.countP (isAt a) == 0)) (w : World) (hf : Flds w t.p t.fs) :
    Calls Try.prog 20 #[.agg #[.string t.n, .int .i64 t.s, .slice t.p t.fs.length t.c]] w fun e w' => e = .returned (.bool true) ∧ Bl w w' := by
  have hlen := hf.len
  unfold maxLen at hlen
  have hb0 : Bl w (w.alloc (.cells t.cs 42)) := (Bl.refl w).alloc _
  have hX := heap_new w t.cs 42
  have hpp : t.fs = [] ∨ ∃ b5 off5, t.p = some ⟨b5, off5, none⟩ := by
    rcases hf.at' with h | ⟨b5, off5, h, _⟩
    · exact .inl h
    · exact .inr ⟨b5, off5, h⟩
  have kp := fun (a n : Int) (ha : I64 a) (W : World) (hb : Bl w W) => plain_any t a n W (hf.gr hb) ⟨by omega, by omega⟩ ha
  have hoff := plain_off t.s t.fs
  obtain ⟨tn, ts, tp, tc, tfs⟩ := t
  dsimp only [Ty.cs] at *
  obtain ⟨off1, off2, off3, off4⟩ := hoff
  have q1 : decide (ts < 0) = false := by simp; omega
  have q2 : decide (128 < ts) = false := by simp; omega
  have i1 : I64 ts := ⟨by omega, by omega⟩
  have i2 : I64 (-1) := ⟨by omega, by omega⟩
  have i3 : I64 0 := ⟨by omega, by omega⟩
  have e5 : IntKind.i64.wrap (ts + 1) = ts + 1 := IntWalk.i64_in _ (by omega)
  have ksz := fun k W => tsize_any k W
  generalize hWa : (w.alloc (.cells #[.string tn, .int .i64 ts, .slice tp tfs.length tc] 42)) = Wa at hb0 hX
  have u1 : Wa.cell? ⟨w.heap.size, 1, none⟩ = some (.int .i64 ts) := by rw [cell_at hX]; rfl
  rcases hpp with hnil | ⟨b5, off5, rfl⟩
  · replace hnil : Hid (tfs = []) := hnil
    go_enter Try.func20, Try.ntmps20
    go_wp2
    try rw [hWa]
    clear hWa u1
    generalize w.heap.size = B at hX ⊢
    go_loopw [3] (fun v wr => ∃ a : Nat, v = .int .i64 a ∧ (a : Int) ≤ ts ∧ Bl Wa wr) (fun v _ => ts.toNat - (intOf v).toNat)
    case atStart => exact ⟨0, rfl, by omega, Bl.refl _⟩
    case round =>
      obtain ⟨a, rfl, ha, hb⟩ := hrel
      have hXr := it_keep (w := w) hX hb
      have t0 : wr.cell? ⟨B, 0, none⟩ = some (.string tn) := by rw [cell_at hXr]; rfl
      have t1 : wr.cell? ⟨B, 1, none⟩ = some (.int .i64 ts) := by rw [cell_at hXr]; rfl
      have t2 : wr.cell? ⟨B, 2, none⟩ = some (.slice tp tfs.length tc) := by rw [cell_at hXr]; rfl
      by_cases h : (a : Int) < ts
      · have d : decide ((a : Int) < ts) = true := by simpa using h
        have e9 : IntKind.i64.wrap ((a : Int) + 1) = (a : Int) + 1 := IntWalk.i64_in _ (by omega)
        have hpa := hpl a (by omega) h
        have hna := hone a
        go_wp2
        go_loopw [4, 5] (fun n v wr => ∃ k : Nat, v = .int .i64 k ∧ k ≤ tfs.length ∧ n = .int .i64 ((tfs.take k).countP (isAt a)) ∧ Bl Wa wr) (fun n v _ => tfs.length - (intOf v).toNat)
        case atStart => exact ⟨0, rfl, by omega, by simp, hb⟩
        case round =>
          clear t0 t1 t2 hXr hb
          obtain ⟨k, rfl, hk, rfl, hb⟩ := hrel
          have hXr := it_keep (w := w) hX hb
          have t0 : wr.cell? ⟨B, 0, none⟩ = some (.string tn) := by rw [cell_at hXr]; rfl
          have t1 : wr.cell? ⟨B, 1, none⟩ = some (.int .i64 ts) := by rw [cell_at hXr]; rfl
          have t2 : wr.cell? ⟨B, 2, none⟩ = some (.slice tp tfs.length tc) := by rw [cell_at hXr]; rfl
          by_cases h2 : k < tfs.length
          · exact absurd h2 (by rw [hnil.out]; simp)
          · have d2 : decide ((k : Int) < tfs.length) = false := by simp; omega
            obtain hk9 : k = tfs.length := by omega
            have htk : tfs.take k = tfs := by rw [hk9, List.take_length]
            have ia : I64 (a : Int) := ⟨by omega, by omega⟩
            have kq := kp a 1 ia
            rw [htk]
            clear hk9 htk
            have hm01 : tfs.countP (isAt a) = 0 ∨ tfs.countP (isAt a) = 1 := by omega
            rw [hpa] at kq
            generalize tfs.countP (isAt a) = m at hm01 kq
            rcases hm01 with rfl | rfl
            · go_wp2_with (go_at_call 26; refine (kq _ (hb0.trans hb)).mono ?_; rintro e w5 ⟨rfl, hb5⟩)
              exact ⟨⟨a + 1, by simp, by omega, hb.trans hb5⟩, by simp [intOf]; omega⟩
            · go_wp2_with (go_at_call 26; refine (kq _ (hb0.trans hb)).mono ?_; rintro e w5 ⟨rfl, hb5⟩)
              exact ⟨⟨a + 1, by simp, by omega, hb.trans hb5⟩, by simp [intOf]; omega⟩
      · have d : decide ((a : Int) < ts) = false := by simpa using h
        go_wp2_with (go_at_call 26; refine (kp _ _ (by first | exact i1 | exact i2 | exact i3) _ (hb0.trans hb)).mono ?_; rintro e w5 ⟨rfl, hb5⟩; have t0 := (hb5.cell (k := 0) (ch_lt hXr)).trans t0; have t1 := (hb5.cell (k := 1) (ch_lt hXr)).trans t1; have t2 := (hb5.cell (k := 2) (ch_lt hXr)).trans t2; replace hXr := it_keep (w := w) hXr hb5; replace hb := hb.trans hb5; clear hb5)
        go_returns
        exact ⟨by simp, hb0.trans hb⟩
  · go_enter Try.func20, Try.ntmps20
    go_wp2
    try rw [hWa]
    clear hWa u1
    generalize w.heap.size = B at hX ⊢
    go_loopw [3] (fun v wr => ∃ a : Nat, v = .int .i64 a ∧ (a : Int) ≤ ts ∧ Bl Wa wr) (fun v _ => ts.toNat - (intOf v).toNat)
    case atStart => exact ⟨0, rfl, by omega, Bl.refl _⟩
    case round =>
      obtain ⟨a, rfl, ha, hb⟩ := hrel
      have hXr := it_keep (w := w) hX hb
      have t0 : wr.cell? ⟨B, 0, none⟩ = some (.string tn) := by rw [cell_at hXr]; rfl
      have t1 : wr.cell? ⟨B, 1, none⟩ = some (.int .i64 ts) := by rw [cell_at hXr]; rfl
      have t2 : wr.cell? ⟨B, 2, none⟩ = some (.slice (some ⟨b5, off5, none⟩) tfs.length tc) := by rw [cell_at hXr]; rfl
      by_cases h : (a : Int) < ts
      · have d : decide ((a : Int) < ts) = true := by simpa using h
        have e9 : IntKind.i64.wrap ((a : Int) + 1) = (a : Int) + 1 := IntWalk.i64_in _ (by omega)
        have hpa := hpl a (by omega) h
        have hna := hone a
        go_wp2
        go_loopw [4, 5] (fun n v wr => ∃ k : Nat, v = .int .i64 k ∧ k ≤ tfs.length ∧ n = .int .i64 ((tfs.take k).countP (isAt a)) ∧ Bl Wa wr) (fun n v _ => tfs.length - (intOf v).toNat)
        case atStart => exact ⟨0, rfl, by omega, by simp, hb⟩
        case round =>
          clear t0 t1 t2 hXr hb
          obtain ⟨k, rfl, hk, rfl, hb⟩ := hrel
          have hXr := it_keep (w := w) hX hb
          have t0 : wr.cell? ⟨B, 0, none⟩ = some (.string tn) := by rw [cell_at hXr]; rfl
          have t1 : wr.cell? ⟨B, 1, none⟩ = some (.int .i64 ts) := by rw [cell_at hXr]; rfl
          have t2 : wr.cell? ⟨B, 2, none⟩ = some (.slice (some ⟨b5, off5, none⟩) tfs.length tc) := by rw [cell_at hXr]; rfl
          by_cases h2 : k < tfs.length
          · have d2 : decide ((k : Int) < tfs.length) = true := by simp; omega
            obtain ⟨x, hx⟩ : ∃ x, tfs[k]? = some x := ⟨tfs[k], List.getElem?_eq_getElem _⟩
            obtain ⟨b6, off6, hp6, hb6, ⟨z0, z1, z2, z3, z4⟩, hxok, _⟩ := (hf.gr (hb0.trans hb)).get hx
            cases hp6
            have hgx := hG x (List.mem_of_getElem? hx)
            have hsb := sizeM_bd x.k
            have e8 : IntKind.i64.wrap ((k : Int) + 1) = (k : Int) + 1 := IntWalk.i64_in _ (by omega)
            have e6 : IntKind.i64.wrap (x.a + sizeM x.k) = x.a + sizeM x.k := IntWalk.i64_in _ (by omega)
            have ky := ksz x.k
            have hcs := cnt_step (P := isAt a) hx
            have hcl : (tfs.take k).countP (isAt a) ≤ k := Nat.le_trans List.countP_le_length (by rw [List.length_take]; omega)
            clear hx
            by_cases o1 : x.a ≤ a
            · have p1 : decide (x.a ≤ (a : Int)) = true := by simpa using o1
              by_cases o2 : (a : Int) < x.a + sizeM x.k
              · have p2 : decide ((a : Int) < x.a + sizeM x.k) = true := by simpa using o2
                have hr : Hid ((tfs.take (k + 1)).countP (isAt a) = (tfs.take k).countP (isAt a) + 1) := by
                  show _ = _
                  rw [hcs, isAt, p1, p2]
                  rfl
                clear hcs o1 o2
                generalize (tfs.take k).countP (isAt a) = m at hr hcl
                have e7 : IntKind.i64.wrap ((m : Int) + 1) = (m : Int) + 1 := IntWalk.i64_in _ (by omega)
                generalize sizeM x.k = n at ky e6 p2 hsb hgx
                go_upto_region 11 with fail
                go_quiet (first | (go_at_call 22; exact Calls.quiet_of_same (ky _)))
                go_wp2
                exact ⟨⟨k + 1, by simp, by omega, by rw [hr.out]; simp, drewN_bl (hb.alloc _) nq⟩, by simp [intOf]; omega⟩
              · have p2 : decide ((a : Int) < x.a + sizeM x.k) = false := by simpa using o2
                have hr : Hid ((tfs.take (k + 1)).countP (isAt a) = (tfs.take k).countP (isAt a)) := by
                  show _ = _
                  rw [hcs, isAt, p1, p2]
                  rfl
                clear hcs o1 o2
                generalize (tfs.take k).countP (isAt a) = m at hr hcl
                generalize sizeM x.k = n at ky e6 p2 hsb hgx
                go_upto_region 11 with fail
                go_quiet (first | (go_at_call 22; exact Calls.quiet_of_same (ky _)))
                go_wp2
                exact ⟨⟨k + 1, by simp, by omega, by rw [hr.out], drewN_bl (hb.alloc _) nq⟩, by simp [intOf]; omega⟩
            · have p1 : decide (x.a ≤ (a : Int)) = false := by simpa using o1
              have hr : Hid ((tfs.take (k + 1)).countP (isAt a) = (tfs.take k).countP (isAt a)) := by
                show _ = _
                rw [hcs, isAt, p1]
                rfl
              clear hcs o1
              generalize (tfs.take k).countP (isAt a) = m at hr hcl
              generalize sizeM x.k = n at ky e6 hsb hgx
              go_upto_region 11 with fail
              go_quiet (first | (go_at_call 22; exact Calls.quiet_of_same (ky _)))
              go_wp2
              exact ⟨⟨k + 1, by simp, by omega, by rw [hr.out], drewN_bl (hb.alloc _) nq⟩, by simp [intOf]; omega⟩
          · have d2 : decide ((k : Int) < tfs.length) = false := by simp; omega
            obtain hk9 : k = tfs.length := by omega
            have htk : tfs.take k = tfs := by rw [hk9, List.take_length]
            have ia : I64 (a : Int) := ⟨by omega, by omega⟩
            have kq := kp a 1 ia
            rw [htk]
            clear hk9 htk
            have hm01 : tfs.countP (isAt a) = 0 ∨ tfs.countP (isAt a) = 1 := by omega
            rw [hpa] at kq
            generalize tfs.countP (isAt a) = m at hm01 kq
            rcases hm01 with rfl | rfl
            · go_wp2_with (go_at_call 26; refine (kq _ (hb0.trans hb)).mono ?_; rintro e w5 ⟨rfl, hb5⟩)
              exact ⟨⟨a + 1, by simp, by omega, hb.trans hb5⟩, by simp [intOf]; omega⟩
            · go_wp2_with (go_at_call 26; refine (kq _ (hb0.trans hb)).mono ?_; rintro e w5 ⟨rfl, hb5⟩)
              exact ⟨⟨a + 1, by simp, by omega, hb.trans hb5⟩, by simp [intOf]; omega⟩
      · have d : decide ((a : Int) < ts) = false := by simpa using h
        go_wp2_with (go_at_call 26; refine (kp _ _ (by first | exact i1 | exact i2 | exact i3) _ (hb0.trans hb)).mono ?_; rintro e w5 ⟨rfl, hb5⟩; have t0 := (hb5.cell (k := 0) (ch_lt hXr)).trans t0; have t1 := (hb5.cell (k := 1) (ch_lt hXr)).trans t1; have t2 := (hb5.cell (k := 2) (ch_lt hXr)).trans t2; replace hXr := it_keep (w := w) hXr hb5; replace hb := hb.trans hb5; clear hb5)
        go_returns
        exact ⟨by simp, hb0.trans hb⟩
end Go.Proofs.Ytmcjmdoeafhjpaa
