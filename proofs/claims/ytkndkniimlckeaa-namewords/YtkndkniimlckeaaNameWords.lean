/- NameWords, for every three texts: names with a blank between are read as they are, each word is a name, and what is read of the words is the same. No conditions. -/
import Derived.Test.YtkndkniimlckeaaNQ
import Derived.WalkKit
import Derived.ProofKit
import Derived.OpenShut
import Derived.ShutString
namespace Go.Proofs.Ytkndkniimlckeaa.nameWords
open Go.ChangeShapes Go.WideShapes Go.ChangeAt Go.RowKit
open Go.ChangeMaps (open_string shut_string)
set_option linter.unusedVariables false
set_option linter.unusedSimpArgs false

theorem own : ownKnob Try.prog.godebug = none := by kernel_rfl

set_option maxRecDepth 100000 in
set_option maxHeartbeats 16000000 in
theorem walk (a0 : ByteArray) (a1 : ByteArray) (a2 : ByteArray) (w0 : a0.size ≤ maxLen) (w1 : a1.size ≤ maxLen) (w2 : a2.size ≤ maxLen) (w : World) :
    Calls Try.prog 6 #[.string a0, .string a1, .string a2] w fun e w' => e = .returned (.bool true) ∧ Below w.heap.size w w' := by
  have hal := fun W => alive_any W
  by_cases h0 : 2048 < a0.size
  · have d0 : decide ((2048 : Int) < a0.size) = true := by simp; omega
    go_enter Try.func6, Try.ntmps6
    go_wp2_with (first | (go_at_call 9; refine (hal _).mono ?_; rintro e w' ⟨rfl, hb⟩))
    go_returns
    exact ⟨rfl, hb⟩
  have d0 : decide ((2048 : Int) < a0.size) = false := by simp; omega
  by_cases h1 : 2048 < a1.size
  · have d1 : decide ((2048 : Int) < a1.size) = true := by simp; omega
    go_enter Try.func6, Try.ntmps6
    go_wp2_with (first | (go_at_call 9; refine (hal _).mono ?_; rintro e w' ⟨rfl, hb⟩))
    go_returns
    exact ⟨rfl, hb⟩
  have d1 : decide ((2048 : Int) < a1.size) = false := by simp; omega
  by_cases h2 : 4096 < a2.size
  · have d2 : decide ((4096 : Int) < a2.size) = true := by simp; omega
    go_enter Try.func6, Try.ntmps6
    go_wp2_with (first | (go_at_call 9; refine (hal _).mono ?_; rintro e w' ⟨rfl, hb⟩))
    go_returns
    exact ⟨rfl, hb⟩
  have d2 : decide ((4096 : Int) < a2.size) = false := by simp; omega
  have ka := fun W => may_any a0 (by omega) W
  have kb := fun W => may_any a1 (by omega) W
  have kw := fun W => words_any a2 (by omega) W
  have kwa := fun W => words_any a0 (by omega) W
  have hsep : (a0 ++ (⟨#[32]⟩ : ByteArray) ++ a1).size ≤ 1048576 := by simp only [ByteArray.size_append]; show a0.size + 1 + a1.size ≤ 1048576; omega
  have kwab := fun W => words_any (a0 ++ (⟨#[32]⟩ : ByteArray) ++ a1) hsep W
  have hq1 : ¬ 9223372036854775807 < a0.size + 1 := by omega
  have hq2 : ¬ 9223372036854775807 < a0.size + 1 + a1.size := by omega
  go_enter Try.func6, Try.ntmps6
  go_upto_region 4 with (go_at_call 15; refine (kw _).mono ?_; rintro e w1 ⟨v, X, rfl, hX, hXm, hb1⟩)
  obtain ⟨p, c, rfl⟩ := hX.shape
  have hsum : sumW (X.map bt) ≤ 4097 := by
    rw [hXm]
    have := words_sum (bt_lt a2)
    rw [bt_len] at this
    omega
  have hcount : X.length ≤ 4097 := by
    have := sumW_count (X.map bt)
    rw [List.length_map] at this
    omega
  have hmay : ∀ x ∈ X, mayM (bt x) = true := fun x hx => words_each (bt_lt a2) _ (by rw [← hXm]; exact List.mem_map_of_mem hx)
  replace hXm : Hid (X.map bt = wordsM (bt a2)) := hXm
  clear kw
  go_wp2
  go_loopw [8, 9] (fun al i wr => ∃ (k : Nat) (t : ByteArray), al = .string t ∧ i = .int .i64 k ∧ k ≤ X.length ∧ bt t = ((X.map bt).take k).flatMap (· ++ [32]) ∧ Bl w1 wr) (fun _ i _ => X.length - (intOf i).toNat)
  case atStart => exact ⟨0, ⟨#[]⟩, rfl, rfl, by omega, by rfl, Bl.refl w1⟩
  case round =>
    obtain ⟨k, t, rfl, rfl, hk, ht, hb⟩ := hrel
    have htl : t.size = sumW ((X.map bt).take k) := by rw [← bt_len, ht, join_len]
    replace ht : Hid (bt t = ((X.map bt).take k).flatMap (· ++ [32])) := ht
    by_cases hlt : k < X.length
    · obtain ⟨x, hx⟩ : ∃ x, X[k]? = some x := ⟨X[k], by simp [hlt]⟩
      obtain ⟨g, rfl, cx, _, hg⟩ := (hX.gr hb).get hx
      have hd7 : decide ((k : Int) < X.length) = true := by simp; omega
      have hd8 : decide ((0 : Int) ≤ (k : Int) ∧ (k : Int) < (X.length : Int)) = true := by simp; omega
      have e1 : IntKind.i64.wrap ((k : Int) + 1) = (k : Int) + 1 := IntWalk.i64_in _ (by omega)
      have hxm : (X.map bt)[k]? = some (bt x) := by simp [hx]
      have hxl := sumW_get hxm
      rw [bt_len, ← htl] at hxl
      have km := fun W => may_any x (by omega) W
      rw [hmay x (List.mem_of_getElem? hx)] at km
      have hs1 : ¬ 9223372036854775807 < t.size + x.size := by omega
      have hs2 : ¬ 9223372036854775807 < t.size + x.size + 1 := by omega
      replace hxl : Hid (t.size + x.size + 1 ≤ sumW (X.map bt)) := hxl
      replace htl : Hid (t.size = sumW ((X.map bt).take k)) := htl
      have cx' : ∀ W, Bl wr W → W.cell? ⟨g, k, none⟩ = some (.string x) := fun W h => (h.cell (p := ⟨g, k, none⟩) hg).trans cx
      go_wp2_with (first | (go_at_call 10; refine (km _).mono ?_; rintro e w2 ⟨rfl, hb2⟩; have cx2 := cx' w2 hb2))
      refine ⟨⟨k + 1, _, rfl, by simp, by omega, ?_, hb.trans hb2⟩, by simp [intOf]; omega⟩
      have hl := List.getElem?_eq_some_iff.1 hxm
      rw [List.take_succ_eq_append_getElem hl.1, hl.2, List.flatMap_append, bt_app, bt_app, ht.out]
      simp [bt]
    · have hd7 : decide ((k : Int) < X.length) = false := by simp; omega
      have hkl : k = X.length := by omega
      have ht2 : bt t = (X.map bt).flatMap (· ++ [32]) := by
        have := ht.out
        rw [List.take_of_length_le (by simp; omega)] at this
        exact this
      have htz : t.size ≤ 4097 := by rw [htl]; exact Nat.le_trans (sumW_take _ _) hsum
      replace hkl : True := trivial
      replace htl : True := trivial
      have kt : ∀ W, Calls Try.prog 15 #[.string t] W fun e w' => ∃ v X2, e = .returned v ∧ SRow w' v X2 ∧ X2.map bt = X.map bt ∧ Bl W w' := fun W => by
        refine (words_any t (by omega) W).mono ?_
        rintro e w' ⟨v, X2, rfl, h1, h2, h3⟩
        obtain ⟨C, c1, c2⟩ := words_join (X.map bt) (fun x hx => by
          obtain ⟨y, hy, rfl⟩ := List.mem_map.1 hx
          exact ⟨bt_lt y, hmay y hy⟩)
        exact ⟨v, X2, rfl, h1, by rw [h2, ht2, c1.wordsM, c2], h3⟩
      replace ht2 : True := trivial
      have kl : ∀ (u : Value) (X2 : List ByteArray) W, SRow W u X2 → X2.map bt = X.map bt → SRow W (.slice p X.length c) X → Calls Try.prog 14 #[u, .slice p X.length c] W fun e w' => e = .returned (.bool true) ∧ Bl W w' := fun u X2 W h1 h2 h3 => by
        have hl : X2.length ≤ 1048577 := by have := congrArg List.length h2; simp at this; omega
        have := lists_any u _ X2 X hl W h1 h3
        rwa [sameX, decide_eq_true h2] at this
      have hrA : ∀ W, Calls Try.prog 15 #[.string a0] W fun e w' => ∃ v X2, e = .returned v ∧ SRow w' v X2 ∧ X2.map bt = wordsM (bt a0) ∧ Bl W w' := kwa
      have klA : ∀ (u : Value) (X2 : List ByteArray) W, SRow W u X2 → X2.map bt = wordsM (bt a0) → ∀ z, SRow W z [a0] → Calls Try.prog 14 #[u, z] W fun e w' => e = .returned (.bool (mayM (bt a0))) ∧ Bl W w' := fun u X2 W h1 h2 z h3 => by
        have hl : X2.length ≤ 1048577 := by
          have h5 := congrArg List.length h2
          have h6 := words_sum (bt_lt a0)
          have h7 := sumW_count (wordsM (bt a0))
          rw [bt_len] at h6
          simp at h5; omega
        have := lists_any u z X2 [a0] hl W h1 h3
        rw [sameX, h2] at this
        rw [← words_same (bt_lt a0)]
        exact this
      have klAB : mayM (bt a0) = true → mayM (bt a1) = true → ∀ (u : Value) (X2 : List ByteArray) W, SRow W u X2 → X2.map bt = wordsM (bt (a0 ++ (⟨#[32]⟩ : ByteArray) ++ a1)) → ∀ z, SRow W z [a0, a1] → Calls Try.prog 14 #[u, z] W fun e w' => e = .returned (.bool true) ∧ Bl W w' := fun ha hb u X2 W h1 h2 z h3 => by
        have e1 : bt (a0 ++ (⟨#[32]⟩ : ByteArray) ++ a1) = bt a0 ++ 32 :: bt a1 := by rw [bt_app, bt_app]; simp [bt]
        rw [e1, words_two (bt_lt a0) (bt_lt a1) ha hb] at h2
        have hl : X2.length ≤ 1048577 := by have h5 := congrArg List.length h2; simp at h5; omega
        have := lists_any u z X2 [a0, a1] hl W h1 h3
        rwa [sameX, decide_eq_true (by rw [h2]; rfl)] at this
      -- what is told of the words when there is one
      have hone : ∀ x0, X = [x0] → (a2.toList == a0.toList) = true → (x0.toList == a0.toList) = mayM (bt a0) := by
        intro x0 hx h
        have e : a2 = a0 := by
          rw [text_eq, decide_eq_true_iff] at h; exact bt_inj h
        have h1 := hXm.out
        rw [hx, e] at h1
        rw [text_eq, ← words_same (bt_lt a0), ← h1]
        simp
      have hemp : mayM (bt a0) = true → ¬ a0.toList = [] := fun h h2 => may_ne h ((text_nil a0).1 h2)
      clear hXm kwa
      generalize mayM (bt a0) = qa at ka klA klAB hone hemp
      generalize mayM (bt a1) = qb at kb klAB
      generalize wordsM (bt a0) = wa at hrA klA
      generalize wordsM (bt (a0 ++ (⟨#[32]⟩ : ByteArray) ++ a1)) = wab at kwab klAB
      have HB := hb1.trans hb
      have hXr := hX.gr hb
      clear hb
      cases qa with
      | true =>
        have hem1 := hemp rfl
        have hem2 : a0.toList.isEmpty = false := by simpa using hem1
        clear hemp
        cases qb with
        | true =>
          have klAB2 := klAB rfl rfl
          go_upto_region 13 with (first | (go_at_call_of 15 t; refine (kt _).mono ?_; rintro e w2 ⟨v2, X2, rfl, hX2, hXm2, hb2⟩; replace HB := HB.trans hb2; have hX2r := hXr.gr hb2) | (go_at_call_of 14 p; refine (kl _ X2 _ hX2 hXm2 hX2r).mono ?_; rintro e w3 ⟨rfl, hb3⟩; replace HB := HB.trans hb3; have hX3r := hX2r.gr hb3) | (go_at_call_of 10 a0; refine (ka _).mono ?_; rintro e w4 ⟨rfl, hb4⟩; replace HB := HB.trans hb4; replace hX3r := hX3r.gr hb4) | (go_at_call_of 10 a1; refine (kb _).mono ?_; rintro e w5 ⟨rfl, hb5⟩; replace HB := HB.trans hb5; replace hX3r := hX3r.gr hb5) | (go_at_call_of 15 a1; refine (kwab _).mono ?_; rintro e w6 ⟨v6, X6, rfl, hX6, hXm6, hb6⟩; replace HB := HB.trans hb6; replace hX3r := hX3r.gr hb6) | (go_at_call 14; refine (klAB2 _ X6 _ (hX6.gr ((Bl.refl _).alloc _)) hXm6 _ (srow2 _ a0 a1)).mono ?_; rintro e w7 ⟨rfl, hb7⟩; replace HB := (HB.alloc _).trans hb7; replace hX3r := (hX3r.gr ((Bl.refl _).alloc _)).gr hb7))
          clear kt kl klAB kwab kb
          have hr2 : ∀ r : Bool, (a2.toList == a0.toList) = r → (a2.toList == a0.toList) = r := fun _ h => h
          cases hr : (a2.toList == a0.toList) with
          | true =>
            by_cases hl1 : X.length = 1
            · obtain ⟨x0, hx0⟩ := List.length_eq_one_iff.1 hl1
              have hlq : ((X.length : Int) == 1) = true := by rw [hl1]; rfl
              have hl2 : decide ((0 : Int) ≤ 0 ∧ (0 : Int) < (X.length : Int)) = true := by rw [hl1]; rfl
              have hl4 : 0 < X.length := by omega
              have hl3 : decide ((0 : Int) < (X.length : Int)) = true := by rw [hl1]; rfl
              obtain ⟨gx, hpx, cx0, -, -⟩ := hX3r.get (i := 0) (x := x0) (by rw [hx0]; rfl)
              subst hpx
              have hq := hone x0 hx0 hr
              clear hx0 hl1 hone
              go_wp2_with (first | (go_at_call 10; refine (ka _).mono ?_; rintro e w8 ⟨rfl, hb8⟩; replace HB := HB.trans hb8; clear hb8) | (go_at_call 15; refine (hrA _).mono ?_; rintro e w9 ⟨v9, X9, rfl, hX9, hXm9, hb9⟩; replace HB := HB.trans hb9) | (go_at_call 14; refine (klA _ X9 _ (hX9.gr ((Bl.refl _).alloc _)) hXm9 _ (srow1 _ a0)).mono ?_; rintro e w10 ⟨rfl, hb10⟩; replace HB := (HB.alloc _).trans hb10) | (go_at_call 9; refine (hal _).mono ?_; rintro e w11 ⟨rfl, hb11⟩; replace HB := HB.trans hb11))
              go_returns
              exact ⟨rfl, HB⟩
            · have hlq : ((X.length : Int) == 1) = false := by rw [beq_eq_false_iff_ne]; omega
              clear hl1 hone
              go_wp2_with (first | (go_at_call 10; refine (ka _).mono ?_; rintro e w8 ⟨rfl, hb8⟩; replace HB := HB.trans hb8; clear hb8) | (go_at_call 15; refine (hrA _).mono ?_; rintro e w9 ⟨v9, X9, rfl, hX9, hXm9, hb9⟩; replace HB := HB.trans hb9) | (go_at_call 14; refine (klA _ X9 _ (hX9.gr ((Bl.refl _).alloc _)) hXm9 _ (srow1 _ a0)).mono ?_; rintro e w10 ⟨rfl, hb10⟩; replace HB := (HB.alloc _).trans hb10) | (go_at_call 9; refine (hal _).mono ?_; rintro e w11 ⟨rfl, hb11⟩; replace HB := HB.trans hb11))
              go_returns
              exact ⟨rfl, HB⟩
          | false =>
            by_cases hl1 : X.length = 1
            · obtain ⟨x0, hx0⟩ := List.length_eq_one_iff.1 hl1
              have hlq : ((X.length : Int) == 1) = true := by rw [hl1]; rfl
              have hl2 : decide ((0 : Int) ≤ 0 ∧ (0 : Int) < (X.length : Int)) = true := by rw [hl1]; rfl
              have hl4 : 0 < X.length := by omega
              have hl3 : decide ((0 : Int) < (X.length : Int)) = true := by rw [hl1]; rfl
              obtain ⟨gx, hpx, cx0, -, -⟩ := hX3r.get (i := 0) (x := x0) (by rw [hx0]; rfl)
              subst hpx
              clear hx0 hl1 hone
              cases hq : (x0.toList == a0.toList) with
              | true =>
                go_wp2_with (first | (go_at_call 10; refine (ka _).mono ?_; rintro e w8 ⟨rfl, hb8⟩; replace HB := HB.trans hb8; clear hb8) | (go_at_call 15; refine (hrA _).mono ?_; rintro e w9 ⟨v9, X9, rfl, hX9, hXm9, hb9⟩; replace HB := HB.trans hb9) | (go_at_call 14; refine (klA _ X9 _ (hX9.gr ((Bl.refl _).alloc _)) hXm9 _ (srow1 _ a0)).mono ?_; rintro e w10 ⟨rfl, hb10⟩; replace HB := (HB.alloc _).trans hb10) | (go_at_call 9; refine (hal _).mono ?_; rintro e w11 ⟨rfl, hb11⟩; replace HB := HB.trans hb11))
                go_returns
                exact ⟨rfl, HB⟩
              | false =>
                go_wp2_with (first | (go_at_call 10; refine (ka _).mono ?_; rintro e w8 ⟨rfl, hb8⟩; replace HB := HB.trans hb8; clear hb8) | (go_at_call 15; refine (hrA _).mono ?_; rintro e w9 ⟨v9, X9, rfl, hX9, hXm9, hb9⟩; replace HB := HB.trans hb9) | (go_at_call 14; refine (klA _ X9 _ (hX9.gr ((Bl.refl _).alloc _)) hXm9 _ (srow1 _ a0)).mono ?_; rintro e w10 ⟨rfl, hb10⟩; replace HB := (HB.alloc _).trans hb10) | (go_at_call 9; refine (hal _).mono ?_; rintro e w11 ⟨rfl, hb11⟩; replace HB := HB.trans hb11))
                go_returns
                exact ⟨rfl, HB⟩
            · have hlq : ((X.length : Int) == 1) = false := by rw [beq_eq_false_iff_ne]; omega
              clear hl1 hone
              go_wp2_with (first | (go_at_call 10; refine (ka _).mono ?_; rintro e w8 ⟨rfl, hb8⟩; replace HB := HB.trans hb8; clear hb8) | (go_at_call 15; refine (hrA _).mono ?_; rintro e w9 ⟨v9, X9, rfl, hX9, hXm9, hb9⟩; replace HB := HB.trans hb9) | (go_at_call 14; refine (klA _ X9 _ (hX9.gr ((Bl.refl _).alloc _)) hXm9 _ (srow1 _ a0)).mono ?_; rintro e w10 ⟨rfl, hb10⟩; replace HB := (HB.alloc _).trans hb10) | (go_at_call 9; refine (hal _).mono ?_; rintro e w11 ⟨rfl, hb11⟩; replace HB := HB.trans hb11))
              go_returns
              exact ⟨rfl, HB⟩
        | false =>
          go_upto_region 13 with (first | (go_at_call_of 15 t; refine (kt _).mono ?_; rintro e w2 ⟨v2, X2, rfl, hX2, hXm2, hb2⟩; replace HB := HB.trans hb2; have hX2r := hXr.gr hb2) | (go_at_call_of 14 p; refine (kl _ X2 _ hX2 hXm2 hX2r).mono ?_; rintro e w3 ⟨rfl, hb3⟩; replace HB := HB.trans hb3; have hX3r := hX2r.gr hb3) | (go_at_call_of 10 a0; refine (ka _).mono ?_; rintro e w4 ⟨rfl, hb4⟩; replace HB := HB.trans hb4; replace hX3r := hX3r.gr hb4) | (go_at_call_of 10 a1; refine (kb _).mono ?_; rintro e w5 ⟨rfl, hb5⟩; replace HB := HB.trans hb5; replace hX3r := hX3r.gr hb5) | (go_at_call_of 15 a1; refine (kwab _).mono ?_; rintro e w6 ⟨v6, X6, rfl, hX6, hXm6, hb6⟩; replace HB := HB.trans hb6; replace hX3r := hX3r.gr hb6) | (go_at_call 14; refine (klAB2 _ X6 _ (hX6.gr ((Bl.refl _).alloc _)) hXm6 _ (srow2 _ a0 a1)).mono ?_; rintro e w7 ⟨rfl, hb7⟩; replace HB := (HB.alloc _).trans hb7; replace hX3r := (hX3r.gr ((Bl.refl _).alloc _)).gr hb7))
          clear kt kl klAB kwab kb
          have hr2 : ∀ r : Bool, (a2.toList == a0.toList) = r → (a2.toList == a0.toList) = r := fun _ h => h
          cases hr : (a2.toList == a0.toList) with
          | true =>
            by_cases hl1 : X.length = 1
            · obtain ⟨x0, hx0⟩ := List.length_eq_one_iff.1 hl1
              have hlq : ((X.length : Int) == 1) = true := by rw [hl1]; rfl
              have hl2 : decide ((0 : Int) ≤ 0 ∧ (0 : Int) < (X.length : Int)) = true := by rw [hl1]; rfl
              have hl4 : 0 < X.length := by omega
              have hl3 : decide ((0 : Int) < (X.length : Int)) = true := by rw [hl1]; rfl
              obtain ⟨gx, hpx, cx0, -, -⟩ := hX3r.get (i := 0) (x := x0) (by rw [hx0]; rfl)
              subst hpx
              have hq := hone x0 hx0 hr
              clear hx0 hl1 hone
              go_wp2_with (first | (go_at_call 10; refine (ka _).mono ?_; rintro e w8 ⟨rfl, hb8⟩; replace HB := HB.trans hb8; clear hb8) | (go_at_call 15; refine (hrA _).mono ?_; rintro e w9 ⟨v9, X9, rfl, hX9, hXm9, hb9⟩; replace HB := HB.trans hb9) | (go_at_call 14; refine (klA _ X9 _ (hX9.gr ((Bl.refl _).alloc _)) hXm9 _ (srow1 _ a0)).mono ?_; rintro e w10 ⟨rfl, hb10⟩; replace HB := (HB.alloc _).trans hb10) | (go_at_call 9; refine (hal _).mono ?_; rintro e w11 ⟨rfl, hb11⟩; replace HB := HB.trans hb11))
              go_returns
              exact ⟨rfl, HB⟩
            · have hlq : ((X.length : Int) == 1) = false := by rw [beq_eq_false_iff_ne]; omega
              clear hl1 hone
              go_wp2_with (first | (go_at_call 10; refine (ka _).mono ?_; rintro e w8 ⟨rfl, hb8⟩; replace HB := HB.trans hb8; clear hb8) | (go_at_call 15; refine (hrA _).mono ?_; rintro e w9 ⟨v9, X9, rfl, hX9, hXm9, hb9⟩; replace HB := HB.trans hb9) | (go_at_call 14; refine (klA _ X9 _ (hX9.gr ((Bl.refl _).alloc _)) hXm9 _ (srow1 _ a0)).mono ?_; rintro e w10 ⟨rfl, hb10⟩; replace HB := (HB.alloc _).trans hb10) | (go_at_call 9; refine (hal _).mono ?_; rintro e w11 ⟨rfl, hb11⟩; replace HB := HB.trans hb11))
              go_returns
              exact ⟨rfl, HB⟩
          | false =>
            by_cases hl1 : X.length = 1
            · obtain ⟨x0, hx0⟩ := List.length_eq_one_iff.1 hl1
              have hlq : ((X.length : Int) == 1) = true := by rw [hl1]; rfl
              have hl2 : decide ((0 : Int) ≤ 0 ∧ (0 : Int) < (X.length : Int)) = true := by rw [hl1]; rfl
              have hl4 : 0 < X.length := by omega
              have hl3 : decide ((0 : Int) < (X.length : Int)) = true := by rw [hl1]; rfl
              obtain ⟨gx, hpx, cx0, -, -⟩ := hX3r.get (i := 0) (x := x0) (by rw [hx0]; rfl)
              subst hpx
              clear hx0 hl1 hone
              cases hq : (x0.toList == a0.toList) with
              | true =>
                go_wp2_with (first | (go_at_call 10; refine (ka _).mono ?_; rintro e w8 ⟨rfl, hb8⟩; replace HB := HB.trans hb8; clear hb8) | (go_at_call 15; refine (hrA _).mono ?_; rintro e w9 ⟨v9, X9, rfl, hX9, hXm9, hb9⟩; replace HB := HB.trans hb9) | (go_at_call 14; refine (klA _ X9 _ (hX9.gr ((Bl.refl _).alloc _)) hXm9 _ (srow1 _ a0)).mono ?_; rintro e w10 ⟨rfl, hb10⟩; replace HB := (HB.alloc _).trans hb10) | (go_at_call 9; refine (hal _).mono ?_; rintro e w11 ⟨rfl, hb11⟩; replace HB := HB.trans hb11))
                go_returns
                exact ⟨rfl, HB⟩
              | false =>
                go_wp2_with (first | (go_at_call 10; refine (ka _).mono ?_; rintro e w8 ⟨rfl, hb8⟩; replace HB := HB.trans hb8; clear hb8) | (go_at_call 15; refine (hrA _).mono ?_; rintro e w9 ⟨v9, X9, rfl, hX9, hXm9, hb9⟩; replace HB := HB.trans hb9) | (go_at_call 14; refine (klA _ X9 _ (hX9.gr ((Bl.refl _).alloc _)) hXm9 _ (srow1 _ a0)).mono ?_; rintro e w10 ⟨rfl, hb10⟩; replace HB := (HB.alloc _).trans hb10) | (go_at_call 9; refine (hal _).mono ?_; rintro e w11 ⟨rfl, hb11⟩; replace HB := HB.trans hb11))
                go_returns
                exact ⟨rfl, HB⟩
            · have hlq : ((X.length : Int) == 1) = false := by rw [beq_eq_false_iff_ne]; omega
              clear hl1 hone
              go_wp2_with (first | (go_at_call 10; refine (ka _).mono ?_; rintro e w8 ⟨rfl, hb8⟩; replace HB := HB.trans hb8; clear hb8) | (go_at_call 15; refine (hrA _).mono ?_; rintro e w9 ⟨v9, X9, rfl, hX9, hXm9, hb9⟩; replace HB := HB.trans hb9) | (go_at_call 14; refine (klA _ X9 _ (hX9.gr ((Bl.refl _).alloc _)) hXm9 _ (srow1 _ a0)).mono ?_; rintro e w10 ⟨rfl, hb10⟩; replace HB := (HB.alloc _).trans hb10) | (go_at_call 9; refine (hal _).mono ?_; rintro e w11 ⟨rfl, hb11⟩; replace HB := HB.trans hb11))
              go_returns
              exact ⟨rfl, HB⟩
      | false =>
        go_upto_region 13 with (first | (go_at_call_of 15 t; refine (kt _).mono ?_; rintro e w2 ⟨v2, X2, rfl, hX2, hXm2, hb2⟩; replace HB := HB.trans hb2; have hX2r := hXr.gr hb2) | (go_at_call_of 14 p; refine (kl _ X2 _ hX2 hXm2 hX2r).mono ?_; rintro e w3 ⟨rfl, hb3⟩; replace HB := HB.trans hb3; have hX3r := hX2r.gr hb3) | (go_at_call_of 10 a0; refine (ka _).mono ?_; rintro e w4 ⟨rfl, hb4⟩; replace HB := HB.trans hb4; replace hX3r := hX3r.gr hb4) | (go_at_call_of 10 a1; refine (kb _).mono ?_; rintro e w5 ⟨rfl, hb5⟩; replace HB := HB.trans hb5; replace hX3r := hX3r.gr hb5) | (go_at_call_of 15 a1; refine (kwab _).mono ?_; rintro e w6 ⟨v6, X6, rfl, hX6, hXm6, hb6⟩; replace HB := HB.trans hb6; replace hX3r := hX3r.gr hb6) | (go_at_call 14; refine (klAB2 _ X6 _ (hX6.gr ((Bl.refl _).alloc _)) hXm6 _ (srow2 _ a0 a1)).mono ?_; rintro e w7 ⟨rfl, hb7⟩; replace HB := (HB.alloc _).trans hb7; replace hX3r := (hX3r.gr ((Bl.refl _).alloc _)).gr hb7))
        clear kt kl klAB kwab kb
        have hr2 : ∀ r : Bool, (a2.toList == a0.toList) = r → (a2.toList == a0.toList) = r := fun _ h => h
        cases hr : (a2.toList == a0.toList) with
        | true =>
          by_cases hl1 : X.length = 1
          · obtain ⟨x0, hx0⟩ := List.length_eq_one_iff.1 hl1
            have hlq : ((X.length : Int) == 1) = true := by rw [hl1]; rfl
            have hl2 : decide ((0 : Int) ≤ 0 ∧ (0 : Int) < (X.length : Int)) = true := by rw [hl1]; rfl
            have hl4 : 0 < X.length := by omega
            have hl3 : decide ((0 : Int) < (X.length : Int)) = true := by rw [hl1]; rfl
            obtain ⟨gx, hpx, cx0, -, -⟩ := hX3r.get (i := 0) (x := x0) (by rw [hx0]; rfl)
            subst hpx
            have hq := hone x0 hx0 hr
            clear hx0 hl1 hone
            by_cases hE : a0.toList = []
            · have hE2 : a0.toList.isEmpty = true := by simp [hE]
              have hr1 : a2.toList.isEmpty = true := by rw [hE] at hr; simpa using hr
              have hr3 : a2.toList = [] := by simpa using hr1
              have hq4 : x0.toList.isEmpty = false := by rw [hE] at hq; simpa using hq
              have hq3 : ¬ x0.toList = [] := by simpa using hq4
              go_wp2_with (first | (go_at_call 10; refine (ka _).mono ?_; rintro e w8 ⟨rfl, hb8⟩; replace HB := HB.trans hb8; clear hb8) | (go_at_call 15; refine (hrA _).mono ?_; rintro e w9 ⟨v9, X9, rfl, hX9, hXm9, hb9⟩; replace HB := HB.trans hb9) | (go_at_call 14; refine (klA _ X9 _ (hX9.gr ((Bl.refl _).alloc _)) hXm9 _ (srow1 _ a0)).mono ?_; rintro e w10 ⟨rfl, hb10⟩; replace HB := (HB.alloc _).trans hb10) | (go_at_call 9; refine (hal _).mono ?_; rintro e w11 ⟨rfl, hb11⟩; replace HB := HB.trans hb11))
              go_returns
              exact ⟨rfl, HB⟩
            · have hE2 : a0.toList.isEmpty = false := by simpa using hE
              go_wp2_with (first | (go_at_call 10; refine (ka _).mono ?_; rintro e w8 ⟨rfl, hb8⟩; replace HB := HB.trans hb8; clear hb8) | (go_at_call 15; refine (hrA _).mono ?_; rintro e w9 ⟨v9, X9, rfl, hX9, hXm9, hb9⟩; replace HB := HB.trans hb9) | (go_at_call 14; refine (klA _ X9 _ (hX9.gr ((Bl.refl _).alloc _)) hXm9 _ (srow1 _ a0)).mono ?_; rintro e w10 ⟨rfl, hb10⟩; replace HB := (HB.alloc _).trans hb10) | (go_at_call 9; refine (hal _).mono ?_; rintro e w11 ⟨rfl, hb11⟩; replace HB := HB.trans hb11))
              go_returns
              exact ⟨rfl, HB⟩
          · have hlq : ((X.length : Int) == 1) = false := by rw [beq_eq_false_iff_ne]; omega
            clear hl1 hone
            by_cases hE : a0.toList = []
            · have hE2 : a0.toList.isEmpty = true := by simp [hE]
              have hr1 : a2.toList.isEmpty = true := by rw [hE] at hr; simpa using hr
              have hr3 : a2.toList = [] := by simpa using hr1
              go_wp2_with (first | (go_at_call 10; refine (ka _).mono ?_; rintro e w8 ⟨rfl, hb8⟩; replace HB := HB.trans hb8; clear hb8) | (go_at_call 15; refine (hrA _).mono ?_; rintro e w9 ⟨v9, X9, rfl, hX9, hXm9, hb9⟩; replace HB := HB.trans hb9) | (go_at_call 14; refine (klA _ X9 _ (hX9.gr ((Bl.refl _).alloc _)) hXm9 _ (srow1 _ a0)).mono ?_; rintro e w10 ⟨rfl, hb10⟩; replace HB := (HB.alloc _).trans hb10) | (go_at_call 9; refine (hal _).mono ?_; rintro e w11 ⟨rfl, hb11⟩; replace HB := HB.trans hb11))
              go_returns
              exact ⟨rfl, HB⟩
            · have hE2 : a0.toList.isEmpty = false := by simpa using hE
              go_wp2_with (first | (go_at_call 10; refine (ka _).mono ?_; rintro e w8 ⟨rfl, hb8⟩; replace HB := HB.trans hb8; clear hb8) | (go_at_call 15; refine (hrA _).mono ?_; rintro e w9 ⟨v9, X9, rfl, hX9, hXm9, hb9⟩; replace HB := HB.trans hb9) | (go_at_call 14; refine (klA _ X9 _ (hX9.gr ((Bl.refl _).alloc _)) hXm9 _ (srow1 _ a0)).mono ?_; rintro e w10 ⟨rfl, hb10⟩; replace HB := (HB.alloc _).trans hb10) | (go_at_call 9; refine (hal _).mono ?_; rintro e w11 ⟨rfl, hb11⟩; replace HB := HB.trans hb11))
              go_returns
              exact ⟨rfl, HB⟩
        | false =>
          by_cases hl1 : X.length = 1
          · obtain ⟨x0, hx0⟩ := List.length_eq_one_iff.1 hl1
            have hlq : ((X.length : Int) == 1) = true := by rw [hl1]; rfl
            have hl2 : decide ((0 : Int) ≤ 0 ∧ (0 : Int) < (X.length : Int)) = true := by rw [hl1]; rfl
            have hl4 : 0 < X.length := by omega
            have hl3 : decide ((0 : Int) < (X.length : Int)) = true := by rw [hl1]; rfl
            obtain ⟨gx, hpx, cx0, -, -⟩ := hX3r.get (i := 0) (x := x0) (by rw [hx0]; rfl)
            subst hpx
            clear hx0 hl1 hone
            cases hq : (x0.toList == a0.toList) with
            | true =>
              by_cases hE : a0.toList = []
              · have hE2 : a0.toList.isEmpty = true := by simp [hE]
                have hr1 : a2.toList.isEmpty = false := by rw [hE] at hr; simpa using hr
                have hr3 : ¬ a2.toList = [] := by simpa using hr1
                have hq4 : x0.toList.isEmpty = true := by rw [hE] at hq; simpa using hq
                have hq3 : x0.toList = [] := by simpa using hq4
                go_wp2_with (first | (go_at_call 10; refine (ka _).mono ?_; rintro e w8 ⟨rfl, hb8⟩; replace HB := HB.trans hb8; clear hb8) | (go_at_call 15; refine (hrA _).mono ?_; rintro e w9 ⟨v9, X9, rfl, hX9, hXm9, hb9⟩; replace HB := HB.trans hb9) | (go_at_call 14; refine (klA _ X9 _ (hX9.gr ((Bl.refl _).alloc _)) hXm9 _ (srow1 _ a0)).mono ?_; rintro e w10 ⟨rfl, hb10⟩; replace HB := (HB.alloc _).trans hb10) | (go_at_call 9; refine (hal _).mono ?_; rintro e w11 ⟨rfl, hb11⟩; replace HB := HB.trans hb11))
                go_returns
                exact ⟨rfl, HB⟩
              · have hE2 : a0.toList.isEmpty = false := by simpa using hE
                go_wp2_with (first | (go_at_call 10; refine (ka _).mono ?_; rintro e w8 ⟨rfl, hb8⟩; replace HB := HB.trans hb8; clear hb8) | (go_at_call 15; refine (hrA _).mono ?_; rintro e w9 ⟨v9, X9, rfl, hX9, hXm9, hb9⟩; replace HB := HB.trans hb9) | (go_at_call 14; refine (klA _ X9 _ (hX9.gr ((Bl.refl _).alloc _)) hXm9 _ (srow1 _ a0)).mono ?_; rintro e w10 ⟨rfl, hb10⟩; replace HB := (HB.alloc _).trans hb10) | (go_at_call 9; refine (hal _).mono ?_; rintro e w11 ⟨rfl, hb11⟩; replace HB := HB.trans hb11))
                go_returns
                exact ⟨rfl, HB⟩
            | false =>
              by_cases hE : a0.toList = []
              · have hE2 : a0.toList.isEmpty = true := by simp [hE]
                have hr1 : a2.toList.isEmpty = false := by rw [hE] at hr; simpa using hr
                have hr3 : ¬ a2.toList = [] := by simpa using hr1
                have hq4 : x0.toList.isEmpty = false := by rw [hE] at hq; simpa using hq
                have hq3 : ¬ x0.toList = [] := by simpa using hq4
                go_wp2_with (first | (go_at_call 10; refine (ka _).mono ?_; rintro e w8 ⟨rfl, hb8⟩; replace HB := HB.trans hb8; clear hb8) | (go_at_call 15; refine (hrA _).mono ?_; rintro e w9 ⟨v9, X9, rfl, hX9, hXm9, hb9⟩; replace HB := HB.trans hb9) | (go_at_call 14; refine (klA _ X9 _ (hX9.gr ((Bl.refl _).alloc _)) hXm9 _ (srow1 _ a0)).mono ?_; rintro e w10 ⟨rfl, hb10⟩; replace HB := (HB.alloc _).trans hb10) | (go_at_call 9; refine (hal _).mono ?_; rintro e w11 ⟨rfl, hb11⟩; replace HB := HB.trans hb11))
                go_returns
                exact ⟨rfl, HB⟩
              · have hE2 : a0.toList.isEmpty = false := by simpa using hE
                go_wp2_with (first | (go_at_call 10; refine (ka _).mono ?_; rintro e w8 ⟨rfl, hb8⟩; replace HB := HB.trans hb8; clear hb8) | (go_at_call 15; refine (hrA _).mono ?_; rintro e w9 ⟨v9, X9, rfl, hX9, hXm9, hb9⟩; replace HB := HB.trans hb9) | (go_at_call 14; refine (klA _ X9 _ (hX9.gr ((Bl.refl _).alloc _)) hXm9 _ (srow1 _ a0)).mono ?_; rintro e w10 ⟨rfl, hb10⟩; replace HB := (HB.alloc _).trans hb10) | (go_at_call 9; refine (hal _).mono ?_; rintro e w11 ⟨rfl, hb11⟩; replace HB := HB.trans hb11))
                go_returns
                exact ⟨rfl, HB⟩
          · have hlq : ((X.length : Int) == 1) = false := by rw [beq_eq_false_iff_ne]; omega
            clear hl1 hone
            by_cases hE : a0.toList = []
            · have hE2 : a0.toList.isEmpty = true := by simp [hE]
              have hr1 : a2.toList.isEmpty = false := by rw [hE] at hr; simpa using hr
              have hr3 : ¬ a2.toList = [] := by simpa using hr1
              go_wp2_with (first | (go_at_call 10; refine (ka _).mono ?_; rintro e w8 ⟨rfl, hb8⟩; replace HB := HB.trans hb8; clear hb8) | (go_at_call 15; refine (hrA _).mono ?_; rintro e w9 ⟨v9, X9, rfl, hX9, hXm9, hb9⟩; replace HB := HB.trans hb9) | (go_at_call 14; refine (klA _ X9 _ (hX9.gr ((Bl.refl _).alloc _)) hXm9 _ (srow1 _ a0)).mono ?_; rintro e w10 ⟨rfl, hb10⟩; replace HB := (HB.alloc _).trans hb10) | (go_at_call 9; refine (hal _).mono ?_; rintro e w11 ⟨rfl, hb11⟩; replace HB := HB.trans hb11))
              go_returns
              exact ⟨rfl, HB⟩
            · have hE2 : a0.toList.isEmpty = false := by simpa using hE
              go_wp2_with (first | (go_at_call 10; refine (ka _).mono ?_; rintro e w8 ⟨rfl, hb8⟩; replace HB := HB.trans hb8; clear hb8) | (go_at_call 15; refine (hrA _).mono ?_; rintro e w9 ⟨v9, X9, rfl, hX9, hXm9, hb9⟩; replace HB := HB.trans hb9) | (go_at_call 14; refine (klA _ X9 _ (hX9.gr ((Bl.refl _).alloc _)) hXm9 _ (srow1 _ a0)).mono ?_; rintro e w10 ⟨rfl, hb10⟩; replace HB := (HB.alloc _).trans hb10) | (go_at_call 9; refine (hal _).mono ?_; rintro e w11 ⟨rfl, hb11⟩; replace HB := HB.trans hb11))
              go_returns
              exact ⟨rfl, HB⟩

set_option maxRecDepth 100000 in
theorem lifted (os : Os) (started : os.Started) (H : Type) (enc : TypeId × Value → H) :
    ReturnsInHanded {} Try.checked os 6 .any (Rows.nameWordsSpec.pre6 enc Try.prog Try.f6 Rows.nameWordsRow.domain false) (Rows.nameWordsSpec.post enc Try.prog Try.f6 false true false false) := by
  refine returnsInHanded_of_change (C := Try.checked) own started (by kernel_rfl) Try.func6
    (ChangeSpec.witness6 (enc := enc) (C := Try.checked) false ⟨#[], #[.string ByteArray.empty, .string ByteArray.empty, .string ByteArray.empty], []⟩ 8 (by kernel_rfl) (by kernel_rfl) (by kernel_rfl) (by kernel_rfl)) ?_
  intro W base args ds gs before hval0 hW hcnd _
  have hval : ∀ (j : Nat) t v, Try.f6.params[j]? = some t → args[j]? = some v → Value.okWide Try.prog W .any base t v := hval0
  have hW' := hW
  obtain ⟨p, q, hA0, hV, rfl, hfz, hnd⟩ := hW
  have hA : DataW.TrodAll enc Try.prog W 0 (fun _ => true) true Try.f6.params.toList args.toList ds p := hA0
  rw [Try.params6] at hA hval
  obtain ⟨v0, vs0, d0, ds0, p0, q0, hargs, rfl, rfl, h0, r0⟩ := trodAll_cons hA
  obtain ⟨v1, vs1, d1, ds1, p1, q1, rfl, rfl, rfl, h1, r1⟩ := trodAll_cons r0
  obtain ⟨v2, vs2, d2, ds2, p2, q2, rfl, rfl, rfl, h2, r2⟩ := trodAll_cons r1
  obtain ⟨rfl, rfl, rfl⟩ := trodAll_nil r2
  obtain rfl : args = #[v0, v1, v2] := by cases args; simp_all
  obtain ⟨rfl, rfl⟩ := trodVars_none hV
  obtain ⟨a0, rfl, rfl, rfl, w0⟩ := open_string Try.underlying9 (hval 0 9 v0 rfl rfl) h0
  obtain ⟨a1, rfl, rfl, rfl, w1⟩ := open_string Try.underlying9 (hval 1 9 v1 rfl rfl) h1
  obtain ⟨a2, rfl, rfl, rfl, w2⟩ := open_string Try.underlying9 (hval 2 9 v2 rfl rfl) h2
  clear hA0 hval0
  simp only [List.append_nil] at hW'
  refine (walk a0 a1 a2 w0 w1 w2 W).mono fun e W' ⟨he, hg⟩ => ?_
  subst he
  exact ⟨_, rfl, post_nil hW' (fun _ _ _ => (trodAll_cons_mk (shut_bool Try.underlying4 _) trodAll_mk0)) (fun sp => (trodAll_cons_mk (shut_string Try.underlying9 w0) (trodAll_cons_mk (shut_string Try.underlying9 w1) (trodAll_cons_mk (shut_string Try.underlying9 w2) trodAll_mk0)))) (fun _ => rfl)
    hg (ok_one (by kernel_rfl) rfl (okWide_bool_mk Try.underlying4 _))⟩

theorem over : Rows.nameWordsRow.holds Try.pinned (OpenSpec.ofChange Rows.nameWordsSpec) :=
  OpenClaim.holds_of_wide 6 Try.f6 rfl rfl rfl rfl rfl rfl rfl ⟨rfl, rfl, rfl, rfl, rfl⟩ rfl rfl rfl rfl rfl (by kernel_rfl) Try.func6 (by kernel_rfl)
    (of_decide_eq_true (by kernel_rfl)) (by unfold Func.isWrapper; first | (rw [if_pos (by decide +kernel)]; kernel_rfl) | (rw [if_neg (by decide +kernel)]; exact ⟨rfl, rfl⟩))
    (fun os started H enc _ => lifted os started H enc)

theorem proved : Rows.NameWordsSaid :=
  over
end Go.Proofs.Ytkndkniimlckeaa.nameWords
namespace Go.Proofs.Ytkndkniimlckeaa
theorem nameWords_holds : Rows.NameWordsSaid :=
  nameWords.proved
#print axioms nameWords_holds
end Go.Proofs.Ytkndkniimlckeaa
