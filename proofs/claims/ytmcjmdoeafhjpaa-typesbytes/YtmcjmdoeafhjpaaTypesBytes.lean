/- TypesBytes, for every two tables and every text: what the program writes and reads is what the document writes and reads, and which tables are alike. No conditions. -/
import Derived.Test.YtmcjmdoeafhjpaaTZ
import Derived.Test.YtmcjmdoeafhjpaaDQ
import Derived.WalkKit
import Derived.ProofKit
import Derived.OpenShut
import Derived.ShutString
namespace Go.Proofs.Ytmcjmdoeafhjpaa.typesBytes
open Go.ChangeShapes Go.WideShapes Go.ChangeAt Go.RowKit
open Go.ChangeMaps (open_string shut_string)
set_option linter.unusedVariables false
set_option linter.unusedSimpArgs false

theorem own : ownKnob Try.prog.godebug = none := by kernel_rfl

set_option maxRecDepth 100000 in
set_option maxHeartbeats 16000000 in
theorem walk (p0 : Option Addr) (L0 : List Ty) (c0 : Nat) (p1 : Option Addr) (L1 : List Ty) (c1 : Nat) (a2 : ByteArray) (w : World) (hc0 : L0.length ≤ c0 ∧ c0 ≤ maxLen) (hL0 : Tys w p0 L0) (hc1 : L1.length ≤ c1 ∧ c1 ≤ maxLen) (hL1 : Tys w p1 L1) (w2 : a2.size ≤ maxLen) :
    Calls Try.prog 3 #[.slice p0 L0.length c0, .slice p1 L1.length c1, .string a2] w fun e w' => e = .returned (.bool true) ∧ Below w.heap.size w w' := by
  have hal := fun W => alive_any W
  have kl := fun W (h : Bl w W) => large_any p0 c0 L0 W (hL0.gr h)
  have km := fun W (h : Bl w W) => large_any p1 c1 L1 W (hL1.gr h)
  have HB : Bl w w := Bl.refl w
  cases q0 : largeM L0 with
  | true =>
    rw [q0] at kl
    go_enter Try.func3, Try.ntmps3
    go_wp2_with first | (go_at_call_of 8 c0; refine (kl _ HB).mono ?_; rintro e vl ⟨rfl, hw⟩; rw [hw]; clear hw) | (go_at_call 9; refine (hal _).mono ?_; rintro e vz ⟨rfl, hb⟩; replace HB := HB.trans hb; clear hb)
    go_returns
    exact ⟨rfl, HB⟩
  | false =>
  rw [q0] at kl
  cases q1 : largeM L1 with
  | true =>
    rw [q1] at km
    go_enter Try.func3, Try.ntmps3
    go_wp2_with first | (go_at_call_of 8 c0; refine (kl _ HB).mono ?_; rintro e vl ⟨rfl, hw⟩; rw [hw]; clear hw) | (go_at_call_of 8 c1; refine (km _ HB).mono ?_; rintro e vm ⟨rfl, hw⟩; rw [hw]; clear hw) | (go_at_call 9; refine (hal _).mono ?_; rintro e vz ⟨rfl, hb⟩; replace HB := HB.trans hb; clear hb)
    go_returns
    exact ⟨rfl, HB⟩
  | false =>
  rw [q1] at km
  by_cases q2 : 4096 < a2.size
  · have d2 : decide ((4096 : Int) < a2.size) = true := by simp; omega
    go_enter Try.func3, Try.ntmps3
    go_wp2_with first | (go_at_call_of 8 c0; refine (kl _ HB).mono ?_; rintro e vl ⟨rfl, hw⟩; rw [hw]; clear hw) | (go_at_call_of 8 c1; refine (km _ HB).mono ?_; rintro e vm ⟨rfl, hw⟩; rw [hw]; clear hw) | (go_at_call 9; refine (hal _).mono ?_; rintro e vz ⟨rfl, hb⟩; replace HB := HB.trans hb; clear hb)
    go_returns
    exact ⟨rfl, HB⟩
  have d2 : decide ((4096 : Int) < a2.size) = false := by simp; omega
  clear q0 q1
  have ke := fun W (h : Bl w W) => encode_any p0 c0 L0 W (hL0.gr h)
  have kr := fun W (h : Bl w W) => rencode_any p0 c0 L0 W (hL0.gr h)
  have kd := fun W => decode_any a2 (by omega) W
  have kq0 := fun W => rdecode_any a2.data.toList (by have : a2.data.toList.length = a2.size := Array.length_toList
                                                      omega) W
  rw [show tx a2.data.toList = a2 from rfl] at kq0
  have kq : ∀ W, Calls Try.prog 13 #[.string a2] W fun e w' => DecP (decM a2.data.toList) e w' ∧ Bl W w' := kq0
  clear kq0
  have kt := fun W (h : Bl w W) => tsame_any p0 p1 c0 c1 L0 L1 W (hL0.gr h) (hL1.gr h)
  have ksm := fun W (h : Bl w W) => rsame_any p0 p1 c0 c1 L0 L1 W (hL0.gr h) (hL1.gr h)
  generalize sameM L0 L1 = sm at kt ksm
  generalize (⟨(encM L0).toArray⟩ : ByteArray) = A at ke kr
  have hself : (A.toList == A.toList) = true := by simp
  generalize areB L0 = ab at ke kr
  cases ab with
  | false =>
    simp only [Bool.false_eq_true, if_false] at ke kr
    cases hd : decM a2.data.toList with
    | none =>
      have kd2 : ∀ W, Calls Try.prog 12 #[.string a2] W fun e w' => e = .returned (.tuple #[.slice none 0 0, .int .i64 8]) ∧ Bl W w' := fun W => (kd W).mono fun e w' h => ⟨h.1.1 hd, h.2⟩
      have kq2 : ∀ W, Calls Try.prog 13 #[.string a2] W fun e w' => e = .returned (.tuple #[.slice none 0 0, .int .i64 8]) ∧ Bl W w' := fun W => (kq W).mono fun e w' h => ⟨h.1.1 hd, h.2⟩
      clear kd kq
      go_enter Try.func3, Try.ntmps3
      go_upto_region 7 with first | (go_at_call_of 8 c0; refine (kl _ HB).mono ?_; rintro e vl ⟨rfl, hw⟩; rw [hw]; clear hw) | (go_at_call_of 8 c1; refine (km _ HB).mono ?_; rintro e vm ⟨rfl, hw⟩; rw [hw]; clear hw) | (go_at_call 10; refine (ke _ HB).mono ?_; rintro e va ⟨rfl, hb⟩; replace HB := HB.trans hb; clear hb) | (go_at_call 11; refine (kr _ HB).mono ?_; rintro e vb ⟨rfl, hb⟩; replace HB := HB.trans hb; clear hb) | (go_at_call 12; refine (kd2 _).mono ?_; rintro e vd ⟨rfl, hb⟩; replace HB := HB.trans hb; clear hb) | (go_at_call 13; refine (kq2 _).mono ?_; rintro e vq ⟨rfl, hb⟩; replace HB := HB.trans hb; clear hb)
      have ks : ∀ W, Bl vq W → Calls Try.prog 14 #[.slice none 0 0, .slice none 0 0] W fun e w' => e = .returned (.bool true) ∧ Bl W w' := fun W _ => by
        have hn : Tys W none [] := ⟨fun t ht => by simp at ht, by unfold maxLen; simp, .inl rfl⟩
        have := rsame_any none none 0 0 [] [] W hn hn
        rwa [show sameM [] [] = true from decide_eq_true rfl] at this
      cases sm with
      | false =>
        go_wp2_with first | (go_at_call_of 14 c1; refine (ksm _ HB).mono ?_; rintro e vs ⟨rfl, hb⟩; replace HB := HB.trans hb; clear hb) | (go_at_call 14; refine (ks _ (Bl.refl _)).mono ?_; rintro e vu ⟨rfl, hb⟩; replace HB := HB.trans hb; clear hb) | (go_at_call 15; refine (kt _ HB).mono ?_; rintro e vt ⟨rfl, hb⟩; replace HB := HB.trans hb; clear hb) | (go_at_call 9; refine (hal _).mono ?_; rintro e vz ⟨rfl, hb⟩; replace HB := HB.trans hb; clear hb)
        go_returns
        exact ⟨rfl, HB⟩
      | true =>
        go_wp2_with first | (go_at_call_of 14 c1; refine (ksm _ HB).mono ?_; rintro e vs ⟨rfl, hb⟩; replace HB := HB.trans hb; clear hb) | (go_at_call 14; refine (ks _ (Bl.refl _)).mono ?_; rintro e vu ⟨rfl, hb⟩; replace HB := HB.trans hb; clear hb) | (go_at_call 15; refine (kt _ HB).mono ?_; rintro e vt ⟨rfl, hb⟩; replace HB := HB.trans hb; clear hb) | (go_at_call 9; refine (hal _).mono ?_; rintro e vz ⟨rfl, hb⟩; replace HB := HB.trans hb; clear hb)
        go_returns
        exact ⟨rfl, HB⟩
    | some l =>
      have kd2 : ∀ W, Calls Try.prog 12 #[.string a2] W fun e w' => ∃ (p : Option Addr) (L : List Ty) (c : Nat), e = .returned (.tuple #[.slice p L.length c, .int .i64 0]) ∧ Tys w' p L ∧ L.map Ty.core = l ∧ Bl W w' := fun W => (kd W).mono fun e w' h => by
        obtain ⟨p, L, c, h1, h2, _, _, h3⟩ := h.1.2 l hd
        exact ⟨p, L, c, h1, h2, h3, h.2⟩
      have kq2 : ∀ W, Calls Try.prog 13 #[.string a2] W fun e w' => ∃ (p : Option Addr) (L : List Ty) (c : Nat), e = .returned (.tuple #[.slice p L.length c, .int .i64 0]) ∧ Tys w' p L ∧ L.map Ty.core = l ∧ Bl W w' := fun W => (kq W).mono fun e w' h => by
        obtain ⟨p, L, c, h1, h2, _, _, h3⟩ := h.1.2 l hd
        exact ⟨p, L, c, h1, h2, h3, h.2⟩
      clear kd kq hd
      go_enter Try.func3, Try.ntmps3
      go_upto_region 7 with first | (go_at_call_of 8 c0; refine (kl _ HB).mono ?_; rintro e vl ⟨rfl, hw⟩; rw [hw]; clear hw) | (go_at_call_of 8 c1; refine (km _ HB).mono ?_; rintro e vm ⟨rfl, hw⟩; rw [hw]; clear hw) | (go_at_call 10; refine (ke _ HB).mono ?_; rintro e va ⟨rfl, hb⟩; replace HB := HB.trans hb; clear hb) | (go_at_call 11; refine (kr _ HB).mono ?_; rintro e vb ⟨rfl, hb⟩; replace HB := HB.trans hb; clear hb) | (go_at_call 12; refine (kd2 _).mono ?_; rintro e vd ⟨pX, LX, cX, rfl, hLX, hcX, hb⟩; replace HB := HB.trans hb; clear hb) | (go_at_call 13; refine (kq2 _).mono ?_; rintro e vq ⟨pZ, LZ, cZ, rfl, hLZ, hcZ, hq⟩; replace HB := HB.trans hq)
      have ks : ∀ W, Bl vq W → Calls Try.prog 14 #[.slice pX LX.length cX, .slice pZ LZ.length cZ] W fun e w' => e = .returned (.bool true) ∧ Bl W w' := fun W h => by
        have := rsame_any pX pZ cX cZ LX LZ W (hLX.gr (hq.trans h)) (hLZ.gr h)
        rwa [show sameM LX LZ = true from decide_eq_true (hcX.trans hcZ.symm)] at this
      cases sm with
      | false =>
        go_wp2_with first | (go_at_call_of 14 c1; refine (ksm _ HB).mono ?_; rintro e vs ⟨rfl, hb⟩; replace HB := HB.trans hb; clear hb) | (go_at_call 14; refine (ks _ (Bl.refl _)).mono ?_; rintro e vu ⟨rfl, hb⟩; replace HB := HB.trans hb; clear hb) | (go_at_call 15; refine (kt _ HB).mono ?_; rintro e vt ⟨rfl, hb⟩; replace HB := HB.trans hb; clear hb) | (go_at_call 9; refine (hal _).mono ?_; rintro e vz ⟨rfl, hb⟩; replace HB := HB.trans hb; clear hb)
        go_returns
        exact ⟨rfl, HB⟩
      | true =>
        go_wp2_with first | (go_at_call_of 14 c1; refine (ksm _ HB).mono ?_; rintro e vs ⟨rfl, hb⟩; replace HB := HB.trans hb; clear hb) | (go_at_call 14; refine (ks _ (Bl.refl _)).mono ?_; rintro e vu ⟨rfl, hb⟩; replace HB := HB.trans hb; clear hb) | (go_at_call 15; refine (kt _ HB).mono ?_; rintro e vt ⟨rfl, hb⟩; replace HB := HB.trans hb; clear hb) | (go_at_call 9; refine (hal _).mono ?_; rintro e vz ⟨rfl, hb⟩; replace HB := HB.trans hb; clear hb)
        go_returns
        exact ⟨rfl, HB⟩
  | true =>
    simp only [if_true] at ke kr
    cases hd : decM a2.data.toList with
    | none =>
      have kd2 : ∀ W, Calls Try.prog 12 #[.string a2] W fun e w' => e = .returned (.tuple #[.slice none 0 0, .int .i64 8]) ∧ Bl W w' := fun W => (kd W).mono fun e w' h => ⟨h.1.1 hd, h.2⟩
      have kq2 : ∀ W, Calls Try.prog 13 #[.string a2] W fun e w' => e = .returned (.tuple #[.slice none 0 0, .int .i64 8]) ∧ Bl W w' := fun W => (kq W).mono fun e w' h => ⟨h.1.1 hd, h.2⟩
      clear kd kq
      go_enter Try.func3, Try.ntmps3
      go_upto_region 7 with first | (go_at_call_of 8 c0; refine (kl _ HB).mono ?_; rintro e vl ⟨rfl, hw⟩; rw [hw]; clear hw) | (go_at_call_of 8 c1; refine (km _ HB).mono ?_; rintro e vm ⟨rfl, hw⟩; rw [hw]; clear hw) | (go_at_call 10; refine (ke _ HB).mono ?_; rintro e va ⟨rfl, hb⟩; replace HB := HB.trans hb; clear hb) | (go_at_call 11; refine (kr _ HB).mono ?_; rintro e vb ⟨rfl, hb⟩; replace HB := HB.trans hb; clear hb) | (go_at_call 12; refine (kd2 _).mono ?_; rintro e vd ⟨rfl, hb⟩; replace HB := HB.trans hb; clear hb) | (go_at_call 13; refine (kq2 _).mono ?_; rintro e vq ⟨rfl, hb⟩; replace HB := HB.trans hb; clear hb)
      have ks : ∀ W, Bl vq W → Calls Try.prog 14 #[.slice none 0 0, .slice none 0 0] W fun e w' => e = .returned (.bool true) ∧ Bl W w' := fun W _ => by
        have hn : Tys W none [] := ⟨fun t ht => by simp at ht, by unfold maxLen; simp, .inl rfl⟩
        have := rsame_any none none 0 0 [] [] W hn hn
        rwa [show sameM [] [] = true from decide_eq_true rfl] at this
      cases sm with
      | false =>
        go_wp2_with first | (go_at_call_of 14 c1; refine (ksm _ HB).mono ?_; rintro e vs ⟨rfl, hb⟩; replace HB := HB.trans hb; clear hb) | (go_at_call 14; refine (ks _ (Bl.refl _)).mono ?_; rintro e vu ⟨rfl, hb⟩; replace HB := HB.trans hb; clear hb) | (go_at_call 15; refine (kt _ HB).mono ?_; rintro e vt ⟨rfl, hb⟩; replace HB := HB.trans hb; clear hb) | (go_at_call 9; refine (hal _).mono ?_; rintro e vz ⟨rfl, hb⟩; replace HB := HB.trans hb; clear hb)
        go_returns
        exact ⟨rfl, HB⟩
      | true =>
        go_wp2_with first | (go_at_call_of 14 c1; refine (ksm _ HB).mono ?_; rintro e vs ⟨rfl, hb⟩; replace HB := HB.trans hb; clear hb) | (go_at_call 14; refine (ks _ (Bl.refl _)).mono ?_; rintro e vu ⟨rfl, hb⟩; replace HB := HB.trans hb; clear hb) | (go_at_call 15; refine (kt _ HB).mono ?_; rintro e vt ⟨rfl, hb⟩; replace HB := HB.trans hb; clear hb) | (go_at_call 9; refine (hal _).mono ?_; rintro e vz ⟨rfl, hb⟩; replace HB := HB.trans hb; clear hb)
        go_returns
        exact ⟨rfl, HB⟩
    | some l =>
      have kd2 : ∀ W, Calls Try.prog 12 #[.string a2] W fun e w' => ∃ (p : Option Addr) (L : List Ty) (c : Nat), e = .returned (.tuple #[.slice p L.length c, .int .i64 0]) ∧ Tys w' p L ∧ L.map Ty.core = l ∧ Bl W w' := fun W => (kd W).mono fun e w' h => by
        obtain ⟨p, L, c, h1, h2, _, _, h3⟩ := h.1.2 l hd
        exact ⟨p, L, c, h1, h2, h3, h.2⟩
      have kq2 : ∀ W, Calls Try.prog 13 #[.string a2] W fun e w' => ∃ (p : Option Addr) (L : List Ty) (c : Nat), e = .returned (.tuple #[.slice p L.length c, .int .i64 0]) ∧ Tys w' p L ∧ L.map Ty.core = l ∧ Bl W w' := fun W => (kq W).mono fun e w' h => by
        obtain ⟨p, L, c, h1, h2, _, _, h3⟩ := h.1.2 l hd
        exact ⟨p, L, c, h1, h2, h3, h.2⟩
      clear kd kq hd
      go_enter Try.func3, Try.ntmps3
      go_upto_region 7 with first | (go_at_call_of 8 c0; refine (kl _ HB).mono ?_; rintro e vl ⟨rfl, hw⟩; rw [hw]; clear hw) | (go_at_call_of 8 c1; refine (km _ HB).mono ?_; rintro e vm ⟨rfl, hw⟩; rw [hw]; clear hw) | (go_at_call 10; refine (ke _ HB).mono ?_; rintro e va ⟨rfl, hb⟩; replace HB := HB.trans hb; clear hb) | (go_at_call 11; refine (kr _ HB).mono ?_; rintro e vb ⟨rfl, hb⟩; replace HB := HB.trans hb; clear hb) | (go_at_call 12; refine (kd2 _).mono ?_; rintro e vd ⟨pX, LX, cX, rfl, hLX, hcX, hb⟩; replace HB := HB.trans hb; clear hb) | (go_at_call 13; refine (kq2 _).mono ?_; rintro e vq ⟨pZ, LZ, cZ, rfl, hLZ, hcZ, hq⟩; replace HB := HB.trans hq)
      have ks : ∀ W, Bl vq W → Calls Try.prog 14 #[.slice pX LX.length cX, .slice pZ LZ.length cZ] W fun e w' => e = .returned (.bool true) ∧ Bl W w' := fun W h => by
        have := rsame_any pX pZ cX cZ LX LZ W (hLX.gr (hq.trans h)) (hLZ.gr h)
        rwa [show sameM LX LZ = true from decide_eq_true (hcX.trans hcZ.symm)] at this
      cases sm with
      | false =>
        go_wp2_with first | (go_at_call_of 14 c1; refine (ksm _ HB).mono ?_; rintro e vs ⟨rfl, hb⟩; replace HB := HB.trans hb; clear hb) | (go_at_call 14; refine (ks _ (Bl.refl _)).mono ?_; rintro e vu ⟨rfl, hb⟩; replace HB := HB.trans hb; clear hb) | (go_at_call 15; refine (kt _ HB).mono ?_; rintro e vt ⟨rfl, hb⟩; replace HB := HB.trans hb; clear hb) | (go_at_call 9; refine (hal _).mono ?_; rintro e vz ⟨rfl, hb⟩; replace HB := HB.trans hb; clear hb)
        go_returns
        exact ⟨rfl, HB⟩
      | true =>
        go_wp2_with first | (go_at_call_of 14 c1; refine (ksm _ HB).mono ?_; rintro e vs ⟨rfl, hb⟩; replace HB := HB.trans hb; clear hb) | (go_at_call 14; refine (ks _ (Bl.refl _)).mono ?_; rintro e vu ⟨rfl, hb⟩; replace HB := HB.trans hb; clear hb) | (go_at_call 15; refine (kt _ HB).mono ?_; rintro e vt ⟨rfl, hb⟩; replace HB := HB.trans hb; clear hb) | (go_at_call 9; refine (hal _).mono ?_; rintro e vz ⟨rfl, hb⟩; replace HB := HB.trans hb; clear hb)
        go_returns
        exact ⟨rfl, HB⟩

theorem readable : ∀ t ∈ Try.f3.params.toList, Try.prog.readableRec t = true ∧ t < Try.prog.types.size := by
  rw [Try.params3]
  intro t ht
  simp at ht
  rcases ht with rfl | rfl | rfl
  all_goals exact ⟨by kernel_rfl, of_decide_eq_true (by kernel_rfl)⟩
set_option maxRecDepth 100000 in
theorem lifted (os : Os) (started : os.Started) (H : Type) (enc : TypeId × Value → H) :
    ReturnsInHanded {} Try.checked os 3 .any (Rows.typesBytesSpec.pre6 enc Try.prog Try.f3 Rows.typesBytesRow.domain false) (Rows.typesBytesSpec.post enc Try.prog Try.f3 false true false false) := by
  refine returnsInHanded_of_change (C := Try.checked) own started (by kernel_rfl) Try.func3
    (ChangeSpec.witness6 (enc := enc) (C := Try.checked) false ⟨#[], #[.slice none 0 0, .slice none 0 0, .string ByteArray.empty], []⟩ 8 (by kernel_rfl) (by kernel_rfl) (by kernel_rfl) (by kernel_rfl)) ?_
  intro W base args ds gs before hval0 hW hcnd _
  have hval : ∀ (j : Nat) t v, Try.f3.params[j]? = some t → args[j]? = some v → Value.okWide Try.prog W .any base t v := hval0
  have hW' := hW
  obtain ⟨p, q, hA0, hV, rfl, hfz, hnd⟩ := hW
  have hA : DataW.TrodAll enc Try.prog W 0 (fun _ => true) true Try.f3.params.toList args.toList ds p := hA0
  rw [Try.params3] at hA hval
  obtain ⟨v0, vs0, d0, ds0, p0, q0, hargs, rfl, rfl, h0, r0⟩ := trodAll_cons hA
  obtain ⟨v1, vs1, d1, ds1, p1, q1, rfl, rfl, rfl, h1, r1⟩ := trodAll_cons r0
  obtain ⟨v2, vs2, d2, ds2, p2, q2, rfl, rfl, rfl, h2, r2⟩ := trodAll_cons r1
  obtain ⟨rfl, rfl, rfl⟩ := trodAll_nil r2
  obtain rfl : args = #[v0, v1, v2] := by cases args; simp_all
  obtain ⟨rfl, rfl⟩ := trodVars_none hV
  obtain ⟨p0, L0, c0, rfl, hca0, hcb0, hL0⟩ := open_tys (hval 0 22 v0 rfl rfl) h0
  obtain ⟨p1, L1, c1, rfl, hca1, hcb1, hL1⟩ := open_tys (hval 1 22 v1 rfl rfl) h1
  obtain ⟨a2, rfl, rfl, rfl, w2⟩ := open_string Try.underlying9 (hval 2 9 v2 rfl rfl) h2
  clear hA0 hval0
  refine (walk p0 L0 c0 p1 L1 c1 a2 W ⟨hca0, hcb0⟩ hL0 ⟨hca1, hcb1⟩ hL1 w2).mono fun e W' ⟨he, hg⟩ => ?_
  subst he
  exact ⟨_, rfl, post_bel readable hW' rfl (fun _ _ _ => (trodAll_cons_mk (shut_bool Try.underlying4 _) trodAll_mk0)) rfl (fun _ => rfl)
    hg (ok_one (by kernel_rfl) rfl (okWide_bool_mk Try.underlying4 _))⟩

theorem over : Rows.typesBytesRow.holds Try.pinned (OpenSpec.ofChange Rows.typesBytesSpec) :=
  OpenClaim.holds_of_wide 3 Try.f3 rfl rfl rfl rfl rfl rfl rfl ⟨rfl, rfl, rfl, rfl, rfl⟩ rfl rfl rfl rfl rfl (by kernel_rfl) Try.func3 (by kernel_rfl)
    (of_decide_eq_true (by kernel_rfl)) (by unfold Func.isWrapper; first | (rw [if_pos (by decide +kernel)]; kernel_rfl) | (rw [if_neg (by decide +kernel)]; exact ⟨rfl, rfl⟩))
    (fun os started H enc _ => lifted os started H enc)

theorem proved : Rows.TypesBytesSaid :=
  over
end Go.Proofs.Ytmcjmdoeafhjpaa.typesBytes
namespace Go.Proofs.Ytmcjmdoeafhjpaa
theorem typesBytes_holds : Rows.TypesBytesSaid :=
  typesBytes.proved
#print axioms typesBytes_holds
end Go.Proofs.Ytmcjmdoeafhjpaa
