/- TypesBack, for every two tables and every text: what was written is read, what is read is written as it was, unlike tables have unlike bytes. No conditions. -/
import Derived.Test.YtmcjmdoeafhjpaaTZ
import Derived.Test.YtmcjmdoeafhjpaaMA
import Derived.WalkKit
import Derived.ProofKit
import Derived.OpenShut
import Derived.ShutString
namespace Go.Proofs.Ytmcjmdoeafhjpaa.typesBack
open Go.ChangeShapes Go.WideShapes Go.ChangeAt Go.RowKit
open Go.ChangeMaps (open_string shut_string)
set_option linter.unusedVariables false
set_option linter.unusedSimpArgs false

theorem own : ownKnob Try.prog.godebug = none := by kernel_rfl

set_option maxRecDepth 100000 in
set_option maxHeartbeats 16000000 in
theorem walk (p0 : Option Addr) (L0 : List Ty) (c0 : Nat) (p1 : Option Addr) (L1 : List Ty) (c1 : Nat) (a2 : ByteArray) (w : World) (hc0 : L0.length ≤ c0 ∧ c0 ≤ maxLen) (hL0 : Tys w p0 L0) (hc1 : L1.length ≤ c1 ∧ c1 ≤ maxLen) (hL1 : Tys w p1 L1) (w2 : a2.size ≤ maxLen) :
    Calls Try.prog 5 #[.slice p0 L0.length c0, .slice p1 L1.length c1, .string a2] w fun e w' => e = .returned (.bool true) ∧ Below w.heap.size w w' := by
  have hal := fun W => alive_any W
  have kl := fun W (h : Bl w W) => large_any p0 c0 L0 W (hL0.gr h)
  have km := fun W (h : Bl w W) => large_any p1 c1 L1 W (hL1.gr h)
  have HB : Bl w w := Bl.refl w
  cases q0 : largeM L0 with
  | true =>
    rw [q0] at kl
    go_enter Try.func5, Try.ntmps5
    go_wp2_with first | (go_at_call_of 8 c0; refine (kl _ HB).mono ?_; rintro e vl ⟨rfl, hw⟩; rw [hw]; clear hw) | (go_at_call 9; refine (hal _).mono ?_; rintro e vz ⟨rfl, hb⟩; replace HB := HB.trans hb; clear hb)
    go_returns
    exact ⟨rfl, HB⟩
  | false =>
  rw [q0] at kl
  cases q1 : largeM L1 with
  | true =>
    rw [q1] at km
    go_enter Try.func5, Try.ntmps5
    go_wp2_with first | (go_at_call_of 8 c0; refine (kl _ HB).mono ?_; rintro e vl ⟨rfl, hw⟩; rw [hw]; clear hw) | (go_at_call_of 8 c1; refine (km _ HB).mono ?_; rintro e vm ⟨rfl, hw⟩; rw [hw]; clear hw) | (go_at_call 9; refine (hal _).mono ?_; rintro e vz ⟨rfl, hb⟩; replace HB := HB.trans hb; clear hb)
    go_returns
    exact ⟨rfl, HB⟩
  | false =>
  rw [q1] at km
  by_cases q2 : 4096 < a2.size
  · have d2 : decide ((4096 : Int) < a2.size) = true := by simp; omega
    go_enter Try.func5, Try.ntmps5
    go_wp2_with first | (go_at_call_of 8 c0; refine (kl _ HB).mono ?_; rintro e vl ⟨rfl, hw⟩; rw [hw]; clear hw) | (go_at_call_of 8 c1; refine (km _ HB).mono ?_; rintro e vm ⟨rfl, hw⟩; rw [hw]; clear hw) | (go_at_call 9; refine (hal _).mono ?_; rintro e vz ⟨rfl, hb⟩; replace HB := HB.trans hb; clear hb)
    go_returns
    exact ⟨rfl, HB⟩
  have d2 : decide ((4096 : Int) < a2.size) = false := by simp; omega
  have n0 := large_no q0
  have n1 := large_no q1
  have K0 : Kinds L0 := fun t ht x hx => ((hL0.ok t ht).f.ok x hx).k
  have K1 : Kinds L1 := fun t ht x hx => ((hL1.ok t ht).f.ok x hx).k
  clear q0 q1
  have ke0 := fun W (h : Bl w W) => encode_any p0 c0 L0 W (hL0.gr h)
  have ke1 := fun W (h : Bl w W) => encode_any p1 c1 L1 W (hL1.gr h)
  have kds := fun W => decode_any a2 (by omega) W
  cases qa : areB L0 with
  | false =>
    rw [qa] at ke0
    simp only [Bool.false_eq_true, if_false] at ke0
    clear qa
    cases qb : areB L1 with
    | false =>
      rw [qb] at ke1
      simp only [Bool.false_eq_true, if_false] at ke1
      clear qb
      go_enter Try.func5, Try.ntmps5
      go_upto_region 11 with first | (go_at_call_of 8 c0; refine (kl _ HB).mono ?_; rintro e vl ⟨rfl, hw⟩; rw [hw]; clear hw) | (go_at_call_of 8 c1; refine (km _ HB).mono ?_; rintro e vm ⟨rfl, hw⟩; rw [hw]; clear hw) | (go_at_call_of 10 c0; refine (ke0 _ HB).mono ?_; rintro e va ⟨rfl, hb⟩; replace HB := HB.trans hb; clear hb) | (go_at_call_of 10 c1; refine (ke1 _ HB).mono ?_; rintro e vb ⟨rfl, hb⟩; replace HB := HB.trans hb; clear hb)
      cases hd : decM a2.data.toList with
      | none =>
        have kd2 : ∀ W, Calls Try.prog 12 #[.string a2] W fun e w' => e = .returned (.tuple #[.slice none 0 0, .int .i64 8]) ∧ Bl W w' := fun W => (kds W).mono fun e w' h => ⟨h.1.1 hd, h.2⟩
        clear kds hd
        go_wp2_with first | (go_at_call 12; refine (kd2 _).mono ?_; rintro e v1 ⟨rfl, hb⟩; replace HB := HB.trans hb; clear hb) | (go_at_call 9; refine (hal _).mono ?_; rintro e vz ⟨rfl, hb⟩; replace HB := HB.trans hb; clear hb)
        go_returns
        exact ⟨rfl, HB⟩
      | some l =>
        have kd2 : ∀ W, Calls Try.prog 12 #[.string a2] W fun e w' => ∃ (p : Option Addr) (L : List Ty) (c : Nat), e = .returned (.tuple #[.slice p L.length c, .int .i64 0]) ∧ Tys w' p L ∧ L.map Ty.core = l ∧ Bl W w' := fun W => (kds W).mono fun e w' h => by
          obtain ⟨p, L, c, h1, h2, _, _, h3⟩ := h.1.2 l hd
          exact ⟨p, L, c, h1, h2, h3, h.2⟩
        clear kds
        go_upto_region 14 with (go_at_call 12; refine (kd2 _).mono ?_; rintro e v1 ⟨pZ, LZ, cZ, rfl, hLZ, hcZ, hb⟩; replace HB := HB.trans hb; clear hb)
        obtain ⟨hXa, hXe⟩ := dec_back (L := LZ) (b := a2.data.toList) (by rw [hd, hcZ])
        have keX := encode_any pZ cZ LZ v1 hLZ
        rw [hXa, hXe, ba_eta] at keX
        simp only [if_true] at keX
        have hself : (a2.toList == a2.toList) = true := by simp
        clear hd hXa hXe hcZ kd2
        go_wp2_with first | (go_at_call 10; refine keX.mono ?_; rintro e v3 ⟨rfl, hb⟩; replace HB := HB.trans hb; clear hb) | (go_at_call 9; refine (hal _).mono ?_; rintro e vz ⟨rfl, hb⟩; replace HB := HB.trans hb; clear hb)
        go_returns
        exact ⟨rfl, HB⟩
    | true =>
      rw [qb] at ke1
      simp only [if_true] at ke1
      clear qb
      go_enter Try.func5, Try.ntmps5
      go_upto_region 11 with first | (go_at_call_of 8 c0; refine (kl _ HB).mono ?_; rintro e vl ⟨rfl, hw⟩; rw [hw]; clear hw) | (go_at_call_of 8 c1; refine (km _ HB).mono ?_; rintro e vm ⟨rfl, hw⟩; rw [hw]; clear hw) | (go_at_call_of 10 c0; refine (ke0 _ HB).mono ?_; rintro e va ⟨rfl, hb⟩; replace HB := HB.trans hb; clear hb) | (go_at_call_of 10 c1; refine (ke1 _ HB).mono ?_; rintro e vb ⟨rfl, hb⟩; replace HB := HB.trans hb; clear hb)
      cases hd : decM a2.data.toList with
      | none =>
        have kd2 : ∀ W, Calls Try.prog 12 #[.string a2] W fun e w' => e = .returned (.tuple #[.slice none 0 0, .int .i64 8]) ∧ Bl W w' := fun W => (kds W).mono fun e w' h => ⟨h.1.1 hd, h.2⟩
        clear kds hd
        go_wp2_with first | (go_at_call 12; refine (kd2 _).mono ?_; rintro e v1 ⟨rfl, hb⟩; replace HB := HB.trans hb; clear hb) | (go_at_call 9; refine (hal _).mono ?_; rintro e vz ⟨rfl, hb⟩; replace HB := HB.trans hb; clear hb)
        go_returns
        exact ⟨rfl, HB⟩
      | some l =>
        have kd2 : ∀ W, Calls Try.prog 12 #[.string a2] W fun e w' => ∃ (p : Option Addr) (L : List Ty) (c : Nat), e = .returned (.tuple #[.slice p L.length c, .int .i64 0]) ∧ Tys w' p L ∧ L.map Ty.core = l ∧ Bl W w' := fun W => (kds W).mono fun e w' h => by
          obtain ⟨p, L, c, h1, h2, _, _, h3⟩ := h.1.2 l hd
          exact ⟨p, L, c, h1, h2, h3, h.2⟩
        clear kds
        go_upto_region 14 with (go_at_call 12; refine (kd2 _).mono ?_; rintro e v1 ⟨pZ, LZ, cZ, rfl, hLZ, hcZ, hb⟩; replace HB := HB.trans hb; clear hb)
        obtain ⟨hXa, hXe⟩ := dec_back (L := LZ) (b := a2.data.toList) (by rw [hd, hcZ])
        have keX := encode_any pZ cZ LZ v1 hLZ
        rw [hXa, hXe, ba_eta] at keX
        simp only [if_true] at keX
        have hself : (a2.toList == a2.toList) = true := by simp
        clear hd hXa hXe hcZ kd2
        go_wp2_with first | (go_at_call 10; refine keX.mono ?_; rintro e v3 ⟨rfl, hb⟩; replace HB := HB.trans hb; clear hb) | (go_at_call 9; refine (hal _).mono ?_; rintro e vz ⟨rfl, hb⟩; replace HB := HB.trans hb; clear hb)
        go_returns
        exact ⟨rfl, HB⟩
  | true =>
  rw [qa] at ke0
  simp only [if_true] at ke0
  have hde := dec_enc qa K0
  have hAs : (⟨(encM L0).toArray⟩ : ByteArray).size ≤ 3000000 := by
    show (encM L0).toArray.size ≤ 3000000
    rw [List.size_toArray, encM, List.length_cons]
    simp only [areB, Bool.and_eq_true, inB_iff, List.all_eq_true] at qa
    have := flat_len encT 66558 L0 fun t ht => encT_len (qa.2 t ht)
    omega
  have kdA0 := fun W => decode_any ⟨(encM L0).toArray⟩ (by omega) W
  have kdA : ∀ W, Calls Try.prog 12 #[.string ⟨(encM L0).toArray⟩] W fun e w' => ∃ (p : Option Addr) (L : List Ty) (c : Nat), e = .returned (.tuple #[.slice p L.length c, .int .i64 0]) ∧ Tys w' p L ∧ L.map Ty.core = L0.map Ty.core ∧ Bl W w' := fun W => (kdA0 W).mono fun e w' h => by
    obtain ⟨p, L, c, h1, h2, _, _, h3⟩ := h.1.2 (L0.map Ty.core) hde
    exact ⟨p, L, c, h1, h2, h3, h.2⟩
  clear kdA0
  cases qb : areB L1 with
  | false =>
    rw [qb] at ke1
    simp only [Bool.false_eq_true, if_false] at ke1
    generalize (⟨(encM L0).toArray⟩ : ByteArray) = A at ke0 kdA hAs
    clear hde qa qb
    go_enter Try.func5, Try.ntmps5
    go_upto_region 7 with first | (go_at_call_of 8 c0; refine (kl _ HB).mono ?_; rintro e vl ⟨rfl, hw⟩; rw [hw]; clear hw) | (go_at_call_of 8 c1; refine (km _ HB).mono ?_; rintro e vm ⟨rfl, hw⟩; rw [hw]; clear hw) | (go_at_call_of 10 c0; refine (ke0 _ HB).mono ?_; rintro e va ⟨rfl, hb⟩; replace HB := HB.trans hb; clear hb) | (go_at_call_of 10 c1; refine (ke1 _ HB).mono ?_; rintro e vb ⟨rfl, hb⟩; replace HB := HB.trans hb; clear hb) | (go_at_call 12; refine (kdA _).mono ?_; rintro e vd ⟨pX, LX, cX, rfl, hLX, hcX, hb⟩; replace HB := HB.trans hb; clear hb)
    have ks := fun W (h : Bl vd W) => rsame_any pX p0 cX c0 LX L0 W (hLX.gr h) (hL0.gr (HB.trans h))
    rw [show sameM LX L0 = true from decide_eq_true hcX] at ks
    clear hcX kdA
    go_upto_region 11 with (go_at_call 14; refine (ks _ (Bl.refl _)).mono ?_; rintro e vs ⟨rfl, hb⟩; replace HB := HB.trans hb; clear hb)
    cases hd : decM a2.data.toList with
    | none =>
      have kd2 : ∀ W, Calls Try.prog 12 #[.string a2] W fun e w' => e = .returned (.tuple #[.slice none 0 0, .int .i64 8]) ∧ Bl W w' := fun W => (kds W).mono fun e w' h => ⟨h.1.1 hd, h.2⟩
      clear kds hd
      go_wp2_with first | (go_at_call 12; refine (kd2 _).mono ?_; rintro e v1 ⟨rfl, hb⟩; replace HB := HB.trans hb; clear hb) | (go_at_call 9; refine (hal _).mono ?_; rintro e vz ⟨rfl, hb⟩; replace HB := HB.trans hb; clear hb)
      go_returns
      exact ⟨rfl, HB⟩
    | some l =>
      have kd2 : ∀ W, Calls Try.prog 12 #[.string a2] W fun e w' => ∃ (p : Option Addr) (L : List Ty) (c : Nat), e = .returned (.tuple #[.slice p L.length c, .int .i64 0]) ∧ Tys w' p L ∧ L.map Ty.core = l ∧ Bl W w' := fun W => (kds W).mono fun e w' h => by
        obtain ⟨p, L, c, h1, h2, _, _, h3⟩ := h.1.2 l hd
        exact ⟨p, L, c, h1, h2, h3, h.2⟩
      clear kds
      go_upto_region 14 with (go_at_call 12; refine (kd2 _).mono ?_; rintro e v1 ⟨pZ, LZ, cZ, rfl, hLZ, hcZ, hb⟩; replace HB := HB.trans hb; clear hb)
      obtain ⟨hXa, hXe⟩ := dec_back (L := LZ) (b := a2.data.toList) (by rw [hd, hcZ])
      have keX := encode_any pZ cZ LZ v1 hLZ
      rw [hXa, hXe, ba_eta] at keX
      simp only [if_true] at keX
      have hself : (a2.toList == a2.toList) = true := by simp
      clear hd hXa hXe hcZ kd2
      go_wp2_with first | (go_at_call 10; refine keX.mono ?_; rintro e v3 ⟨rfl, hb⟩; replace HB := HB.trans hb; clear hb) | (go_at_call 9; refine (hal _).mono ?_; rintro e vz ⟨rfl, hb⟩; replace HB := HB.trans hb; clear hb)
      go_returns
      exact ⟨rfl, HB⟩
  | true =>
  rw [qb] at ke1
  simp only [if_true] at ke1
  have hAB : ((⟨(encM L0).toArray⟩ : ByteArray).toList == (⟨(encM L1).toArray⟩ : ByteArray).toList) = sameM L0 L1 := by
    rw [str_eq, sameM]
    apply decide_eq_decide.2
    constructor
    · intro h
      have h' : encM L1 = encM L0 ++ [] := by
        rw [List.append_nil]
        have := congrArg (fun b : ByteArray => b.data.toList) h
        exact this.symm
      exact (enc_pre qa K0 qb K1 h').1
    · intro h; rw [enc_same h]
  have hpre : sameM L0 L1 = false → (⟨(encM L0).toArray⟩ : ByteArray).size ≤ (⟨(encM L1).toArray⟩ : ByteArray).size → (((⟨(encM L1).toArray⟩ : ByteArray).extract 0 (⟨(encM L0).toArray⟩ : ByteArray).size).toList == (⟨(encM L0).toArray⟩ : ByteArray).toList) = false := by
    intro hs hle
    rw [str_eq, decide_eq_false_iff_not]
    intro h
    have h1 := congrArg (fun b : ByteArray => b.data.toList) h
    simp only [Lib.extract_data] at h1
    have h2 : (encM L1).take (encM L0).length = encM L0 := by
      have e : (⟨(encM L0).toArray⟩ : ByteArray).size = (encM L0).length := by show (encM L0).toArray.size = _; rw [List.size_toArray]
      rw [e] at h1
      simpa using h1
    have h3 : encM L1 = encM L0 ++ (encM L1).drop (encM L0).length := by
      conv => lhs; rw [← List.take_append_drop (encM L0).length (encM L1)]
      rw [h2]
    have := (enc_pre qa K0 qb K1 h3).1
    rw [sameM, decide_eq_false_iff_not] at hs
    exact hs this
  generalize (⟨(encM L0).toArray⟩ : ByteArray) = A at ke0 kdA hAs hAB hpre
  generalize (⟨(encM L1).toArray⟩ : ByteArray) = B at ke1 hAB hpre
  have ksm := fun W (h : Bl w W) => rsame_any p0 p1 c0 c1 L0 L1 W (hL0.gr h) (hL1.gr h)
  clear hde qa qb
  generalize sameM L0 L1 = sm at ksm hAB hpre
  have go : ∀ (pX : Option Addr) (LX : List Ty) (cX : Nat) (W : World), Bl w W → Tys W pX LX → LX.map Ty.core = L0.map Ty.core → Calls Try.prog 14 #[.slice pX LX.length cX, .slice p0 L0.length c0] W fun e w' => e = .returned (.bool true) ∧ Bl W w' := fun pX LX cX W h hX hc => by
    have := rsame_any pX p0 cX c0 LX L0 W hX (hL0.gr h)
    rwa [show sameM LX L0 = true from decide_eq_true hc] at this
  cases sm with
  | true =>
    have hne : (A.toList != B.toList) = false := by simp [bne, hAB]
    clear hpre
    go_enter Try.func5, Try.ntmps5
    go_upto_region 7 with first | (go_at_call_of 8 c0; refine (kl _ HB).mono ?_; rintro e vl ⟨rfl, hw⟩; rw [hw]; clear hw) | (go_at_call_of 8 c1; refine (km _ HB).mono ?_; rintro e vm ⟨rfl, hw⟩; rw [hw]; clear hw) | (go_at_call_of 10 c0; refine (ke0 _ HB).mono ?_; rintro e va ⟨rfl, hb⟩; replace HB := HB.trans hb; clear hb) | (go_at_call_of 10 c1; refine (ke1 _ HB).mono ?_; rintro e vb ⟨rfl, hb⟩; replace HB := HB.trans hb; clear hb) | (go_at_call 12; refine (kdA _).mono ?_; rintro e vd ⟨pX, LX, cX, rfl, hLX, hcX, hb⟩; replace HB := HB.trans hb; clear hb)
    have ks := go pX LX cX _ HB hLX hcX
    clear hcX kdA
    go_upto_region 11 with first | (go_at_call_of 14 c1; refine (ksm _ HB).mono ?_; rintro e vt ⟨rfl, hb⟩; replace HB := HB.trans hb; clear hb) | (go_at_call 14; refine ks.mono ?_; rintro e vs ⟨rfl, hb⟩; replace HB := HB.trans hb; clear hb)
    cases hd : decM a2.data.toList with
    | none =>
      have kd2 : ∀ W, Calls Try.prog 12 #[.string a2] W fun e w' => e = .returned (.tuple #[.slice none 0 0, .int .i64 8]) ∧ Bl W w' := fun W => (kds W).mono fun e w' h => ⟨h.1.1 hd, h.2⟩
      clear kds hd
      go_wp2_with first | (go_at_call 12; refine (kd2 _).mono ?_; rintro e v1 ⟨rfl, hb⟩; replace HB := HB.trans hb; clear hb) | (go_at_call 9; refine (hal _).mono ?_; rintro e vz ⟨rfl, hb⟩; replace HB := HB.trans hb; clear hb)
      go_returns
      exact ⟨rfl, HB⟩
    | some l =>
      have kd2 : ∀ W, Calls Try.prog 12 #[.string a2] W fun e w' => ∃ (p : Option Addr) (L : List Ty) (c : Nat), e = .returned (.tuple #[.slice p L.length c, .int .i64 0]) ∧ Tys w' p L ∧ L.map Ty.core = l ∧ Bl W w' := fun W => (kds W).mono fun e w' h => by
        obtain ⟨p, L, c, h1, h2, _, _, h3⟩ := h.1.2 l hd
        exact ⟨p, L, c, h1, h2, h3, h.2⟩
      clear kds
      go_upto_region 14 with (go_at_call 12; refine (kd2 _).mono ?_; rintro e v1 ⟨pZ, LZ, cZ, rfl, hLZ, hcZ, hb⟩; replace HB := HB.trans hb; clear hb)
      obtain ⟨hXa, hXe⟩ := dec_back (L := LZ) (b := a2.data.toList) (by rw [hd, hcZ])
      have keX := encode_any pZ cZ LZ v1 hLZ
      rw [hXa, hXe, ba_eta] at keX
      simp only [if_true] at keX
      have hself : (a2.toList == a2.toList) = true := by simp
      clear hd hXa hXe hcZ kd2
      go_wp2_with first | (go_at_call 10; refine keX.mono ?_; rintro e v3 ⟨rfl, hb⟩; replace HB := HB.trans hb; clear hb) | (go_at_call 9; refine (hal _).mono ?_; rintro e vz ⟨rfl, hb⟩; replace HB := HB.trans hb; clear hb)
      go_returns
      exact ⟨rfl, HB⟩
  | false =>
    have hne : (A.toList != B.toList) = true := by simp [bne, hAB]
    by_cases hle : A.size ≤ B.size
    · have hcmp := hpre rfl hle
      have d3 : decide ((A.size : Int) ≤ B.size) = true := by simp; omega
      have hcut : ∀ W, (Instr.slice 9 (.string B) none (some (.int .i64 A.size)) none).run Try.prog W = .ok (.string (B.extract 0 A.size)) W := fun W => by
        rw [run_slice_string_to_if W 9 B .i64 A.size Try.underlying9, if_pos ⟨by omega, by omega⟩, Int.toNat_natCast]
      generalize B.extract 0 A.size = BA at hcut hcmp
      clear hpre
      go_enter Try.func5, Try.ntmps5
      go_upto_region 7 with first | (go_at_call_of 8 c0; refine (kl _ HB).mono ?_; rintro e vl ⟨rfl, hw⟩; rw [hw]; clear hw) | (go_at_call_of 8 c1; refine (km _ HB).mono ?_; rintro e vm ⟨rfl, hw⟩; rw [hw]; clear hw) | (go_at_call_of 10 c0; refine (ke0 _ HB).mono ?_; rintro e va ⟨rfl, hb⟩; replace HB := HB.trans hb; clear hb) | (go_at_call_of 10 c1; refine (ke1 _ HB).mono ?_; rintro e vb ⟨rfl, hb⟩; replace HB := HB.trans hb; clear hb) | (go_at_call 12; refine (kdA _).mono ?_; rintro e vd ⟨pX, LX, cX, rfl, hLX, hcX, hb⟩; replace HB := HB.trans hb; clear hb)
      have ks := go pX LX cX _ HB hLX hcX
      clear hcX kdA
      go_upto_region 11 with first | (go_at_call_of 14 c1; refine (ksm _ HB).mono ?_; rintro e vt ⟨rfl, hb⟩; replace HB := HB.trans hb; clear hb) | (go_at_call 14; refine ks.mono ?_; rintro e vs ⟨rfl, hb⟩; replace HB := HB.trans hb; clear hb)
      cases hd : decM a2.data.toList with
      | none =>
        have kd2 : ∀ W, Calls Try.prog 12 #[.string a2] W fun e w' => e = .returned (.tuple #[.slice none 0 0, .int .i64 8]) ∧ Bl W w' := fun W => (kds W).mono fun e w' h => ⟨h.1.1 hd, h.2⟩
        clear kds hd
        go_wp2_with first | (go_at_call 12; refine (kd2 _).mono ?_; rintro e v1 ⟨rfl, hb⟩; replace HB := HB.trans hb; clear hb) | (go_at_call 9; refine (hal _).mono ?_; rintro e vz ⟨rfl, hb⟩; replace HB := HB.trans hb; clear hb)
        go_returns
        exact ⟨rfl, HB⟩
      | some l =>
        have kd2 : ∀ W, Calls Try.prog 12 #[.string a2] W fun e w' => ∃ (p : Option Addr) (L : List Ty) (c : Nat), e = .returned (.tuple #[.slice p L.length c, .int .i64 0]) ∧ Tys w' p L ∧ L.map Ty.core = l ∧ Bl W w' := fun W => (kds W).mono fun e w' h => by
          obtain ⟨p, L, c, h1, h2, _, _, h3⟩ := h.1.2 l hd
          exact ⟨p, L, c, h1, h2, h3, h.2⟩
        clear kds
        go_upto_region 14 with (go_at_call 12; refine (kd2 _).mono ?_; rintro e v1 ⟨pZ, LZ, cZ, rfl, hLZ, hcZ, hb⟩; replace HB := HB.trans hb; clear hb)
        obtain ⟨hXa, hXe⟩ := dec_back (L := LZ) (b := a2.data.toList) (by rw [hd, hcZ])
        have keX := encode_any pZ cZ LZ v1 hLZ
        rw [hXa, hXe, ba_eta] at keX
        simp only [if_true] at keX
        have hself : (a2.toList == a2.toList) = true := by simp
        clear hd hXa hXe hcZ kd2
        go_wp2_with first | (go_at_call 10; refine keX.mono ?_; rintro e v3 ⟨rfl, hb⟩; replace HB := HB.trans hb; clear hb) | (go_at_call 9; refine (hal _).mono ?_; rintro e vz ⟨rfl, hb⟩; replace HB := HB.trans hb; clear hb)
        go_returns
        exact ⟨rfl, HB⟩
    · have d3 : decide ((A.size : Int) ≤ B.size) = false := by simp; omega
      clear hpre
      go_enter Try.func5, Try.ntmps5
      go_upto_region 7 with first | (go_at_call_of 8 c0; refine (kl _ HB).mono ?_; rintro e vl ⟨rfl, hw⟩; rw [hw]; clear hw) | (go_at_call_of 8 c1; refine (km _ HB).mono ?_; rintro e vm ⟨rfl, hw⟩; rw [hw]; clear hw) | (go_at_call_of 10 c0; refine (ke0 _ HB).mono ?_; rintro e va ⟨rfl, hb⟩; replace HB := HB.trans hb; clear hb) | (go_at_call_of 10 c1; refine (ke1 _ HB).mono ?_; rintro e vb ⟨rfl, hb⟩; replace HB := HB.trans hb; clear hb) | (go_at_call 12; refine (kdA _).mono ?_; rintro e vd ⟨pX, LX, cX, rfl, hLX, hcX, hb⟩; replace HB := HB.trans hb; clear hb)
      have ks := go pX LX cX _ HB hLX hcX
      clear hcX kdA
      go_upto_region 11 with first | (go_at_call_of 14 c1; refine (ksm _ HB).mono ?_; rintro e vt ⟨rfl, hb⟩; replace HB := HB.trans hb; clear hb) | (go_at_call 14; refine ks.mono ?_; rintro e vs ⟨rfl, hb⟩; replace HB := HB.trans hb; clear hb)
      cases hd : decM a2.data.toList with
      | none =>
        have kd2 : ∀ W, Calls Try.prog 12 #[.string a2] W fun e w' => e = .returned (.tuple #[.slice none 0 0, .int .i64 8]) ∧ Bl W w' := fun W => (kds W).mono fun e w' h => ⟨h.1.1 hd, h.2⟩
        clear kds hd
        go_wp2_with first | (go_at_call 12; refine (kd2 _).mono ?_; rintro e v1 ⟨rfl, hb⟩; replace HB := HB.trans hb; clear hb) | (go_at_call 9; refine (hal _).mono ?_; rintro e vz ⟨rfl, hb⟩; replace HB := HB.trans hb; clear hb)
        go_returns
        exact ⟨rfl, HB⟩
      | some l =>
        have kd2 : ∀ W, Calls Try.prog 12 #[.string a2] W fun e w' => ∃ (p : Option Addr) (L : List Ty) (c : Nat), e = .returned (.tuple #[.slice p L.length c, .int .i64 0]) ∧ Tys w' p L ∧ L.map Ty.core = l ∧ Bl W w' := fun W => (kds W).mono fun e w' h => by
          obtain ⟨p, L, c, h1, h2, _, _, h3⟩ := h.1.2 l hd
          exact ⟨p, L, c, h1, h2, h3, h.2⟩
        clear kds
        go_upto_region 14 with (go_at_call 12; refine (kd2 _).mono ?_; rintro e v1 ⟨pZ, LZ, cZ, rfl, hLZ, hcZ, hb⟩; replace HB := HB.trans hb; clear hb)
        obtain ⟨hXa, hXe⟩ := dec_back (L := LZ) (b := a2.data.toList) (by rw [hd, hcZ])
        have keX := encode_any pZ cZ LZ v1 hLZ
        rw [hXa, hXe, ba_eta] at keX
        simp only [if_true] at keX
        have hself : (a2.toList == a2.toList) = true := by simp
        clear hd hXa hXe hcZ kd2
        go_wp2_with first | (go_at_call 10; refine keX.mono ?_; rintro e v3 ⟨rfl, hb⟩; replace HB := HB.trans hb; clear hb) | (go_at_call 9; refine (hal _).mono ?_; rintro e vz ⟨rfl, hb⟩; replace HB := HB.trans hb; clear hb)
        go_returns
        exact ⟨rfl, HB⟩

theorem readable : ∀ t ∈ Try.f5.params.toList, Try.prog.readableRec t = true ∧ t < Try.prog.types.size := by
  rw [Try.params5]
  intro t ht
  simp at ht
  rcases ht with rfl | rfl | rfl
  all_goals exact ⟨by kernel_rfl, of_decide_eq_true (by kernel_rfl)⟩
set_option maxRecDepth 100000 in
theorem lifted (os : Os) (started : os.Started) (H : Type) (enc : TypeId × Value → H) :
    ReturnsInHanded {} Try.checked os 5 .any (Rows.typesBackSpec.pre6 enc Try.prog Try.f5 Rows.typesBackRow.domain false) (Rows.typesBackSpec.post enc Try.prog Try.f5 false true false false) := by
  refine returnsInHanded_of_change (C := Try.checked) own started (by kernel_rfl) Try.func5
    (ChangeSpec.witness6 (enc := enc) (C := Try.checked) false ⟨#[], #[.slice none 0 0, .slice none 0 0, .string ByteArray.empty], []⟩ 8 (by kernel_rfl) (by kernel_rfl) (by kernel_rfl) (by kernel_rfl)) ?_
  intro W base args ds gs before hval0 hW hcnd _
  have hval : ∀ (j : Nat) t v, Try.f5.params[j]? = some t → args[j]? = some v → Value.okWide Try.prog W .any base t v := hval0
  have hW' := hW
  obtain ⟨p, q, hA0, hV, rfl, hfz, hnd⟩ := hW
  have hA : DataW.TrodAll enc Try.prog W 0 (fun _ => true) true Try.f5.params.toList args.toList ds p := hA0
  rw [Try.params5] at hA hval
  obtain ⟨v0, vs0, d0, ds0, p0, q0, hargs, rfl, rfl, h0, r0⟩ := trodAll_cons hA
  obtain ⟨v1, vs1, d1, ds1, p1, q1, rfl, rfl, rfl, h1, r1⟩ := trodAll_cons r0
  obtain ⟨v2, vs2, d2, ds2, p2, q2, rfl, rfl, rfl, h2, r2⟩ := trodAll_cons r1
  obtain ⟨rfl, rfl, rfl⟩ := trodAll_nil r2
  obtain rfl : args = #[v0, v1, v2] := by cases args; simp_all
  obtain ⟨rfl, rfl⟩ := trodVars_none hV
  obtain ⟨p0, L0, c0, rfl, hca0, hcb0, hL0⟩ := open_tys (hval 0 22 v0 rfl rfl) h0
  obtain ⟨p1, L1, c1, rfl, hca1, hcb1, hL1⟩ := open_tys (hval 1 22 v1 rfl rfl) h1
  obtain ⟨a2, rfl, rfl, rfl, w2⟩ := open_string Try.underlying9 (hval 2 9 v2 rfl rfl) h2
  clear hA0 hval0
  refine (walk p0 L0 c0 p1 L1 c1 a2 W ⟨hca0, hcb0⟩ hL0 ⟨hca1, hcb1⟩ hL1 w2).mono fun e W' ⟨he, hg⟩ => ?_
  subst he
  exact ⟨_, rfl, post_bel readable hW' rfl (fun _ _ _ => (trodAll_cons_mk (shut_bool Try.underlying4 _) trodAll_mk0)) rfl (fun _ => rfl)
    hg (ok_one (by kernel_rfl) rfl (okWide_bool_mk Try.underlying4 _))⟩

theorem over : Rows.typesBackRow.holds Try.pinned (OpenSpec.ofChange Rows.typesBackSpec) :=
  OpenClaim.holds_of_wide 5 Try.f5 rfl rfl rfl rfl rfl rfl rfl ⟨rfl, rfl, rfl, rfl, rfl⟩ rfl rfl rfl rfl rfl (by kernel_rfl) Try.func5 (by kernel_rfl)
    (of_decide_eq_true (by kernel_rfl)) (by unfold Func.isWrapper; first | (rw [if_pos (by decide +kernel)]; kernel_rfl) | (rw [if_neg (by decide +kernel)]; exact ⟨rfl, rfl⟩))
    (fun os started H enc _ => lifted os started H enc)

theorem proved : Rows.TypesBackSaid :=
  over
end Go.Proofs.Ytmcjmdoeafhjpaa.typesBack
namespace Go.Proofs.Ytmcjmdoeafhjpaa
theorem typesBack_holds : Rows.TypesBackSaid :=
  typesBack.proved
#print axioms typesBack_holds
end Go.Proofs.Ytmcjmdoeafhjpaa
