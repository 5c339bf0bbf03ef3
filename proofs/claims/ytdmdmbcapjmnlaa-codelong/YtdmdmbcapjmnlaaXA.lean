/- Towards CodeBack: what was written is read, what was read is written as it was; two programs, are they the same. -/
import Derived.Test.YtdmdmbcapjmnlaaSL
namespace Go.Proofs.Ytdmdmbcapjmnlaa
open Go.ChangeShapes Go.WideShapes Go.ChangeAt
open Go.RowKit Go.Shelf
open Go.PlainAid (bt get_bt bt_nonneg bt_le bt_end)
set_option linter.unusedVariables false
set_option linter.unusedSimpArgs false
set_option maxRecDepth 20000
/-- Eight bytes, as numbers. -/
theorem encB_list (o d s f i : Int) : encB o d s f i = strOfNums [o % 256, (d % 16 + 16 * (s % 16)) % 256, f % 18446744073709551616 % 256, f % 18446744073709551616 / 256 % 256, i % 18446744073709551616 % 256, i % 18446744073709551616 / 256 % 256, i % 18446744073709551616 / 65536 % 256, i % 18446744073709551616 / 16777216 % 256] := by
  have e1 : ∀ x, ofB x 1 = strOfNums [x % 256] := fun x => by rw [ofB, if_pos (by decide)]; rfl
  have e2 : ∀ x, ofB x 2 = strOfNums [x % 256, x / 256 % 256] := fun x => by rw [ofB, if_pos (by decide)]; rfl
  have e4 : ∀ x, ofB x 4 = strOfNums [x % 256, x / 256 % 256, x / 65536 % 256, x / 16777216 % 256] := fun x => by rw [ofB, if_pos (by decide)]; exact congrArg strOfNums (digs4 x)
  rw [encB, e1, e1, e2, e4, str_app, str_app, str_app]; rfl
theorem size_enc (o d s f i : Int) : (encB o d s f i).size = 8 := by rw [encB_list, strOfNums_size]; rfl
theorem num_2 (s : ByteArray) : numAt s 2 2 = bt s 2 + 256 * bt s 3 := by simp [numAt]
theorem num_4 (s : ByteArray) : numAt s 4 4 = bt s 4 + 256 * (bt s 5 + 256 * (bt s 6 + 256 * bt s 7)) := by simp [numAt]
/-- What was written is read. -/
theorem sl_dec_enc (o d s f i : Int) (h0 : 0 ≤ o) (h1 : o ≤ 255) (d0 : 0 ≤ d) (d1 : d ≤ 15) (s0 : 0 ≤ s) (s1 : s ≤ 15) (f0 : -32768 ≤ f) (f1 : f ≤ 32767) (i0 : -2147483648 ≤ i) (i1 : i ≤ 2147483647) :
    bt (encB o d s f i) 0 = o ∧ bt (encB o d s f i) 1 % 16 = d ∧ bt (encB o d s f i) 1 / 16 = s ∧ offV (encB o d s f i) = f ∧ immV (encB o d s f i) = i := by
  have k : ∀ n (hn : n < 8), bt (encB o d s f i) n = [o % 256, (d % 16 + 16 * (s % 16)) % 256, f % 18446744073709551616 % 256, f % 18446744073709551616 / 256 % 256, i % 18446744073709551616 % 256, i % 18446744073709551616 / 256 % 256, i % 18446744073709551616 / 65536 % 256, i % 18446744073709551616 / 16777216 % 256][n] := by
    intro n hn
    rw [encB_list]
    refine bt_str [o % 256, (d % 16 + 16 * (s % 16)) % 256, f % 18446744073709551616 % 256, f % 18446744073709551616 / 256 % 256, i % 18446744073709551616 % 256, i % 18446744073709551616 / 256 % 256, i % 18446744073709551616 / 65536 % 256, i % 18446744073709551616 / 16777216 % 256] n hn ?_
    rcases (show n = 0 ∨ n = 1 ∨ n = 2 ∨ n = 3 ∨ n = 4 ∨ n = 5 ∨ n = 6 ∨ n = 7 by omega) with rfl | rfl | rfl | rfl | rfl | rfl | rfl | rfl
    all_goals (simp only [List.getElem_cons_zero, List.getElem_cons_succ]; omega)
  have k0 := k 0 (by omega); have k1 := k 1 (by omega); have k2 := k 2 (by omega); have k3 := k 3 (by omega)
  have k4 := k 4 (by omega); have k5 := k 5 (by omega); have k6 := k 6 (by omega); have k7 := k 7 (by omega)
  simp only [List.getElem_cons_zero, List.getElem_cons_succ] at k0 k1 k2 k3 k4 k5 k6 k7
  refine ⟨by omega, by omega, by omega, ?_, ?_⟩
  · rw [offV, signV2, num_2, k2, k3]; omega
  · rw [immV, signV4, num_4, k4, k5, k6, k7]; omega
/-- What was read is written as it was. -/
theorem sl_enc_dec (t : ByteArray) (h : t.size = 8) : encB (bt t 0) (bt t 1 % 16) (bt t 1 / 16) (offV t) (immV t) = t := by
  have b : ∀ k, 0 ≤ bt t k ∧ bt t k ≤ 255 := fun k => ⟨bt_nonneg t k, bt_le t k⟩
  have b0 := b 0; have b1 := b 1; have b2 := b 2; have b3 := b 3; have b4 := b 4; have b5 := b 5; have b6 := b 6; have b7 := b 7
  have e : encB (bt t 0) (bt t 1 % 16) (bt t 1 / 16) (offV t) (immV t) = strOfNums [bt t 0, bt t 1, bt t 2, bt t 3, bt t 4, bt t 5, bt t 6, bt t 7] := by
    rw [encB_list]
    congr 1
    rw [offV, signV2, num_2, immV, signV4, num_4]
    simp only [List.cons.injEq, and_true]
    refine ⟨?_, ?_, ?_, ?_, ?_, ?_, ?_, ?_⟩ <;> omega
  rw [e]
  apply ba_ext
  apply List.ext_getElem
  · rw [← Lib.size_eq, ← Lib.size_eq, strOfNums_size, h]; rfl
  · intro n h1 h2
    have hn : n < 8 := by rw [← Lib.size_eq, h] at h2; exact h2
    have q := bt_str [bt t 0, bt t 1, bt t 2, bt t 3, bt t 4, bt t 5, bt t 6, bt t 7] n hn (by
      rcases (show n = 0 ∨ n = 1 ∨ n = 2 ∨ n = 3 ∨ n = 4 ∨ n = 5 ∨ n = 6 ∨ n = 7 by omega) with rfl | rfl | rfl | rfl | rfl | rfl | rfl | rfl
      all_goals (simp only [List.getElem_cons_zero, List.getElem_cons_succ]; assumption))
    have q2 : ([bt t 0, bt t 1, bt t 2, bt t 3, bt t 4, bt t 5, bt t 6, bt t 7] : List Int)[n] = bt t n := by
      rcases (show n = 0 ∨ n = 1 ∨ n = 2 ∨ n = 3 ∨ n = 4 ∨ n = 5 ∨ n = 6 ∨ n = 7 by omega) with rfl | rfl | rfl | rfl | rfl | rfl | rfl | rfl
      all_goals rfl
    rw [q2, ← bt_list _ n h1, ← bt_list t n h2] at q
    exact UInt8.toNat_inj.1 (by omega)
set_option maxHeartbeats 2000000 in
theorem same_any (u v : Value) (L : List Sl) (w : World) (hu : Slots AnyB w u L) (hv : Slots AnyB w v L) : Calls Try.prog 8 #[u, v] w fun e w' => e = .returned (.bool true) ∧ Below w.heap.size w w' := by
  have hlen := hu.len
  obtain ⟨p, c, rfl⟩ := hu.shape
  obtain ⟨p2, c2, rfl⟩ := hv.shape
  go_enter Try.func8, Try.ntmps8
  go_wp2
  go_loopw [5] (fun i wr => ∃ k : Nat, i = .int .i64 k ∧ k ≤ L.length ∧ Below w.heap.size w wr) (fun i _ => L.length - (intOf i).toNat)
  case atStart => exact ⟨0, rfl, by omega, Below.refl _ _⟩
  case round =>
    obtain ⟨k, rfl, hk, hb⟩ := hrel
    by_cases hlt : k < L.length
    · obtain ⟨x, hx⟩ : ∃ x, L[k]? = some x := ⟨L[k], by simp [hlt]⟩
      obtain ⟨b, off, cap, he, hb0, ⟨c0, c1, c2, c3, c4⟩, _, hlt2⟩ := (hu.gr hb).here.get (at_ := (k : Int)) (by omega) (by simpa using hx)
      cases he
      obtain ⟨b', off', cap', he, hb0', ⟨g0, g1, g2, g3, g4⟩, _, hlt2'⟩ := (hv.gr hb).here.get (at_ := (k : Int)) (by omega) (by simpa using hx)
      cases he
      simp only [Int.toNat_natCast] at c0 c1 c2 c3 c4 g0 g1 g2 g3 g4
      have hd7 : decide ((k : Int) < L.length) = true := by simp; omega
      have hd8 : decide ((0 : Int) ≤ (k : Int) ∧ (k : Int) < (L.length : Int)) = true := by simp; omega
      have e1 : IntKind.i64.wrap ((k : Int) + 1) = (k : Int) + 1 := IntWalk.i64_in _ (by omega)
      clear hx
      go_upto_region 6 with fail
      go_quiet (fail)
      go_wp2
      exact ⟨⟨k + 1, by simp, by omega, ⟨hb.os, hb.tape, hb.output, hb.size, hb.block⟩⟩, by simp [intOf]; omega⟩
    · have hd7 : decide ((k : Int) < L.length) = false := by simp; omega
      go_wp2
      go_returns
      exact ⟨rfl, hb⟩
theorem slots_row {w : World} {base : Nat} {v : Value} {L : List Sl} (hl : L.length ≤ 4096) (hok : ∀ x ∈ L, x.ok) (h : w.ownsRow base 26 5 v L.length (L.flatMap Sl.cells)) : Slots AnyB w v L := by
  refine ⟨hok, hl, ?_⟩
  rcases h.2 with ⟨rfl, h0⟩ | ⟨g, cap, cur, rfl, hb, hg, hn, _, hs, ht⟩
  · exact .inl ⟨⟨none, 0, rfl⟩, List.eq_nil_of_length_eq_zero h0⟩
  · refine .inr ⟨g, 0, cap, rfl, trivial, (Array.getElem?_eq_some_iff.1 hg).1, fun j x hx => ?_⟩
    have hj := (List.getElem?_eq_some_iff.1 hx).1
    have key : ∀ (m : Nat) (u : Value), (L.flatMap Sl.cells)[m]? = some u → w.cell? ⟨g, 0 + m, none⟩ = some u := fun m u hu => by
      rw [Nat.zero_add]
      refine cellOf hg ?_
      rw [← ht, List.getElem?_take] at hu
      split at hu
      · simpa using hu
      · cases hu
    obtain ⟨f0, f1, f2, f3, f4⟩ := fl5_get L j x hx
    have q0 := key _ _ f0
    have q1 := key _ _ f1
    have q2 := key _ _ f2
    have q3 := key _ _ f3
    have q4 := key _ _ f4
    exact ⟨q0, q1, q2, q3, q4⟩
theorem decL_snoc (s : ByteArray) (k : Nat) : decL s (k + 1) = decL s k ++ [decSl (s.extract (k * 8) ((k + 1) * 8))] := by
  simp [decL, List.range_succ]
theorem decL_len (s : ByteArray) (k : Nat) : (decL s k).length = k := by simp [decL]
theorem decSl_ok (t : ByteArray) : (decSl t).ok := by
  have h0 := bt_bd t 0
  have h1 := bt_bd t 1
  refine ⟨h0, ⟨?_, ?_⟩, ⟨?_, ?_⟩, offV_in t, immV_in t⟩ <;> simp only [decSl] <;> omega
theorem decL_ok (s : ByteArray) (n : Nat) : ∀ x ∈ decL s n, x.ok := by
  intro x hx
  obtain ⟨k, _, rfl⟩ := List.mem_map.1 hx
  exact decSl_ok _
theorem flat5_len (L : List Sl) : (L.flatMap Sl.cells).length = L.length * 5 := by
  induction L with
  | nil => rfl
  | cons x L ih => rw [List.flatMap_cons, List.length_append, ih]; simp [Sl.cells]; omega

def Sl.low (x : Sl) : Prop := x.d ≤ 15 ∧ x.s ≤ 15
theorem dec_bytes {x : Sl} (hx : x.ok) (hl : x.low) {t : ByteArray} (ht : t.data.toList = x.bytes) : decSl t = x := by
  obtain ⟨⟨a0, a1⟩, ⟨b0, b1⟩, ⟨c0, c1⟩, ⟨d0, d1⟩, ⟨e0, e1⟩⟩ := hx
  have e : t = encB x.o x.d x.s x.f x.i := ba_ext ht
  subst e
  obtain ⟨h1, h2, h3, h4, h5⟩ := sl_dec_enc x.o x.d x.s x.f x.i a0 a1 b0 hl.1 c0 hl.2 d0 d1 e0 e1
  unfold decSl
  rw [h1, h2, h3, h4, h5]
theorem encL_app (L M : List Sl) : encL (L ++ M) = encL L ++ encL M := by simp [encL, List.flatMap_append]
theorem encL_cut : ∀ (L : List Sl), (∀ x ∈ L, x.ok) → ∀ (k : Nat) (x : Sl), L[k]? = some x → ((encL L).drop (k * 8)).take 8 = x.bytes
  | [], _, k, x, h => by simp at h
  | y :: L, hok, 0, x, h => by
    simp at h; subst h
    have hb := bytes_len y (hok y (by simp))
    have e : encL (y :: L) = y.bytes ++ encL L := by simp [encL]
    rw [e, Nat.zero_mul, List.drop_zero, ← hb, List.take_left]
  | y :: L, hok, k + 1, x, h => by
    have hb := bytes_len y (hok y (by simp))
    have e : encL (y :: L) = y.bytes ++ encL L := by simp [encL]
    have ih := encL_cut L (fun z hz => hok z (by simp [hz])) k x (by simpa using h)
    rw [e, show (k + 1) * 8 = y.bytes.length + k * 8 by rw [hb]; omega, ← List.drop_drop, List.drop_left]
    exact ih
theorem ext_take (s : ByteArray) (a b : Nat) : (s.extract a b).data.toList = (s.data.toList.drop a).take (b - a) := by
  rw [Lib.extract_data]
theorem dec_enc_L (L : List Sl) (hok : ∀ x ∈ L, x.ok) (hlow : ∀ x ∈ L, x.low) : decL ⟨(encL L).toArray⟩ L.length = L := by
  apply List.ext_getElem?
  intro k
  rcases Nat.lt_or_ge k L.length with h2 | h2
  · have hx : L[k]? = some L[k] := List.getElem?_eq_getElem h2
    rw [hx]
    unfold decL
    rw [List.getElem?_map, List.getElem?_range h2]
    show some _ = _
    congr 1
    refine dec_bytes (hok _ (List.getElem_mem h2)) (hlow _ (List.getElem_mem h2)) ?_
    rw [ext_take, show (k + 1) * 8 - k * 8 = 8 by omega]
    exact encL_cut L hok k _ hx
  · rw [List.getElem?_eq_none h2, List.getElem?_eq_none (by rw [decL_len]; exact h2)]
theorem enc_dec_L (s : ByteArray) (n : Nat) (h : s.size = 8 * n) : encL (decL s n) = s.data.toList := by
  have key : ∀ k, k ≤ n → encL (decL s k) = s.data.toList.take (k * 8) := by
    intro k
    induction k with
    | zero => intro _; simp [decL, encL]
    | succ k ih =>
      intro hk
      have hl : s.data.toList.length = 8 * n := by rw [← h]; exact (Lib.size_eq s).symm
      have hd := ext_take s (k * 8) ((k + 1) * 8)
      have hsz : (s.extract (k * 8) ((k + 1) * 8)).size = 8 := by
        rw [Lib.size_eq, hd, List.length_take, List.length_drop, hl]; omega
      rw [decL_snoc, encL_app, ih (by omega)]
      have e : encL [decSl (s.extract (k * 8) ((k + 1) * 8))] = (s.extract (k * 8) ((k + 1) * 8)).data.toList := by
        show List.flatMap Sl.bytes [_] = _
        rw [List.flatMap_singleton]
        show (encB _ _ _ _ _).data.toList = _
        exact congrArg (fun b : ByteArray => b.data.toList) (sl_enc_dec _ hsz)
      rw [e, hd, show (k + 1) * 8 - k * 8 = 8 by omega, show (k + 1) * 8 = k * 8 + 8 by omega, List.take_add]
  rw [key n (Nat.le_refl _), List.take_of_length_le]
  rw [← Lib.size_eq]; omega
theorem bytes_app (a b : List UInt8) : (⟨(a ++ b).toArray⟩ : ByteArray) = ⟨a.toArray⟩ ++ ⟨b.toArray⟩ := by
  apply ba_ext
  simp [ByteArray.data_append]
theorem ba_back (n : ByteArray) : (⟨n.data.toList.toArray⟩ : ByteArray) = n := rfl
theorem encL_size {L : List Sl} (h : ∀ x ∈ L, x.ok) : (⟨(encL L).toArray⟩ : ByteArray).size = 8 * L.length := by
  show (encL L).toArray.size = _
  rw [List.size_toArray, encL_len h]
/-- What Decode tells of a text that is not too long. -/
theorem decode_told (s : ByteArray) (n : Nat) (hn : s.size = 8 * n) (h : n ≤ 1024) (W : World) : Calls Try.prog 6 #[.string s] W fun r w' => ∃ v, r = .returned (.tuple #[v, .int .i64 0]) ∧ Slots AnyB w' v (decL s n) ∧ Below W.heap.size W w' := by
  have hl := decL_len s n
  refine (cdecode_ok s n hn (by omega) W).mono ?_
  rintro r w' ⟨rfl, hc, hb⟩
  refine ⟨_, rfl, ?_, hb⟩
  refine slots_row (base := 0) (by omega) (decL_ok s n) ⟨by rw [flat5_len], .inr ⟨W.heap.size, n, _, by rw [hl], Nat.zero_le _, hc, by omega, by simp [maxLen]; omega, by rw [List.size_toArray, flat5_len, hl], ?_⟩⟩
  rw [hl, List.take_of_length_le (by rw [List.toList_toArray, flat5_len, hl]; exact Nat.le_refl _)]
end Go.Proofs.Ytdmdmbcapjmnlaa
