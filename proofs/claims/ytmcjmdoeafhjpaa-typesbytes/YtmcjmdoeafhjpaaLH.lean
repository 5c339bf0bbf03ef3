/- Towards the statements of package types (layer 10): TypesLong's loops. -/
import Derived.Test.YtmcjmdoeafhjpaaLG
namespace Go.Proofs.Ytmcjmdoeafhjpaa
open Go.ChangeShapes Go.WideShapes Go.ChangeAt
open Go.RowKit Go.Shelf
set_option linter.unusedVariables false
set_option linter.unusedSimpArgs false
set_option maxRecDepth 20000

theorem lnL_succ (i : Nat) : lnL (i + 1) = lnL i ++ [tyN i] := by
  simp [lnL, List.range_succ]
theorem lnL_len (i : Nat) : (lnL i).length = i := by simp [lnL]
theorem news_new (W : World) (cs : List Value) (t : TypeId) (g : Nat) (hg : g = W.heap.size) : ∀ j u, cs[j]? = some u → (W.alloc (.cells cs.toArray t)).cell? ((⟨g, 0, none⟩ : Addr).add j) = some u := by
  intro j u h
  subst hg
  rw [add_of rfl, Nat.zero_add]
  exact cell_new _ _ _ _ _ (by simpa using h)
def fN (k : Nat) : Fd := ⟨⟨#[102]⟩ ++ strOfNums [97 + (k : Int)], 3, 16 * ((k : Int) % 8), 0, 0⟩
def flL (k : Nat) : List Fd := (List.range k).map fN
theorem flL_succ (i : Nat) : flL (i + 1) = flL i ++ [fN i] := by simp [flL, List.range_succ]
theorem flL_len (i : Nat) : (flL i).length = i := by simp [flL]
theorem fN_ok (k : Nat) : (fN k).ok := by
  refine ⟨?_, ⟨by show (0 : Int) ≤ 3; decide, by show (3 : Int) ≤ 255; decide⟩, ⟨?_, ?_⟩, ⟨by show (-9223372036854775808 : Int) ≤ 0; decide, by show (0 : Int) ≤ 9223372036854775807; decide⟩, ⟨by show (-9223372036854775808 : Int) ≤ 0; decide, by show (0 : Int) ≤ 9223372036854775807; decide⟩⟩
  · show (⟨#[102]⟩ ++ strOfNums [97 + (k : Int)] : ByteArray).size ≤ maxLen
    rw [ByteArray.size_append, strOfNums_size]
    show 1 + 1 ≤ maxLen
    unfold maxLen; omega
  · show (-9223372036854775808 : Int) ≤ 16 * ((k : Int) % 8)
    omega
  · show 16 * ((k : Int) % 8) ≤ (9223372036854775807 : Int)
    omega
theorem own_shape {w : World} {base : Nat} {e : TypeId} {s : Nat} {v : Value} {n : Nat} {xs : List Value} (h : w.ownsRow base e s v (n + 1) xs) : ∃ g cap, v = .slice (some ⟨g, 0, none⟩) (n + 1) cap ∧ base ≤ g := by
  rcases h.2 with ⟨_, h0⟩ | ⟨g, cap, cur, e1, hb, _⟩
  · omega
  · exact ⟨g, cap, e1, hb⟩
theorem own_set {w : World} {base : Nat} {e : TypeId} {s : Nat} {v : Value} {n : Nat} {xs : List Value} (h : w.ownsRow base e s v n xs) {X j : Nat} (u : Value) (hX : X < base) : (w.setCell ⟨X, j, none⟩ u).ownsRow base e s v n xs := by
  refine ⟨h.1, ?_⟩
  rcases h.2 with h0 | ⟨g, cap, cur, e1, hb, hg, h3⟩
  · exact .inl h0
  · exact .inr ⟨g, cap, cur, e1, hb, (setc_other u (by omega)).trans hg, h3⟩
theorem tys1 {W : World} {g : Nat} {t : Ty} (h : W.heap[g]? = some (.cells #[.string t.n, .int .i64 t.s, .slice t.p t.fs.length t.c] 42 (0, 0))) (ht : t.ok W) : Tys W (some ⟨g, 0, none⟩) [t] := by
  refine ⟨by simpa using ht, by simp [maxLen], .inr ⟨_, _, rfl, ch_lt h, fun j z hz => ?_⟩⟩
  match j, hz with
  | 0, hz =>
    simp at hz
    subst hz
    refine ⟨?_, ?_, ?_⟩ <;> rw [cell_at h] <;> rfl
theorem chk_f5 (p : Option Addr) (c : Nat) : chkM [⟨⟨#[116]⟩, 128, p, c, flL 5⟩] = (0, 0, 0) := by kernel_rfl
theorem chk_f6 (p : Option Addr) (c : Nat) : chkM [⟨⟨#[116]⟩, 128, p, c, flL 6⟩] = (0, 0, 0) := by kernel_rfl
theorem chk_f7 (p : Option Addr) (c : Nat) : chkM [⟨⟨#[116]⟩, 128, p, c, flL 7⟩] = (0, 0, 0) := by kernel_rfl
theorem chk_f8 (p : Option Addr) (c : Nat) : chkM [⟨⟨#[116]⟩, 128, p, c, flL 8⟩] = (0, 0, 0) := by kernel_rfl
theorem chk_f9 (p : Option Addr) (c : Nat) : chkM [⟨⟨#[116]⟩, 128, p, c, flL 9⟩] = (0, 8, 4) := by kernel_rfl
theorem chk_f10 (p : Option Addr) (c : Nat) : chkM [⟨⟨#[116]⟩, 128, p, c, flL 10⟩] = (0, 8, 4) := by kernel_rfl
theorem chk_f11 (p : Option Addr) (c : Nat) : chkM [⟨⟨#[116]⟩, 128, p, c, flL 11⟩] = (0, 8, 4) := by kernel_rfl
theorem chk_flds (p : Option Addr) (c K : Nat) (h5 : 5 ≤ K) (h11 : K ≤ 11) : chkM [⟨⟨#[116]⟩, 128, p, c, flL K⟩] = if K ≤ 8 then (0, 0, 0) else (0, 8, 4) := by
  have : K = 5 ∨ K = 6 ∨ K = 7 ∨ K = 8 ∨ K = 9 ∨ K = 10 ∨ K = 11 := by omega
  rcases this with rfl | rfl | rfl | rfl | rfl | rfl | rfl
  · rw [chk_f5]; rfl
  · rw [chk_f6]; rfl
  · rw [chk_f7]; rfl
  · rw [chk_f8]; rfl
  · rw [chk_f9]; rfl
  · rw [chk_f10]; rfl
  · rw [chk_f11]; rfl
theorem chk_size (m : Int) (h : m = -1 ∨ m = 0 ∨ m = 1) : chkM [⟨⟨#[116]⟩, 128 + 8 * m, none, 0, []⟩] = if m ≤ 0 then (0, 0, 0) else (0, 0, 101) := by
  rcases h with rfl | rfl | rfl <;> kernel_rfl
theorem fit_long (n : Nat) : Fit (lnL n) := fun t ht => by
  obtain ⟨i, _, rfl⟩ := List.mem_map.1 ht
  exact ⟨by show (nm2 i).size ≤ _; rw [nm2_size]; decide, by intro x hx; cases hx⟩
theorem fit_flds (p : Option Addr) (c K : Nat) : Fit [⟨⟨#[116]⟩, 128, p, c, flL K⟩] := fun t ht => by
  rw [List.mem_singleton.1 ht]
  refine ⟨by show 1 ≤ 1048576; decide, fun x hx => ?_⟩
  obtain ⟨i, _, rfl⟩ := List.mem_map.1 hx
  show (⟨#[102]⟩ ++ strOfNums [97 + (i : Int)] : ByteArray).size ≤ _
  rw [ByteArray.size_append, strOfNums_size]
  show 1 + 1 ≤ 1048576
  decide
theorem fit_size (m : Int) : Fit [⟨⟨#[116]⟩, 128 + 8 * m, none, 0, []⟩] := fun t ht => by
  rw [List.mem_singleton.1 ht]
  exact ⟨by show 1 ≤ 1048576; decide, by intro x hx; cases hx⟩
set_option maxHeartbeats 8000000 in
theorem long_any (N K : Nat) (m a0 : Int) (h0 : -128 ≤ a0 ∧ a0 ≤ 127) (hN : 32 + a0.tmod 16 = (N : Int)) (hN2 : N < 48) (hK : 8 + a0.tmod 4 = (K : Int)) (hK5 : 5 ≤ K ∧ K ≤ 11) (hm : a0.tmod 2 = m) (hm3 : m = -1 ∨ m = 0 ∨ m = 1) (w : World) : Calls Try.prog 7 #[.int .i8 a0] w fun e w' => e = .returned (.bool true) ∧ Bl w w' := by
  obtain ⟨i42, hi, hz0, hz1, hz2⟩ := info_parts info42
  go_enter Try.func7, Try.ntmps7
  go_wp2
  have hcv : ∀ (W : World) (b1 b2 : Int), (convert 53 9 (.slice (some ⟨W.heap.size, 0, none⟩) 2 2)).run Try.prog (W.alloc (.cells #[.int .u8 b1, .int .u8 b2] 5)) = .ok (.string (strOfNums [b1, b2])) (W.alloc (.cells #[.int .u8 b1, .int .u8 b2] 5)) := fun W b1 b2 => conv_new W _ 5 _ 2 2 [b1, b2] rfl rfl (by intro i hi; match i, hi with | 0, _ => rfl | 1, _ => rfl)
  go_loopw [4, 5] (fun v n wr => ∃ i : Nat, n = .int .i64 i ∧ i ≤ N ∧ wr.ownsRow w.heap.size 42 3 v i ((lnL i).flatMap tcs) ∧ Bl w wr) (fun _ n _ => N - (intOf n).toNat)
  case atStart => exact ⟨0, rfl, by omega, World.ownsRow_nil _ _ _ _, Bl.refl _⟩
  case round =>
    obtain ⟨i, rfl, hin, hrow, hb⟩ := hrel
    by_cases h : i < N
    · have d : decide ((i : Int) < N) = true := by simp; omega
      have e9 : IntKind.i64.wrap ((i : Int) + 1) = (i : Int) + 1 := IntWalk.i64_in _ (by omega)
      have e1 : IntKind.i64.wrap (97 + (i : Int) / 26) = 97 + (i : Int) / 26 := IntWalk.i64_in _ (by omega)
      have e2 : IntKind.i64.wrap (97 + (i : Int) % 26) = 97 + (i : Int) % 26 := IntWalk.i64_in _ (by omega)
      have u1 : IntKind.u8.wrap (97 + (i : Int) / 26) = 97 + (i : Int) / 26 := by simp [IntKind.wrap, IntKind.signed, IntKind.bits]; omega
      have u2 : IntKind.u8.wrap (97 + (i : Int) % 26) = 97 + (i : Int) % 26 := by simp [IntKind.wrap, IntKind.signed, IntKind.bits]; omega
      have hcv2 : ∀ (W : World), (convert 53 9 (.slice (some ⟨W.heap.size, 0, none⟩) 2 2)).run Try.prog (W.alloc (.cells #[.int .u8 (97 + (i : Int) / 26), .int .u8 (97 + (i : Int) % 26)] 5)) = .ok (.string (strOfNums [97 + (i : Int) / 26, 97 + (i : Int) % 26])) (W.alloc (.cells #[.int .u8 (97 + (i : Int) / 26), .int .u8 (97 + (i : Int) % 26)] 5)) := fun W => hcv W _ _
      clear hcv
      have hsz : ¬ 9223372036854775807 < (strOfNums [97 + (i : Int) / 26, 97 + (i : Int) % 26]).size + 1 := by rw [strOfNums_size]; simp
      have hname : Hid (nm2 i = ⟨#[116]⟩ ++ strOfNums [97 + (i : Int) / 26, 97 + (i : Int) % 26]) := by
        show _ = _
        rw [nm2]; simp
      generalize strOfNums [97 + (i : Int) / 26, 97 + (i : Int) % 26] = S at hsz hname hcv2
      generalize hNm : (⟨#[116]⟩ ++ S : ByteArray) = Nm at hname
      replace hNm : Hid ((⟨#[116]⟩ ++ S : ByteArray) = Nm) := hNm
      go_wp2_with (refine wpList_append_own _ rfl _ _ 22 rfl w.heap.size 42 i42 (.agg #[.string ⟨#[]⟩, .int .i64 0, .slice none 0 0]) 3 48 Try.underlying22 hi hz0 hz1 hz2 rfl (by decide) _ _ _ rfl ((hrow.alloc _).alloc _) _ 1 1 [.string (⟨#[116]⟩ ++ S), .int .i64 8, .slice none 0 0] rfl rfl (news_new _ _ _ _ (by simp)) (by simp [Value.oneCell']) (by simp [maxLen]; omega) (by omega) (by have := hb.size; simp; omega) ?_; intro v' wa hown' hgrow hnil; skip)
      have hba : Bl w wa := ((hb.alloc (.cells #[.int .u8 (97 + (i : Int) / 26), .int .u8 (97 + (i : Int) % 26)] 5)).alloc (.cells #[.string (⟨#[116]⟩ ++ S), .int .i64 8, .slice none 0 0] 42)).grown hgrow (by have := hb.size; simp; omega) (fun k hk => (hrow.lt k hk).1)
      refine ⟨⟨i + 1, by simp, by omega, ?_, hba⟩, by simp [intOf]; omega⟩
      rw [lnL_succ, List.flatMap_append, List.flatMap_singleton]
      have e : tcs (tyN i) = [.string (⟨#[116]⟩ ++ S), .int .i64 8, .slice none 0 0] := by
        show [Value.string (nm2 i), .int .i64 8, .slice none 0 0] = _
        rw [hname.out, hNm.out]
      rw [e]
      simpa using hown'
    · have d : decide ((i : Int) < N) = false := by simp; omega
      obtain rfl : i = N := by omega
      obtain ⟨pL, cL, hv, hcl, hcm, hTy⟩ := tys_own (L := lnL i) (by rw [lnL_len]; exact hrow) (fun t ht => by obtain ⟨j, _, rfl⟩ := List.mem_map.1 ht; exact tyN_ok j _)
      subst hv
      have kc := check_any pL cL (lnL i) ⟨hcl, hcm⟩ wr hTy (fit_long i)
      rw [chk_long i hN2] at kc
      unfold chkV at kc
      clear hrow hcv hcl hcm hTy
      generalize hr1 : (if i ≤ 32 then ((0 : Int), (0 : Int), (0 : Int)) else (32, 0, 4)) = r1 at kc
      replace hr1 : Hid ((if i ≤ 32 then ((0 : Int), (0 : Int), (0 : Int)) else (32, 0, 4)) = r1) := hr1
      go_upto_region 10 with (go_at_call 16; refine kc.mono ?_; rintro e w2 ⟨rfl, hb2⟩)
      have hX0 := heap_new w2 #[.string ⟨#[116]⟩, .int .i64 128, .slice none 0 0] 42
      have hbX : Bl w (w2.alloc (.cells #[.string ⟨#[116]⟩, .int .i64 128, .slice none 0 0] 42)) := (hb.trans hb2).alloc _
      have hXs : w2.heap.size < (w2.alloc (.cells #[.string ⟨#[116]⟩, .int .i64 128, .slice none 0 0] 42)).heap.size := by rw [size_new]; omega
      have hwX : w.heap.size ≤ w2.heap.size := (hb.trans hb2).size
      generalize (w2.alloc (.cells #[.string ⟨#[116]⟩, .int .i64 128, .slice none 0 0] 42)) = W3 at hX0 hbX hXs ⊢
      generalize w2.heap.size = X at hX0 hXs hwX ⊢
      clear hb hb2 kc
      obtain ⟨i48, gi, gz0, gz1, gz2⟩ := info_parts info48
      have hcv : ∀ (W : World) (b1 : Int), (convert 53 9 (.slice (some ⟨W.heap.size, 0, none⟩) 1 1)).run Try.prog (W.alloc (.cells #[.int .u8 b1] 5)) = .ok (.string (strOfNums [b1])) (W.alloc (.cells #[.int .u8 b1] 5)) := fun W b1 => conv_new W _ 5 _ 1 1 [b1] rfl rfl (by intro i hi; match i, hi with | 0, _ => rfl)
      go_wp2
      go_loopw [11] (fun n wr => ∃ (k : Nat) (v : Value), n = .int .i64 k ∧ k ≤ K ∧ wr.heap[X]? = some (.cells #[.string ⟨#[116]⟩, .int .i64 128, v] 42 (0, 0)) ∧ wr.ownsRow (X + 1) 48 5 v k ((flL k).flatMap fcs) ∧ Bl w wr) (fun n _ => K - (intOf n).toNat)
      case atStart => exact ⟨0, _, rfl, by omega, hX0, World.ownsRow_nil _ _ _ _, hbX⟩
      case round =>
        clear hX0 hbX hXs
        obtain ⟨k, v, rfl, hkK, hX, hrow, hb⟩ := hrel
        have hXl := ch_lt hX
        have x2 : wr.cell? ⟨X, 2, none⟩ = some v := by rw [cell_at hX]; rfl
        by_cases h : k < K
        · have d : decide ((k : Int) < K) = true := by simp; omega
          have e9 : IntKind.i64.wrap ((k : Int) + 1) = (k : Int) + 1 := IntWalk.i64_in _ (by omega)
          have e1 : IntKind.i64.wrap (97 + (k : Int)) = 97 + (k : Int) := IntWalk.i64_in _ (by omega)
          have e2 : IntKind.i64.wrap (16 * ((k : Int) % 8)) = 16 * ((k : Int) % 8) := IntWalk.i64_in _ (by omega)
          have u1 : IntKind.u8.wrap (97 + (k : Int)) = 97 + (k : Int) := by simp [IntKind.wrap, IntKind.signed, IntKind.bits]; omega
          have hcv2 : ∀ (W : World), (convert 53 9 (.slice (some ⟨W.heap.size, 0, none⟩) 1 1)).run Try.prog (W.alloc (.cells #[.int .u8 (97 + (k : Int))] 5)) = .ok (.string (strOfNums [97 + (k : Int)])) (W.alloc (.cells #[.int .u8 (97 + (k : Int))] 5)) := fun W => hcv W _
          clear hcv
          have hsz : ¬ 9223372036854775807 < (strOfNums [97 + (k : Int)]).size + 1 := by rw [strOfNums_size]; simp
          have hname : Hid (fcs (fN k) = [.string (⟨#[102]⟩ ++ strOfNums [97 + (k : Int)]), .int .u8 3, .int .i64 (16 * ((k : Int) % 8)), .int .i64 0, .int .i64 0]) := rfl
          generalize strOfNums [97 + (k : Int)] = S at hsz hname hcv2
          go_wp2_with (refine wpList_append_own _ rfl _ _ 40 rfl (X + 1) 48 i48 (.agg #[.string ⟨#[]⟩, .int .u8 0, .int .i64 0, .int .i64 0, .int .i64 0]) 5 48 Try.underlying40 gi gz0 gz1 gz2 rfl (by decide) _ _ _ rfl ((hrow.alloc _).alloc _) _ 1 1 [.string (⟨#[102]⟩ ++ S), .int .u8 3, .int .i64 (16 * ((k : Int) % 8)), .int .i64 0, .int .i64 0] rfl rfl (news_new _ _ _ _ (by simp)) (by simp [Value.oneCell']) (by simp [maxLen]; omega) (by omega) (by simp; omega) ?_; intro v' wa hown' hgrow hnil; obtain ⟨g', cap', rfl, hg'⟩ := own_shape hown'; have hXa : wa.heap[X]? = some (.cells #[.string ⟨#[116]⟩, .int .i64 128, v] 42 (0, 0)) := (by rw [hgrow.block X (by simp; omega) (fun e => by have := (hrow.lt X e.symm).1; omega), heap_old _ _ (by simp; omega), heap_old _ _ (by omega)]; exact hX); have y2 : wa.cell? ⟨X, 2, none⟩ = some v := (by rw [cell_at hXa]; rfl); have f2 := froz_at (j := 2) hXa; have hba : Bl w wa := ((hb.alloc (.cells #[.int .u8 (97 + (k : Int))] 5)).alloc (.cells #[.string (⟨#[102]⟩ ++ S), .int .u8 3, .int .i64 (16 * ((k : Int) % 8)), .int .i64 0, .int .i64 0] 48)).grown hgrow (by have := hb.size; simp; omega) (fun k hk => by have := (hrow.lt k hk).1; omega))
          refine ⟨⟨k + 1, _, by simp, by omega, setc_heap (j := 2) _ hXa, own_set ?_ _ (by omega), hba.trans' (setc_below _ hwX) (Nat.le_refl _)⟩, by simp [intOf]; omega⟩
          rw [flL_succ, List.flatMap_append, List.flatMap_singleton, hname.out]
          simpa using hown'
        · have d : decide ((k : Int) < K) = false := by simp; omega
          obtain rfl : k = K := by omega
          obtain ⟨pF, cF, hv, hcl, hcm, hFl⟩ := flds_own (l := flL k) (by rw [flL_len]; exact hrow) (fun x hx => by obtain ⟨j, _, rfl⟩ := List.mem_map.1 hx; exact fN_ok j)
          subst hv
          have x0 : wr.cell? ⟨X, 0, none⟩ = some (.string ⟨#[116]⟩) := by rw [cell_at hX]; rfl
          have x1 : wr.cell? ⟨X, 1, none⟩ = some (.int .i64 128) := by rw [cell_at hX]; rfl
          have hal : Bl wr (wr.alloc (.cells #[.string ⟨#[116]⟩, .int .i64 128, .slice pF (flL k).length cF] 42)) := (Bl.refl _).alloc _
          have kc2 := check_any (some ⟨wr.heap.size, 0, none⟩) 1 [⟨⟨#[116]⟩, 128, pF, cF, flL k⟩] ⟨by simp, by simp [maxLen]⟩ _ (tys1 (t := ⟨⟨#[116]⟩, 128, pF, cF, flL k⟩) (heap_new wr _ 42) ⟨by simp [maxLen, ByteArray.size], ⟨by dsimp only; decide, by dsimp only; decide⟩, ⟨hcl, hcm⟩, hFl.gr hal⟩) (fit_flds pF cF k)
          rw [chk_flds pF cF k hK5.1 hK5.2] at kc2
          unfold chkV at kc2
          generalize hr2 : (if k ≤ 8 then ((0 : Int), (0 : Int), (0 : Int)) else (0, 8, 4)) = r2 at kc2
          replace hr2 : Hid ((if k ≤ 8 then ((0 : Int), (0 : Int), (0 : Int)) else (0, 8, 4)) = r2) := hr2
          clear hrow hcv hX
          go_upto_region 15 with (go_at_call 16; refine kc2.mono ?_; rintro e w4 ⟨rfl, hb4⟩)
          have hb5 := (hb.trans hal).trans hb4
          have m1 : IntKind.i64.wrap (8 * m) = 8 * m := IntWalk.i64_in _ (by omega)
          have m2 : IntKind.i64.wrap (128 + 8 * m) = 128 + 8 * m := IntWalk.i64_in _ (by omega)
          have kc3 := check_any (some ⟨w4.heap.size, 0, none⟩) 1 [⟨⟨#[116]⟩, 128 + 8 * m, none, 0, []⟩] ⟨by simp, by simp [maxLen]⟩ _ (tys1 (t := ⟨⟨#[116]⟩, 128 + 8 * m, none, 0, []⟩) (heap_new w4 _ 42) ⟨by simp [maxLen, ByteArray.size], ⟨by dsimp only; omega, by dsimp only; omega⟩, ⟨by simp, by simp [maxLen]⟩, Flds.nil _ _⟩) (fit_size m)
          rw [chk_size m hm3] at kc3
          unfold chkV at kc3
          generalize hr3 : (if m ≤ 0 then ((0 : Int), (0 : Int), (0 : Int)) else (0, 0, 101)) = r3 at kc3
          replace hr3 : Hid ((if m ≤ 0 then ((0 : Int), (0 : Int), (0 : Int)) else (0, 0, 101)) = r3) := hr3
          clear kc2 hal x0 x1 x2 hb hb4 hFl hcl hcm
          go_upto_region 16 with (go_at_call 16; refine kc3.mono ?_; rintro e w6 ⟨rfl, hb6⟩)
          have hb7 := (hb5.alloc _).trans hb6
          clear hb5 hb6 kc3 m1 m2
          have hal := fun W => alive_any W
          by_cases i32 : i ≤ 32
          all_goals by_cases k8 : k ≤ 8
          all_goals by_cases m0 : m ≤ 0
          all_goals
            have q1 := hr1.out
            have q2 := hr2.out
            have q3 := hr3.out
            simp only [i32, k8, m0, if_true, if_false] at q1 q2 q3
            subst q1 q2 q3
          all_goals
            first
            | (have z1 : decide ((i : Int) ≤ 32) = true := by simp; omega)
            | (have z1 : decide ((i : Int) ≤ 32) = false := by simp; omega)
          all_goals
            first
            | (have z2 : decide ((k : Int) ≤ 8) = true := by simp; omega)
            | (have z2 : decide ((k : Int) ≤ 8) = false := by simp; omega)
          all_goals
            first
            | (have z3 : decide (m ≤ 0) = true := by simp; omega)
            | (have z3 : decide (m ≤ 0) = false := by simp; omega)
          all_goals
            clear i32 k8 m0 hr1 hr2 hr3
            go_wp2_with (go_at_call 9; refine (hal _).mono ?_; rintro e w8 ⟨rfl, hb8⟩)
            go_returns
            exact ⟨rfl, hb7.trans hb8⟩
end Go.Proofs.Ytmcjmdoeafhjpaa
