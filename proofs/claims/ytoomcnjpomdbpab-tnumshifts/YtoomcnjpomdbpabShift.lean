/- Towards the statements of package tnum (layer 3): what TnumShifts asks, for every set, any two shifts. -/
import Derived.Test.YtoomcnjpomdbpabWorks
namespace Go.Proofs.Ytoomcnjpomdbpab
open Go.ChangeShapes Go.WideShapes Go.ChangeAt Go.RowKit
set_option linter.unusedVariables false
set_option maxRecDepth 20000

theorem shl_shr (x : BitVec 64) (s : Nat) (h : s < 64) : (x <<< s) >>> s = x &&& (1#64 <<< (64 - s) - 1#64) := by
  apply BitVec.eq_of_getLsbD_eq
  intro i hi
  rw [BitVec.getLsbD_ushiftRight, BitVec.getLsbD_shiftLeft, BitVec.getLsbD_and, low_bit _ _ hi]
  have e : s + i - s = i := by omega
  rw [e]
  by_cases h1 : s + i < 64
  · rw [decide_eq_true h1, decide_eq_true (show i < 64 - s by omega), decide_eq_false (show ¬ s + i < s by omega)]; simp
  · rw [decide_eq_false h1, decide_eq_false (show ¬ i < 64 - s by omega)]; simp
theorem ones_bit (s i : Nat) (hi : i < 64) : (18446744073709551615#64 <<< s).getLsbD i = !(decide (i < s)) := by
  rw [show 18446744073709551615#64 = BitVec.allOnes 64 from by decide, BitVec.getLsbD_shiftLeft, BitVec.getLsbD_allOnes]
  have : i - s < 64 := by omega
  simp [hi, this]
theorem shr_shl (x : BitVec 64) (s : Nat) : (x >>> s) <<< s = x &&& (18446744073709551615#64 <<< s) := by
  apply BitVec.eq_of_getLsbD_eq
  intro i hi
  rw [BitVec.getLsbD_shiftLeft, BitVec.getLsbD_ushiftRight, BitVec.getLsbD_and, ones_bit _ _ hi]
  by_cases h1 : i < s
  · simp [h1]
  · rw [show s + (i - s) = i by omega]; simp [h1, hi]
theorem andM_up {v m : BitVec 64} (o : Tn.Ok v m) (s : Nat) : andM v m (18446744073709551615#64 <<< s) 0#64 = (m >>> s) <<< s := by
  rw [shr_shl]
  apply BitVec.eq_of_getLsbD_eq
  intro i hi
  have h := o i hi
  unfold andM
  simp only [BitVec.getLsbD_and, BitVec.getLsbD_or, BitVec.getLsbD_not, BitVec.getLsbD_zero]
  cases e1 : v.getLsbD i <;> cases e2 : m.getLsbD i <;> cases e3 : (18446744073709551615#64 <<< s).getLsbD i <;> simp_all
theorem low_low (x : BitVec 64) (s t : Nat) : (x &&& (1#64 <<< s - 1#64)) &&& (1#64 <<< t - 1#64) = x &&& (1#64 <<< (min s t) - 1#64) := by
  apply BitVec.eq_of_getLsbD_eq
  intro i hi
  rw [BitVec.getLsbD_and, BitVec.getLsbD_and, BitVec.getLsbD_and, low_bit _ _ hi, low_bit _ _ hi, low_bit _ _ hi, Bool.and_assoc]
  congr 1
  by_cases h1 : i < s <;> by_cases h2 : i < t <;> simp [h1, h2] <;> omega
theorem sar_sar (x : BitVec 64) (s t : Nat) : (x.sshiftRight s).sshiftRight t = x.sshiftRight (s + t) := by
  apply BitVec.eq_of_getLsbD_eq
  intro i hi
  rw [sar_get _ _ _ hi, sar_get _ _ _ (by omega), sar_get _ _ _ hi]
  congr 1
  omega
theorem shl_e (v m : BitVec 64) (n : Nat) (v' m' : BitVec 64) (h1 : v <<< n = v') (h2 : m <<< n = m') (w : World) : Calls Try.prog 6 #[.agg #[.int .u64 (iv v), .int .u64 (iv m)], .int .u64 (n : Int)] w fun e w' => e = .returned (.agg #[.int .u64 (iv v'), .int .u64 (iv m')]) ∧ Gr w w' := by
  subst h1 h2
  exact shl_any v m n w
theorem shr_e (v m : BitVec 64) (n : Nat) (v' m' : BitVec 64) (h1 : v >>> n = v') (h2 : m >>> n = m') (w : World) : Calls Try.prog 5 #[.agg #[.int .u64 (iv v), .int .u64 (iv m)], .int .u64 (n : Int)] w fun e w' => e = .returned (.agg #[.int .u64 (iv v'), .int .u64 (iv m')]) ∧ Gr w w' := by
  subst h1 h2
  exact shr_any v m n w
theorem sar_e (v m : BitVec 64) (n : Nat) (v' m' : BitVec 64) (h1 : v.sshiftRight n = v') (h2 : m.sshiftRight n = m') (w : World) : Calls Try.prog 10 #[.agg #[.int .u64 (iv v), .int .u64 (iv m)], .int .u64 (n : Int)] w fun e w' => e = .returned (.agg #[.int .u64 (iv v'), .int .u64 (iv m')]) ∧ Gr w w' := by
  subst h1 h2
  exact sar_any v m n w
theorem low_e (v m : BitVec 64) (n : Nat) (v' m' : BitVec 64) (h1 : v &&& (1#64 <<< n - 1#64) = v') (h2 : m &&& (1#64 <<< n - 1#64) = m') (w : World) : Calls Try.prog 7 #[.agg #[.int .u64 (iv v), .int .u64 (iv m)], .int .u64 (n : Int)] w fun e w' => e = .returned (.agg #[.int .u64 (iv v'), .int .u64 (iv m')]) ∧ Gr w w' := by
  subst h1 h2
  exact low_any v m n w
theorem and_e (v m c d : BitVec 64) (v' m' : BitVec 64) (h1 : v &&& c = v') (h2 : andM v m c d = m') (w : World) : Calls Try.prog 8 #[.agg #[.int .u64 (iv v), .int .u64 (iv m)], .agg #[.int .u64 (iv c), .int .u64 (iv d)]] w fun e w' => e = .returned (.agg #[.int .u64 (iv v'), .int .u64 (iv m')]) ∧ Gr w w' := by
  subst h1 h2
  exact and_any v m c d w
set_option maxHeartbeats 4000000 in
theorem shifts_any (v m : BitVec 64) (one two : Nat) (h1 : one < 256) (h2 : two < 256) (w : World) : Calls Try.prog 3 #[.int .u64 (iv v), .int .u64 (iv m), .int .u8 (one : Int), .int .u8 (two : Int)] w fun e w' => e = .returned (.bool true) ∧ Gr w w' := by
  have oa : Tn.Ok (v &&& ~~~m) m := Tn.ok_cut v m
  obtain ⟨av, ha⟩ : ∃ av, v &&& ~~~m = av := ⟨_, rfl⟩
  rw [ha] at oa
  obtain ⟨s, hs, hs'⟩ : ∃ s : Nat, (one : Int) % 64 = (s : Int) ∧ s < 64 := ⟨one % 64, by omega, by omega⟩
  obtain ⟨t, ht, ht'⟩ : ∃ s : Nat, (two : Int) % 64 = (s : Int) ∧ s < 64 := ⟨two % 64, by omega, by omega⟩
  obtain ⟨d, ed, hd, hd'⟩ : ∃ d : Nat, d = 64 - s ∧ IntKind.u64.wrap (64 - (s : Int)) = (d : Int) ∧ (64 : Int) - s = d := ⟨64 - s, rfl, by rw [IntKind.wrap_u64]; omega, by omega⟩
  obtain ⟨u, eu, hu, hu'⟩ : ∃ u : Nat, u = s + t ∧ IntKind.u64.wrap ((s : Int) + (t : Int)) = (u : Int) ∧ (s : Int) + t = u := ⟨s + t, rfl, by rw [IntKind.wrap_u64]; omega, by omega⟩
  obtain ⟨k, ek, hk⟩ : ∃ k : Nat, k = min s t ∧ (if t < s then (t : Int) else (s : Int)) = (k : Int) := ⟨min s t, rfl, by split <;> omega⟩
  obtain ⟨c, ec, hc⟩ : ∃ c : BitVec 64, c = 18446744073709551615#64 <<< s ∧ IntKind.u64.wrap (18446744073709551615 * 2 ^ s) = iv c := ⟨_, rfl, iv_shl 18446744073709551615#64 s⟩
  obtain ⟨p1v, hp1v⟩ : ∃ z, av <<< s = z := ⟨_, rfl⟩
  obtain ⟨p1m, hp1m⟩ : ∃ z, m <<< s = z := ⟨_, rfl⟩
  obtain ⟨x1v, hx1v⟩ : ∃ z, p1v >>> s = z := ⟨_, rfl⟩
  obtain ⟨x1m, hx1m⟩ : ∃ z, p1m >>> s = z := ⟨_, rfl⟩
  obtain ⟨p2v, hp2v⟩ : ∃ z, av >>> s = z := ⟨_, rfl⟩
  obtain ⟨p2m, hp2m⟩ : ∃ z, m >>> s = z := ⟨_, rfl⟩
  obtain ⟨x2v, hx2v⟩ : ∃ z, p2v <<< s = z := ⟨_, rfl⟩
  obtain ⟨x2m, hx2m⟩ : ∃ z, p2m <<< s = z := ⟨_, rfl⟩
  obtain ⟨x3v, hx3v⟩ : ∃ z, p1v <<< t = z := ⟨_, rfl⟩
  obtain ⟨x3m, hx3m⟩ : ∃ z, p1m <<< t = z := ⟨_, rfl⟩
  obtain ⟨x4v, hx4v⟩ : ∃ z, p2v >>> t = z := ⟨_, rfl⟩
  obtain ⟨x4m, hx4m⟩ : ∃ z, p2m >>> t = z := ⟨_, rfl⟩
  obtain ⟨p5v, hp5v⟩ : ∃ z, av.sshiftRight s = z := ⟨_, rfl⟩
  obtain ⟨p5m, hp5m⟩ : ∃ z, m.sshiftRight s = z := ⟨_, rfl⟩
  obtain ⟨x5v, hx5v⟩ : ∃ z, p5v.sshiftRight t = z := ⟨_, rfl⟩
  obtain ⟨x5m, hx5m⟩ : ∃ z, p5m.sshiftRight t = z := ⟨_, rfl⟩
  obtain ⟨p6v, hp6v⟩ : ∃ z, av &&& (1#64 <<< s - 1#64) = z := ⟨_, rfl⟩
  obtain ⟨p6m, hp6m⟩ : ∃ z, m &&& (1#64 <<< s - 1#64) = z := ⟨_, rfl⟩
  obtain ⟨x6v, hx6v⟩ : ∃ z, p6v &&& (1#64 <<< t - 1#64) = z := ⟨_, rfl⟩
  obtain ⟨x6m, hx6m⟩ : ∃ z, p6m &&& (1#64 <<< t - 1#64) = z := ⟨_, rfl⟩
  have g1 : av &&& (1#64 <<< d - 1#64) = x1v := by rw [← hx1v, ← hp1v, ed, shl_shr av s hs']
  have g1' : m &&& (1#64 <<< d - 1#64) = x1m := by rw [← hx1m, ← hp1m, ed, shl_shr m s hs']
  have g2 : av &&& c = x2v := by rw [← hx2v, ← hp2v, ec, shr_shl av s]
  have g2' : andM av m c 0#64 = x2m := by rw [← hx2m, ← hp2m, ec, andM_up oa s]
  have g3 : av <<< u = x3v := by rw [← hx3v, ← hp1v, eu, BitVec.shiftLeft_add]
  have g3' : m <<< u = x3m := by rw [← hx3m, ← hp1m, eu, BitVec.shiftLeft_add]
  have g4 : av >>> u = x4v := by rw [← hx4v, ← hp2v, eu, BitVec.shiftRight_add]
  have g4' : m >>> u = x4m := by rw [← hx4m, ← hp2m, eu, BitVec.shiftRight_add]
  have g5 : av.sshiftRight u = x5v := by rw [← hx5v, ← hp5v, eu, sar_sar]
  have g5' : m.sshiftRight u = x5m := by rw [← hx5m, ← hp5m, eu, sar_sar]
  have g6 : av &&& (1#64 <<< k - 1#64) = x6v := by rw [← hx6v, ← hp6v, ek, low_low]
  have g6' : m &&& (1#64 <<< k - 1#64) = x6m := by rw [← hx6m, ← hp6m, ek, low_low]
  clear ed eu ek ec
  have HG : Gr w w := Gr.refl w
  go_enter Try.func3, Try.ntmps3
  go_wp2_with (first
    | (go_at_call 4; refine (of_gr _ _ _).mono ?_; rintro e w' ⟨rfl, hg⟩; replace HG := HG.trans hg; clear hg))
  clear ha
  have HA : Hid (At (w'.alloc (.cells #[.int .u64 (iv av), .int .u64 (iv m)] 24)) w'.heap.size av m) := At.newb w' rfl av m
  have HF : Hid (Gr w (w'.alloc (.cells #[.int .u64 (iv av), .int .u64 (iv m)] 24))) := HG.alloc _ _
  clear HG
  revert HA HF
  generalize (w'.alloc (.cells #[.int .u64 (iv av), .int .u64 (iv m)] 24)) = W
  intro HA HF
  have hne : Nonempty (GrBy W) := ⟨⟨W, Gr.refl W⟩⟩
  have a0 : ∀ p : GrBy W, p.to.cell? ⟨w'.heap.size, 0, none⟩ = some (.int .u64 (iv av)) := fun p => (HA.out.gr p.gr).c0
  have a1 : ∀ p : GrBy W, p.to.cell? ⟨w'.heap.size, 1, none⟩ = some (.int .u64 (iv m)) := fun p => (HA.out.gr p.gr).c1
  obtain ⟨p', hp'⟩ : ∃ p : GrBy W, p.to = W := ⟨⟨W, Gr.refl W⟩, rfl⟩
  rw [← hp']
  clear hp'
  refine wp_region_by (by kernel_rfl) (by kernel_rfl) ?_
  repeat (first
    | go_big_quiet_skip
    | (go_big_quiet_want; go_big_quiet_op; first
      | go_big_quiet_on
      | (apply Exists.intro
         refine ⟨fun p => ?_, ?_⟩
         · first
           | (go_at_call 6; exact calls_gr (shl_e _ _ _ _ _ (by with_reducible assumption) (by with_reducible assumption) _))
           | (go_at_call 5; exact calls_gr (shr_e _ _ _ _ _ (by with_reducible assumption) (by with_reducible assumption) _))
           | (go_at_call 10; exact calls_gr (sar_e _ _ _ _ _ (by with_reducible assumption) (by with_reducible assumption) _))
           | (go_at_call 7; exact calls_gr (low_e _ _ _ _ _ (by with_reducible assumption) (by with_reducible assumption) _))
           | (go_at_call 8; exact calls_gr (and_e _ _ _ _ _ _ (by with_reducible assumption) (by with_reducible assumption) _))
           | (go_at_call 9; exact calls_gr (cst_gr _ _))
           | (go_at_call 11; exact calls_gr (works_any _))
         go_big_quiet_on)))
  refine wpQuiet_nil ?_
  intro _ hw'
  obtain ⟨q, rfl⟩ := hw'
  go_wp2_with fail
  try simp only [List.append_eq, List.cons_append, List.nil_append]
  refine wp_region_by (by kernel_rfl) (by kernel_rfl) ?_
  repeat (first
    | go_big_quiet_skip
    | (go_big_quiet_want; go_big_quiet_op; first
      | go_big_quiet_on
      | (apply Exists.intro
         refine ⟨fun p => ?_, ?_⟩
         · first
           | (go_at_call 6; exact calls_gr (shl_e _ _ _ _ _ (by with_reducible assumption) (by with_reducible assumption) _))
           | (go_at_call 5; exact calls_gr (shr_e _ _ _ _ _ (by with_reducible assumption) (by with_reducible assumption) _))
           | (go_at_call 10; exact calls_gr (sar_e _ _ _ _ _ (by with_reducible assumption) (by with_reducible assumption) _))
           | (go_at_call 7; exact calls_gr (low_e _ _ _ _ _ (by with_reducible assumption) (by with_reducible assumption) _))
           | (go_at_call 8; exact calls_gr (and_e _ _ _ _ _ _ (by with_reducible assumption) (by with_reducible assumption) _))
           | (go_at_call 9; exact calls_gr (cst_gr _ _))
           | (go_at_call 11; exact calls_gr (works_any _))
         go_big_quiet_on)))
  refine wpQuiet_nil ?_
  intro _ hw'
  obtain ⟨q, rfl⟩ := hw'
  go_wp2
  go_ret
  exact ⟨rfl, HF.out.trans q.gr⟩
end Go.Proofs.Ytoomcnjpomdbpab
