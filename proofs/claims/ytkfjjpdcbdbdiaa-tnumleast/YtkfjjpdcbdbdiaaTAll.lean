/- Towards the statements of package tnum (layer 3): a set's numbers, as the statement's own loop lists them. -/
import Derived.Test.YtkfjjpdcbdbdiaaTApp
import Derived.Test.YtkfjjpdcbdbdiaaTAllM
namespace Go.Proofs.Ytkfjjpdcbdbdiaa
open Go.ChangeShapes Go.WideShapes Go.ChangeAt Go.RowKit
set_option linter.unusedVariables false
set_option maxRecDepth 20000

theorem info_u64 : (Try.prog.info? 22).map (fun i => (i.zero, i.size, i.bytes)) = some (some (.int .u64 0), 1, 8) := by kernel_rfl
/-- A slice that the call owns, of numbers. -/
def Owns (w : World) (base : Nat) (v : Value) (L : List (BitVec 64)) : Prop := w.ownsRow base 22 1 v L.length (L.map fun x => .int .u64 (iv x))
theorem Owns.row {w : World} {base g n cap : Nat} {L : List (BitVec 64)} (h : Owns w base (.slice (some ⟨g, 0, none⟩) n cap) L) : RowB w g L := by
  intro i v hv
  have hn : i < L.length := by
    rcases Nat.lt_or_ge i L.length with h | h
    · exact h
    · rw [List.getElem?_eq_none h] at hv; cases hv
  have h' := h.2
  rcases h' with ⟨e, _⟩ | ⟨g', cap', cur, e, _⟩
  · cases e
  · cases e
    have := World.ownsRow.cellAt h i (by omega)
    rw [this, List.getElem?_map, hv]
    rfl
theorem Owns.kept {w w' : World} {base : Nat} {v : Value} {L : List (BitVec 64)} (h : Owns w base v L) {row : Option Nat} (hg : w.grownBy w' row) (hne : v.ownBlock ≠ row) : Owns w' base v L := World.ownsRow.kept h hg (Or.inr hne)
theorem At.grown {w w' : World} {b : Nat} {v m : BitVec 64} {row : Option Nat} (h : At w b v m) (hg : w.grownBy w' row) (hne : some b ≠ row) : At w' b v m := (hg.block b h.lt hne).trans h
theorem take_next {α : Type} {L : List α} {j : Nat} {x : α} (h : L[j]? = some x) : L.take (j + 1) = L.take j ++ [x] := by
  rw [List.take_add_one, h]; rfl
theorem own_next {L : List (BitVec 64)} {j : Nat} {x : BitVec 64} (h : L[j]? = some x) (f : BitVec 64 → BitVec 64) : (L ++ (L.take j).map f).map (fun x => Value.int .u64 (iv x)) ++ [Value.int .u64 (iv (f x))] = (L ++ (L.take (j + 1)).map f).map fun x => Value.int .u64 (iv x) := by
  rw [take_next h]
  simp
theorem own_len {L : List (BitVec 64)} {j : Nat} (h : j ≤ L.length) {f : BitVec 64 → BitVec 64} : (L ++ (L.take j).map f).length = L.length + j := by
  simp [Nat.min_eq_left h]
set_option maxHeartbeats 8000000 in
theorem all_any (v m : BitVec 64) (hm : cntB m 64 ≤ 4) (w : World) : Calls Try.prog 11 #[.agg #[.int .u64 (iv v), .int .u64 (iv m)]] w fun e w' => (∃ g cap, e = .returned (.slice (some ⟨g, 0, none⟩) (Tn.allL v m 64).length cap) ∧ w.heap.size < g ∧ RowB w' g (Tn.allL v m 64)) ∧ Gr w w' := by
  have HL : ∀ k, k ≤ 64 → (Tn.allL v m k).length ≤ 16 := fun k hk => by
    rw [all_len]
    exact Nat.pow_le_pow_right (by omega) (Nat.le_trans (cnt_mono m k hk) hm)
  have HL' : Hid (∀ k, k ≤ 64 → (Tn.allL v m k).length ≤ 16) := HL
  clear HL hm
  obtain ⟨i0, hi, hz0, hz1, hz2⟩ := info_parts info_u64
  have HI : Hid (Try.prog.info? 22 = some i0 ∧ i0.zero = some (.int .u64 0) ∧ i0.size = 1 ∧ i0.bytes = 8) := ⟨hi, hz0, hz1, hz2⟩
  clear hi hz0 hz1 hz2
  have HS : Hid (At ((w.alloc (.cells #[.int .u64 (iv v), .int .u64 (iv m)] 24)).alloc (.cells #[.int .u64 (iv v)] 22)) w.heap.size v m ∧ Owns ((w.alloc (.cells #[.int .u64 (iv v), .int .u64 (iv m)] 24)).alloc (.cells #[.int .u64 (iv v)] 22)) (w.heap.size + 1) (.slice (some ⟨w.heap.size + 1, 0, none⟩) 1 1) [v] ∧ Gr w ((w.alloc (.cells #[.int .u64 (iv v), .int .u64 (iv m)] 24)).alloc (.cells #[.int .u64 (iv v)] 22))) := by
    refine ⟨(At.new w v m).alloc _, ?_, ⟨by go_grown, by go_grown⟩⟩
    have := World.ownsRow_lit (e := 22) (size := 1) (base := w.heap.size + 1) (w.alloc (.cells #[.int .u64 (iv v), .int .u64 (iv m)] 24)) #[.int .u64 (iv v)] 1 (by simp) (by unfold maxLen; omega) rfl
    simpa [Owns] using this
  go_enter Try.func11, Try.ntmps11
  go_wp2_with fail
  go_loopw [3, 4] (fun l i wr => ∃ (k g cap : Nat), k ≤ 64 ∧ l = .slice (some ⟨g, 0, none⟩) (Tn.allL v m k).length cap ∧ i = .int .i64 (k : Nat) ∧ w.heap.size < g ∧ At wr w.heap.size v m ∧ Owns wr (w.heap.size + 1) (.slice (some ⟨g, 0, none⟩) (Tn.allL v m k).length cap) (Tn.allL v m k) ∧ Gr w wr) (fun _ i _ => 64 - (intOf i).toNat)
  case atStart => exact ⟨0, w.heap.size + 1, 1, by omega, rfl, rfl, by omega, HS.out.1, HS.out.2.1, HS.out.2.2⟩
  case round =>
    obtain ⟨k, g, cap, hk, rfl, rfl, hgB, h1, h2, h3⟩ := hrel
    have H1 : Hid _ := h1
    have H2 : Hid (Owns wr (w.heap.size + 1) (.slice (some ⟨g, 0, none⟩) (Tn.allL v m k).length cap) (Tn.allL v m k)) := h2
    have H3 : Hid (Gr w wr) := h3
    clear h1 h2 h3 HS
    by_cases hlt : k < 64
    · have c1 := At.c1 H1.out
      have r0 := iv_shr m k
      have hb := fbit_lit m k
      cases hmk : m.getLsbD k
      · have hb' : bits .and .u64 (iv (m >>> k)) 1 = 0 := by rw [hb, hmk]; rfl
        have HA : Hid (Tn.allL v m (k + 1) = Tn.allL v m k) := by rw [Tn.allL, hmk]; rfl
        clear hb
        go_wp2
        go_roundw
        case rel => exact ⟨k + 1, g, cap, by omega, by rw [HA.out], by go_num, hgB, H1.out, by rw [HA.out]; exact H2.out, H3.out⟩
        case measure => simp [intOf]; omega
      · have hb' : bits .and .u64 (iv (m >>> k)) 1 = 1 := by rw [hb, hmk]; rfl
        have HA : Hid (Tn.allL v m (k + 1) = Tn.allL v m k ++ (Tn.allL v m k).map (fun x => x ||| (1#64 <<< k))) := by rw [Tn.allL, hmk]; rfl
        clear hb
        have hl16 := HL'.out k (by omega)
        have hk64 : decide ((k : Int) < 64) = true := decide_eq_true (by omega)
        obtain ⟨L, hL⟩ : ∃ L, Tn.allL v m k = L := ⟨_, rfl⟩
        rw [hL] at H2 HA hl16
        simp only [hL]
        have HLL : Hid (Tn.allL v m k = L) := hL
        clear hL
        go_wp2_with fail
        go_loopw [3, 6] (fun l i wq => ∃ (j g' cap' : Nat), j ≤ L.length ∧ l = .slice (some ⟨g', 0, none⟩) (L.length + j) cap' ∧ i = .int .i64 (j : Nat) ∧ w.heap.size < g' ∧ At wq w.heap.size v m ∧ Owns wq (w.heap.size + 1) (.slice (some ⟨g', 0, none⟩) (L.length + j) cap') (L ++ (L.take j).map (fun x => x ||| (1#64 <<< k))) ∧ Gr w wq) (fun _ i _ => L.length - (intOf i).toNat)
        case atStart => exact ⟨0, g, cap, by omega, rfl, rfl, hgB, H1.out, by simpa using H2.out, H3.out⟩
        case round =>
          obtain ⟨j, g', cap', hj, rfl, rfl, hgB', h1, h2, h3⟩ := hrel
          have K1 : Hid (At wr w.heap.size v m) := h1
          have K2 : Hid (Owns wr (w.heap.size + 1) (.slice (some ⟨g', 0, none⟩) (L.length + j) cap') (L ++ (L.take j).map (fun x => x ||| (1#64 <<< k)))) := h2
          have K3 : Hid (Gr w wr) := h3
          clear h1 h2 h3 H1 H2 H3 c1
          by_cases hjl : j < L.length
          · obtain ⟨x, hx⟩ : ∃ x, L[j]? = some x := ⟨L[j], List.getElem?_eq_getElem hjl⟩
            have cx : wr.cell? ⟨g', j, none⟩ = some (.int .u64 (iv x)) := K2.out.row j x (by rw [List.getElem?_append_left hjl]; exact hx)
            have HX : Hid (L[j]? = some x) := hx
            clear hx
            have b1 : (0 : Int) ≤ (j : Int) := by omega
            have b2 : (j : Int) < (L.length : Int) + (j : Int) := by omega
            have r1 := iv_shl0 k
            have r2 := iv_or x (1#64 <<< k)
            have HO : Hid ((wr.alloc (.cells #[.int .u64 (iv (x ||| 1#64 <<< k))] 22)).ownsRow (w.heap.size + 1) 22 1 (.slice (some ⟨g', 0, none⟩) (L.length + j) cap') (L.length + j) ((L ++ (L.take j).map (fun x => x ||| (1#64 <<< k))).map fun x => .int .u64 (iv x))) := by
              have := World.ownsRow.alloc K2.out (.cells #[.int .u64 (iv (x ||| 1#64 <<< k))] 22)
              rwa [own_len hj] at this
            have HN : Hid (∀ (q : Nat) (u : Value), [Value.int .u64 (iv (x ||| 1#64 <<< k))][q]? = some u → (wr.alloc (.cells #[.int .u64 (iv (x ||| 1#64 <<< k))] 22)).cell? ((⟨wr.heap.size, 0, none⟩ : Addr).add q) = some u) := World.news_of_block (heap_alloc_new wr _)
            have HG : Hid (Gr w (wr.alloc (.cells #[.int .u64 (iv (x ||| 1#64 <<< k))] 22))) := K3.out.alloc _ _
            have hsz := K3.out.below.size
            go_wp2_with (first
              | (at_builtin; refine wpList_app _ rfl (.tmp 28) (.tmp 37) 27 rfl (w.heap.size + 1) 22 i0 (.int .u64 0) 1 8 Try.underlying27 HI.out.1 HI.out.2.1 HI.out.2.2.1 HI.out.2.2.2 rfl (by decide) (.slice (some ⟨g', 0, none⟩) (L.length + j) cap') (L.length + j) _ rfl HO.out ⟨wr.heap.size, 0, none⟩ 1 1 [.int .u64 (iv (x ||| 1#64 <<< k))] rfl rfl HN.out (by intro u hu; simp at hu; subst hu; rfl) (by omega) (by unfold maxLen; omega) (by omega) (by simp; omega) w HG.out (by omega) ?_; intro g2 cap2 w3 ho3 hgrow hat hG3))
            have A3 : At w3 w.heap.size v m := At.grown (At.alloc K1.out _) hgrow (fun h => by have h : w.heap.size = g' := Option.some.inj h; omega)
            have hg2 : w.heap.size < g2 := by
              rcases hat with h | h
              · have h : g' = g2 := Option.some.inj h
                omega
              · simp at h; omega
            have O3 : Owns w3 (w.heap.size + 1) (.slice (some ⟨g2, 0, none⟩) (L.length + (j + 1)) cap2) (L ++ (L.take (j + 1)).map (fun x => x ||| (1#64 <<< k))) := by
              have e := own_next HX.out (fun x => x ||| (1#64 <<< k))
              rw [e] at ho3
              unfold Owns
              rw [own_len (by omega)]
              exact ho3
            clear HO HN HG hgrow hat ho3
            go_wp2
            go_roundw
            case rel => exact ⟨j + 1, g2, cap2, by omega, rfl, by go_num, hg2, A3, O3, hG3⟩
            case measure => simp [intOf]; omega
          · obtain rfl : j = L.length := by omega
            go_wp2
            go_roundw
            case rel => exact ⟨k + 1, g', cap', by omega, by rw [HA.out]; simp, by go_num, hgB', K1.out, by rw [HA.out]; simpa using K2.out, K3.out⟩
            case measure => simp [intOf]; omega
    · obtain rfl : k = 64 := by omega
      go_wp2
      go_ret
      exact ⟨⟨g, cap, rfl, hgB, H2.out.row⟩, H3.out⟩
end Go.Proofs.Ytkfjjpdcbdbdiaa
