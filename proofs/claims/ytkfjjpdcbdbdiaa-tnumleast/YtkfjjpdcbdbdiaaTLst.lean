/- Towards the statements of package tnum (layer 3): the least set that has all of some numbers. -/
import Derived.Test.YtkfjjpdcbdbdiaaTFew
namespace Go.Proofs.Ytkfjjpdcbdbdiaa
open Go.ChangeShapes Go.WideShapes Go.ChangeAt Go.RowKit
set_option linter.unusedVariables false
set_option maxRecDepth 20000

/-- Block b holds the numbers L, from its beginning on. -/
def RowB (w : World) (b : Nat) (L : List (BitVec 64)) : Prop := ∀ (i : Nat) (v : BitVec 64), L[i]? = some v → w.cell? ⟨b, i, none⟩ = some (.int .u64 (iv v))
theorem cell_grw {w w' : World} {a : Addr} {v : Value} (g : Gr w w') (h : w.cell? a = some v) : w'.cell? a = some v := by
  rw [← h]
  exact (World.cell?_of_block (g.below.block a.block (World.block_lt_of_cell? w a h)))
theorem RowB.gr {w w' : World} {b : Nat} {L : List (BitVec 64)} (h : RowB w b L) (g : Gr w w') : RowB w' b L := fun i v hv => cell_grw g (h i v hv)
theorem of0_gr (x : BitVec 64) (w : World) : Calls Try.prog 9 #[.int .u64 (iv x), .int .u64 0] w fun e w' => e = .returned (.agg #[.int .u64 (iv x), .int .u64 (iv 0#64)]) ∧ Gr w w' := by
  have h := of_gr x 0#64 w
  have e : x &&& ~~~0#64 = x := by
    rw [show ~~~0#64 = BitVec.allOnes 64 from by decide, BitVec.and_allOnes]
  rw [e] at h
  exact h
set_option maxHeartbeats 4000000 in
theorem least_any (b cap : Nat) (x0 : BitVec 64) (L : List (BitVec 64)) (hl : L.length < 1000000) (w : World) (hr : RowB w b (x0 :: L)) : Calls Try.prog 13 #[.slice (some ⟨b, 0, none⟩) (L.length + 1) cap] w fun e w' => e = .returned (.agg #[.int .u64 (iv (Tn.leastM x0 0#64 L).1), .int .u64 (iv (Tn.leastM x0 0#64 L).2)]) ∧ Gr w w' := by
  have HR : Hid (RowB w b (x0 :: L)) := hr
  have c0 : (w.alloc (.cells #[.int .u64 0, .int .u64 0] 24)).cell? ⟨b, 0, none⟩ = some (.int .u64 (iv x0)) := cell_grw ((Gr.refl w).alloc _ _) (hr 0 x0 rfl)
  clear hr
  go_enter Try.func13, Try.ntmps13
  go_wp2_with (first
    | (go_at_call 9; refine (of0_gr _ _).mono ?_; rintro e w1 ⟨rfl, g1⟩))
  have G0 : Hid (Gr w (w1.alloc (.cells #[.int .u64 (iv x0), .int .u64 (iv 0#64)] 24))) := (((Gr.refl w).alloc _ _).trans g1).alloc _ _
  have K0 : Hid (At (w1.alloc (.cells #[.int .u64 (iv x0), .int .u64 (iv 0#64)] 24)) w.heap.size 0#64 0#64) := ((At.newz w rfl).gr g1).alloc _
  have KT : Hid (At (w1.alloc (.cells #[.int .u64 (iv x0), .int .u64 (iv 0#64)] 24)) w1.heap.size x0 0#64) := At.new w1 x0 0#64
  have hsz : w.heap.size < w1.heap.size := by have := g1.below.size; simp at this; omega
  clear c0 g1
  go_loopw [4] (fun i wr => ∃ (k : Nat) (v m : BitVec 64), k ≤ L.length ∧ i = .int .i64 ((k : Int) + 1) ∧ At wr w1.heap.size v m ∧ At wr w.heap.size 0#64 0#64 ∧ Tn.leastM v m (L.drop k) = Tn.leastM x0 0#64 L ∧ Gr w wr) (fun i _ => L.length + 1 - (intOf i).toNat)
  case atStart => exact ⟨0, x0, 0#64, by omega, rfl, KT.out, K0.out, rfl, G0.out⟩
  case round =>
    obtain ⟨k, v, m, hk, rfl, h1, h2, h3, h4⟩ := hrel
    have H1 : Hid _ := h1
    have H2 : Hid _ := h2
    have H3 : Hid (Tn.leastM v m (L.drop k) = Tn.leastM x0 0#64 L) := h3
    have H4 : Hid (Gr w wr) := h4
    clear h1 h2 h3 h4 KT K0 G0
    by_cases hlt : k < L.length
    · obtain ⟨x, hx⟩ : ∃ x, L[k]? = some x := ⟨L[k], List.getElem?_eq_getElem hlt⟩
      have cx : wr.cell? ⟨b, k + 1, none⟩ = some (.int .u64 (iv x)) := cell_grw H4.out (HR.out (k + 1) x (by simpa using hx))
      have t0 := At.c0 H1.out
      have t1 := At.c1 H1.out
      have b1 : (0 : Int) ≤ (k : Int) + 1 := by omega
      have b2 : (k : Int) + 1 < (L.length : Int) + 1 := by omega
      have r1 := iv_xor v x
      have r2 := iv_or m (v ^^^ x)
      go_wp2_with fail
      go_region
      have cx' : wr.drew.cell? ⟨b, k + 1, none⟩ = some (.int .u64 (iv x)) := cx
      clear cx t0 t1
      go_wp2_with (first
        | (go_at_call 9; refine (of_gr _ _ _).mono ?_; rintro e w2 ⟨rfl, g2⟩; have hx1 := At.gr (At.drew H1.out) g2; have f0 := hx1.f0 0; have f1 := hx1.f0 1; have c0 := hx1.c0; have c1 := hx1.c1; clear hx1))
      go_roundw
      case rel =>
        refine ⟨k + 1, x &&& ~~~(m ||| v ^^^ x), m ||| v ^^^ x, by omega, by go_num, (At.gr (At.drew H1.out) g2).set _ _, ((At.gr (At.drew H2.out) g2).other (by omega) _).other (by omega) _, ?_, ((H4.out.drew.trans g2).set (by omega) _).set (by omega) _⟩
        rw [← H3.out, List.drop_eq_getElem_cons hlt, Tn.leastM]
        have e : L[k] = x := by rw [List.getElem?_eq_getElem hlt] at hx; exact Option.some.inj hx
        rw [e]
      case measure => simp [intOf]; omega
    · obtain rfl : k = L.length := by omega
      have t0 := At.c0 H1.out
      have t1 := At.c1 H1.out
      have f0 := At.f0 H2.out 0
      have f1 := At.f0 H2.out 1
      have c0 := At.c0 H2.out
      have c1 := At.c1 H2.out
      have e0 := (At.set H2.out v m).c0
      have e1 := (At.set H2.out v m).c1
      have q : Hid (Tn.leastM x0 0#64 L = (v, m)) := (by rw [← H3.out, List.drop_length, Tn.leastM] : Tn.leastM x0 0#64 L = (v, m))
      go_wp2_with fail
      refine bodyPost_ret (by simp [results, Try.results13, go_sem, e0, e1]; try rfl) rfl ?_
      exact ⟨by rw [q.out], (H4.out.set (by omega) _).set (by omega) _⟩
end Go.Proofs.Ytkfjjpdcbdbdiaa
