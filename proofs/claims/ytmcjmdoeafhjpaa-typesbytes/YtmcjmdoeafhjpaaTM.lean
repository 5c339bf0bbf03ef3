/- Towards the statements of package types (layer 10): Encode. -/
import Derived.Test.YtmcjmdoeafhjpaaTL
namespace Go.Proofs.Ytmcjmdoeafhjpaa
open Go.ChangeShapes Go.WideShapes Go.ChangeAt
open Go.RowKit Go.Shelf
set_option linter.unusedVariables false
set_option linter.unusedSimpArgs false
set_option maxRecDepth 20000

theorem Bl.trans' {a w w' : World} {B : Nat} (h : Bl a w) (k : Below B w w') (hB : a.heap.size ≤ B) : Bl a w' := Below.trans h (k.mono hB)
theorem heap_new (W : World) (cs : Array Value) (t : TypeId) : (W.alloc (.cells cs t)).heap[W.heap.size]? = some (.cells cs t (0, 0)) := by
  show (W.heap.push _)[W.heap.size]? = _
  simp
theorem heap_old (W : World) (o : Obj) {k : Nat} (h : k < W.heap.size) : (W.alloc o).heap[k]? = W.heap[k]? := ((Bl.refl W).alloc o).block k h
def txtM (s : ByteArray) : List UInt8 := toU8 s.size :: s.data.toList
def encF (x : Fd) : List UInt8 := txtM x.n ++ [x.k, x.a, x.o, x.d].map toU8
def encT (t : Ty) : List UInt8 := txtM t.n ++ [t.s, (t.fs.length : Int)].map toU8 ++ t.fs.flatMap encF
def encM (L : List Ty) : List UInt8 := toU8 L.length :: L.flatMap encT
theorem txt_len (s : ByteArray) : (txtM s).length = 1 + s.size := by
  rw [txtM, List.length_cons, Nat.add_comm]; rfl
theorem inB_iff {x : Int} : inB x = true ↔ 0 ≤ x ∧ x ≤ 255 := by simp [inB]
theorem encF_len {x : Fd} (h : fldB x = true) : (encF x).length ≤ 260 := by
  simp only [fldB, Bool.and_eq_true, inB_iff] at h
  rw [encF, List.length_append, txt_len]; simp; omega
theorem flat_len {α : Type} (f : α → List UInt8) (n : Nat) : ∀ l : List α, (∀ x ∈ l, (f x).length ≤ n) → (l.flatMap f).length ≤ l.length * n
  | [], _ => by simp
  | x :: l, h => by
    have h1 := h x (by simp)
    have h2 := flat_len f n l fun y hy => h y (by simp [hy])
    rw [List.flatMap_cons, List.length_append, List.length_cons, Nat.add_mul]; omega
theorem encT_len {t : Ty} (h : tyB t = true) : (encT t).length ≤ 66558 := by
  simp only [tyB, Bool.and_eq_true, inB_iff, List.all_eq_true] at h
  have := flat_len encF 260 t.fs fun x hx => encF_len (h.2 x hx)
  rw [encT, List.length_append, List.length_append, txt_len]; simp only [List.length_map, List.length_cons, List.length_nil]
  omega
theorem flat_take {α β : Type} (f : α → List β) {l : List α} {k : Nat} {x : α} (h : l[k]? = some x) : (l.take (k + 1)).flatMap f = (l.take k).flatMap f ++ f x := by
  rw [List.take_add_one, h]
  simp [List.flatMap_append]
set_option maxHeartbeats 2000000 in
theorem text_any (B b fb : Nat) (l : List UInt8) (s : ByteArray) (hs : s.size ≤ 255) (w : World) (hB : Lib.IsBuilderF 59 5 B b (Lib.byteCells l) w) (hBw : B ≤ w.heap.size) (hf : w.heap[fb]? = some (.cells #[.func (.func 28) #[] #[.pointer (some ⟨b, 0, none⟩)]] 67 (0, 0))) (hl : l.length ≤ 100000000) :
    Calls Try.prog 31 #[.string s, .pointer (some ⟨fb, 0, none⟩), .pointer (some ⟨b, 0, none⟩)] w fun e w' => (∃ v, e = .returned v) ∧ Lib.IsBuilderF 59 5 B b (Lib.byteCells (l ++ txtM s)) w' ∧ Wr B b w w' := by
  have hbs := builderF_lt hB
  have c0 : w.cell? ⟨fb, 0, none⟩ = some (.func (.func 28) #[] #[.pointer (some ⟨b, 0, none⟩)]) := by unfold World.cell?; rw [hf]; rfl
  have hal : Bl w (w.alloc (.cells #[.int .i64 s.size] 3)) := (Bl.refl _).alloc _
  have kn := num_any B b l [(s.size : Int)] (by simp; omega) w.heap.size 1 _ (builderF_gr hB hal) (Nat.le_trans hBw hal.size) (heap_new w _ 3) (by omega) (by simp; omega) (by simp)
  simp only [List.length_cons, List.length_nil, List.map_cons, List.map_nil, Nat.zero_add] at kn
  go_enter Try.func31, Try.ntmps31
  go_upto_region 1 with (go_at_call 28; refine kn.mono ?_; rintro e w2 ⟨⟨v, rfl⟩, hB2, hw2⟩)
  have kw := write_k B b _ s w2 hB2 (by simp; omega) (by have := hw2.bl.size; have := hal.size; omega)
  go_wp2_with (go_at_call 29; refine kw.mono ?_; rintro e w3 ⟨rfl, hB3, hw3⟩)
  go_returns
  refine ⟨⟨_, rfl⟩, ?_, (Wr.of hal hBw).trans (hw2.trans hw3)⟩
  rw [List.append_assoc] at hB3
  exact hB3

set_option maxHeartbeats 8000000 in
theorem encode_any (p : Option Addr) (c : Nat) (L : List Ty) (w : World) (hL : Tys w p L) : Calls Try.prog 10 #[.slice p L.length c] w fun e w' => e = .returned (if areB L then .tuple #[.string ⟨(encM L).toArray⟩, .int .i64 0] else .tuple #[.string ⟨#[]⟩, .int .i64 2]) ∧ Bl w w' := by
  have ka := areBytes_any p c L w hL
  have hlen := hL.len
  unfold maxLen at hlen
  cases hq : areB L with
  | false =>
    rw [hq] at ka
    go_enter Try.func10, Try.ntmps10
    go_wp2_with (go_at_call 27; refine ka.mono ?_; rintro e w1 ⟨rfl, hb1⟩)
    go_returns
    exact ⟨rfl, hb1⟩
  | true =>
  rw [hq] at ka
  have hq' := hq
  simp only [areB, Bool.and_eq_true, inB_iff, List.all_eq_true] at hq'
  obtain ⟨⟨l0, l1⟩, hty⟩ := hq'
  replace hq : Hid (areB L = true) := hq
  go_enter Try.func10, Try.ntmps10
  go_upto_region 6 with (go_at_call 27; refine ka.mono ?_; rintro e w1 ⟨rfl, hb1⟩)
  have hB0 : Lib.IsBuilderF 59 5 w1.heap.size w1.heap.size (Lib.byteCells []) ((w1.alloc (.cells #[.pointer none, .slice none 0 0] 59)).alloc (.cells #[.func (.func 28) #[] #[.pointer (some ⟨w1.heap.size, 0, none⟩)]] 67)) := builderF_gr (Lib.IsBuilderF.of (Lib.fresh_isBuilder 59 5 w1)) ((Bl.refl _).alloc _)
  have hf0 : ((w1.alloc (.cells #[.pointer none, .slice none 0 0] 59)).alloc (.cells #[.func (.func 28) #[] #[.pointer (some ⟨w1.heap.size, 0, none⟩)]] 67)).heap[w1.heap.size + 1]? = some (.cells #[.func (.func 28) #[] #[.pointer (some ⟨w1.heap.size, 0, none⟩)]] 67 (0, 0)) := by
    have := heap_new (w1.alloc (.cells #[.pointer none, .slice none 0 0] 59)) #[.func (.func 28) #[] #[.pointer (some ⟨w1.heap.size, 0, none⟩)]] 67
    rwa [size_new] at this
  have hbw0 : Bl w ((w1.alloc (.cells #[.pointer none, .slice none 0 0] 59)).alloc (.cells #[.func (.func 28) #[] #[.pointer (some ⟨w1.heap.size, 0, none⟩)]] 67)) := (hb1.alloc _).alloc _
  have hs0 : ((w1.alloc (.cells #[.pointer none, .slice none 0 0] 59)).alloc (.cells #[.func (.func 28) #[] #[.pointer (some ⟨w1.heap.size, 0, none⟩)]] 67)).heap.size ≥ w1.heap.size + 2 := by rw [size_new, size_new]; omega
  generalize ((w1.alloc (.cells #[.pointer none, .slice none 0 0] 59)).alloc (.cells #[.func (.func 28) #[] #[.pointer (some ⟨w1.heap.size, 0, none⟩)]] 67)) = W0 at hB0 hf0 hbw0 hs0 ⊢
  have hwb := hb1.size
  generalize w1.heap.size = b at hB0 hf0 hs0 hwb ⊢
  have c0 : W0.cell? ⟨b + 1, 0, none⟩ = some (.func (.func 28) #[] #[.pointer (some ⟨b, 0, none⟩)]) := by unfold World.cell?; rw [hf0]; rfl
  have hal : Bl W0 (W0.alloc (.cells #[.int .i64 L.length] 3)) := (Bl.refl _).alloc _
  have kn := num_any b b [] [(L.length : Int)] (by simp; omega) W0.heap.size 1 _ (builderF_gr hB0 hal) (by rw [size_new]; omega) (heap_new W0 _ 3) (by omega) (by simp) (by simp)
  simp only [List.length_cons, List.length_nil, List.map_cons, List.map_nil, Nat.zero_add, List.nil_append] at kn
  go_wp2_with (go_at_call 28; refine kn.mono ?_; rintro e w2 ⟨⟨v, rfl⟩, hB2, hw2⟩)
  have hw02 : Wr b b W0 w2 := (Wr.of hal (by omega)).trans hw2
  clear c0 kn hw2 hal
  go_loopw [23] (fun n wr => ∃ i : Nat, n = .int .i64 i ∧ i ≤ L.length ∧ Lib.IsBuilderF 59 5 b b (Lib.byteCells (toU8 L.length :: (L.take i).flatMap encT)) wr ∧ Wr b b W0 wr) (fun n _ => L.length - (intOf n).toNat)
  case atStart => exact ⟨0, rfl, by omega, hB2, hw02⟩
  case round =>
    clear hB2 hw02
    obtain ⟨i, rfl, hi, hBi, hwr⟩ := hrel
    have hbwr : Bl w wr := hbw0.trans' hwr.bl hwb
    by_cases h : i < L.length
    · have d : decide ((i : Int) < L.length) = true := by simp; omega
      obtain ⟨t, hxk⟩ : ∃ t, L[i]? = some t := ⟨L[i], List.getElem?_eq_getElem _⟩
      have e9 : IntKind.i64.wrap ((i : Int) + 1) = (i : Int) + 1 := IntWalk.i64_in _ (by omega)
      obtain ⟨b1, off, rfl, hb11, ⟨c0, c1, c2⟩, hok, hil⟩ := (hL.gr hbwr).get hxk
      have htB := hty t (List.mem_of_getElem? hxk)
      have hlenT : ((L.take i).flatMap encT).length ≤ i * 66558 := by
        have := flat_len encT 66558 (L.take i) fun y hy => encT_len (hty y (List.mem_of_mem_take hy))
        rw [List.length_take, Nat.min_eq_left (by omega)] at this
        exact this
      have hnext : Hid (toU8 L.length :: (L.take (i + 1)).flatMap encT = (toU8 L.length :: (L.take i).flatMap encT) ++ encT t) := by
        show _ = _
        rw [flat_take encT hxk]; rfl
      have hmem : Hid (t ∈ L) := List.mem_of_getElem? hxk
      generalize hP : toU8 L.length :: (L.take i).flatMap encT = P at hBi hnext
      replace hP : P.length ≤ 1 + i * 66558 := by rw [← hP, List.length_cons]; omega
      clear hlenT hxk
      have htB' := htB
      simp only [tyB, Bool.and_eq_true, inB_iff, List.all_eq_true] at htB'
      obtain ⟨⟨⟨⟨n0, n1⟩, ⟨s0, s1⟩⟩, ⟨f0, f1⟩⟩, hfB⟩ := htB'
      replace htB : Hid (tyB t = true) := htB
      have hpp : t.fs = [] ∨ ∃ b5 off5, t.p = some ⟨b5, off5, none⟩ := by
        rcases hok.f.at' with h | ⟨b5, off5, h, _⟩
        · exact .inl h
        · exact .inr ⟨b5, off5, h⟩
      have hsw : W0.heap.size ≤ wr.heap.size := hwr.bl.size
      have hal : Bl wr (wr.alloc (.cells t.cs 42)) := (Bl.refl _).alloc _
      have hTh := heap_new wr t.cs 42
      have hal1 : Wr b b wr (wr.alloc (.cells t.cs 42)) := Wr.of hal (by omega)
      have hfb := (hwr.trans hal1).heap hf0 (by omega) (by decide)
      have kt := text_any b b (b + 1) P t.n (by omega) _ (builderF_gr hBi hal) (by have := hal.size; omega) hfb (by omega)
      obtain ⟨tn, ts, tp, tc, tfs⟩ := t
      dsimp only [Ty.cs] at *
      rcases hpp with hnil | ⟨b5, off5, rfl⟩
      · replace hnil : Hid (tfs = []) := hnil
        go_upto_region 11 with (go_at_call 31; refine kt.mono ?_; rintro e w3 ⟨⟨v3, rfl⟩, hB3, hw3⟩)
        have hT3 := hw3.heap hTh (by omega) (by decide)
        have hf3 := hw3.heap hfb (by omega) (by decide)
        have y1 : w3.cell? ⟨wr.heap.size, 1, none⟩ = some (.int .i64 ts) := by unfold World.cell?; rw [hT3]; rfl
        have y2 : w3.cell? ⟨wr.heap.size, 2, none⟩ = some (.slice tp tfs.length tc) := by unfold World.cell?; rw [hT3]; rfl
        have g0 : w3.cell? ⟨b + 1, 0, none⟩ = some (.func (.func 28) #[] #[.pointer (some ⟨b, 0, none⟩)]) := by unfold World.cell?; rw [hf3]; rfl
        have hs3 : wr.heap.size + 1 ≤ w3.heap.size := by have := hw3.bl.size; rw [size_new] at this; exact this
        have hal3 : Bl w3 (w3.alloc (.cells #[.int .i64 ts, .int .i64 tfs.length] 3)) := (Bl.refl _).alloc _
        have kn := num_any b b (P ++ txtM tn) [ts, (tfs.length : Int)] (by simp; omega) w3.heap.size 2 _ (builderF_gr hB3 hal3) (by rw [size_new]; omega) (heap_new w3 _ 3) (by omega) (by rw [List.length_append, txt_len]; simp; omega) (by simp)
        simp only [List.length_cons, List.length_nil, List.map_cons, List.map_nil, Nat.zero_add, Nat.reduceAdd] at kn
        have hwr3 : Wr b b W0 w3 := hwr.trans (hal1.trans hw3)
        clear kt c0 c1 c2
        go_upto_region 12 with (go_at_call 28; refine kn.mono ?_; rintro e w4 ⟨⟨v4, rfl⟩, hB4, hw4⟩)
        have hT4 := hw4.heap ((heap_old w3 _ (by omega)).trans hT3) (by omega) (by decide)
        have z2 : w4.cell? ⟨wr.heap.size, 2, none⟩ = some (.slice tp tfs.length tc) := by unfold World.cell?; rw [hT4]; rfl
        have hwr4 : Wr b b W0 w4 := hwr3.trans ((Wr.of hal3 (by omega)).trans hw4)
        clear y1 y2 g0 kn
        have hfl : tfs.length ≤ 255 := by omega
        generalize hP2 : P ++ txtM tn ++ [toU8 ts, toU8 tfs.length] = P2 at hB4
        have hnext2 : Hid (P2 ++ tfs.flatMap encF = P ++ encT ⟨tn, ts, tp, tc, tfs⟩) := by
          show _ = _
          rw [← hP2, encT]; simp
        replace hP2 : P2.length ≤ 1 + i * 66558 + 258 := by rw [← hP2, List.length_append, List.length_append, txt_len]; simp; omega
        go_wp2
        go_loopw [42] (fun n wr => ∃ k : Nat, n = .int .i64 k ∧ k ≤ tfs.length ∧ Lib.IsBuilderF 59 5 b b (Lib.byteCells (P2 ++ (tfs.take k).flatMap encF)) wr ∧ Wr b b W0 wr) (fun n _ => tfs.length - (intOf n).toNat)
        case atStart => exact ⟨0, rfl, by omega, by simpa using hB4, hwr4⟩
        case round =>
          clear hB4 hwr4 z2 hT4 hw4 hal3 hwr3 hs3 hf3 hT3 hw3 hB3 hfb hal1 hTh hal hsw hok hbwr hwr hBi
          obtain ⟨m, rfl, hm, hBm, hwr⟩ := hrel
          have hbwr : Bl w wr := hbw0.trans' hwr.bl hwb
          by_cases hmt : m < tfs.length
          · exact absurd hmt (by rw [hnil.out]; simp)
          · have dm : decide ((m : Int) < tfs.length) = false := by simp; omega
            obtain rfl : m = tfs.length := by omega
            rw [List.take_length, hnext2.out, ← hnext.out] at hBm
            go_wp2
            exact ⟨⟨i + 1, by simp, by omega, hBm, hwr⟩, by simp [intOf]; omega⟩
      · go_upto_region 11 with (go_at_call 31; refine kt.mono ?_; rintro e w3 ⟨⟨v3, rfl⟩, hB3, hw3⟩)
        have hT3 := hw3.heap hTh (by omega) (by decide)
        have hf3 := hw3.heap hfb (by omega) (by decide)
        have y1 : w3.cell? ⟨wr.heap.size, 1, none⟩ = some (.int .i64 ts) := by unfold World.cell?; rw [hT3]; rfl
        have y2 : w3.cell? ⟨wr.heap.size, 2, none⟩ = some (.slice (some ⟨b5, off5, none⟩) tfs.length tc) := by unfold World.cell?; rw [hT3]; rfl
        have g0 : w3.cell? ⟨b + 1, 0, none⟩ = some (.func (.func 28) #[] #[.pointer (some ⟨b, 0, none⟩)]) := by unfold World.cell?; rw [hf3]; rfl
        have hs3 : wr.heap.size + 1 ≤ w3.heap.size := by have := hw3.bl.size; rw [size_new] at this; exact this
        have hal3 : Bl w3 (w3.alloc (.cells #[.int .i64 ts, .int .i64 tfs.length] 3)) := (Bl.refl _).alloc _
        have kn := num_any b b (P ++ txtM tn) [ts, (tfs.length : Int)] (by simp; omega) w3.heap.size 2 _ (builderF_gr hB3 hal3) (by rw [size_new]; omega) (heap_new w3 _ 3) (by omega) (by rw [List.length_append, txt_len]; simp; omega) (by simp)
        simp only [List.length_cons, List.length_nil, List.map_cons, List.map_nil, Nat.zero_add, Nat.reduceAdd] at kn
        have hwr3 : Wr b b W0 w3 := hwr.trans (hal1.trans hw3)
        clear kt c0 c1 c2
        go_upto_region 12 with (go_at_call 28; refine kn.mono ?_; rintro e w4 ⟨⟨v4, rfl⟩, hB4, hw4⟩)
        have hT4 := hw4.heap ((heap_old w3 _ (by omega)).trans hT3) (by omega) (by decide)
        have z2 : w4.cell? ⟨wr.heap.size, 2, none⟩ = some (.slice (some ⟨b5, off5, none⟩) tfs.length tc) := by unfold World.cell?; rw [hT4]; rfl
        have hwr4 : Wr b b W0 w4 := hwr3.trans ((Wr.of hal3 (by omega)).trans hw4)
        clear y1 y2 g0 kn
        have hfl : tfs.length ≤ 255 := by omega
        generalize hP2 : P ++ txtM tn ++ [toU8 ts, toU8 tfs.length] = P2 at hB4
        have hnext2 : Hid (P2 ++ tfs.flatMap encF = P ++ encT ⟨tn, ts, (some ⟨b5, off5, none⟩), tc, tfs⟩) := by
          show _ = _
          rw [← hP2, encT]; simp
        replace hP2 : P2.length ≤ 1 + i * 66558 + 258 := by rw [← hP2, List.length_append, List.length_append, txt_len]; simp; omega
        go_wp2
        go_loopw [42] (fun n wr => ∃ k : Nat, n = .int .i64 k ∧ k ≤ tfs.length ∧ Lib.IsBuilderF 59 5 b b (Lib.byteCells (P2 ++ (tfs.take k).flatMap encF)) wr ∧ Wr b b W0 wr) (fun n _ => tfs.length - (intOf n).toNat)
        case atStart => exact ⟨0, rfl, by omega, by simpa using hB4, hwr4⟩
        case round =>
          clear hB4 hwr4 z2 hT4 hw4 hal3 hwr3 hs3 hf3 hT3 hw3 hB3 hfb hal1 hTh hal hsw hok hbwr hwr hBi
          obtain ⟨m, rfl, hm, hBm, hwr⟩ := hrel
          have hbwr : Bl w wr := hbw0.trans' hwr.bl hwb
          by_cases hmt : m < tfs.length
          · have dm : decide ((m : Int) < tfs.length) = true := by simp; omega
            obtain ⟨x, hxm⟩ : ∃ x, tfs[m]? = some x := ⟨tfs[m], List.getElem?_eq_getElem _⟩
            have e8 : IntKind.i64.wrap ((m : Int) + 1) = (m : Int) + 1 := IntWalk.i64_in _ (by omega)
            have hok4 := (hL.gr hbwr).ok _ hmem.out
            obtain ⟨b6, off6, hp5, hb5, ⟨z0, z1, z2, z3, z4⟩, hxok, _⟩ := hok4.f.get hxm
            cases hp5
            have hxB := hfB x (List.mem_of_getElem? hxm)
            have hlenF : ((tfs.take m).flatMap encF).length ≤ m * 260 := by
              have := flat_len encF 260 (tfs.take m) fun y hy => encF_len (hfB y (List.mem_of_mem_take hy))
              rw [List.length_take, Nat.min_eq_left (by omega)] at this
              exact this
            have hnx : Hid (P2 ++ (tfs.take (m + 1)).flatMap encF = (P2 ++ (tfs.take m).flatMap encF) ++ encF x) := by
              show _ = _
              rw [flat_take encF hxm, List.append_assoc]
            generalize hQ : P2 ++ (tfs.take m).flatMap encF = Q at hBm hnx
            replace hQ : Q.length ≤ 1 + i * 66558 + 258 + m * 260 := by rw [← hQ, List.length_append]; omega
            clear hlenF hxm
            simp only [fldB, Bool.and_eq_true, inB_iff] at hxB
            obtain ⟨⟨⟨⟨xn0, xn1⟩, ⟨xa0, xa1⟩⟩, ⟨xo0, xo1⟩⟩, ⟨xd0, xd1⟩⟩ := hxB
            obtain ⟨xk0, xk1⟩ := hxok.k
            have e7 : IntKind.i64.wrap x.k = x.k := IntWalk.i64_in _ (by omega)
            have hsw : W0.heap.size ≤ wr.heap.size := hwr.bl.size
            have hal : Bl wr (wr.alloc (.cells #[.string x.n, .int .u8 x.k, .int .i64 x.a, .int .i64 x.o, .int .i64 x.d] 48)) := (Bl.refl _).alloc _
            have hTh := heap_new wr #[.string x.n, .int .u8 x.k, .int .i64 x.a, .int .i64 x.o, .int .i64 x.d] 48
            have hal1 : Wr b b wr (wr.alloc (.cells #[.string x.n, .int .u8 x.k, .int .i64 x.a, .int .i64 x.o, .int .i64 x.d] 48)) := Wr.of hal (by omega)
            have hfb := (hwr.trans hal1).heap hf0 (by omega) (by decide)
            have kt := text_any b b (b + 1) Q x.n (by omega) _ (builderF_gr hBm hal) (by have := hal.size; omega) hfb (by omega)
            go_upto_region 16 with (go_at_call 31; refine kt.mono ?_; rintro e w3 ⟨⟨v3, rfl⟩, hB3, hw3⟩)
            have hT3 := hw3.heap hTh (by omega) (by decide)
            have hf3 := hw3.heap hfb (by omega) (by decide)
            have y1 : w3.cell? ⟨wr.heap.size, 1, none⟩ = some (.int .u8 x.k) := by unfold World.cell?; rw [hT3]; rfl
            have y2 : w3.cell? ⟨wr.heap.size, 2, none⟩ = some (.int .i64 x.a) := by unfold World.cell?; rw [hT3]; rfl
            have y3 : w3.cell? ⟨wr.heap.size, 3, none⟩ = some (.int .i64 x.o) := by unfold World.cell?; rw [hT3]; rfl
            have y4 : w3.cell? ⟨wr.heap.size, 4, none⟩ = some (.int .i64 x.d) := by unfold World.cell?; rw [hT3]; rfl
            have g0 : w3.cell? ⟨b + 1, 0, none⟩ = some (.func (.func 28) #[] #[.pointer (some ⟨b, 0, none⟩)]) := by unfold World.cell?; rw [hf3]; rfl
            have hs3 : wr.heap.size + 1 ≤ w3.heap.size := by have := hw3.bl.size; rw [size_new] at this; exact this
            have hal3 : Bl w3 (w3.alloc (.cells #[.int .i64 x.k, .int .i64 x.a, .int .i64 x.o, .int .i64 x.d] 3)) := (Bl.refl _).alloc _
            have kn := num_any b b (Q ++ txtM x.n) [x.k, x.a, x.o, x.d] (by simp; omega) w3.heap.size 4 _ (builderF_gr hB3 hal3) (by rw [size_new]; omega) (heap_new w3 _ 3) (by omega) (by rw [List.length_append, txt_len]; simp; omega) (by simp)
            simp only [List.length_cons, List.length_nil, List.map_cons, List.map_nil, Nat.zero_add, Nat.reduceAdd] at kn
            clear kt z0 z1 z2 z3 z4
            go_wp2_with (go_at_call 28; refine kn.mono ?_; rintro e w4 ⟨⟨v4, rfl⟩, hB4, hw4⟩)
            have e5 : Q ++ txtM x.n ++ [toU8 x.k, toU8 x.a, toU8 x.o, toU8 x.d] = P2 ++ (tfs.take (m + 1)).flatMap encF := by rw [hnx.out, encF]; simp
            rw [e5] at hB4
            exact ⟨⟨m + 1, by simp, by omega, hB4, hwr.trans (hal1.trans (hw3.trans ((Wr.of hal3 (by omega)).trans hw4)))⟩, by simp [intOf]; omega⟩
          · have dm : decide ((m : Int) < tfs.length) = false := by simp; omega
            obtain rfl : m = tfs.length := by omega
            rw [List.take_length, hnext2.out, ← hnext.out] at hBm
            go_wp2
            exact ⟨⟨i + 1, by simp, by omega, hBm, hwr⟩, by simp [intOf]; omega⟩
    · have d : decide ((i : Int) < L.length) = false := by simp; omega
      obtain rfl : i = L.length := by omega
      rw [List.take_length] at hBi
      have ks := Try.Builder_String_any_f b b (encM L) wr hBi (by have := hwr.bl.size; omega)
      go_wp2_with (go_at_call 32; refine ks.mono ?_; rintro e w3 ⟨rfl, _, hb3⟩)
      go_returns
      exact ⟨rfl, hbwr.trans' hb3 hwb⟩
end Go.Proofs.Ytmcjmdoeafhjpaa
