/- Towards the statements of package code (layer 8): calls, an iterator over a loop over another one: the subprograms that one calls. -/
import Derived.Test.YtdmdmbcapjmnlabRF
namespace Go.Proofs.Ytdmdmbcapjmnlab
open Go.ChangeShapes Go.WideShapes Go.ChangeAt
open Go.RowKit Go.Shelf
set_option linter.unusedVariables false
set_option linter.unusedSimpArgs false
set_option maxRecDepth 20000
attribute [local go_sem] Oper.semAt_some

theorem calls_any (q : Option Addr) (x : Int) (w : World) : Calls Try.prog 55 #[.pointer q, .int .i64 x] w fun e w' => e = .returned (.func (.func 69) #[] #[.pointer (some ⟨w.heap.size, 0, none⟩), .pointer (some ⟨w.heap.size + 1, 0, none⟩)]) ∧ w' = (w.alloc (.cells #[.pointer q] 42)).alloc (.cells #[.int .i64 x] 3) := by
  go_enter Try.func55, Try.ntmps55
  go_wp2
  go_returns
  exact ⟨by simp, rfl⟩
/-- Whom an instruction calls: the place of that subprogram. -/
def callN (L : List Sl) (HL : List Nat) (x : Int) : Option Nat := match calleeM L x with
  | some t => if funB L x = true then none else some (HL[t.toNat]?.getD 0)
  | none => none
theorem round_any {m m' : Nat} {l : Nat} {fn : FuncId} {tmps : Array Value} {assign body : Code} {W : World} {R : Ending → World → Prop} (h : RoundIn Fence.wide m Try.prog l fn tmps assign body W R) : RoundIn Fence.wide m' Try.prog l fn tmps assign body W R := ⟨h.1, fun c cs _ => h.2 c cs (room_wide _)⟩
theorem round_in {m : Nat} {l l2 : Nat} {fn : FuncId} {tmps : Array Value} {assign body : Code} {W : World} {R : Ending → World → Prop} (h : RoundIn Fence.wide m Try.prog l fn tmps assign body W R) : RoundIn (Fence.wide.inRound l2) m Try.prog l fn tmps assign body W R := h
theorem map_inj {α : Type} {f : α → Int} (h : ∀ a b, f a = f b → a = b) : ∀ {l m : List α}, l.map f = m.map f → l = m
  | [], [], _ => rfl
  | a :: l, b :: m, e => by simp at e; rw [h a b e.1, map_inj h (l := l) (m := m) e.2]
theorem kf_mono {B B' : Nat} {W W' : World} (h : KeepsFrom B W W') (hB : B ≤ B') : KeepsFrom B' W W' := ⟨h.size, fun k o hk => h.same k o (Nat.le_trans hB hk)⟩
structure CallW (b : Bool) (p q : Prop) : Prop where
  no : b = false → p
  yes : b = true → q
set_option maxRecDepth 100000 in
set_option maxHeartbeats 4000000 in
theorem calls1_in {α : Type} (enc : α → Int) (n : Nat) (hn : 4 ≤ n) (l Bp Bs P bb sb hb : Nat) (S : Nat → Prop) (hSp : S Bp) (hSs : S Bs) (hSP : S P) (hSb : S bb) (hSsb : S sb) (hShb : S hb) (sv vb vs vh : Value) (L : List Sl) (Bg : List Bool) (hLB : Bg.length = L.length) (SL : List (Nat × Nat)) (HL : List Nat) (hHL : HL.length = L.length) (k : Nat) (x : Nat × Nat) (hk : SL[k]? = some x) (hx1 : x.1 ≤ x.2) (hx2 : x.2 ≤ L.length)
    (hcal : ∀ y ∈ begL Bg x.1 x.2, ∀ t, calleeM L y = some t → 0 ≤ t ∧ t < L.length) (xs : List α) (hxs : xs.map enc = ((begL Bg x.1 x.2).filterMap (callN L HL)).map Int.ofNat) (J : List α → World → Prop) (W : World) (hJ : OwnFrom W.heap.size J)
    (hY : ∀ pre y W1, J pre W1 → pre.length < 4096 → YieldAt Fence.wide (n - 1) Try.prog l #[.int .i64 (enc y)] W1 fun e W' => e = .returned (.bool true) ∧ J (pre ++ [y]) W' ∧ (Keep S W1 W' ∧ W1.heap.size ≤ W'.heap.size ∧ TKeep W1 W' ∧ KeepsFrom W.heap.size W1 W')) (h0 : J [] W) (hinj : ∀ a b : α, enc a = enc b → a = b) (hSlt : ∀ b, S b → b < W.heap.size)
    (hR : Rec W P sv vb vs vh) (hL : Slots S W sv L) (hB : Bools W bb vb Bg) (hS : SubsAt W sb vs SL) (hH : HomeAt W hb vh HL) (cp : W.cell? ⟨Bp, 0, none⟩ = some (.pointer (some ⟨P, 0, none⟩))) (cx : W.cell? ⟨Bs, 0, none⟩ = some (.int .i64 k)) :
    CallsIn Fence.wide n Try.prog 69 #[.func (.yield l) #[] #[], .pointer (some ⟨Bp, 0, none⟩), .pointer (some ⟨Bs, 0, none⟩)] W fun e W' => (∃ v, e = .returned v) ∧ J xs W' := by
  have h1 : 1 ≤ n := by omega
  obtain ⟨p, c, rfl⟩ := hL.shape
  obtain ⟨cs, rfl⟩ := hS.val
  obtain ⟨ch, rfl⟩ := hH.val
  have hlen := hL.len
  have hl1 := hS.len
  have hl2 := hH.len
  have hk1 : k < SL.length := (List.getElem?_eq_some_iff.1 hk).1
  refine callsIn_of_wp_marks Try.func69 rfl trivial ?_ rfl
  simp only [Try.ntmps69, List.size_toArray, List.length_cons, List.length_nil, Nat.reduceAdd, Nat.reduceSub, Array.replicate_succ, Array.replicate_zero, List.push_toArray, List.append_toArray, List.nil_append, List.cons_append]
  gi_wp2
  have hb1 : Below W.heap.size W (W.alloc (.cells #[.func (.yield l) #[] #[]] 72)) := (Below.refl _ W).alloc (Nat.le_refl _) _
  have hs1 : (W.alloc (.cells #[.func (.yield l) #[] #[]] 72)).heap.size = W.heap.size + 1 := by simp
  have q0 : (W.alloc (.cells #[.func (.yield l) #[] #[]] 72)).heap[W.heap.size]? = some (.cells #[.func (.yield l) #[] #[]] 72) := World.alloc_heap_new W _
  have hJ1 : J [] (W.alloc (.cells #[.func (.yield l) #[] #[]] 72)) := hJ.alloc _ h0
  have hR1 := hR.gr hb1
  have hB1 := hB.gr hb1
  have hS1 := hS.gr hb1
  have cp1 := (hb1.cell (p := ⟨Bp, 0, none⟩) (hSlt _ hSp)).trans cp
  have cx1 := (hb1.cell (p := ⟨Bs, 0, none⟩) (hSlt _ hSs)).trans cx
  generalize W.alloc (.cells #[.func (.yield l) #[] #[]] 72) = w1 at hb1 hs1 q0 hJ1 hR1 hB1 hS1 cp1 cx1 ⊢
  obtain ⟨r0, r1, r2, r3⟩ := hR1.cells
  obtain ⟨s0, s1⟩ := hS1.cell k x hk
  refine wpIn_wide.2 ?_
  go_region_held3 (fun w' => w'.cell? ⟨Bp, 0, none⟩ = some (.pointer (some ⟨P, 0, none⟩)) ∧ w'.cell? ⟨Bs, 0, none⟩ = some (.int .i64 k) ∧ w'.cell? ⟨P, 2, none⟩ = some (.slice (some ⟨sb, 0, none⟩) SL.length cs) ∧ w'.cell? ⟨sb, k * 2, none⟩ = some (.int .i64 x.1) ∧ w'.cell? ⟨sb, k * 2 + 1, none⟩ = some (.int .i64 x.2)) ((refine ⟨?_, ?_, ?_, ?_, ?_⟩ <;> repeat (with_reducible (first | assumption | apply cell_al | apply cell_dr)))) (first | (go_at_call 49; refine (begin_any _ _ _ _).mono ?_; rintro e w' ⟨rfl, hw⟩; subst hw))
  have hit0 := begin_iter (Subtype.val : {y : Int // y ∈ begL Bg x.1 x.2} → Int) (begL Bg x.1 x.2).attach P bb _ vb _ _ Bg (by omega) x.1 x.2 hx1 (by omega) w1 hR1 hB1.lt hB1 (List.attach_map_subtype_val _)
  rw [hs1] at hit0
  have hbd : Below ((w1.alloc (.cells #[.pointer (some ⟨P, 0, none⟩)] 42)).alloc (.cells #[.int .i64 (x.1 : Nat), .int .i64 (x.2 : Nat)] 37)).heap.size ((w1.alloc (.cells #[.pointer (some ⟨P, 0, none⟩)] 42)).alloc (.cells #[.int .i64 (x.1 : Nat), .int .i64 (x.2 : Nat)] 37)) (((w1.alloc (.cells #[.pointer (some ⟨P, 0, none⟩)] 42)).alloc (.cells #[.int .i64 (x.1 : Nat), .int .i64 (x.2 : Nat)] 37)).drew) := (Below.refl _ _).drew
  have hit := hit0.gr hbd
  have hbW : Below w1.heap.size w1 (((w1.alloc (.cells #[.pointer (some ⟨P, 0, none⟩)] 42)).alloc (.cells #[.int .i64 (x.1 : Nat), .int .i64 (x.2 : Nat)] 37)).drew) := (((Below.refl _ w1).alloc (Nat.le_refl _) _).alloc (by simp) _).drew
  have hs0 : (((w1.alloc (.cells #[.pointer (some ⟨P, 0, none⟩)] 42)).alloc (.cells #[.int .i64 (x.1 : Nat), .int .i64 (x.2 : Nat)] 37)).drew).heap.size = W.heap.size + 3 := by show ((w1.alloc _).alloc _).heap.size = _; simp [hs1]
  have q1 : (((w1.alloc (.cells #[.pointer (some ⟨P, 0, none⟩)] 42)).alloc (.cells #[.int .i64 (x.1 : Nat), .int .i64 (x.2 : Nat)] 37)).drew).heap[W.heap.size + 1]? = some (.cells #[.pointer (some ⟨P, 0, none⟩)] 42) := by
    rw [← hs1]; exact (Below.heap_alloc _ _ _ (by simp)).trans (World.alloc_heap_new w1 _)
  have q2 : (((w1.alloc (.cells #[.pointer (some ⟨P, 0, none⟩)] 42)).alloc (.cells #[.int .i64 (x.1 : Nat), .int .i64 (x.2 : Nat)] 37)).drew).heap[W.heap.size + 1 + 1]? = some (.cells #[.int .i64 (x.1 : Nat), .int .i64 (x.2 : Nat)] 37) := by
    rw [← hs1]; have := World.alloc_heap_new (w1.alloc (.cells #[.pointer (some ⟨P, 0, none⟩)] 42)) (.cells #[.int .i64 (x.1 : Nat), .int .i64 (x.2 : Nat)] 37); rwa [World.size_alloc] at this
  have hb0 : Below W.heap.size W (((w1.alloc (.cells #[.pointer (some ⟨P, 0, none⟩)] 42)).alloc (.cells #[.int .i64 (x.1 : Nat), .int .i64 (x.2 : Nat)] 37)).drew) := hb1.trans (hbW.mono (by omega))
  have hJ0 : J [] (((w1.alloc (.cells #[.pointer (some ⟨P, 0, none⟩)] 42)).alloc (.cells #[.int .i64 (x.1 : Nat), .int .i64 (x.2 : Nat)] 37)).drew) := hJ _ _ _ none hJ1 (grows hbW) (fun r e => by cases e)
  have p0 := (hbW.block _ (by omega)).trans q0
  generalize (((w1.alloc (.cells #[.pointer (some ⟨P, 0, none⟩)] 42)).alloc (.cells #[.int .i64 (x.1 : Nat), .int .i64 (x.2 : Nat)] 37)).drew) = W0 at hit hbW hs0 q1 q2 hb0 hJ0 p0 ⊢
  clear hit0 hbd hbW q0 hJ1 hR1 hB1 hS1 cp1 cx1 s0 s1 r0 r1 r2 r3 hs1 hb1
  gi_wp2
  have hall := hit.all (n - 1) (by omega)
  have hWz : W.heap.size ≤ W0.heap.size := by omega
  refine loop_all h1 (gf := 67) rfl hit.enters hall hit.trans (fun A l o o' hl ho hc => keep_put (n := W0.heap.size) (fun b hb => by unfold BegS at hb; have := hSlt P hSP; have := hSlt bb hSb; omega) hl _)
    (fun pre V => (∃ dn : List α, dn.map enc = ((pre.map Subtype.val).filterMap (callN L HL)).map Int.ofNat ∧ J dn V) ∧ (Below W.heap.size W W ∧ (Keep S W0 V ∧ W0.heap.size ≤ V.heap.size) ∧ V.heap[W.heap.size]? = some (.cells #[.func (.yield l) #[] #[]] 72) ∧ V.heap[W.heap.size + 1]? = some (.cells #[.pointer (some ⟨P, 0, none⟩)] 42) ∧ V.heap[W.heap.size + 1 + 1]? = some (.cells #[.int .i64 (x.1 : Nat), .int .i64 (x.2 : Nat)] 37)))
    ?own ⟨⟨[], rfl, hJ0⟩, Below.refl _ _, ⟨Keep.refl _ _, Nat.le_refl _⟩, p0, q1, q2⟩
    (fun y => { tmps := #[.func (.yield l) #[] #[], .pointer (some ⟨Bp, 0, none⟩), .pointer (some ⟨Bs, 0, none⟩), .pointer (some ⟨W.heap.size, 0, none⟩), .int .i64 y.1, undef, undef, .pointer (some ⟨P, 0, none⟩), .pointer (some ⟨P, 0, none⟩), .pointer (some ⟨P, 0, none⟩), .pointer (some ⟨P, 2, none⟩), .slice (some ⟨sb, 0, none⟩) SL.length cs, .int .i64 k, .pointer (some ⟨sb, k * 2, none⟩), .agg #[.int .i64 (x.1 : Nat), .int .i64 (x.2 : Nat)], .func (.func 67) #[] #[.pointer (some ⟨W.heap.size + 1 + 1, 0, none⟩), .pointer (some ⟨W.heap.size + 1, 0, none⟩)], .int .i64 y.1, undef, undef, undef, undef, undef, undef, undef, undef, undef, undef, undef, undef, undef, undef, undef, undef, undef, undef, undef, undef, undef, undef, undef, undef, undef, undef, undef, undef, undef, undef, undef], defers := [] }) ?assign ?body ?done
  case own =>
    rintro pre A B row ⟨⟨dn, hd2, hd3⟩, hbb, hKe, z0, z1, z2⟩ hg hr
    have hkeep : ∀ (b : Nat) (o : Obj), A.heap[b]? = some o → b < W0.heap.size → B.heap[b]? = some o := fun b o hbo hlt => (hg.block b (Array.getElem?_eq_some_iff.1 hbo).1 (fun e => by have := (hr b e.symm).1; omega)).trans hbo
    exact ⟨⟨dn, hd2, hJ dn A B row hd3 hg (fun r e => ⟨Nat.le_trans hWz (hr r e).1, (hr r e).2⟩)⟩, hbb, ownFrom_keep (β := Unit) (fun b hb => Nat.lt_of_lt_of_le (hSlt b hb) hWz) (fun b hb => Nat.lt_of_lt_of_le (hSlt b hb) hWz) () A B row hKe hg hr, hkeep _ _ z0 (by omega), hkeep _ _ z1 (by omega), hkeep _ _ z2 (by omega)⟩
  case assign =>
    intro l2 y V K hK
    gi_wp2
    exact hK
  case body =>
    rintro l2 pre y V ⟨⟨dn, hd2, hd3⟩, _, ⟨hKe, hsz⟩, z0, z1, z2⟩ hlt
    have h1' : 1 ≤ n - 1 - 1 := by omega
    have hmix : Try.prog.follows .mixedOrders = true := by kernel_rfl
    have hsV : W.heap.size ≤ V.heap.size := Nat.le_trans hWz hsz
    have hKW : Keep S W V := (Keep.of hb0 hSlt).trans hKe
    have hRV := hR.keep hSP hKW
    have hLV := hL.keep hKW hsV
    have hHV := hH.keep hShb hKW hsV
    have cpV := (hKW.cell (p := ⟨Bp, 0, none⟩) hSp).trans cp
    obtain ⟨r0, r1, r2, r3⟩ := hRV.cells
    have k1 := callee_any S _ L y.1 V hLV
    have hrest : ∀ V2 : World, Below V.heap.size V V2 → KeepsFrom W0.heap.size V V2 ∧ Keep (BegS (W.heap.size + 1) P bb) V V2 ∧ ((Keep S W0 V2 ∧ W0.heap.size ≤ V2.heap.size) ∧ V2.heap[W.heap.size]? = some (.cells #[.func (.yield l) #[] #[]] 72) ∧ V2.heap[W.heap.size + 1]? = some (.cells #[.pointer (some ⟨P, 0, none⟩)] 42) ∧ V2.heap[W.heap.size + 1 + 1]? = some (.cells #[.int .i64 (x.1 : Nat), .int .i64 (x.2 : Nat)] 37)) := fun V2 hb2 =>
      ⟨keeps_below hb2, .of hb2 (fun b hb => by unfold BegS at hb; have := hSlt P hSP; have := hSlt bb hSb; omega), ⟨hKe.trans (.of hb2 fun b hb => Nat.lt_of_lt_of_le (hSlt b hb) hsV), Nat.le_trans hsz hb2.size⟩, (hb2.block _ (by omega)).trans z0, (hb2.block _ (by omega)).trans z1, (hb2.block _ (by omega)).trans z2⟩
    cases hc : calleeM L y.1 with
    | none =>
      rw [calleeV, hc] at k1
      have hcn : callN L HL y.1 = none := by rw [callN, hc]
      gi_wp2_with first | (refine ⟨trivial, ?_⟩; gi_at_call 7; refine (CallsIn.inRound l2 (callsIn_wide.2 k1)).mono ?_; rintro e V1 ⟨rfl, hg⟩)
      refine wpIn_region_inv hmix (fun Z a w => FrF a { tmps := #[.func (.yield l) #[] #[], .pointer (some ⟨Bp, 0, none⟩), .pointer (some ⟨Bs, 0, none⟩), .pointer (some ⟨W.heap.size, 0, none⟩), .int .i64 y.1, .int .i64 0, .bool false, .pointer (some ⟨P, 0, none⟩), .pointer (some ⟨P, 0, none⟩), .pointer (some ⟨P, 0, none⟩), .pointer (some ⟨P, 2, none⟩), .slice (some ⟨sb, 0, none⟩) SL.length cs, .int .i64 k, .pointer (some ⟨sb, k * 2, none⟩), .agg #[.int .i64 (x.1 : Nat), .int .i64 (x.2 : Nat)], .func (.func 67) #[] #[.pointer (some ⟨W.heap.size + 1 + 1, 0, none⟩), .pointer (some ⟨W.heap.size + 1, 0, none⟩)], .int .i64 y.1, .tuple #[.int .i64 0, .bool false], .pointer (some ⟨P, 0, none⟩), .pointer (some ⟨P, 0, none⟩), .pointer (some ⟨P, 0, none⟩), .slice p L.length c, .int .i64 y.1, .tuple #[.int .i64 0, .bool false], .int .i64 0, .bool false, selF (Z 0) (.bool false) undef, selF (Z 1) (.bool false) undef, undef, undef, undef, undef, undef, undef, undef, selF (Z 9) (.bool false) undef, selF (Z 10) (.bool false) undef, undef, undef, undef, undef, undef, undef, undef, undef, undef, undef, selF (Z 21) (.bool false) undef], defers := [] } (Below V.heap.size V w)) (by kernel_rfl) ⟨rfl, hg.below.drew⟩ ?step ?fin
      case step =>
        refine allOpsF_cons 0 ?_ ?_
        · rintro Z _ w hZ hd hcl ⟨rfl, hW⟩
          skip
          go_simp
          exact ⟨by simp [updF, Act.put, hZ, selF_true], by first | exact hW | trivial⟩
        refine allOpsF_cons 1 ?_ ?_
        · rintro Z _ w hZ hd hcl ⟨rfl, hW⟩
          obtain ⟨d0, -⟩ := hd
          have f0 : Z 0 = true := d0 rfl
          simp only [f0, selF_true]
          go_simp
          exact ⟨by simp [updF, Act.put, hZ, selF_true, f0], by first | exact hW | trivial⟩
        refine allOpsF_cons 2 ?_ ?_
        · rintro Z _ w hZ hd hcl ⟨rfl, hW⟩
          obtain ⟨d0, -⟩ := hd
          have f1 : Z 1 = true := d0 rfl
          simp only [f1, selF_true]
          refine ⟨fun _ h => (by first | (cases h; done) | trivial), ?_⟩
          exact ⟨by simp [updF, Act.put, hZ, selF_true, f1], hW⟩
        refine allOpsF_cons 3 ?_ ?_
        · rintro Z _ w hZ hd hcl ⟨rfl, hW⟩
          obtain ⟨d0, d1, -⟩ := hd
          have f2 : Z 2 = true := d0 rfl
          have f1 : Z 1 = true := d1 rfl
          simp only [f2, f1, selF_true]
          refine ⟨fun _ h => (by first | (cases h; done) | trivial), ?_⟩
          exact ⟨by simp [updF, Act.put, hZ, selF_true, f2, f1], hW⟩
        refine allOpsF_cons 4 ?_ ?_
        · rintro Z _ w hZ hd hcl ⟨rfl, hW⟩
          obtain ⟨d0, d1, -⟩ := hd
          have f3 : Z 3 = true := d0 rfl
          have f1 : Z 1 = true := d1 rfl
          simp only [f3, f1, selF_true]
          refine ⟨fun _ h => (by first | (cases h; done) | trivial), ?_⟩
          exact ⟨by simp [updF, Act.put, hZ, selF_true, f3, f1], hW⟩
        refine allOpsF_cons 5 ?_ ?_
        · rintro Z _ w hZ hd hcl ⟨rfl, hW⟩
          obtain ⟨d0, d1, -⟩ := hd
          have f4 : Z 4 = true := d0 rfl
          have f1 : Z 1 = true := d1 rfl
          simp only [f4, f1, selF_true]
          refine ⟨fun _ h => (by first | (cases h; done) | trivial), ?_⟩
          exact ⟨by simp [updF, Act.put, hZ, selF_true, f4, f1], hW⟩
        refine allOpsF_cons 6 ?_ ?_
        · rintro Z _ w hZ hd hcl ⟨rfl, hW⟩
          obtain ⟨d0, -⟩ := hd
          have f1 : Z 1 = true := d0 rfl
          simp only [f1, selF_true]
          refine ⟨fun _ h => (by first | (cases h; done) | trivial), ?_⟩
          exact ⟨by simp [updF, Act.put, hZ, selF_true, f1], hW⟩
        refine allOpsF_cons 7 ?_ ?_
        · rintro Z _ w hZ hd hcl ⟨rfl, hW⟩
          obtain ⟨d0, d1, d2, d3, -⟩ := hd
          have f5 : Z 5 = true := d0 rfl
          have f6 : Z 6 = true := d1 rfl
          have f1 : Z 1 = true := d2 rfl
          simp only [f5, f6, f1, selF_true]
          refine ⟨fun _ h => (by first | (cases h; done) | trivial), ?_⟩
          exact ⟨by simp [updF, Act.put, hZ, selF_true, f5, f6, f1], hW⟩
        refine allOpsF_cons 8 ?_ ?_
        · rintro Z _ w hZ hd hcl ⟨rfl, hW⟩
          obtain ⟨d0, d1, -⟩ := hd
          have f7 : Z 7 = true := d0 rfl
          have f1 : Z 1 = true := d1 rfl
          simp only [f7, f1, selF_true]
          refine ⟨fun _ h => (by first | (cases h; done) | trivial), ?_⟩
          exact ⟨by simp [updF, Act.put, hZ, selF_true, f7, f1], hW⟩
        refine allOpsF_cons 9 ?_ ?_
        · rintro Z _ w hZ hd hcl ⟨rfl, hW⟩
          obtain ⟨d0, d1, -⟩ := hd
          have f1 : Z 1 = true := d0 rfl
          have f8 : Z 8 = true := d1 rfl
          simp only [f1, f8, selF_true]
          go_simp
          exact ⟨by simp [updF, Act.put, hZ, selF_true, f1, f8], by first | exact hW | trivial⟩
        refine allOpsF_cons 10 ?_ ?_
        · rintro Z _ w hZ hd hcl ⟨rfl, hW⟩
          obtain ⟨d0, d1, -⟩ := hd
          have f9 : Z 9 = true := d0 rfl
          have f7 : Z 7 = true := d1 rfl
          simp only [f9, f7, selF_true]
          go_simp
          exact ⟨by simp [updF, Act.put, hZ, selF_true, f7, f9], by first | exact hW | trivial⟩
        refine allOpsF_cons 11 ?_ ?_
        · rintro Z _ w hZ hd hcl ⟨rfl, hW⟩
          obtain ⟨d0, -⟩ := hd
          have f10 : Z 10 = true := d0 rfl
          simp only [f10, selF_true]
          refine ⟨fun _ h => (by first | (cases h; done) | trivial), ?_⟩
          exact ⟨by simp [updF, Act.put, hZ, selF_true, f10], hW⟩
        refine allOpsF_cons 12 ?_ ?_
        · rintro Z _ w hZ hd hcl ⟨rfl, hW⟩
          obtain ⟨d0, -⟩ := hd
          have f10 : Z 10 = true := d0 rfl
          simp only [f10, selF_true]
          refine ⟨fun _ h => (by first | (cases h; done) | trivial), ?_⟩
          exact ⟨by simp [updF, Act.put, hZ, selF_true, f10], hW⟩
        refine allOpsF_cons 13 ?_ ?_
        · rintro Z _ w hZ hd hcl ⟨rfl, hW⟩
          obtain ⟨d0, d1, -⟩ := hd
          have f12 : Z 12 = true := d0 rfl
          have f10 : Z 10 = true := d1 rfl
          simp only [f12, f10, selF_true]
          refine ⟨fun _ h => (by first | (cases h; done) | trivial), ?_⟩
          exact ⟨by simp [updF, Act.put, hZ, selF_true, f12, f10], hW⟩
        refine allOpsF_cons 14 ?_ ?_
        · rintro Z _ w hZ hd hcl ⟨rfl, hW⟩
          obtain ⟨d0, d1, -⟩ := hd
          have f13 : Z 13 = true := d0 rfl
          have f10 : Z 10 = true := d1 rfl
          simp only [f13, f10, selF_true]
          refine ⟨fun _ h => (by first | (cases h; done) | trivial), ?_⟩
          exact ⟨by simp [updF, Act.put, hZ, selF_true, f13, f10], hW⟩
        refine allOpsF_cons 15 ?_ ?_
        · rintro Z _ w hZ hd hcl ⟨rfl, hW⟩
          obtain ⟨d0, d1, -⟩ := hd
          have f14 : Z 14 = true := d0 rfl
          have f10 : Z 10 = true := d1 rfl
          simp only [f14, f10, selF_true]
          refine ⟨fun _ h => (by first | (cases h; done) | trivial), ?_⟩
          exact ⟨by simp [updF, Act.put, hZ, selF_true, f14, f10], hW⟩
        refine allOpsF_cons 16 ?_ ?_
        · rintro Z _ w hZ hd hcl ⟨rfl, hW⟩
          obtain ⟨d0, -⟩ := hd
          have f10 : Z 10 = true := d0 rfl
          simp only [f10, selF_true]
          refine ⟨fun _ h => (by first | (cases h; done) | trivial), ?_⟩
          exact ⟨by simp [updF, Act.put, hZ, selF_true, f10], hW⟩
        refine allOpsF_cons 17 ?_ ?_
        · rintro Z _ w hZ hd hcl ⟨rfl, hW⟩
          obtain ⟨d0, d1, d2, -⟩ := hd
          have f15 : Z 15 = true := d0 rfl
          have f16 : Z 16 = true := d1 rfl
          have f10 : Z 10 = true := d2 rfl
          simp only [f15, f16, f10, selF_true]
          refine ⟨fun _ h => (by first | (cases h; done) | trivial), ?_⟩
          exact ⟨by simp [updF, Act.put, hZ, selF_true, f15, f16, f10], hW⟩
        refine allOpsF_cons 18 ?_ ?_
        · rintro Z _ w hZ hd hcl ⟨rfl, hW⟩
          obtain ⟨d0, d1, -⟩ := hd
          have f17 : Z 17 = true := d0 rfl
          have f10 : Z 10 = true := d1 rfl
          simp only [f17, f10, selF_true]
          refine ⟨fun _ h => (by first | (cases h; done) | trivial), ?_⟩
          exact ⟨by simp [updF, Act.put, hZ, selF_true, f17, f10], hW⟩
        refine allOpsF_cons 19 ?_ ?_
        · rintro Z _ w hZ hd hcl ⟨rfl, hW⟩
          obtain ⟨d0, d1, d2, d3, -⟩ := hd
          have f11 : Z 11 = true := d0 rfl
          have f18 : Z 18 = true := d1 rfl
          have f10 : Z 10 = true := d2 rfl
          simp only [f11, f18, f10, selF_true]
          refine ⟨fun _ h => (by first | (cases h; done) | trivial), ?_⟩
          exact ⟨by simp [updF, Act.put, hZ, selF_true, f11, f18, f10], hW⟩
        refine allOpsF_cons 20 ?_ ?_
        · rintro Z _ w hZ hd hcl ⟨rfl, hW⟩
          obtain ⟨d0, d1, -⟩ := hd
          have f19 : Z 19 = true := d0 rfl
          have f10 : Z 10 = true := d1 rfl
          simp only [f19, f10, selF_true]
          refine ⟨fun _ h => (by first | (cases h; done) | trivial), ?_⟩
          exact ⟨by simp [updF, Act.put, hZ, selF_true, f19, f10], hW⟩
        refine allOpsF_cons 21 ?_ ?_
        · rintro Z _ w hZ hd hcl ⟨rfl, hW⟩
          obtain ⟨d0, d1, -⟩ := hd
          have f10 : Z 10 = true := d0 rfl
          have f20 : Z 20 = true := d1 rfl
          simp only [f10, f20, selF_true]
          go_simp
          exact ⟨by simp [updF, Act.put, hZ, selF_true, f10, f20], by first | exact hW | trivial⟩
        exact allOpsF_nil 22
      case fin =>
        rintro Z _ w hZ ⟨rfl, hW⟩
        simp only [hZ 0 (by decide), hZ 1 (by decide), hZ 2 (by decide), hZ 3 (by decide), hZ 4 (by decide), hZ 5 (by decide), hZ 6 (by decide), hZ 7 (by decide), hZ 8 (by decide), hZ 9 (by decide), hZ 10 (by decide), hZ 11 (by decide), hZ 12 (by decide), hZ 13 (by decide), hZ 14 (by decide), hZ 15 (by decide), hZ 16 (by decide), hZ 17 (by decide), hZ 18 (by decide), hZ 19 (by decide), hZ 20 (by decide), hZ 21 (by decide), selF_true]
        gi_wp2
        obtain ⟨q1, q2, q3⟩ := hrest w hW
        exact ⟨q1, q2, ⟨dn, by rw [List.map_append, List.filterMap_append, hd2]; simp [hcn], hJ dn V w none hd3 (grows hW) (fun r e => by cases e)⟩, Below.refl _ _, q3⟩
    | some t =>
      have ht := hcal y.1 y.2 t hc
      have k2 := fun w (hb : Below V.heap.size V w) => isFunction_any S _ L y.1 w (hLV.gr hb)
      have hlp : ∀ w, Below V.heap.size V w → w.cell? ⟨Bp, 0, none⟩ = some (.pointer (some ⟨P, 0, none⟩)) := fun w hb => (hb.cell (p := ⟨Bp, 0, none⟩) (Nat.lt_of_lt_of_le (hSlt _ hSp) hsV)).trans cpV
      have hl0 : ∀ w, Below V.heap.size V w → w.cell? ⟨P, 0, none⟩ = some (.slice p L.length c) := fun w hb => (hb.cell (p := ⟨P, 0, none⟩) (Nat.lt_of_lt_of_le (hSlt _ hSP) hsV)).trans r0
      rw [calleeV, hc] at k1
      cases hf : funB L y.1 with
      | true =>
        rw [hf] at k2
        have hcn : callN L HL y.1 = none := by rw [callN, hc]; simp [hf]
        gi_wp2_with first | (refine ⟨trivial, ?_⟩; gi_at_call 7; refine (CallsIn.inRound l2 (callsIn_wide.2 k1)).mono ?_; rintro e V1 ⟨rfl, hg⟩)
        refine wpIn_region_inv hmix (fun Z a w => FrF a { tmps := #[.func (.yield l) #[] #[], .pointer (some ⟨Bp, 0, none⟩), .pointer (some ⟨Bs, 0, none⟩), .pointer (some ⟨W.heap.size, 0, none⟩), .int .i64 y.1, .int .i64 t, .bool true, .pointer (some ⟨P, 0, none⟩), .pointer (some ⟨P, 0, none⟩), .pointer (some ⟨P, 0, none⟩), .pointer (some ⟨P, 2, none⟩), .slice (some ⟨sb, 0, none⟩) SL.length cs, .int .i64 k, .pointer (some ⟨sb, k * 2, none⟩), .agg #[.int .i64 (x.1 : Nat), .int .i64 (x.2 : Nat)], .func (.func 67) #[] #[.pointer (some ⟨W.heap.size + 1 + 1, 0, none⟩), .pointer (some ⟨W.heap.size + 1, 0, none⟩)], .int .i64 y.1, .tuple #[.int .i64 t, .bool true], .pointer (some ⟨P, 0, none⟩), .pointer (some ⟨P, 0, none⟩), .pointer (some ⟨P, 0, none⟩), .slice p L.length c, .int .i64 y.1, .tuple #[.int .i64 t, .bool true], .int .i64 t, .bool true, selF (Z 0) (.bool true) undef, selF (Z 1) (.bool true) undef, selF (Z 2) (.pointer (some ⟨P, 0, none⟩)) undef, selF (Z 3) (.pointer (some ⟨P, 0, none⟩)) undef, selF (Z 4) (.pointer (some ⟨P, 0, none⟩)) undef, selF (Z 5) (.slice p L.length c) undef, selF (Z 6) (.int .i64 y.1) undef, selF (Z 7) (.bool true) undef, selF (Z 8) (.bool false) undef, selF (Z 9) (.bool false) undef, selF (Z 10) (.bool false) undef, undef, undef, undef, undef, undef, undef, undef, undef, undef, undef, selF (Z 21) (.bool false) undef], defers := [] } (Below V.heap.size V w)) (by kernel_rfl) ⟨rfl, hg.below.drew⟩ ?step ?fin
        case step =>
          refine allOpsF_cons 0 ?_ ?_
          · rintro Z _ w hZ hd hcl ⟨rfl, hW⟩
            skip
            go_simp
            exact ⟨by simp [updF, Act.put, hZ, selF_true], by first | exact hW | trivial⟩
          refine allOpsF_cons 1 ?_ ?_
          · rintro Z _ w hZ hd hcl ⟨rfl, hW⟩
            obtain ⟨d0, -⟩ := hd
            have f0 : Z 0 = true := d0 rfl
            simp only [f0, selF_true]
            go_simp
            exact ⟨by simp [updF, Act.put, hZ, selF_true, f0], by first | exact hW | trivial⟩
          refine allOpsF_cons 2 ?_ ?_
          · rintro Z _ w hZ hd hcl ⟨rfl, hW⟩
            obtain ⟨d0, -⟩ := hd
            have f1 : Z 1 = true := d0 rfl
            simp only [f1, selF_true]
            have c1 := hlp w hW
            go_simp
            exact ⟨by simp [updF, Act.put, hZ, selF_true, f1], by first | exact hW | trivial⟩
          refine allOpsF_cons 3 ?_ ?_
          · rintro Z _ w hZ hd hcl ⟨rfl, hW⟩
            obtain ⟨d0, d1, -⟩ := hd
            have f2 : Z 2 = true := d0 rfl
            have f1 : Z 1 = true := d1 rfl
            simp only [f2, f1, selF_true]
            go_simp
            exact ⟨by simp [updF, Act.put, hZ, selF_true, f1, f2], by first | exact hW | trivial⟩
          refine allOpsF_cons 4 ?_ ?_
          · rintro Z _ w hZ hd hcl ⟨rfl, hW⟩
            obtain ⟨d0, d1, -⟩ := hd
            have f3 : Z 3 = true := d0 rfl
            have f1 : Z 1 = true := d1 rfl
            simp only [f3, f1, selF_true]
            go_simp
            exact ⟨by simp [updF, Act.put, hZ, selF_true, f1, f3], by first | exact hW | trivial⟩
          refine allOpsF_cons 5 ?_ ?_
          · rintro Z _ w hZ hd hcl ⟨rfl, hW⟩
            obtain ⟨d0, d1, -⟩ := hd
            have f4 : Z 4 = true := d0 rfl
            have f1 : Z 1 = true := d1 rfl
            simp only [f4, f1, selF_true]
            have c1 := hl0 w hW
            go_simp
            exact ⟨by simp [updF, Act.put, hZ, selF_true, f1, f4], by first | exact hW | trivial⟩
          refine allOpsF_cons 6 ?_ ?_
          · rintro Z _ w hZ hd hcl ⟨rfl, hW⟩
            obtain ⟨d0, -⟩ := hd
            have f1 : Z 1 = true := d0 rfl
            simp only [f1, selF_true]
            go_simp
            exact ⟨by simp [updF, Act.put, hZ, selF_true, f1], by first | exact hW | trivial⟩
          refine allOpsF_cons 7 ?_ ?_
          · rintro Z _ w hZ hd hcl ⟨rfl, hW⟩
            obtain ⟨d0, d1, d2, d3, -⟩ := hd
            have f5 : Z 5 = true := d0 rfl
            have f6 : Z 6 = true := d1 rfl
            have f1 : Z 1 = true := d2 rfl
            simp only [f5, f6, f1, selF_true]
            go_simp
            refine ⟨trivial, (CallsIn.inRound l2 (callsIn_wide.2 (k2 w hW))).mono ?_⟩
            rintro e w2 ⟨rfl, hg2⟩
            exact ⟨by simp [updF, Act.put, hZ, selF_true, f1, f5, f6], hW.trans (hg2.below.mono hW.size)⟩
          refine allOpsF_cons 8 ?_ ?_
          · rintro Z _ w hZ hd hcl ⟨rfl, hW⟩
            obtain ⟨d0, d1, -⟩ := hd
            have f7 : Z 7 = true := d0 rfl
            have f1 : Z 1 = true := d1 rfl
            simp only [f7, f1, selF_true]
            go_simp
            exact ⟨by simp [updF, Act.put, hZ, selF_true, f1, f7], by first | exact hW | trivial⟩
          refine allOpsF_cons 9 ?_ ?_
          · rintro Z _ w hZ hd hcl ⟨rfl, hW⟩
            obtain ⟨d0, d1, -⟩ := hd
            have f1 : Z 1 = true := d0 rfl
            have f8 : Z 8 = true := d1 rfl
            simp only [f1, f8, selF_true]
            go_simp
            exact ⟨by simp [updF, Act.put, hZ, selF_true, f1, f8], by first | exact hW | trivial⟩
          refine allOpsF_cons 10 ?_ ?_
          · rintro Z _ w hZ hd hcl ⟨rfl, hW⟩
            obtain ⟨d0, d1, -⟩ := hd
            have f9 : Z 9 = true := d0 rfl
            have f7 : Z 7 = true := d1 rfl
            simp only [f9, f7, selF_true]
            go_simp
            exact ⟨by simp [updF, Act.put, hZ, selF_true, f7, f9], by first | exact hW | trivial⟩
          refine allOpsF_cons 11 ?_ ?_
          · rintro Z _ w hZ hd hcl ⟨rfl, hW⟩
            obtain ⟨d0, -⟩ := hd
            have f10 : Z 10 = true := d0 rfl
            simp only [f10, selF_true]
            refine ⟨fun _ h => (by first | (cases h; done) | trivial), ?_⟩
            exact ⟨by simp [updF, Act.put, hZ, selF_true, f10], hW⟩
          refine allOpsF_cons 12 ?_ ?_
          · rintro Z _ w hZ hd hcl ⟨rfl, hW⟩
            obtain ⟨d0, -⟩ := hd
            have f10 : Z 10 = true := d0 rfl
            simp only [f10, selF_true]
            refine ⟨fun _ h => (by first | (cases h; done) | trivial), ?_⟩
            exact ⟨by simp [updF, Act.put, hZ, selF_true, f10], hW⟩
          refine allOpsF_cons 13 ?_ ?_
          · rintro Z _ w hZ hd hcl ⟨rfl, hW⟩
            obtain ⟨d0, d1, -⟩ := hd
            have f12 : Z 12 = true := d0 rfl
            have f10 : Z 10 = true := d1 rfl
            simp only [f12, f10, selF_true]
            refine ⟨fun _ h => (by first | (cases h; done) | trivial), ?_⟩
            exact ⟨by simp [updF, Act.put, hZ, selF_true, f12, f10], hW⟩
          refine allOpsF_cons 14 ?_ ?_
          · rintro Z _ w hZ hd hcl ⟨rfl, hW⟩
            obtain ⟨d0, d1, -⟩ := hd
            have f13 : Z 13 = true := d0 rfl
            have f10 : Z 10 = true := d1 rfl
            simp only [f13, f10, selF_true]
            refine ⟨fun _ h => (by first | (cases h; done) | trivial), ?_⟩
            exact ⟨by simp [updF, Act.put, hZ, selF_true, f13, f10], hW⟩
          refine allOpsF_cons 15 ?_ ?_
          · rintro Z _ w hZ hd hcl ⟨rfl, hW⟩
            obtain ⟨d0, d1, -⟩ := hd
            have f14 : Z 14 = true := d0 rfl
            have f10 : Z 10 = true := d1 rfl
            simp only [f14, f10, selF_true]
            refine ⟨fun _ h => (by first | (cases h; done) | trivial), ?_⟩
            exact ⟨by simp [updF, Act.put, hZ, selF_true, f14, f10], hW⟩
          refine allOpsF_cons 16 ?_ ?_
          · rintro Z _ w hZ hd hcl ⟨rfl, hW⟩
            obtain ⟨d0, -⟩ := hd
            have f10 : Z 10 = true := d0 rfl
            simp only [f10, selF_true]
            refine ⟨fun _ h => (by first | (cases h; done) | trivial), ?_⟩
            exact ⟨by simp [updF, Act.put, hZ, selF_true, f10], hW⟩
          refine allOpsF_cons 17 ?_ ?_
          · rintro Z _ w hZ hd hcl ⟨rfl, hW⟩
            obtain ⟨d0, d1, d2, -⟩ := hd
            have f15 : Z 15 = true := d0 rfl
            have f16 : Z 16 = true := d1 rfl
            have f10 : Z 10 = true := d2 rfl
            simp only [f15, f16, f10, selF_true]
            refine ⟨fun _ h => (by first | (cases h; done) | trivial), ?_⟩
            exact ⟨by simp [updF, Act.put, hZ, selF_true, f15, f16, f10], hW⟩
          refine allOpsF_cons 18 ?_ ?_
          · rintro Z _ w hZ hd hcl ⟨rfl, hW⟩
            obtain ⟨d0, d1, -⟩ := hd
            have f17 : Z 17 = true := d0 rfl
            have f10 : Z 10 = true := d1 rfl
            simp only [f17, f10, selF_true]
            refine ⟨fun _ h => (by first | (cases h; done) | trivial), ?_⟩
            exact ⟨by simp [updF, Act.put, hZ, selF_true, f17, f10], hW⟩
          refine allOpsF_cons 19 ?_ ?_
          · rintro Z _ w hZ hd hcl ⟨rfl, hW⟩
            obtain ⟨d0, d1, d2, d3, -⟩ := hd
            have f11 : Z 11 = true := d0 rfl
            have f18 : Z 18 = true := d1 rfl
            have f10 : Z 10 = true := d2 rfl
            simp only [f11, f18, f10, selF_true]
            refine ⟨fun _ h => (by first | (cases h; done) | trivial), ?_⟩
            exact ⟨by simp [updF, Act.put, hZ, selF_true, f11, f18, f10], hW⟩
          refine allOpsF_cons 20 ?_ ?_
          · rintro Z _ w hZ hd hcl ⟨rfl, hW⟩
            obtain ⟨d0, d1, -⟩ := hd
            have f19 : Z 19 = true := d0 rfl
            have f10 : Z 10 = true := d1 rfl
            simp only [f19, f10, selF_true]
            refine ⟨fun _ h => (by first | (cases h; done) | trivial), ?_⟩
            exact ⟨by simp [updF, Act.put, hZ, selF_true, f19, f10], hW⟩
          refine allOpsF_cons 21 ?_ ?_
          · rintro Z _ w hZ hd hcl ⟨rfl, hW⟩
            obtain ⟨d0, d1, -⟩ := hd
            have f10 : Z 10 = true := d0 rfl
            have f20 : Z 20 = true := d1 rfl
            simp only [f10, f20, selF_true]
            go_simp
            exact ⟨by simp [updF, Act.put, hZ, selF_true, f10, f20], by first | exact hW | trivial⟩
          exact allOpsF_nil 22
        case fin =>
          rintro Z _ w hZ ⟨rfl, hW⟩
          simp only [hZ 0 (by decide), hZ 1 (by decide), hZ 2 (by decide), hZ 3 (by decide), hZ 4 (by decide), hZ 5 (by decide), hZ 6 (by decide), hZ 7 (by decide), hZ 8 (by decide), hZ 9 (by decide), hZ 10 (by decide), hZ 11 (by decide), hZ 12 (by decide), hZ 13 (by decide), hZ 14 (by decide), hZ 15 (by decide), hZ 16 (by decide), hZ 17 (by decide), hZ 18 (by decide), hZ 19 (by decide), hZ 20 (by decide), hZ 21 (by decide), selF_true]
          gi_wp2
          obtain ⟨q1, q2, q3⟩ := hrest w hW
          exact ⟨q1, q2, ⟨dn, by rw [List.map_append, List.filterMap_append, hd2]; simp [hcn], hJ dn V w none hd3 (grows hW) (fun r e => by cases e)⟩, Below.refl _ _, q3⟩
      | false =>
        rw [hf] at k2
        obtain ⟨hq, hhn⟩ : ∃ h, HL[t.toNat]? = some h := ⟨HL[t.toNat]'(by omega), by simp⟩
        have hcn : callN L HL y.1 = some hq := by rw [callN, hc]; simp [hf, hhn]
        obtain ⟨z, hz⟩ : ∃ z : α, enc z = (hq : Int) := by
          have : (hq : Int) ∈ xs.map enc := by rw [hxs]; exact List.mem_map.2 ⟨hq, List.mem_filterMap.2 ⟨y.1, y.2, hcn⟩, rfl⟩
          obtain ⟨z, _, hz⟩ := List.mem_map.1 this
          exact ⟨z, hz⟩
        have hdl : dn.length < 4096 := by
          have h5 := congrArg List.length hd2
          rw [List.length_map, List.length_map] at h5
          have h6 := List.length_filterMap_le (callN L HL) (pre.map Subtype.val)
          rw [List.length_map] at h6
          omega
        have hlf : ∀ w, Below V.heap.size V w → w.cell? ⟨W.heap.size, 0, none⟩ = some (.func (.yield l) #[] #[]) := fun w hb => (show Boxed w W.heap.size 72 _ from (hb.block _ (by omega)).trans z0).cell
        have hl3 : ∀ w, Below V.heap.size V w → w.cell? ⟨P, 3, none⟩ = some (.slice (some ⟨hb, 0, none⟩) HL.length ch) := fun w hb => (hb.cell (p := ⟨P, 3, none⟩) (Nat.lt_of_lt_of_le (hSlt _ hSP) hsV)).trans r3
        have hlh : ∀ w, Below V.heap.size V w → w.cell? ⟨hb, t.toNat, none⟩ = some (.int .i64 (hq : Nat)) := fun w hb' => (hb'.cell (p := ⟨hb, t.toNat, none⟩) (Nat.lt_of_lt_of_le (hSlt _ hShb) hsV)).trans (hHV.cell t.toNat hq hhn)
        gi_wp2_with first | (refine ⟨trivial, ?_⟩; gi_at_call 7; refine (CallsIn.inRound l2 (callsIn_wide.2 k1)).mono ?_; rintro e V1 ⟨rfl, hg⟩)
        refine wpIn_region_inv hmix (fun Z a w => FrF a { tmps := #[.func (.yield l) #[] #[], .pointer (some ⟨Bp, 0, none⟩), .pointer (some ⟨Bs, 0, none⟩), .pointer (some ⟨W.heap.size, 0, none⟩), .int .i64 y.1, .int .i64 t, .bool true, .pointer (some ⟨P, 0, none⟩), .pointer (some ⟨P, 0, none⟩), .pointer (some ⟨P, 0, none⟩), .pointer (some ⟨P, 2, none⟩), .slice (some ⟨sb, 0, none⟩) SL.length cs, .int .i64 k, .pointer (some ⟨sb, k * 2, none⟩), .agg #[.int .i64 (x.1 : Nat), .int .i64 (x.2 : Nat)], .func (.func 67) #[] #[.pointer (some ⟨W.heap.size + 1 + 1, 0, none⟩), .pointer (some ⟨W.heap.size + 1, 0, none⟩)], .int .i64 y.1, .tuple #[.int .i64 t, .bool true], .pointer (some ⟨P, 0, none⟩), .pointer (some ⟨P, 0, none⟩), .pointer (some ⟨P, 0, none⟩), .slice p L.length c, .int .i64 y.1, .tuple #[.int .i64 t, .bool true], .int .i64 t, .bool true, selF (Z 0) (.bool true) undef, selF (Z 1) (.bool true) undef, selF (Z 2) (.pointer (some ⟨P, 0, none⟩)) undef, selF (Z 3) (.pointer (some ⟨P, 0, none⟩)) undef, selF (Z 4) (.pointer (some ⟨P, 0, none⟩)) undef, selF (Z 5) (.slice p L.length c) undef, selF (Z 6) (.int .i64 y.1) undef, selF (Z 7) (.bool false) undef, selF (Z 8) (.bool true) undef, selF (Z 9) (.bool true) undef, selF (Z 10) (.bool true) undef, selF (Z 11) (.func (.yield l) #[] #[]) undef, selF (Z 12) (.pointer (some ⟨P, 0, none⟩)) undef, selF (Z 13) (.pointer (some ⟨P, 0, none⟩)) undef, selF (Z 14) (.pointer (some ⟨P, 3, none⟩)) undef, selF (Z 15) (.slice (some ⟨hb, 0, none⟩) HL.length ch) undef, selF (Z 16) (.int .i64 t) undef, selF (Z 17) (.pointer (some ⟨hb, t.toNat, none⟩)) undef, selF (Z 18) (.int .i64 (hq : Nat)) undef, selF (Z 19) (.bool true) undef, selF (Z 20) (.bool false) undef, selF (Z 21) (.bool false) undef], defers := [] } (CallW (Z 19) (Below V.heap.size V w) (J (dn ++ [z]) w ∧ ∃ W1, Below V.heap.size V W1 ∧ Keep S W1 w ∧ W1.heap.size ≤ w.heap.size ∧ TKeep W1 w ∧ KeepsFrom W.heap.size W1 w))) (by kernel_rfl) ⟨rfl, ⟨fun _ => hg.below.drew, fun h => (by cases h)⟩⟩ ?step ?fin
        case step =>
          refine allOpsF_cons 0 ?_ ?_
          · rintro Z _ w hZ hd hcl ⟨rfl, hW⟩
            skip
            have n19 : Z 19 = false := by
              cases e19 : Z 19 with
              | false => rfl
              | true =>
                obtain ⟨_, g18, -⟩ := hcl 19 _ rfl e19
                have e18 : Z 18 = true := g18 rfl
                obtain ⟨g17, -⟩ := hcl 18 _ rfl e18
                have e17 : Z 17 = true := g17 rfl
                obtain ⟨g15, -⟩ := hcl 17 _ rfl e17
                have e15 : Z 15 = true := g15 rfl
                obtain ⟨g14, -⟩ := hcl 15 _ rfl e15
                have e14 : Z 14 = true := g14 rfl
                obtain ⟨g13, -⟩ := hcl 14 _ rfl e14
                have e13 : Z 13 = true := g13 rfl
                obtain ⟨g12, -⟩ := hcl 13 _ rfl e13
                have e12 : Z 12 = true := g12 rfl
                obtain ⟨g10, -⟩ := hcl 12 _ rfl e12
                have e10 : Z 10 = true := g10 rfl
                obtain ⟨g9, -⟩ := hcl 10 _ rfl e10
                have e9 : Z 9 = true := g9 rfl
                obtain ⟨_, g8, -⟩ := hcl 9 _ rfl e9
                have e8 : Z 8 = true := g8 rfl
                obtain ⟨g7, -⟩ := hcl 8 _ rfl e8
                have e7 : Z 7 = true := g7 rfl
                obtain ⟨g5, -⟩ := hcl 7 _ rfl e7
                have e5 : Z 5 = true := g5 rfl
                obtain ⟨g4, -⟩ := hcl 5 _ rfl e5
                have e4 : Z 4 = true := g4 rfl
                obtain ⟨g3, -⟩ := hcl 4 _ rfl e4
                have e3 : Z 3 = true := g3 rfl
                obtain ⟨g2, -⟩ := hcl 3 _ rfl e3
                have e2 : Z 2 = true := g2 rfl
                obtain ⟨g1, -⟩ := hcl 2 _ rfl e2
                have e1 : Z 1 = true := g1 rfl
                obtain ⟨g0, -⟩ := hcl 1 _ rfl e1
                have e0 : Z 0 = true := g0 rfl
                rw [hZ] at e0; cases e0
            have hb1 := hW.no n19
            go_simp
            exact ⟨by simp [updF, Act.put, hZ, selF_true, n19], ⟨fun _ => (by first | exact hb1 | trivial), fun h => (by simp [updF, n19] at h)⟩⟩
          refine allOpsF_cons 1 ?_ ?_
          · rintro Z _ w hZ hd hcl ⟨rfl, hW⟩
            obtain ⟨d0, -⟩ := hd
            have f0 : Z 0 = true := d0 rfl
            simp only [f0, selF_true]
            have n19 : Z 19 = false := by
              cases e19 : Z 19 with
              | false => rfl
              | true =>
                obtain ⟨_, g18, -⟩ := hcl 19 _ rfl e19
                have e18 : Z 18 = true := g18 rfl
                obtain ⟨g17, -⟩ := hcl 18 _ rfl e18
                have e17 : Z 17 = true := g17 rfl
                obtain ⟨g15, -⟩ := hcl 17 _ rfl e17
                have e15 : Z 15 = true := g15 rfl
                obtain ⟨g14, -⟩ := hcl 15 _ rfl e15
                have e14 : Z 14 = true := g14 rfl
                obtain ⟨g13, -⟩ := hcl 14 _ rfl e14
                have e13 : Z 13 = true := g13 rfl
                obtain ⟨g12, -⟩ := hcl 13 _ rfl e13
                have e12 : Z 12 = true := g12 rfl
                obtain ⟨g10, -⟩ := hcl 12 _ rfl e12
                have e10 : Z 10 = true := g10 rfl
                obtain ⟨g9, -⟩ := hcl 10 _ rfl e10
                have e9 : Z 9 = true := g9 rfl
                obtain ⟨_, g8, -⟩ := hcl 9 _ rfl e9
                have e8 : Z 8 = true := g8 rfl
                obtain ⟨g7, -⟩ := hcl 8 _ rfl e8
                have e7 : Z 7 = true := g7 rfl
                obtain ⟨g5, -⟩ := hcl 7 _ rfl e7
                have e5 : Z 5 = true := g5 rfl
                obtain ⟨g4, -⟩ := hcl 5 _ rfl e5
                have e4 : Z 4 = true := g4 rfl
                obtain ⟨g3, -⟩ := hcl 4 _ rfl e4
                have e3 : Z 3 = true := g3 rfl
                obtain ⟨g2, -⟩ := hcl 3 _ rfl e3
                have e2 : Z 2 = true := g2 rfl
                obtain ⟨g1, -⟩ := hcl 2 _ rfl e2
                have e1 : Z 1 = true := g1 rfl
                rw [hZ] at e1; cases e1
            have hb1 := hW.no n19
            go_simp
            exact ⟨by simp [updF, Act.put, hZ, selF_true, n19, f0], ⟨fun _ => (by first | exact hb1 | trivial), fun h => (by simp [updF, n19] at h)⟩⟩
          refine allOpsF_cons 2 ?_ ?_
          · rintro Z _ w hZ hd hcl ⟨rfl, hW⟩
            obtain ⟨d0, -⟩ := hd
            have f1 : Z 1 = true := d0 rfl
            simp only [f1, selF_true]
            have n19 : Z 19 = false := by
              cases e19 : Z 19 with
              | false => rfl
              | true =>
                obtain ⟨_, g18, -⟩ := hcl 19 _ rfl e19
                have e18 : Z 18 = true := g18 rfl
                obtain ⟨g17, -⟩ := hcl 18 _ rfl e18
                have e17 : Z 17 = true := g17 rfl
                obtain ⟨g15, -⟩ := hcl 17 _ rfl e17
                have e15 : Z 15 = true := g15 rfl
                obtain ⟨g14, -⟩ := hcl 15 _ rfl e15
                have e14 : Z 14 = true := g14 rfl
                obtain ⟨g13, -⟩ := hcl 14 _ rfl e14
                have e13 : Z 13 = true := g13 rfl
                obtain ⟨g12, -⟩ := hcl 13 _ rfl e13
                have e12 : Z 12 = true := g12 rfl
                obtain ⟨g10, -⟩ := hcl 12 _ rfl e12
                have e10 : Z 10 = true := g10 rfl
                obtain ⟨g9, -⟩ := hcl 10 _ rfl e10
                have e9 : Z 9 = true := g9 rfl
                obtain ⟨_, g8, -⟩ := hcl 9 _ rfl e9
                have e8 : Z 8 = true := g8 rfl
                obtain ⟨g7, -⟩ := hcl 8 _ rfl e8
                have e7 : Z 7 = true := g7 rfl
                obtain ⟨g5, -⟩ := hcl 7 _ rfl e7
                have e5 : Z 5 = true := g5 rfl
                obtain ⟨g4, -⟩ := hcl 5 _ rfl e5
                have e4 : Z 4 = true := g4 rfl
                obtain ⟨g3, -⟩ := hcl 4 _ rfl e4
                have e3 : Z 3 = true := g3 rfl
                obtain ⟨g2, -⟩ := hcl 3 _ rfl e3
                have e2 : Z 2 = true := g2 rfl
                rw [hZ] at e2; cases e2
            have hb1 := hW.no n19
            have c1 := hlp w hb1
            go_simp
            exact ⟨by simp [updF, Act.put, hZ, selF_true, n19, f1], ⟨fun _ => (by first | exact hb1 | trivial), fun h => (by simp [updF, n19] at h)⟩⟩
          refine allOpsF_cons 3 ?_ ?_
          · rintro Z _ w hZ hd hcl ⟨rfl, hW⟩
            obtain ⟨d0, d1, -⟩ := hd
            have f2 : Z 2 = true := d0 rfl
            have f1 : Z 1 = true := d1 rfl
            simp only [f2, f1, selF_true]
            have n19 : Z 19 = false := by
              cases e19 : Z 19 with
              | false => rfl
              | true =>
                obtain ⟨_, g18, -⟩ := hcl 19 _ rfl e19
                have e18 : Z 18 = true := g18 rfl
                obtain ⟨g17, -⟩ := hcl 18 _ rfl e18
                have e17 : Z 17 = true := g17 rfl
                obtain ⟨g15, -⟩ := hcl 17 _ rfl e17
                have e15 : Z 15 = true := g15 rfl
                obtain ⟨g14, -⟩ := hcl 15 _ rfl e15
                have e14 : Z 14 = true := g14 rfl
                obtain ⟨g13, -⟩ := hcl 14 _ rfl e14
                have e13 : Z 13 = true := g13 rfl
                obtain ⟨g12, -⟩ := hcl 13 _ rfl e13
                have e12 : Z 12 = true := g12 rfl
                obtain ⟨g10, -⟩ := hcl 12 _ rfl e12
                have e10 : Z 10 = true := g10 rfl
                obtain ⟨g9, -⟩ := hcl 10 _ rfl e10
                have e9 : Z 9 = true := g9 rfl
                obtain ⟨_, g8, -⟩ := hcl 9 _ rfl e9
                have e8 : Z 8 = true := g8 rfl
                obtain ⟨g7, -⟩ := hcl 8 _ rfl e8
                have e7 : Z 7 = true := g7 rfl
                obtain ⟨g5, -⟩ := hcl 7 _ rfl e7
                have e5 : Z 5 = true := g5 rfl
                obtain ⟨g4, -⟩ := hcl 5 _ rfl e5
                have e4 : Z 4 = true := g4 rfl
                obtain ⟨g3, -⟩ := hcl 4 _ rfl e4
                have e3 : Z 3 = true := g3 rfl
                rw [hZ] at e3; cases e3
            have hb1 := hW.no n19
            go_simp
            exact ⟨by simp [updF, Act.put, hZ, selF_true, n19, f1, f2], ⟨fun _ => (by first | exact hb1 | trivial), fun h => (by simp [updF, n19] at h)⟩⟩
          refine allOpsF_cons 4 ?_ ?_
          · rintro Z _ w hZ hd hcl ⟨rfl, hW⟩
            obtain ⟨d0, d1, -⟩ := hd
            have f3 : Z 3 = true := d0 rfl
            have f1 : Z 1 = true := d1 rfl
            simp only [f3, f1, selF_true]
            have n19 : Z 19 = false := by
              cases e19 : Z 19 with
              | false => rfl
              | true =>
                obtain ⟨_, g18, -⟩ := hcl 19 _ rfl e19
                have e18 : Z 18 = true := g18 rfl
                obtain ⟨g17, -⟩ := hcl 18 _ rfl e18
                have e17 : Z 17 = true := g17 rfl
                obtain ⟨g15, -⟩ := hcl 17 _ rfl e17
                have e15 : Z 15 = true := g15 rfl
                obtain ⟨g14, -⟩ := hcl 15 _ rfl e15
                have e14 : Z 14 = true := g14 rfl
                obtain ⟨g13, -⟩ := hcl 14 _ rfl e14
                have e13 : Z 13 = true := g13 rfl
                obtain ⟨g12, -⟩ := hcl 13 _ rfl e13
                have e12 : Z 12 = true := g12 rfl
                obtain ⟨g10, -⟩ := hcl 12 _ rfl e12
                have e10 : Z 10 = true := g10 rfl
                obtain ⟨g9, -⟩ := hcl 10 _ rfl e10
                have e9 : Z 9 = true := g9 rfl
                obtain ⟨_, g8, -⟩ := hcl 9 _ rfl e9
                have e8 : Z 8 = true := g8 rfl
                obtain ⟨g7, -⟩ := hcl 8 _ rfl e8
                have e7 : Z 7 = true := g7 rfl
                obtain ⟨g5, -⟩ := hcl 7 _ rfl e7
                have e5 : Z 5 = true := g5 rfl
                obtain ⟨g4, -⟩ := hcl 5 _ rfl e5
                have e4 : Z 4 = true := g4 rfl
                rw [hZ] at e4; cases e4
            have hb1 := hW.no n19
            go_simp
            exact ⟨by simp [updF, Act.put, hZ, selF_true, n19, f1, f3], ⟨fun _ => (by first | exact hb1 | trivial), fun h => (by simp [updF, n19] at h)⟩⟩
          refine allOpsF_cons 5 ?_ ?_
          · rintro Z _ w hZ hd hcl ⟨rfl, hW⟩
            obtain ⟨d0, d1, -⟩ := hd
            have f4 : Z 4 = true := d0 rfl
            have f1 : Z 1 = true := d1 rfl
            simp only [f4, f1, selF_true]
            have n19 : Z 19 = false := by
              cases e19 : Z 19 with
              | false => rfl
              | true =>
                obtain ⟨_, g18, -⟩ := hcl 19 _ rfl e19
                have e18 : Z 18 = true := g18 rfl
                obtain ⟨g17, -⟩ := hcl 18 _ rfl e18
                have e17 : Z 17 = true := g17 rfl
                obtain ⟨g15, -⟩ := hcl 17 _ rfl e17
                have e15 : Z 15 = true := g15 rfl
                obtain ⟨g14, -⟩ := hcl 15 _ rfl e15
                have e14 : Z 14 = true := g14 rfl
                obtain ⟨g13, -⟩ := hcl 14 _ rfl e14
                have e13 : Z 13 = true := g13 rfl
                obtain ⟨g12, -⟩ := hcl 13 _ rfl e13
                have e12 : Z 12 = true := g12 rfl
                obtain ⟨g10, -⟩ := hcl 12 _ rfl e12
                have e10 : Z 10 = true := g10 rfl
                obtain ⟨g9, -⟩ := hcl 10 _ rfl e10
                have e9 : Z 9 = true := g9 rfl
                obtain ⟨_, g8, -⟩ := hcl 9 _ rfl e9
                have e8 : Z 8 = true := g8 rfl
                obtain ⟨g7, -⟩ := hcl 8 _ rfl e8
                have e7 : Z 7 = true := g7 rfl
                obtain ⟨g5, -⟩ := hcl 7 _ rfl e7
                have e5 : Z 5 = true := g5 rfl
                rw [hZ] at e5; cases e5
            have hb1 := hW.no n19
            have c1 := hl0 w hb1
            go_simp
            exact ⟨by simp [updF, Act.put, hZ, selF_true, n19, f1, f4], ⟨fun _ => (by first | exact hb1 | trivial), fun h => (by simp [updF, n19] at h)⟩⟩
          refine allOpsF_cons 6 ?_ ?_
          · rintro Z _ w hZ hd hcl ⟨rfl, hW⟩
            obtain ⟨d0, -⟩ := hd
            have f1 : Z 1 = true := d0 rfl
            simp only [f1, selF_true]
            have n19 : Z 19 = false := by
              cases e19 : Z 19 with
              | false => rfl
              | true =>
                obtain ⟨_, g18, -⟩ := hcl 19 _ rfl e19
                have e18 : Z 18 = true := g18 rfl
                obtain ⟨g17, -⟩ := hcl 18 _ rfl e18
                have e17 : Z 17 = true := g17 rfl
                obtain ⟨g15, -⟩ := hcl 17 _ rfl e17
                have e15 : Z 15 = true := g15 rfl
                obtain ⟨g14, -⟩ := hcl 15 _ rfl e15
                have e14 : Z 14 = true := g14 rfl
                obtain ⟨g13, -⟩ := hcl 14 _ rfl e14
                have e13 : Z 13 = true := g13 rfl
                obtain ⟨g12, -⟩ := hcl 13 _ rfl e13
                have e12 : Z 12 = true := g12 rfl
                obtain ⟨g10, -⟩ := hcl 12 _ rfl e12
                have e10 : Z 10 = true := g10 rfl
                obtain ⟨g9, -⟩ := hcl 10 _ rfl e10
                have e9 : Z 9 = true := g9 rfl
                obtain ⟨_, g8, -⟩ := hcl 9 _ rfl e9
                have e8 : Z 8 = true := g8 rfl
                obtain ⟨g7, -⟩ := hcl 8 _ rfl e8
                have e7 : Z 7 = true := g7 rfl
                obtain ⟨_, g6, -⟩ := hcl 7 _ rfl e7
                have e6 : Z 6 = true := g6 rfl
                rw [hZ] at e6; cases e6
            have hb1 := hW.no n19
            go_simp
            exact ⟨by simp [updF, Act.put, hZ, selF_true, n19, f1], ⟨fun _ => (by first | exact hb1 | trivial), fun h => (by simp [updF, n19] at h)⟩⟩
          refine allOpsF_cons 7 ?_ ?_
          · rintro Z _ w hZ hd hcl ⟨rfl, hW⟩
            obtain ⟨d0, d1, d2, d3, -⟩ := hd
            have f5 : Z 5 = true := d0 rfl
            have f6 : Z 6 = true := d1 rfl
            have f1 : Z 1 = true := d2 rfl
            simp only [f5, f6, f1, selF_true]
            have n19 : Z 19 = false := by
              cases e19 : Z 19 with
              | false => rfl
              | true =>
                obtain ⟨_, g18, -⟩ := hcl 19 _ rfl e19
                have e18 : Z 18 = true := g18 rfl
                obtain ⟨g17, -⟩ := hcl 18 _ rfl e18
                have e17 : Z 17 = true := g17 rfl
                obtain ⟨g15, -⟩ := hcl 17 _ rfl e17
                have e15 : Z 15 = true := g15 rfl
                obtain ⟨g14, -⟩ := hcl 15 _ rfl e15
                have e14 : Z 14 = true := g14 rfl
                obtain ⟨g13, -⟩ := hcl 14 _ rfl e14
                have e13 : Z 13 = true := g13 rfl
                obtain ⟨g12, -⟩ := hcl 13 _ rfl e13
                have e12 : Z 12 = true := g12 rfl
                obtain ⟨g10, -⟩ := hcl 12 _ rfl e12
                have e10 : Z 10 = true := g10 rfl
                obtain ⟨g9, -⟩ := hcl 10 _ rfl e10
                have e9 : Z 9 = true := g9 rfl
                obtain ⟨_, g8, -⟩ := hcl 9 _ rfl e9
                have e8 : Z 8 = true := g8 rfl
                obtain ⟨g7, -⟩ := hcl 8 _ rfl e8
                have e7 : Z 7 = true := g7 rfl
                rw [hZ] at e7; cases e7
            have hb1 := hW.no n19
            go_simp
            refine ⟨trivial, (CallsIn.inRound l2 (callsIn_wide.2 (k2 w hb1))).mono ?_⟩
            rintro e w2 ⟨rfl, hg2⟩
            exact ⟨by simp [updF, Act.put, hZ, selF_true, n19, f1, f5, f6], ⟨fun _ => hb1.trans (hg2.below.mono hb1.size), fun h => (by simp [updF, n19] at h)⟩⟩
          refine allOpsF_cons 8 ?_ ?_
          · rintro Z _ w hZ hd hcl ⟨rfl, hW⟩
            obtain ⟨d0, d1, -⟩ := hd
            have f7 : Z 7 = true := d0 rfl
            have f1 : Z 1 = true := d1 rfl
            simp only [f7, f1, selF_true]
            have n19 : Z 19 = false := by
              cases e19 : Z 19 with
              | false => rfl
              | true =>
                obtain ⟨_, g18, -⟩ := hcl 19 _ rfl e19
                have e18 : Z 18 = true := g18 rfl
                obtain ⟨g17, -⟩ := hcl 18 _ rfl e18
                have e17 : Z 17 = true := g17 rfl
                obtain ⟨g15, -⟩ := hcl 17 _ rfl e17
                have e15 : Z 15 = true := g15 rfl
                obtain ⟨g14, -⟩ := hcl 15 _ rfl e15
                have e14 : Z 14 = true := g14 rfl
                obtain ⟨g13, -⟩ := hcl 14 _ rfl e14
                have e13 : Z 13 = true := g13 rfl
                obtain ⟨g12, -⟩ := hcl 13 _ rfl e13
                have e12 : Z 12 = true := g12 rfl
                obtain ⟨g10, -⟩ := hcl 12 _ rfl e12
                have e10 : Z 10 = true := g10 rfl
                obtain ⟨g9, -⟩ := hcl 10 _ rfl e10
                have e9 : Z 9 = true := g9 rfl
                obtain ⟨_, g8, -⟩ := hcl 9 _ rfl e9
                have e8 : Z 8 = true := g8 rfl
                rw [hZ] at e8; cases e8
            have hb1 := hW.no n19
            go_simp
            exact ⟨by simp [updF, Act.put, hZ, selF_true, n19, f1, f7], ⟨fun _ => (by first | exact hb1 | trivial), fun h => (by simp [updF, n19] at h)⟩⟩
          refine allOpsF_cons 9 ?_ ?_
          · rintro Z _ w hZ hd hcl ⟨rfl, hW⟩
            obtain ⟨d0, d1, -⟩ := hd
            have f1 : Z 1 = true := d0 rfl
            have f8 : Z 8 = true := d1 rfl
            simp only [f1, f8, selF_true]
            have n19 : Z 19 = false := by
              cases e19 : Z 19 with
              | false => rfl
              | true =>
                obtain ⟨_, g18, -⟩ := hcl 19 _ rfl e19
                have e18 : Z 18 = true := g18 rfl
                obtain ⟨g17, -⟩ := hcl 18 _ rfl e18
                have e17 : Z 17 = true := g17 rfl
                obtain ⟨g15, -⟩ := hcl 17 _ rfl e17
                have e15 : Z 15 = true := g15 rfl
                obtain ⟨g14, -⟩ := hcl 15 _ rfl e15
                have e14 : Z 14 = true := g14 rfl
                obtain ⟨g13, -⟩ := hcl 14 _ rfl e14
                have e13 : Z 13 = true := g13 rfl
                obtain ⟨g12, -⟩ := hcl 13 _ rfl e13
                have e12 : Z 12 = true := g12 rfl
                obtain ⟨g10, -⟩ := hcl 12 _ rfl e12
                have e10 : Z 10 = true := g10 rfl
                obtain ⟨g9, -⟩ := hcl 10 _ rfl e10
                have e9 : Z 9 = true := g9 rfl
                rw [hZ] at e9; cases e9
            have hb1 := hW.no n19
            go_simp
            exact ⟨by simp [updF, Act.put, hZ, selF_true, n19, f1, f8], ⟨fun _ => (by first | exact hb1 | trivial), fun h => (by simp [updF, n19] at h)⟩⟩
          refine allOpsF_cons 10 ?_ ?_
          · rintro Z _ w hZ hd hcl ⟨rfl, hW⟩
            obtain ⟨d0, d1, -⟩ := hd
            have f9 : Z 9 = true := d0 rfl
            have f7 : Z 7 = true := d1 rfl
            simp only [f9, f7, selF_true]
            have n19 : Z 19 = false := by
              cases e19 : Z 19 with
              | false => rfl
              | true =>
                obtain ⟨_, g18, -⟩ := hcl 19 _ rfl e19
                have e18 : Z 18 = true := g18 rfl
                obtain ⟨g17, -⟩ := hcl 18 _ rfl e18
                have e17 : Z 17 = true := g17 rfl
                obtain ⟨g15, -⟩ := hcl 17 _ rfl e17
                have e15 : Z 15 = true := g15 rfl
                obtain ⟨g14, -⟩ := hcl 15 _ rfl e15
                have e14 : Z 14 = true := g14 rfl
                obtain ⟨g13, -⟩ := hcl 14 _ rfl e14
                have e13 : Z 13 = true := g13 rfl
                obtain ⟨g12, -⟩ := hcl 13 _ rfl e13
                have e12 : Z 12 = true := g12 rfl
                obtain ⟨g10, -⟩ := hcl 12 _ rfl e12
                have e10 : Z 10 = true := g10 rfl
                rw [hZ] at e10; cases e10
            have hb1 := hW.no n19
            go_simp
            exact ⟨by simp [updF, Act.put, hZ, selF_true, n19, f7, f9], ⟨fun _ => (by first | exact hb1 | trivial), fun h => (by simp [updF, n19] at h)⟩⟩
          refine allOpsF_cons 11 ?_ ?_
          · rintro Z _ w hZ hd hcl ⟨rfl, hW⟩
            obtain ⟨d0, -⟩ := hd
            have f10 : Z 10 = true := d0 rfl
            simp only [f10, selF_true]
            have n19 : Z 19 = false := by
              cases e19 : Z 19 with
              | false => rfl
              | true =>
                obtain ⟨g11, -⟩ := hcl 19 _ rfl e19
                have e11 : Z 11 = true := g11 rfl
                rw [hZ] at e11; cases e11
            have hb1 := hW.no n19
            have c1 := hlf w hb1
            go_simp
            exact ⟨by simp [updF, Act.put, hZ, selF_true, n19, f10], ⟨fun _ => (by first | exact hb1 | trivial), fun h => (by simp [updF, n19] at h)⟩⟩
          refine allOpsF_cons 12 ?_ ?_
          · rintro Z _ w hZ hd hcl ⟨rfl, hW⟩
            obtain ⟨d0, -⟩ := hd
            have f10 : Z 10 = true := d0 rfl
            simp only [f10, selF_true]
            have n19 : Z 19 = false := by
              cases e19 : Z 19 with
              | false => rfl
              | true =>
                obtain ⟨_, g18, -⟩ := hcl 19 _ rfl e19
                have e18 : Z 18 = true := g18 rfl
                obtain ⟨g17, -⟩ := hcl 18 _ rfl e18
                have e17 : Z 17 = true := g17 rfl
                obtain ⟨g15, -⟩ := hcl 17 _ rfl e17
                have e15 : Z 15 = true := g15 rfl
                obtain ⟨g14, -⟩ := hcl 15 _ rfl e15
                have e14 : Z 14 = true := g14 rfl
                obtain ⟨g13, -⟩ := hcl 14 _ rfl e14
                have e13 : Z 13 = true := g13 rfl
                obtain ⟨g12, -⟩ := hcl 13 _ rfl e13
                have e12 : Z 12 = true := g12 rfl
                rw [hZ] at e12; cases e12
            have hb1 := hW.no n19
            have c1 := hlp w hb1
            go_simp
            exact ⟨by simp [updF, Act.put, hZ, selF_true, n19, f10], ⟨fun _ => (by first | exact hb1 | trivial), fun h => (by simp [updF, n19] at h)⟩⟩
          refine allOpsF_cons 13 ?_ ?_
          · rintro Z _ w hZ hd hcl ⟨rfl, hW⟩
            obtain ⟨d0, d1, -⟩ := hd
            have f12 : Z 12 = true := d0 rfl
            have f10 : Z 10 = true := d1 rfl
            simp only [f12, f10, selF_true]
            have n19 : Z 19 = false := by
              cases e19 : Z 19 with
              | false => rfl
              | true =>
                obtain ⟨_, g18, -⟩ := hcl 19 _ rfl e19
                have e18 : Z 18 = true := g18 rfl
                obtain ⟨g17, -⟩ := hcl 18 _ rfl e18
                have e17 : Z 17 = true := g17 rfl
                obtain ⟨g15, -⟩ := hcl 17 _ rfl e17
                have e15 : Z 15 = true := g15 rfl
                obtain ⟨g14, -⟩ := hcl 15 _ rfl e15
                have e14 : Z 14 = true := g14 rfl
                obtain ⟨g13, -⟩ := hcl 14 _ rfl e14
                have e13 : Z 13 = true := g13 rfl
                rw [hZ] at e13; cases e13
            have hb1 := hW.no n19
            go_simp
            exact ⟨by simp [updF, Act.put, hZ, selF_true, n19, f10, f12], ⟨fun _ => (by first | exact hb1 | trivial), fun h => (by simp [updF, n19] at h)⟩⟩
          refine allOpsF_cons 14 ?_ ?_
          · rintro Z _ w hZ hd hcl ⟨rfl, hW⟩
            obtain ⟨d0, d1, -⟩ := hd
            have f13 : Z 13 = true := d0 rfl
            have f10 : Z 10 = true := d1 rfl
            simp only [f13, f10, selF_true]
            have n19 : Z 19 = false := by
              cases e19 : Z 19 with
              | false => rfl
              | true =>
                obtain ⟨_, g18, -⟩ := hcl 19 _ rfl e19
                have e18 : Z 18 = true := g18 rfl
                obtain ⟨g17, -⟩ := hcl 18 _ rfl e18
                have e17 : Z 17 = true := g17 rfl
                obtain ⟨g15, -⟩ := hcl 17 _ rfl e17
                have e15 : Z 15 = true := g15 rfl
                obtain ⟨g14, -⟩ := hcl 15 _ rfl e15
                have e14 : Z 14 = true := g14 rfl
                rw [hZ] at e14; cases e14
            have hb1 := hW.no n19
            go_simp
            exact ⟨by simp [updF, Act.put, hZ, selF_true, n19, f10, f13], ⟨fun _ => (by first | exact hb1 | trivial), fun h => (by simp [updF, n19] at h)⟩⟩
          refine allOpsF_cons 15 ?_ ?_
          · rintro Z _ w hZ hd hcl ⟨rfl, hW⟩
            obtain ⟨d0, d1, -⟩ := hd
            have f14 : Z 14 = true := d0 rfl
            have f10 : Z 10 = true := d1 rfl
            simp only [f14, f10, selF_true]
            have n19 : Z 19 = false := by
              cases e19 : Z 19 with
              | false => rfl
              | true =>
                obtain ⟨_, g18, -⟩ := hcl 19 _ rfl e19
                have e18 : Z 18 = true := g18 rfl
                obtain ⟨g17, -⟩ := hcl 18 _ rfl e18
                have e17 : Z 17 = true := g17 rfl
                obtain ⟨g15, -⟩ := hcl 17 _ rfl e17
                have e15 : Z 15 = true := g15 rfl
                rw [hZ] at e15; cases e15
            have hb1 := hW.no n19
            have c1 := hl3 w hb1
            go_simp
            exact ⟨by simp [updF, Act.put, hZ, selF_true, n19, f10, f14], ⟨fun _ => (by first | exact hb1 | trivial), fun h => (by simp [updF, n19] at h)⟩⟩
          refine allOpsF_cons 16 ?_ ?_
          · rintro Z _ w hZ hd hcl ⟨rfl, hW⟩
            obtain ⟨d0, -⟩ := hd
            have f10 : Z 10 = true := d0 rfl
            simp only [f10, selF_true]
            have n19 : Z 19 = false := by
              cases e19 : Z 19 with
              | false => rfl
              | true =>
                obtain ⟨_, g18, -⟩ := hcl 19 _ rfl e19
                have e18 : Z 18 = true := g18 rfl
                obtain ⟨g17, -⟩ := hcl 18 _ rfl e18
                have e17 : Z 17 = true := g17 rfl
                obtain ⟨_, g16, -⟩ := hcl 17 _ rfl e17
                have e16 : Z 16 = true := g16 rfl
                rw [hZ] at e16; cases e16
            have hb1 := hW.no n19
            go_simp
            exact ⟨by simp [updF, Act.put, hZ, selF_true, n19, f10], ⟨fun _ => (by first | exact hb1 | trivial), fun h => (by simp [updF, n19] at h)⟩⟩
          refine allOpsF_cons 17 ?_ ?_
          · rintro Z _ w hZ hd hcl ⟨rfl, hW⟩
            obtain ⟨d0, d1, d2, -⟩ := hd
            have f15 : Z 15 = true := d0 rfl
            have f16 : Z 16 = true := d1 rfl
            have f10 : Z 10 = true := d2 rfl
            simp only [f15, f16, f10, selF_true]
            have n19 : Z 19 = false := by
              cases e19 : Z 19 with
              | false => rfl
              | true =>
                obtain ⟨_, g18, -⟩ := hcl 19 _ rfl e19
                have e18 : Z 18 = true := g18 rfl
                obtain ⟨g17, -⟩ := hcl 18 _ rfl e18
                have e17 : Z 17 = true := g17 rfl
                rw [hZ] at e17; cases e17
            have hb1 := hW.no n19
            have hti : decide (0 ≤ t ∧ t < (HL.length : Int)) = true := by simp; omega
            go_simp
            exact ⟨by simp [updF, Act.put, hZ, selF_true, n19, f10, f15, f16], ⟨fun _ => (by first | exact hb1 | trivial), fun h => (by simp [updF, n19] at h)⟩⟩
          refine allOpsF_cons 18 ?_ ?_
          · rintro Z _ w hZ hd hcl ⟨rfl, hW⟩
            obtain ⟨d0, d1, -⟩ := hd
            have f17 : Z 17 = true := d0 rfl
            have f10 : Z 10 = true := d1 rfl
            simp only [f17, f10, selF_true]
            have n19 : Z 19 = false := by
              cases e19 : Z 19 with
              | false => rfl
              | true =>
                obtain ⟨_, g18, -⟩ := hcl 19 _ rfl e19
                have e18 : Z 18 = true := g18 rfl
                rw [hZ] at e18; cases e18
            have hb1 := hW.no n19
            have c1 := hlh w hb1
            go_simp
            exact ⟨by simp [updF, Act.put, hZ, selF_true, n19, f10, f17], ⟨fun _ => (by first | exact hb1 | trivial), fun h => (by simp [updF, n19] at h)⟩⟩
          refine allOpsF_cons 19 ?_ ?_
          · rintro Z _ w hZ hd hcl ⟨rfl, hW⟩
            obtain ⟨d0, d1, d2, d3, -⟩ := hd
            have f11 : Z 11 = true := d0 rfl
            have f18 : Z 18 = true := d1 rfl
            have f10 : Z 10 = true := d2 rfl
            simp only [f11, f18, f10, selF_true]
            have hb1 := hW.no hZ
            have hJw : J dn w := hJ dn V w none hd3 (grows hb1) (fun r e => by cases e)
            obtain ⟨fn, tmps, assign, body, hy, hR2⟩ := hY dn z w hJw hdl
            rw [hz] at hy
            go_simp
            refine (round_in (l2 := l2) (round_any hR2)).mono ?_
            rintro e w2 ⟨rfl, hJ2, hk2, hs2, ht2, hf2⟩
            exact ⟨by simp [updF, Act.put, hZ, selF_true, f10, f11, f18], ⟨fun h => (by simp [updF] at h), fun _ => ⟨hJ2, w, hb1, hk2, hs2, ht2, hf2⟩⟩⟩
          refine allOpsF_cons 20 ?_ ?_
          · rintro Z _ w hZ hd hcl ⟨rfl, hW⟩
            obtain ⟨d0, d1, -⟩ := hd
            have f19 : Z 19 = true := d0 rfl
            have f10 : Z 10 = true := d1 rfl
            simp only [f19, f10, selF_true]
            have hF := hW.yes f19
            go_simp
            exact ⟨by simp [updF, Act.put, hZ, selF_true, f10, f19], ⟨fun h => (by simp [updF, f19] at h), fun _ => (by first | exact hF | trivial)⟩⟩
          refine allOpsF_cons 21 ?_ ?_
          · rintro Z _ w hZ hd hcl ⟨rfl, hW⟩
            obtain ⟨d0, d1, -⟩ := hd
            have f10 : Z 10 = true := d0 rfl
            have f20 : Z 20 = true := d1 rfl
            simp only [f10, f20, selF_true]
            obtain ⟨g19, -⟩ := hcl 20 _ rfl f20
            have f19 : Z 19 = true := g19 rfl
            have hF := hW.yes f19
            go_simp
            exact ⟨by simp [updF, Act.put, hZ, selF_true, f10, f19, f20], ⟨fun h => (by simp [updF, f19] at h), fun _ => (by first | exact hF | trivial)⟩⟩
          exact allOpsF_nil 22
        case fin =>
          rintro Z _ w hZ ⟨rfl, hW⟩
          simp only [hZ 0 (by decide), hZ 1 (by decide), hZ 2 (by decide), hZ 3 (by decide), hZ 4 (by decide), hZ 5 (by decide), hZ 6 (by decide), hZ 7 (by decide), hZ 8 (by decide), hZ 9 (by decide), hZ 10 (by decide), hZ 11 (by decide), hZ 12 (by decide), hZ 13 (by decide), hZ 14 (by decide), hZ 15 (by decide), hZ 16 (by decide), hZ 17 (by decide), hZ 18 (by decide), hZ 19 (by decide), hZ 20 (by decide), hZ 21 (by decide), selF_true]
          have hF := hW.yes (hZ 19 (by decide))
          obtain ⟨hJ2, W1, hb1, hk2, hs2, ht2, hf2⟩ := hF
          gi_wp2
          obtain ⟨q1, q2, ⟨q3, q4⟩, q5, q6, q7⟩ := hrest W1 hb1
          refine ⟨q1.trans (kf_mono hf2 (by omega)), q2.trans (fun b hb => ?_), ⟨dn ++ [z], by rw [List.map_append, List.map_append, List.filterMap_append, hd2]; simp [hcn, hz], hJ2⟩, Below.refl _ _, ⟨q3.trans hk2, Nat.le_trans q4 hs2⟩, ht2 _ _ _ q5 (by decide) (by decide) (by decide), ht2 _ _ _ q6 (by decide) (by decide) (by decide), ht2 _ _ _ q7 (by decide) (by decide) (by decide)⟩
          rcases hb with rfl | rfl | rfl | rfl
          · exact (ht2 _ _ _ q6 (by decide) (by decide) (by decide)).trans q6.symm
          · exact (ht2 _ _ _ q7 (by decide) (by decide) (by decide)).trans q7.symm
          · exact hk2 _ hSP
          · exact hk2 _ hSb
  case done =>
    rintro D V hD ⟨⟨dn, hd2, hd3⟩, _, hKe, z0, z1, z2⟩ hKD
    obtain rfl : dn = xs := map_inj hinj (by rw [hd2, List.attach_map_subtype_val, hxs])
    gi_wp2
    refine ⟨by simp, .inl ⟨_, _, rfl, run_takeDeferred hKD, ?_⟩⟩
    refine ⟨_, results_none rfl _ _ _, ⟨_, rfl⟩, ?_⟩
    exact hJ dn V _ (some D) hd3 (grownBy_putObj' _ D (.deferred none)) (fun r e => by cases e; exact ⟨by omega, _, hKD, rfl⟩)
end Go.Proofs.Ytdmdmbcapjmnlab
