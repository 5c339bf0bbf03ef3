/- Towards the statements of package name (layer 9): Words: the closure that ends a row. -/
import Derived.Test.YtkndkniimlckeaaNI
import Derived.Laws.AppendOwn
namespace Go.Proofs.Ytkndkniimlckeaa
open Go.ChangeShapes Go.WideShapes Go.ChangeAt Go.RowKit
set_option linter.unusedVariables false
set_option linter.unusedSimpArgs false
set_option maxRecDepth 20000
theorem clone_any (s : ByteArray) (h : s.size ≤ 281474976710656) (w : World) : Calls Try.prog 28 #[.string s] w fun e w' => e = .returned (.string s) ∧ Bl w w' := by
  have hc := fun W => Try.stringslite_Clone s W h
  go_enter Try.func28, Try.ntmps28
  go_wp2_with (go_at_call 35; refine (hc _).mono ?_; rintro e w' ⟨rfl, hb⟩)
  go_returns
  exact ⟨rfl, hb⟩
theorem cut_mid (s : ByteArray) {a b : Nat} (h : a ≤ b) (h2 : b ≤ s.size) (W : World) : (Instr.slice 9 (.string s) (some (.int .i64 a)) (some (.int .i64 b)) none).run Try.prog W = .ok (.string (s.extract a b)) W := by
  have := run_slice_string W 9 s .i64 .i64 a b Try.underlying9 (by omega) (by omega) (by omega)
  simpa using this
/-- What Words keeps: the text, where a row begins, the names so far. -/
structure KeepN (W : World) (base b1 b3 b4 : Nat) (s : ByteArray) (frm : Nat) (vc v : Value) (X : List ByteArray) : Prop where
  t : W.heap[b1]? = some (.cells #[.string s] 9)
  n : W.heap[b3]? = some (.cells #[vc] 26)
  f : W.heap[b4]? = some (.cells #[.int .i64 frm] 3)
  row : W.ownsRow base 9 1 v X.length (X.map .string)
  lt1 : b1 < base
  lt3 : b3 < base
  lt4 : b4 < base
  le : base ≤ W.heap.size
  ne34 : b3 ≠ b4
  ne13 : b1 ≠ b3
  ne14 : b1 ≠ b4
abbrev Keep (W : World) (base b1 b3 b4 : Nat) (s : ByteArray) (frm : Nat) (v : Value) (X : List ByteArray) : Prop := KeepN W base b1 b3 b4 s frm v v X
theorem KeepN.gr {W W' : World} {base b1 b3 b4 : Nat} {s : ByteArray} {frm : Nat} {vc v : Value} {X : List ByteArray} (h : KeepN W base b1 b3 b4 s frm vc v X) (hb : Bl W W') : KeepN W' base b1 b3 b4 s frm vc v X :=
  ⟨it_keep (w := W) h.t hb, it_keep (w := W) h.n hb, it_keep (w := W) h.f hb, h.row.kept (row := none) ⟨hb.os, hb.tape, hb.output, hb.size, fun i hi _ => hb.block i hi⟩ (by
    rcases h.row.2 with ⟨rfl, _⟩ | ⟨g, cap, cur, rfl, _⟩
    · exact .inl rfl
    · exact .inr (by simp [Value.ownBlock])), h.lt1, h.lt3, h.lt4, Nat.le_trans h.le hb.size, h.ne34, h.ne13, h.ne14⟩
theorem cell_of {W : World} {k : Nat} {cs : Array Value} {t : TypeId} {j : Nat} {v : Value} (h : W.heap[k]? = some (.cells cs t)) (hj : cs[j]? = some v) : W.cell? ⟨k, j, none⟩ = some v := by
  unfold World.cell?; rw [h]; exact hj
theorem frozen_of {W : World} {k : Nat} {cs : Array Value} {t : TypeId} (h : W.heap[k]? = some (.cells cs t)) (j : Nat) : W.frozen? ⟨k, j, none⟩ = false := by
  unfold World.frozen?; rw [h]; rfl
theorem info9 : (Try.prog.info? 9).map (fun i => (i.zero, i.size, i.bytes)) = some (some (.string ⟨#[]⟩), 1, 16) := by kernel_rfl
theorem info_parts {P : Program} {t : TypeId} {z : Value} {a b : Nat} (h : (P.info? t).map (fun i => (i.zero, i.size, i.bytes)) = some (some z, a, b)) : ∃ i, P.info? t = some i ∧ i.zero = some z ∧ i.size = a ∧ i.bytes = b := by
  cases hi : P.info? t with
  | none => rw [hi] at h; cases h
  | some i => rw [hi] at h; simp at h; exact ⟨i, rfl, h.1, h.2.1, h.2.2⟩
theorem heap_new (W : World) (o : Obj) : (W.alloc o).heap[W.heap.size]? = some o := by
  show (W.heap.push o)[W.heap.size]? = some o
  simp
theorem heap_set {W : World} {k : Nat} {c : Value} {t : TypeId} (u : Value) (h : W.heap[k]? = some (.cells #[c] t)) : (W.setCell ⟨k, 0, none⟩ u).heap[k]? = some (.cells #[u] t) := by
  simp [World.setCell, Array.getElem?_modify, h]
theorem cell_one_new (W : World) (a : Value) (t : TypeId) : ∀ (j : Nat) (u : Value), [a][j]? = some u → (W.alloc (.cells #[a] t)).cell? (Addr.add ⟨W.heap.size, 0, none⟩ j) = some u := by
  intro j u hu
  have hb : (W.alloc (.cells #[a] t)).heap[W.heap.size]? = some (.cells #[a] t) := heap_new W _
  match j, hu with
  | 0, hu => exact cell_of hb (by simpa using hu)
/-- What holds in the append's statement, whatever has been done. -/
def WInv (base b1 b3 b4 frm pos : Nat) (s x : ByteArray) (v : Value) (X : List ByteArray) (w1 : World) (L : Nat → Bool) (a : Act) (wx : World) : Prop := ∃ y12 y13 y14 y15 y16 : Value, a = ⟨#[.int .i64 pos, .pointer (some ⟨b1, 0, none⟩), .pointer (some ⟨b4, 0, none⟩), .pointer (some ⟨b3, 0, none⟩), undef, .string x, .string s, .int .i64 frm, .int .i64 pos, .string x, .string x, .bool true, y12, y13, y14, y15, y16], []⟩
      ∧ ((L 2 = true → L 1 = true) ∧ (L 3 = true → L 2 = true) ∧ (L 4 = true → L 0 = true) ∧ (L 4 = true → L 3 = true) ∧ (L 5 = true → L 4 = true))
      ∧ (L 0 = true → y12 = v) ∧ (L 1 = true → y13 = .string x) ∧ (L 2 = true → y14 = .string x) ∧ (L 3 = true → L 4 = false → ∃ q, y15 = .slice (some ⟨q, 0, none⟩) 1 1 ∧ wx.heap[q]? = some (.cells #[.string x] 9))
      ∧ (L 4 = false → Keep wx base b1 b3 b4 s frm v X) ∧ (L 4 = true → L 5 = false → KeepN wx base b1 b3 b4 s frm v y16 (X ++ [x])) ∧ (L 5 = true → ∃ v', Keep wx base b1 b3 b4 s frm v' (X ++ [x]))
      ∧ Below b3 w1 wx ∧ ∀ k, k < base → k ≠ b3 → wx.heap[k]? = w1.heap[k]?
set_option maxHeartbeats 2000000 in
theorem end_any (base b1 b3 b4 : Nat) (s : ByteArray) (frm pos : Nat) (v : Value) (X : List ByteArray) (w : World) (hK : Keep w base b1 b3 b4 s frm v X) (h1 : frm ≤ pos) (h2 : pos ≤ s.size) (hs : s.size ≤ 1048576) (hX : X.length ≤ 1048576) :
    Calls Try.prog 27 #[.int .i64 pos, .pointer (some ⟨b1, 0, none⟩), .pointer (some ⟨b4, 0, none⟩), .pointer (some ⟨b3, 0, none⟩)] w fun e w' => e = .returned (.tuple #[]) ∧ ∃ v', Keep w' base b1 b3 b4 s frm v' (if mayM (bt (s.extract frm pos)) then X ++ [s.extract frm pos] else X) ∧ Below b3 w w' ∧ ∀ k, k < base → k ≠ b3 → w'.heap[k]? = w.heap[k]? := by
  have c1 : w.cell? ⟨b1, 0, none⟩ = some (.string s) := cell_of hK.t (j := 0) rfl
  have c3 : w.cell? ⟨b3, 0, none⟩ = some v := cell_of hK.n (j := 0) rfl
  have c4 : w.cell? ⟨b4, 0, none⟩ = some (.int .i64 frm) := cell_of hK.f (j := 0) rfl
  have f3 := frozen_of hK.n 0
  have hcut := fun W => cut_mid s h1 h2 W
  have hsz : (s.extract frm pos).size ≤ 1048576 := by simp; omega
  have hm := fun W => may_any (s.extract frm pos) (by omega) W
  have hc := fun W => clone_any (s.extract frm pos) (by omega) W
  generalize s.extract frm pos = x at hcut hm hc hsz ⊢
  cases hq : mayM (bt x) with
  | false =>
    rw [hq] at hm
    go_enter Try.func27, Try.ntmps27
    go_wp2_with (first | (go_at_call 10; refine (hm _).mono ?_; rintro e w1 ⟨rfl, hb1⟩))
    go_returns
    exact ⟨rfl, ⟨v, hK.gr hb1⟩, hb1.mono (by have := hK.lt3; have := hK.le; omega), fun k hk _ => hb1.block k (Nat.lt_of_lt_of_le hk hK.le)⟩
  | true =>
    rw [hq] at hm
    go_enter Try.func27, Try.ntmps27
    go_upto_region 2 with (first | (go_at_call 10; refine (hm _).mono ?_; rintro e w1 ⟨rfl, hb1⟩))
    have hK1 := hK.gr hb1
    have c3' : w1.cell? ⟨b3, 0, none⟩ = some v := cell_of hK1.n (j := 0) rfl
    have f3' := frozen_of hK1.n 0
    obtain ⟨i9, hi9, hz90, hz91, hz92⟩ := info_parts info9
    have hBd : Bl w1 w1.drew := (Bl.refl w1).drew
    refine wp_region_inv (by kernel_rfl) (WInv base b1 b3 b4 frm pos s x v X w1) (by kernel_rfl) ?_ ?_ ?_
    · exact ⟨undef, undef, undef, undef, undef, rfl, by simp, by simp, by simp, by simp, by simp, fun _ => hK1.gr hBd, by simp, by simp, (Below.refl b3 w1).drew, fun _ _ _ => rfl⟩
    · refine allOps_cons 0 (keeps_free rfl ?_) (allOps_cons 1 (keeps_free rfl ?_) (allOps_cons 2 (keeps_free rfl ?_) (allOps_cons 3 (keeps_free rfl ?_) (allOps_cons 4 (keeps_free rfl ?_) (allOps_cons 5 (keeps_free rfl ?_) (allOps_nil 6))))))
      · rintro L a wx hL hd ⟨y12, y13, y14, y15, y16, rfl, ⟨o1, o2, o3, o4, o5⟩, i0, i1, i2, i3, i4, i5, i6, i7, i8⟩
        have l4 : L 4 = false := by cases h : L 4 <;> simp_all
        have hKx := i4 l4
        have c3x : wx.cell? ⟨b3, 0, none⟩ = some v := cell_of hKx.n (j := 0) rfl
        unfold Oper.wp
        simp only [execOp]
        go_simp
        exact ⟨_, _, _, _, _, rfl, by simp_all [upd], by simp, by simpa [upd] using i1, by simpa [upd] using i2, by simpa [upd] using i3, by simpa [upd] using i4, by simpa [upd] using i5, by simpa [upd] using i6, i7, i8⟩
      · rintro L a wx hL hd ⟨y12, y13, y14, y15, y16, rfl, ⟨o1, o2, o3, o4, o5⟩, i0, i1, i2, i3, i4, i5, i6, i7, i8⟩
        unfold Oper.wp
        simp only [execOp]
        go_simp
        exact ⟨_, _, _, _, _, rfl, by simp_all [upd], by simpa [upd] using i0, by simp, by simpa [upd] using i2, by simpa [upd] using i3, by simpa [upd] using i4, by simpa [upd] using i5, by simpa [upd] using i6, i7, i8⟩
      · rintro L a wx hL hd ⟨y12, y13, y14, y15, y16, rfl, ⟨o1, o2, o3, o4, o5⟩, i0, i1, i2, i3, i4, i5, i6, i7, i8⟩
        obtain ⟨e0, -⟩ := hd
        have l1 := e0 rfl
        have l4 : L 4 = false := by cases h : L 4 <;> simp_all
        obtain rfl := i1 l1
        refine wp_call1 rfl rfl (by kernel_rfl) ((hc _).mono ?_)
        rintro e wc ⟨rfl, hbc⟩
        refine ⟨_, rfl, _, _, _, _, _, rfl, by simp_all [upd], by simpa [upd] using i0, by simp, by simp, ?_, fun _ => (i4 l4).gr hbc, ?_, ?_, i7.trans (hbc.mono (by have := (i4 l4).lt3; have := (i4 l4).le; omega)), fun k hk hk3 => (hbc.block k (Nat.lt_of_lt_of_le hk (i4 l4).le)).trans (i8 k hk hk3)⟩
        · intro h3 _
          have : L 3 = true := by simpa [upd] using h3
          exact absurd (o2 this) (by rw [hL]; decide)
        · intro h; simp [upd, l4] at h
        · intro h
          have : L 5 = true := by simpa [upd] using h
          exact absurd (o5 this) (by rw [l4]; decide)
      · rintro L a wx hL hd ⟨y12, y13, y14, y15, y16, rfl, ⟨o1, o2, o3, o4, o5⟩, i0, i1, i2, i3, i4, i5, i6, i7, i8⟩
        obtain ⟨e0, -⟩ := hd
        have l2 := e0 rfl
        have l4 : L 4 = false := by cases h : L 4 <;> simp_all
        obtain rfl := i2 l2
        unfold Oper.wp
        simp only [execOp]
        go_simp
        have hba : Bl wx (wx.alloc (.cells #[.string x] 9)) := (Bl.refl wx).alloc _
        refine ⟨_, _, _, _, _, rfl, by simp_all [upd], by simpa [upd] using i0, by simp, by simp, fun _ _ => ⟨_, rfl, heap_new _ _⟩, fun _ => (i4 l4).gr hba, ?_, ?_, i7.trans (hba.mono (by have := (i4 l4).lt3; have := (i4 l4).le; omega)), fun k hk hk3 => (hba.block k (Nat.lt_of_lt_of_le hk (i4 l4).le)).trans (i8 k hk hk3)⟩
        · intro h; simp [upd, l4] at h
        · intro h
          have : L 5 = true := by simpa [upd] using h
          exact absurd (o5 this) (by rw [l4]; decide)
      · rintro L a wx hL hd ⟨y12, y13, y14, y15, y16, rfl, ⟨o1, o2, o3, o4, o5⟩, i0, i1, i2, i3, i4, i5, i6, i7, i8⟩
        obtain ⟨e0, e3, e2, -⟩ := hd
        obtain rfl := i0 (e0 rfl)
        obtain ⟨q, rfl, hq2⟩ := i3 (e3 rfl) hL
        have hKx := i4 hL
        refine wp_append_own wx _ _ 26 rfl base 9 i9 (.string ⟨#[]⟩) 1 16 Try.underlying26 hi9 hz90 hz91 hz92 rfl (by decide) _ _ _ rfl hKx.row ⟨q, 0, none⟩ 1 1 [.string x] rfl rfl (fun j u hu => by
          match j, hu with
          | 0, hu => exact cell_of hq2 (by simpa using hu)) (by simp [Value.oneCell']) (by simp [maxLen]; omega) (by omega) hKx.le ?_
        intro v' wa hown' hgrow hnil
        have hblk : ∀ k, k < base → wa.heap[k]? = wx.heap[k]? := fun k hk => hgrow.block k (Nat.lt_of_lt_of_le hk hKx.le) (fun e => by
          have := (hKx.row.lt k e.symm).1
          omega)
        refine ⟨_, _, _, _, _, rfl, by have := e0 rfl; have := e3 rfl; simp_all [upd], by simp, by simpa [upd] using i1, by simpa [upd] using i2, ?_, ?_, fun _ _ => ?_, ?_, i7.trans ⟨hgrow.os, hgrow.tape, hgrow.output, hgrow.size, fun k hk => hblk k (by have := hKx.lt3; omega)⟩, fun k hk hk3 => (hblk k hk).trans (i8 k hk hk3)⟩
        · intro _ h; simp [upd] at h
        · intro h; simp [upd] at h
        · exact ⟨(hblk _ hKx.lt1).trans hKx.t, (hblk _ hKx.lt3).trans hKx.n, (hblk _ hKx.lt4).trans hKx.f, by simpa using hown', hKx.lt1, hKx.lt3, hKx.lt4, Nat.le_trans hKx.le hgrow.size, hKx.ne34, hKx.ne13, hKx.ne14⟩
        · intro h
          have : L 5 = true := by simpa [upd] using h
          exact absurd (o5 this) (by rw [hL]; decide)
      · rintro L a wx hL hd ⟨y12, y13, y14, y15, y16, rfl, ⟨o1, o2, o3, o4, o5⟩, i0, i1, i2, i3, i4, i5, i6, i7, i8⟩
        obtain ⟨e4, -⟩ := hd
        have l4 := e4 rfl
        have hKx := i5 l4 hL
        have c3x : wx.cell? ⟨b3, 0, none⟩ = some v := cell_of hKx.n (j := 0) rfl
        have f3x := frozen_of hKx.n 0
        obtain ⟨pp, nn, cc, rfl⟩ : ∃ p n c, y16 = .slice p n c := by
          rcases hKx.row.2 with ⟨e, _⟩ | ⟨g, cap, cur, e, _⟩ <;> exact ⟨_, _, _, e⟩
        unfold Oper.wp
        simp only [execOp]
        go_simp
        have hs1 := heap_set (W := wx) (.slice pp nn cc) hKx.n
        have hs2 : ∀ k, k ≠ b3 → (wx.setCell ⟨b3, 0, none⟩ (.slice pp nn cc)).heap[k]? = wx.heap[k]? := fun k hk => Below.heap_setCell wx ⟨b3, 0, none⟩ _ k hk
        have hs3 : (wx.setCell ⟨b3, 0, none⟩ (.slice pp nn cc)).heap.size = wx.heap.size := by simp [World.setCell]
        refine ⟨_, _, _, _, _, rfl, by simp_all [upd], by simp_all [upd], by simpa [upd] using i1, by simpa [upd] using i2, ?_, ?_, ?_, fun _ => ⟨.slice pp nn cc, ?_⟩, i7.setCell (Nat.le_refl _) _, fun k hk hk3 => (hs2 k hk3).trans (i8 k hk hk3)⟩
        · intro _ h; simp [upd, l4] at h
        · intro h; simp [upd, l4] at h
        · intro _ h; simp [upd] at h
        · refine ⟨(hs2 _ hKx.ne13).trans hKx.t, hs1, (hs2 _ (Ne.symm hKx.ne34)).trans hKx.f, ?_, hKx.lt1, hKx.lt3, hKx.lt4, by rw [hs3]; exact hKx.le, hKx.ne34, hKx.ne13, hKx.ne14⟩
          refine ⟨hKx.row.1, ?_⟩
          rcases hKx.row.2 with e | ⟨g, cap, cur, e, hg, hh, r⟩
          · exact .inl e
          · exact .inr ⟨g, cap, cur, e, hg, (hs2 g (by have := hKx.lt3; omega)).trans hh, r⟩
    · rintro L a wx hL ⟨y12, y13, y14, y15, y16, rfl, -, -, -, -, -, -, -, i6, i7, i8⟩
      obtain ⟨v', hv'⟩ := i6 (hL 5 (by decide))
      go_returns
      exact ⟨rfl, v', by rw [if_pos trivial]; exact hv', (hb1.mono (by have := hK.lt3; have := hK.le; omega)).trans i7, fun k hk hk3 => (i8 k hk hk3).trans (hb1.block k (Nat.lt_of_lt_of_le hk hK.le))⟩
end Go.Proofs.Ytkndkniimlckeaa
