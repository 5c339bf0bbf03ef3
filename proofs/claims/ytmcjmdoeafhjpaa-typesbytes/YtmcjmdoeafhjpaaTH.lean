/- Towards the statements of package types (layer 10): Check. -/
import Derived.Test.YtmcjmdoeafhjpaaTG
namespace Go.Proofs.Ytmcjmdoeafhjpaa
open Go.ChangeShapes Go.WideShapes Go.ChangeAt Go.RowKit
set_option linter.unusedVariables false
set_option linter.unusedSimpArgs false
set_option maxRecDepth 20000
theorem drop_get {α : Type} {l : List α} {i : Nat} {x : α} (h : l[i]? = some x) : l.drop i = x :: l.drop (i + 1) := by
  obtain ⟨h1, h2⟩ := List.getElem?_eq_some_iff.1 h
  rw [List.drop_eq_getElem_cons h1, h2]
/-- The first field that is wrong, from the k-th on. -/
def badF (s : Int) (fs : List Fd) : Nat → List Fd → Option (Int × Int)
  | _, [] => none
  | k, x :: r => if fieldX s (fs.take k) x ≠ 0 then some ((k : Int), fieldX s (fs.take k) x) else badF s fs (k + 1) r
def typeM (L : List Ty) (i : Nat) (t : Ty) : Int × Int :=
  if (structM L i t).2 ≠ 0 then structM L i t else match badF t.s t.fs 0 t.fs with
    | some r => r
    | none => if mixM t.fs = true then (0, 106) else (0, 0)
/-- Names that are short enough. -/
def Fit (L : List Ty) : Prop := ∀ t ∈ L, t.n.size ≤ 1048576 ∧ ∀ x ∈ t.fs, x.n.size ≤ 1048576
set_option maxHeartbeats 4000000 in
theorem type_any (p : Option Addr) (c : Nat) (L : List Ty) (hc : L.length ≤ c ∧ c ≤ maxLen) (i : Nat) (t : Ty) (hx : L[i]? = some t) (w : World) (hL : Tys w p L) (hfit : Fit L) :
    Calls Try.prog 45 #[.slice p L.length c, .int .i64 i] w fun e w' => e = .returned (.tuple #[.int .i64 (typeM L i t).1, .int .i64 (typeM L i t).2]) ∧ Bl w w' := by
  have hfi := hfit t (List.mem_of_getElem? hx)
  have kst := struct_any p c L hc i t hx w hL (by omega)
  have hlen := hL.len
  unfold maxLen at hlen
  obtain ⟨b, off, rfl, hb1, hTC, hok, hil⟩ := hL.get hx
  have d1 : decide ((i : Int) < (L.length : Int)) = true := by simp; omega
  have hfl := hok.f.len
  unfold maxLen at hfl
  replace hx : Hid (L[i]? = some t) := hx
  by_cases hq : (structM L i t).2 ≠ 0
  · have ha : typeM L i t = structM L i t := by rw [typeM, if_pos hq]
    rw [ha]
    have e1 : ((structM L i t).2 != 0) = true := by simpa using hq
    generalize structM L i t = s at kst e1 ⊢
    go_enter Try.func45, Try.ntmps45
    go_wp2_with (go_at_call 70; refine kst.mono ?_; rintro e w3 ⟨rfl, hb3⟩)
    go_returns
    exact ⟨rfl, hb3⟩
  have ha : typeM L i t = (match badF t.s t.fs 0 t.fs with | some r => r | none => if mixM t.fs = true then (0, 106) else (0, 0)) := by rw [typeM, if_neg hq]
  rw [ha]
  have e1 : ((structM L i t).2 != 0) = false := by simpa using hq
  clear hq ha
  generalize hans : (match badF t.s t.fs 0 t.fs with | some r => r | none => if mixM t.fs = true then ((0 : Int), (106 : Int)) else (0, 0)) = ans
  replace hans : Hid ((match badF t.s t.fs 0 t.fs with | some r => r | none => if mixM t.fs = true then ((0 : Int), (106 : Int)) else (0, 0)) = ans) := hans
  generalize structM L i t = s at kst e1
  go_enter Try.func45, Try.ntmps45
  go_upto_region 5 with (go_at_call 70; refine kst.mono ?_; rintro e w3 ⟨rfl, hb3⟩; obtain ⟨c0, c1, c2⟩ := hTC.gr hb1 hb3)
  have hT := tcell_new w3 t
  have hb4 : Bl w (w3.alloc (.cells t.cs 42)) := hb3.alloc _
  have hs : w3.heap.size < (w3.alloc (.cells t.cs 42)).heap.size := by rw [size_new]; omega
  dsimp only [Ty.cs] at hT hb4 hs
  generalize hW4 : (w3.alloc (.cells #[.string t.n, .int .i64 t.s, .slice t.p t.fs.length t.c] 42)) = W4 at hT hb4 hs ⊢
  clear hW4 c0 c1 c2
  obtain ⟨y0, y1, y2⟩ := hT.at0'
  have hf4 := hok.f.gr hb4
  go_wp2
  clear y0 y1 y2
  go_loopw [28] (fun n wr => ∃ k : Nat, n = .int .i64 k ∧ k ≤ t.fs.length ∧ badF t.s t.fs 0 t.fs = badF t.s t.fs k (t.fs.drop k) ∧ Bl W4 wr) (fun n _ => t.fs.length - (intOf n).toNat)
  case atStart => exact ⟨0, rfl, by omega, by rw [List.drop_zero], Bl.refl _⟩
  case round =>
    obtain ⟨k, rfl, hk, hA, hb⟩ := hrel
    replace hA : Hid (badF t.s t.fs 0 t.fs = badF t.s t.fs k (t.fs.drop k)) := hA
    obtain ⟨y0, y1, y2⟩ := (hT.gr hs hb).at0'
    by_cases h : k < t.fs.length
    · have d : decide ((k : Int) < t.fs.length) = true := by simp; omega
      obtain ⟨x, hxk⟩ : ∃ x, t.fs[k]? = some x := ⟨t.fs[k], List.getElem?_eq_getElem _⟩
      have kf := field_any t k x hxk _ (hf4.gr hb) hok.s hok.c (by have := hfi.2 x (List.mem_of_getElem? hxk); omega)
      have hdr : Hid (t.fs.drop k = x :: t.fs.drop (k + 1)) := drop_get hxk
      have e9 : IntKind.i64.wrap ((k : Int) + 1) = (k : Int) + 1 := IntWalk.i64_in _ (by omega)
      clear hxk
      by_cases hz : fieldX t.s (t.fs.take k) x ≠ 0
      · have e2 : (fieldX t.s (t.fs.take k) x != 0) = true := by simpa using hz
        have hr : Hid (ans = ((k : Int), fieldX t.s (t.fs.take k) x)) := by
          show ans = _
          rw [← hans.out, hA.out, hdr.out, badF, if_pos hz]
        clear hz
        generalize fieldX t.s (t.fs.take k) x = r at kf e2 hr
        go_wp2_with (go_at_call 71; refine kf.mono ?_; rintro e w5 ⟨rfl, hb5⟩)
        try rw [Exit.noGoto_ret]
        go_returns
        exact ⟨by rw [hr.out]; try rfl, hb4.trans (hb.trans hb5)⟩
      · have e2 : (fieldX t.s (t.fs.take k) x != 0) = false := by simpa using hz
        have hA2 : Hid (badF t.s t.fs 0 t.fs = badF t.s t.fs (k + 1) (t.fs.drop (k + 1))) := by
          show _ = _
          rw [hA.out, hdr.out, badF, if_neg hz]
        clear hz
        generalize fieldX t.s (t.fs.take k) x = r at kf e2
        go_wp2_with (go_at_call 71; refine kf.mono ?_; rintro e w5 ⟨rfl, hb5⟩)
        exact ⟨⟨k + 1, by simp, by omega, hA2.out, hb.trans hb5⟩, by simp [intOf]; omega⟩
    · have d : decide ((k : Int) < t.fs.length) = false := by simp; omega
      have hA2 : badF t.s t.fs 0 t.fs = none := by rw [hA.out, List.drop_eq_nil_of_le (by omega), badF]
      have km := fun W (h : Bl W4 W) => mixed_any t W (hf4.gr h)
      cases hm : mixM t.fs with
      | true =>
        have hr : Hid (ans = (0, 106)) := by
          show ans = _
          rw [← hans.out, hA2, hm]; rfl
        rw [hm] at km
        clear hm hA2
        go_wp2_with (go_at_call 72; refine (km _ hb).mono ?_; rintro e w5 ⟨rfl, hb5⟩)
        go_returns
        exact ⟨by rw [hr.out]; try rfl, hb4.trans (hb.trans hb5)⟩
      | false =>
        have hr : Hid (ans = (0, 0)) := by
          show ans = _
          rw [← hans.out, hA2, hm]; rfl
        rw [hm] at km
        clear hm hA2
        go_wp2_with (go_at_call 72; refine (km _ hb).mono ?_; rintro e w5 ⟨rfl, hb5⟩)
        go_returns
        exact ⟨by rw [hr.out]; try rfl, hb4.trans (hb.trans hb5)⟩
end Go.Proofs.Ytmcjmdoeafhjpaa
