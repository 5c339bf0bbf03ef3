/- Towards the statements of package code (layer 8): isBeginning, maySecond. -/
import Derived.Test.YtdmdmbcapjmnlabCF
import Derived.Laws.StructEq
namespace Go.Proofs.Ytdmdmbcapjmnlab
open Go.ChangeShapes Go.WideShapes Go.ChangeAt
open Go.RowKit Go.Shelf
set_option linter.unusedVariables false
set_option linter.unusedSimpArgs false
set_option maxRecDepth 20000

def AnyB : Nat → Prop := fun _ => True
theorem gr_drewN (w : World) : ∀ n, Gr w (w.drewN n)
  | 0 => Gr.refl _
  | n + 1 => (gr_drewN w n).trans ⟨(Below.refl _ _).drew, (Grown.refl _).drew⟩
/-- Is it a beginning? -/
def begB (L : List Sl) (Bg : List Bool) (at_ : Int) : Bool := thereB L at_ && Bg[at_.toNat]?.getD false
theorem isBeg_any (P bb : Nat) (sv vb vs vh : Value) (L : List Sl) (Bg : List Bool) (hLB : Bg.length = L.length) (at_ : Int) (w : World) (hR : Rec w P sv vb vs vh) (hL : Slots AnyB w sv L) (hB : Bools w bb vb Bg) :
    Calls Try.prog 50 #[.pointer (some ⟨P, 0, none⟩), .int .i64 at_] w fun e w' => e = .returned (.bool (begB L Bg at_)) ∧ w' = w := by
  obtain ⟨p, c, rfl⟩ := hL.shape
  obtain ⟨r0, r1, r2, r3⟩ := hR.cells
  have k1 := isThere_any p L hL.len c at_ w
  cases hT : thereB L at_ with
  | false =>
    rw [hT] at k1
    rw [begB, hT]
    go_enter Try.func50, Try.ntmps50
    go_wp2_with (go_at_call 39; refine k1.mono ?_; rintro e w' ⟨rfl, rfl⟩)
    go_ret
    exact ⟨rfl, rfl⟩
  | true =>
    rw [hT] at k1
    rw [begB, hT]
    have hat : 0 ≤ at_ ∧ at_ < L.length := by simpa [thereB] using hT
    obtain ⟨cap, rfl⟩ := hB.val
    have cc := hB.cell at_.toNat (by omega)
    have hlen := hL.len
    generalize Bg[at_.toNat]?.getD false = v at cc ⊢
    go_enter Try.func50, Try.ntmps50
    go_wp2_with (go_at_call 39; refine k1.mono ?_; rintro e w' ⟨rfl, hw⟩; rw [hw]; clear hw)
    go_ret
    exact ⟨by simp, rfl⟩
def secS (x : Sl) : Bool := decide (x.o = 0) && (decide (x.d = 0) && (decide (x.s = 0) && decide (x.f = 0)))
/-- May it be a second slot? -/
def secB (L : List Sl) (at_ : Int) : Bool := match slotAt L at_ with
  | some x => secS x
  | none => false
theorem eq_sec (x : Sl) (W : World) : (binOp .eql 30 (.agg #[.int .u8 x.o, .int .u8 x.d, .int .u8 x.s, .int .i16 x.f, .int .i32 x.i]) (.agg #[.int .u8 0, .int .u8 0, .int .u8 0, .int .i16 0, .int .i32 x.i])).run Try.prog W = .ok (.bool (secS x)) W := by
  have u5 := Try.underlying5
  have a5 := Try.isAgg5
  have z5 := Try.sizeOf5
  have u51 := Try.underlying28
  have a51 := Try.isAgg28
  have z51 := Try.sizeOf28
  have u21 := Try.underlying21
  have a21 := Try.isAgg21
  have z21 := Try.sizeOf21
  have hS : Try.prog.underlying 30 = some (.struct (Try.prog.fieldsOf 30)) := by kernel_rfl
  have hp : Try.prog.stoodInHeld 30 = false := by kernel_rfl
  rw [run_eql_struct, show (10000 : Nat) = 9999 + 1 from rfl, run_equalIn_agg W 9999 30 _ _ hS hp]
  simp only [Program.fieldsOf, Try.underlying30]
  go_simp
  by_cases h1 : x.o = 0 <;> by_cases h2 : x.d = 0 <;> by_cases h3 : x.s = 0 <;> by_cases h4 : x.f = 0 <;> simp [h1, h2, h3, h4, secS]
set_option maxHeartbeats 1000000 in
theorem maySecond_any (P : Nat) (sv vb vs vh : Value) (L : List Sl) (at_ : Int) (w : World) (hR : Rec w P sv vb vs vh) (hL : Slots AnyB w sv L) :
    Calls Try.prog 48 #[.pointer (some ⟨P, 0, none⟩), .int .i64 at_] w fun e w' => e = .returned (.bool (secB L at_)) ∧ Gr w w' := by
  unfold secB
  cases hx : slotAt L at_ with
  | none =>
    have hT : thereB L at_ = false := by rw [thereB_iff, hx]; rfl
    obtain ⟨p, c, rfl⟩ := hL.shape
    obtain ⟨r0, r1, r2, r3⟩ := hR.cells
    have k1 := fun W => isThere_any p L hL.len c at_ W
    rw [hT] at k1
    go_enter Try.func48, Try.ntmps48
    go_upto_region 1 with fail
    go_quiet (first | (go_at_call 39; exact Calls.quiet_of_same (k1 _)))
    go_wp2
    go_returns
    exact ⟨rfl, gr_drewN _ _⟩
  | some x =>
    have hT : thereB L at_ = true := by rw [thereB_iff, hx]; rfl
    obtain ⟨h0, h1⟩ := slotAt_some hx
    obtain ⟨b, off, cap, rfl, hb, ⟨c0, c1, c2, c3, c4⟩, ⟨⟨o0, o1⟩, ⟨d0, d1⟩, ⟨s0, s1⟩, _⟩, hlt⟩ := hL.get h0 h1
    obtain ⟨r0, r1, r2, r3⟩ := hR.cells
    have k1 := fun W => isThere_any (some ⟨b, off, none⟩) L hL.len cap at_ W
    rw [hT] at k1
    have hlen := hL.len
    dsimp only
    have heq := eq_sec x
    have hgd : Try.prog.eqGuardType Try.prog.depth 30 = false := by kernel_rfl
    generalize secS x = sx at heq ⊢
    go_enter Try.func48, Try.ntmps48
    go_upto_region 1 with fail
    go_quiet (first | (go_at_call 39; exact Calls.quiet_of_same (k1 _)))
    go_wp2
    go_returns
    exact ⟨rfl, gr_drewN _ _⟩
end Go.Proofs.Ytdmdmbcapjmnlab
