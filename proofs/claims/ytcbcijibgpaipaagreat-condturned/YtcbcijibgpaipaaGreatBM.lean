/- Towards the statements of package bound (layer 5): a bound, its eleven steps, a round, three rounds; as the words say them. -/
import Derived.Test.YtcbcijibgpaipaaGreatBA
import Derived.Test.YtcbcijibgpaipaaGreatMC
namespace Go.Proofs.YtcbcijibgpaipaaGreat
open Go.ChangeShapes Go.WideShapes Go.ChangeAt Go.RowKit
open Tn (iv)
set_option linter.unusedVariables false

/-- What is known of a number, in five ways. -/
structure Bd where
  tv : BitVec 64
  tm : BitVec 64
  ul : Int
  uh : Int
  sl : Int
  sh : Int
  wl : Int
  wh : Int
  vl : Int
  vh : Int

def nothingM : Bd := ⟨0#64, 0#64, 1, 0, 1, 0, 1, 0, 1, 0⟩
def anyM : Bd := ⟨0#64, 18446744073709551615#64, 0, 18446744073709551615, -9223372036854775808, 9223372036854775807, 0, 4294967295, -2147483648, 2147483647⟩
def constM (x : BitVec 64) : Bd := ⟨x, 0#64, iv x, iv x, wrap64 (iv x), wrap64 (iv x), iv x % 4294967296, iv x % 4294967296, sg (iv x), sg (iv x)⟩
def nnB (b : Bd) : Bool := decide (b.uh < b.ul) || decide (b.wh < b.wl) || decide (b.sh < b.sl) || decide (b.vh < b.vl)
def hasM (b : Bd) (x : BitVec 64) : Bool := x &&& ~~~b.tm == b.tv && (decide (b.ul ≤ iv x) && decide (iv x ≤ b.uh)) && (decide (b.sl ≤ wrap64 (iv x)) && decide (wrap64 (iv x) ≤ b.sh)) && (decide (b.wl ≤ iv x % 4294967296) && decide (iv x % 4294967296 ≤ b.wh)) && (decide (b.vl ≤ sg (iv x)) && decide (sg (iv x) ≤ b.vh))
def inR (al ah bl bh : Int) : Bool := (decide (bl ≤ al) && decide (al ≤ bh)) && (decide (bl ≤ ah) && decide (ah ≤ bh))
def inM (a b : Bd) : Bool := nnB a || (a.tm &&& ~~~b.tm == 0#64 && a.tv &&& ~~~b.tm == b.tv) && (decide (a.uh < a.ul) || inR a.ul a.uh b.ul b.uh) && inR a.sl a.sh b.sl b.sh && (decide (a.wh < a.wl) || inR a.wl a.wh b.wl b.wh) && inR a.vl a.vh b.vl b.vh

def mU (b : Bd) (l h : Int) : Option Bd := if min b.uh h < max b.ul l then none else some { b with ul := max b.ul l, uh := min b.uh h }
def mS (b : Bd) (l h : Int) : Option Bd := if min b.sh h < max b.sl l then none else some { b with sl := max b.sl l, sh := min b.sh h }
def mW (b : Bd) (l h : Int) : Option Bd := if min b.wh h < max b.wl l then none else some { b with wl := max b.wl l, wh := min b.wh h }
def mV (b : Bd) (l h : Int) : Option Bd := if min b.vh h < max b.vl l then none else some { b with vl := max b.vl l, vh := min b.vh h }
def mT (b : Bd) (v m : BitVec 64) : Option Bd := if Tn.meetX b.tv b.tm v m then some { b with tv := (b.tv ||| v) &&& ~~~(b.tm &&& m), tm := b.tm &&& m } else none

def st1 (b : Bd) : Option Bd := mU b (iv b.tv) (iv (b.tv ||| b.tm))
def st2 (b : Bd) : Option Bd := mS b (wrap64 (iv (b.tv ||| b.tm &&& 9223372036854775808#64))) (wrap64 (iv (b.tv ||| b.tm &&& 9223372036854775807#64)))
def st3 (b : Bd) : Option Bd := mS b (eN (decide (wrap64 b.uh < wrap64 b.ul)) (-9223372036854775808) (wrap64 b.ul)) (eN (decide (wrap64 b.uh < wrap64 b.ul)) 9223372036854775807 (wrap64 b.uh))
def st4 (b : Bd) : Option Bd := mU b (eN (decide (IntKind.u64.wrap b.sh < IntKind.u64.wrap b.sl)) 0 (IntKind.u64.wrap b.sl)) (eN (decide (IntKind.u64.wrap b.sh < IntKind.u64.wrap b.sl)) 18446744073709551615 (IntKind.u64.wrap b.sh))
def st5 (b : Bd) : Option Bd := mT b (Tn.rgV (bu b.ul) (bu b.uh)) (Tn.rgM (bu b.ul) (bu b.uh))
def lowT (x : BitVec 64) : BitVec 64 := x &&& (1#64 <<< 32 - 1#64)
def st6 (b : Bd) : Option Bd := mW b (iv (lowT b.tv)) (iv (lowT b.tv ||| lowT b.tm))
def st7 (b : Bd) : Option Bd := mV b (sg (iv (lowT b.tv ||| lowT b.tm &&& 2147483648#64))) (sg (iv (lowT b.tv ||| lowT b.tm &&& 18446744071562067967#64)))
def st8 (b : Bd) : Option Bd := mV b (eN (b.wl / 2147483648 != b.wh / 2147483648) (-2147483648) (sg b.wl)) (eN (b.wl / 2147483648 != b.wh / 2147483648) 2147483647 (sg b.wh))
def st9 (b : Bd) : Option Bd := mW b (eN (decide (b.vl < 0) != decide (b.vh < 0)) 0 (b.vl % 4294967296)) (eN (decide (b.vl < 0) != decide (b.vh < 0)) 4294967295 (b.vh % 4294967296))
def st10 (b : Bd) : Option Bd := mT b (lowT (Tn.rgV (bu b.wl) (bu b.wh))) (Tn.rgM (bu b.wl) (bu b.wh) ||| 18446744069414584320#64)
def st11 (b : Bd) : Option Bd :=
  if b.ul - b.ul % 4294967296 = b.uh - b.uh % 4294967296 then
    match mW b (b.ul % 4294967296) (b.uh % 4294967296) with
    | none => none
    | some c => mU c (b.ul - b.ul % 4294967296 + c.wl) (b.ul - b.ul % 4294967296 + c.wh)
  else some b
def roundM (b : Bd) : Option Bd := (((((((((((st1 b).bind st2).bind st3).bind st4).bind st5).bind st6).bind st7).bind st8).bind st9).bind st10).bind st11)
/-- No rounds are done: one way has no number, or goes past what it may. -/
def badM (b : Bd) : Bool := nnB b || !(b.tv &&& b.tm == 0#64) || !(inR b.wl b.wh 0 4294967295) || !(inR b.vl b.vh (-2147483648) 2147483647)
def orN (o : Option Bd) : Bd := match o with
  | none => nothingM
  | some c => c
def syncM (b : Bd) : Bd := if badM b then nothingM else orN (((roundM b).bind roundM).bind roundM)

/-- A bound that each step may be done with. -/
structure Good (b : Bd) : Prop where
  t : b.tv &&& b.tm = 0#64
  u0 : 0 ≤ b.ul
  u1 : b.ul ≤ b.uh
  u2 : b.uh ≤ 18446744073709551615
  s0 : -9223372036854775808 ≤ b.sl
  s1 : b.sl ≤ b.sh
  s2 : b.sh ≤ 9223372036854775807
  w0 : 0 ≤ b.wl
  w1 : b.wl ≤ b.wh
  w2 : b.wh ≤ 4294967295
  v0 : -2147483648 ≤ b.vl
  v1 : b.vl ≤ b.vh
  v2 : b.vh ≤ 2147483647
theorem Good.mU {b c : Bd} {l h : Int} (g : Good b) (e : mU b l h = some c) : Good c := by
  unfold YtcbcijibgpaipaaGreat.mU at e
  split at e
  · cases e
  · cases e
    exact ⟨g.t, by have := g.u0; simp; omega, by simp; omega, by have := g.u2; simp; omega, g.s0, g.s1, g.s2, g.w0, g.w1, g.w2, g.v0, g.v1, g.v2⟩
theorem Good.mS {b c : Bd} {l h : Int} (g : Good b) (e : mS b l h = some c) : Good c := by
  unfold YtcbcijibgpaipaaGreat.mS at e
  split at e
  · cases e
  · cases e
    exact ⟨g.t, g.u0, g.u1, g.u2, by have := g.s0; simp; omega, by simp; omega, by have := g.s2; simp; omega, g.w0, g.w1, g.w2, g.v0, g.v1, g.v2⟩
theorem Good.mW {b c : Bd} {l h : Int} (g : Good b) (e : mW b l h = some c) : Good c := by
  unfold YtcbcijibgpaipaaGreat.mW at e
  split at e
  · cases e
  · cases e
    exact ⟨g.t, g.u0, g.u1, g.u2, g.s0, g.s1, g.s2, by have := g.w0; simp; omega, by simp; omega, by have := g.w2; simp; omega, g.v0, g.v1, g.v2⟩
theorem Good.mV {b c : Bd} {l h : Int} (g : Good b) (e : mV b l h = some c) : Good c := by
  unfold YtcbcijibgpaipaaGreat.mV at e
  split at e
  · cases e
  · cases e
    exact ⟨g.t, g.u0, g.u1, g.u2, g.s0, g.s1, g.s2, g.w0, g.w1, g.w2, by have := g.v0; simp; omega, by simp; omega, by have := g.v2; simp; omega⟩
theorem Good.mT {b c : Bd} {v m : BitVec 64} (g : Good b) (e : mT b v m = some c) : Good c := by
  unfold YtcbcijibgpaipaaGreat.mT at e
  split at e
  · cases e
    refine ⟨?_, g.u0, g.u1, g.u2, g.s0, g.s1, g.s2, g.w0, g.w1, g.w2, g.v0, g.v1, g.v2⟩
    show ((b.tv ||| v) &&& ~~~(b.tm &&& m)) &&& (b.tm &&& m) = 0#64
    generalize b.tm &&& m = z
    ext i hi
    simp
  · cases e
theorem Good.st11 {b c : Bd} (g : Good b) (e : st11 b = some c) : Good c := by
  unfold YtcbcijibgpaipaaGreat.st11 at e
  split at e
  · split at e
    · cases e
    · next d hd => exact (g.mW hd).mU e
  · cases e
    exact g
theorem Good.round {b c : Bd} (g : Good b) (e : roundM b = some c) : Good c := by
  unfold roundM at e
  simp only [Option.bind_eq_some_iff] at e
  obtain ⟨b10, ⟨b9, ⟨b8, ⟨b7, ⟨b6, ⟨b5, ⟨b4, ⟨b3, ⟨b2, ⟨b1, h1, h2⟩, h3⟩, h4⟩, h5⟩, h6⟩, h7⟩, h8⟩, h9⟩, h10⟩, h11⟩ := e
  exact ((((((((((g.mU h1).mS h2).mS h3).mU h4).mT h5).mW h6).mV h7).mV h8).mW h9).mT h10).st11 h11
theorem good_of {b : Bd} (h : badM b = false) (hu0 : 0 ≤ b.ul) (hu : b.uh ≤ 18446744073709551615) (hs0 : -9223372036854775808 ≤ b.sl) (hs : b.sh ≤ 9223372036854775807) : Good b := by
  unfold badM nnB inR at h
  simp at h
  obtain ⟨⟨⟨⟨⟨⟨h1, h2⟩, h3⟩, h4⟩, h5⟩, ⟨h6, h7⟩, h8, h9⟩, ⟨h10, h11⟩, h12, h13⟩ := h
  exact ⟨h5, by omega, by omega, by omega, by omega, by omega, by omega, by omega, by omega, by omega, by omega, by omega, by omega⟩
end Go.Proofs.YtcbcijibgpaipaaGreat
