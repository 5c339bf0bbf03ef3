/- Towards the statements of package tree (layer 16): trees as shapes, places in them, their memory as a function (no program in it). -/
import Derived.Test.YthgpbbpmfpfjnaaLA
namespace Go.Proofs.Ythgpbbpmfpfjnaa.T
set_option linter.unusedVariables false
set_option linter.unusedSimpArgs false
inductive Tr where
  | nil
  | nd (a : Nat) (k : HKey) (l r : Tr)
namespace Tr
def rows : Tr → List (Nat × HKey)
  | .nil => []
  | .nd a k l r => l.rows ++ (a, k) :: r.rows
def size : Tr → Nat
  | .nil => 0
  | .nd _ _ l r => l.size + 1 + r.size
def deep : Tr → Nat
  | .nil => 0
  | .nd _ _ l r => 1 + max l.deep r.deep
def root : Tr → Option Nat
  | .nil => none
  | .nd a _ _ _ => some a
def avl : Tr → Prop
  | .nil => True
  | .nd _ _ l r => l.avl ∧ r.avl ∧ l.deep ≤ r.deep + 1 ∧ r.deep ≤ l.deep + 1
def adds (t : Tr) : List Nat := t.rows.map (·.1)
def keys (t : Tr) : List HKey := t.rows.map (·.2)
theorem size_rows : ∀ t : Tr, t.rows.length = t.size
  | .nil => rfl
  | .nd a k l r => by simp [rows, size, size_rows l, size_rows r]; omega
theorem keys_len (t : Tr) : t.keys.length = t.size := by simp [keys, size_rows]
theorem adds_nd (a : Nat) (k : HKey) (l r : Tr) : (nd a k l r).adds = l.adds ++ a :: r.adds := by simp [adds, rows]
theorem keys_nd (a : Nat) (k : HKey) (l r : Tr) : (nd a k l r).keys = l.keys ++ k :: r.keys := by simp [keys, rows]
theorem root_mem {t : Tr} {a : Nat} (h : t.root = some a) : a ∈ t.adds := by
  cases t with
  | nil => cases h
  | nd b k l r => cases h; simp [adds_nd]
theorem deep_size (t : Tr) : t.deep ≤ t.size := by
  induction t with
  | nil => simp [deep, size]
  | nd a k l r h1 h2 => simp [deep, size]; omega
/-- A tree that is level is low. -/
theorem low : ∀ (n : Nat) (t : Tr), t.deep ≤ n → t.avl → 2 ^ (t.deep / 2) ≤ t.size + 1
  | 0, t, hn, h => by
    have : t.deep = 0 := by omega
    rw [this]; simp
  | n + 1, .nil, hn, h => by simp [deep, size]
  | n + 1, .nd a k l r, hn, h => by
    simp only [deep] at hn ⊢
    obtain ⟨h1, h2, h3, h4⟩ := h
    have i1 := low n l (by omega) h1
    have i2 := low n r (by omega) h2
    have hm : max l.deep r.deep = l.deep ∨ max l.deep r.deep = r.deep := by omega
    have key : ∀ x y : Nat, y ≤ x → x ≤ y + 1 → 2 ^ (x / 2) + 2 ^ (y / 2) ≥ 2 ^ ((1 + x) / 2) := by
      intro x y hyx hxy
      rcases Nat.mod_two_eq_zero_or_one x with e | e
      · have : (1 + x) / 2 = x / 2 := by omega
        rw [this]; exact Nat.le_add_right _ _
      · have e1 : (1 + x) / 2 = x / 2 + 1 := by omega
        have e2 : y / 2 = x / 2 := by omega
        rw [e1, e2, Nat.pow_succ]; omega
    simp only [size]
    rcases Nat.le_total r.deep l.deep with q | q
    · have := key l.deep r.deep q h3
      rw [show max l.deep r.deep = l.deep by omega]; omega
    · have := key r.deep l.deep q h4
      rw [show max l.deep r.deep = r.deep by omega]; omega
end Tr
/-- What a node's block holds. -/
structure Nd where
  k : HKey
  o : Option Nat
  l : Option Nat
  r : Option Nat
  s : Nat
  d : Nat
def Nd.kid (x : Nd) (s : Bool) : Option Nat := if s then x.r else x.l
def Nd.setKid (x : Nd) (s : Bool) (p : Option Nat) : Nd := if s then { x with r := p } else { x with l := p }
abbrev MN := Nat → Option Nd
def upN (M : MN) (a : Nat) (x : Nd) : MN := fun b => if b = a then some x else M b
theorem upN_self (M : MN) (a : Nat) (x : Nd) : upN M a x a = some x := by simp [upN]
theorem upN_ne (M : MN) {a b : Nat} (x : Nd) (h : b ≠ a) : upN M a x b = M b := by simp [upN, h]
/-- The tree hangs on that node. -/
def Sub (M : MN) : Option Nat → Tr → Prop
  | _, .nil => True
  | o, .nd a k l r => M a = some ⟨k, o, l.root, r.root, l.size + 1 + r.size, 1 + max l.deep r.deep⟩ ∧ Sub M (some a) l ∧ Sub M (some a) r
theorem Sub.frame {M M' : MN} : ∀ {t : Tr} {o : Option Nat}, Sub M o t → (∀ a ∈ t.adds, M' a = M a) → Sub M' o t
  | .nil, o, _, _ => trivial
  | .nd a k l r, o, h, e => by
    rw [Tr.adds_nd] at e
    exact ⟨(e a (by simp)).trans h.1, h.2.1.frame (fun b hb => e b (by simp [hb])), h.2.2.frame (fun b hb => e b (by simp [hb]))⟩
/-- The tree hung elsewhere. -/
theorem Sub.move {M M' : MN} {t : Tr} {o o' : Option Nat} (h : Sub M o t) (e1 : ∀ a x, t.root = some a → M a = some x → M' a = some { x with o := o' }) (e2 : ∀ a ∈ t.adds, t.root ≠ some a → M' a = M a) (hn : t.adds.Nodup) : Sub M' o' t := by
  cases t with
  | nil => trivial
  | nd a k l r =>
    rw [Tr.adds_nd] at e2 hn
    have hd : a ∉ l.adds ∧ a ∉ r.adds := by
      rw [List.nodup_append] at hn
      obtain ⟨_, h2, h3⟩ := hn
      rw [List.nodup_cons] at h2
      exact ⟨fun q => h3 a q a (by simp) rfl, h2.1⟩
    refine ⟨e1 a _ rfl h.1, h.2.1.frame (fun b hb => e2 b (by simp [hb]) ?_), h.2.2.frame (fun b hb => e2 b (by simp [hb]) ?_)⟩
    · intro q; cases q; exact hd.1 hb
    · intro q; cases q; exact hd.2 hb
/-- How many are from there on down; how deep it is. -/
def szM (M : MN) : Option Nat → Nat
  | none => 0
  | some a => (M a).elim 0 Nd.s
def dpM (M : MN) : Option Nat → Nat
  | none => 0
  | some a => (M a).elim 0 Nd.d
theorem Sub.sz {M : MN} {o : Option Nat} {t : Tr} (h : Sub M o t) : szM M t.root = t.size := by
  cases t with
  | nil => rfl
  | nd a k l r => simp [Tr.root, szM, h.1, Tr.size]
theorem Sub.dp {M : MN} {o : Option Nat} {t : Tr} (h : Sub M o t) : dpM M t.root = t.deep := by
  cases t with
  | nil => rfl
  | nd a k l r => simp [Tr.root, dpM, h.1, Tr.deep]
theorem Sub.is {M : MN} {o : Option Nat} {t : Tr} (h : Sub M o t) {a : Nat} (e : t.root = some a) : ∃ x, M a = some x ∧ x.o = o := by
  cases t with
  | nil => cases e
  | nd b k l r => cases e; exact ⟨_, h.1, rfl⟩
theorem Sub.all {M : MN} : ∀ {t : Tr} {o : Option Nat}, Sub M o t → ∀ a k, (a, k) ∈ t.rows → ∃ x, M a = some x ∧ x.k = k
  | .nil, _, _, a, k, hm => by simp [Tr.rows] at hm
  | .nd b k' l r, o, h, a, k, hm => by
    simp only [Tr.rows, List.mem_append, List.mem_cons, Prod.mk.injEq] at hm
    rcases hm with hm | ⟨rfl, rfl⟩ | hm
    · exact h.2.1.all a k hm
    · exact ⟨_, h.1, rfl⟩
    · exact h.2.2.all a k hm
/-- A node with the one tree at that side, the other one at the other side. -/
def mkT (s : Bool) (a : Nat) (k : HKey) (x y : Tr) : Tr := if s then .nd a k y x else .nd a k x y
def mkN (s : Bool) (k : HKey) (o x y : Option Nat) (z d : Nat) : Nd := if s then ⟨k, o, y, x, z, d⟩ else ⟨k, o, x, y, z, d⟩
theorem mkN_kid (s : Bool) (k : HKey) (o x y : Option Nat) (z d : Nat) : (mkN s k o x y z d).kid s = x ∧ (mkN s k o x y z d).kid (!s) = y ∧ (mkN s k o x y z d).o = o ∧ (mkN s k o x y z d).k = k := by cases s <;> simp [mkN, Nd.kid]
theorem Sub_mkT {M : MN} {o : Option Nat} {s : Bool} {a : Nat} {k : HKey} {x y : Tr} : Sub M o (mkT s a k x y) ↔ (M a = some (mkN s k o x.root y.root (x.size + 1 + y.size) (1 + max x.deep y.deep)) ∧ Sub M (some a) x ∧ Sub M (some a) y) := by
  cases s
  · simp [mkT, mkN, Sub]
  · have e1 : y.size + 1 + x.size = x.size + 1 + y.size := by omega
    have e2 : max y.deep x.deep = max x.deep y.deep := by omega
    simp only [mkT, mkN, Sub, if_true, e1, e2]
    exact ⟨fun h => ⟨h.1, h.2.2, h.2.1⟩, fun h => ⟨h.1, h.2.2, h.2.1⟩⟩
theorem mkT_root (s : Bool) (a : Nat) (k : HKey) (x y : Tr) : (mkT s a k x y).root = some a := by cases s <;> rfl
theorem mkT_size (s : Bool) (a : Nat) (k : HKey) (x y : Tr) : (mkT s a k x y).size = x.size + 1 + y.size := by cases s <;> simp [mkT, Tr.size]; omega
theorem mkT_deep (s : Bool) (a : Nat) (k : HKey) (x y : Tr) : (mkT s a k x y).deep = 1 + max x.deep y.deep := by cases s <;> simp [mkT, Tr.deep]; omega
theorem mkT_avl (s : Bool) (a : Nat) (k : HKey) (x y : Tr) : (mkT s a k x y).avl ↔ (x.avl ∧ y.avl ∧ x.deep ≤ y.deep + 1 ∧ y.deep ≤ x.deep + 1) := by
  cases s
  · simp [mkT, Tr.avl]
  · simp only [mkT, Tr.avl, if_true]
    exact ⟨fun h => ⟨h.2.1, h.1, h.2.2.2, h.2.2.1⟩, fun h => ⟨h.2.1, h.1, h.2.2.2, h.2.2.1⟩⟩
theorem mkT_adds (s : Bool) (a : Nat) (k : HKey) (x y : Tr) (b : Nat) : b ∈ (mkT s a k x y).adds ↔ (b ∈ x.adds ∨ b = a ∨ b ∈ y.adds) := by
  cases s
  · simp [mkT, Tr.adds_nd]
  · simp only [mkT, Tr.adds_nd, if_true, List.mem_append, List.mem_cons]
    exact ⟨fun h => by rcases h with h | h | h <;> simp [h], fun h => by rcases h with h | h | h <;> simp [h]⟩
theorem mkT_nodup (s : Bool) (a : Nat) (k : HKey) (x y : Tr) : (mkT s a k x y).adds.Nodup ↔ (x.adds.Nodup ∧ y.adds.Nodup ∧ a ∉ x.adds ∧ a ∉ y.adds ∧ ∀ b ∈ x.adds, b ∉ y.adds) := by
  have key : ∀ l r : Tr, (Tr.nd a k l r).adds.Nodup ↔ (l.adds.Nodup ∧ r.adds.Nodup ∧ a ∉ l.adds ∧ a ∉ r.adds ∧ ∀ b ∈ l.adds, b ∉ r.adds) := by
    intro l r
    rw [Tr.adds_nd, List.nodup_append, List.nodup_cons]
    constructor
    · rintro ⟨h1, ⟨h2, h3⟩, h4⟩
      exact ⟨h1, h3, fun q => h4 a q a (by simp) rfl, h2, fun b hb hb2 => h4 b hb b (by simp [hb2]) rfl⟩
    · rintro ⟨h1, h2, h3, h4, h5⟩
      refine ⟨h1, ⟨h4, h2⟩, fun b hb c hc e => ?_⟩
      subst e
      rcases List.mem_cons.1 hc with rfl | hc
      · exact h3 hb
      · exact h5 b hb hc
  cases s
  · exact key x y
  · rw [show mkT true a k x y = Tr.nd a k y x from rfl, key]
    exact ⟨fun ⟨h1, h2, h3, h4, h5⟩ => ⟨h2, h1, h4, h3, fun b hb hb2 => h5 b hb2 hb⟩, fun ⟨h1, h2, h3, h4, h5⟩ => ⟨h2, h1, h4, h3, fun b hb hb2 => h5 b hb2 hb⟩⟩
/-- The turn keeps the order. -/
theorem turn_rows (s : Bool) (u : Nat) (uk : HKey) (n : Nat) (k : HKey) (xs xm y : Tr) : (mkT s u uk xs (mkT s n k xm y)).rows = (mkT s n k (mkT s u uk xs xm) y).rows := by
  cases s <;> simp [mkT, Tr.rows]
/-- A place in a tree: what is over it. s: it is the side behind. -/
structure Fra where
  s : Bool
  a : Nat
  k : HKey
  t : Tr
def plug1 (f : Fra) (x : Tr) : Tr := mkT f.s f.a f.k x f.t
def plug : List Fra → Tr → Tr
  | [], x => x
  | f :: c, x => plug c (plug1 f x)
def bef : List Fra → List (Nat × HKey)
  | [] => []
  | f :: c => bef c ++ (if f.s then f.t.rows ++ [(f.a, f.k)] else [])
def aft : List Fra → List (Nat × HKey)
  | [] => []
  | f :: c => (if f.s then [] else (f.a, f.k) :: f.t.rows) ++ aft c
theorem rows_plug : ∀ (c : List Fra) (x : Tr), (plug c x).rows = bef c ++ x.rows ++ aft c
  | [], x => by simp [plug, bef, aft]
  | f :: c, x => by
    rw [plug, rows_plug c]
    obtain ⟨s, a, k, t⟩ := f
    cases s <;> simp [plug1, mkT, Tr.rows, bef, aft]
def hdF (top : Nat) : List Fra → Nat
  | [] => top
  | f :: _ => f.a
def sdF : List Fra → Bool
  | [] => false
  | f :: _ => f.s
def adF : List Fra → List Nat
  | [] => []
  | f :: c => f.a :: (f.t.adds ++ adF c)
/-- What is over the place, as memory: p is what hangs there; how many, and how deep, may not be told yet. -/
def Path (M : MN) (top : Nat) : Option Nat → List Fra → Prop
  | p, [] => M top = some ⟨(0, 0), none, p, none, 0, 0⟩
  | p, f :: c => (∃ z d, M f.a = some (mkN f.s f.k (some (hdF top c)) p f.t.root z d)) ∧ Sub M (some f.a) f.t ∧ Path M top (some f.a) c
theorem hdF_mem (top : Nat) (c : List Fra) : hdF top c ∈ top :: adF c := by cases c <;> simp [hdF, adF]
theorem Path.frame {M M' : MN} {top : Nat} : ∀ {c : List Fra} {p : Option Nat}, Path M top p c → (∀ a ∈ top :: adF c, M' a = M a) → Path M' top p c
  | [], p, h, e => (e top (by simp)).trans h
  | f :: c, p, h, e => by
    obtain ⟨⟨z, d, h1⟩, h2, h3⟩ := h
    exact ⟨⟨z, d, (e _ (by simp [adF])).trans h1⟩, h2.frame (fun a ha => e a (by simp [adF, ha])), h3.frame (fun a ha => e a (by
      rcases List.mem_cons.1 ha with rfl | ha
      · simp
      · simp [adF, ha]))⟩
/-- The node over the place; another one hung there. -/
theorem Path.over {M : MN} {top : Nat} {c : List Fra} {n : Nat} (h : Path M top (some n) c) (hnd : (top :: adF c).Nodup) (hn : n ∉ top :: adF c) :
    ∃ O : Nd, M (hdF top c) = some O ∧ O.kid (sdF c) = some n ∧ (sdF c = false → O.r ≠ some n) ∧ (∀ a, O.r = some a → a = n ∨ ∃ y, M a = some y) ∧ ∀ (M' : MN) (p : Option Nat), M' (hdF top c) = some (O.setKid (sdF c) p) → (∀ a ∈ top :: adF c, a ≠ hdF top c → M' a = M a) → Path M' top p c := by
  cases c with
  | nil => exact ⟨_, h, rfl, fun _ => by simp, fun a e => by simp at e, fun M' p e _ => e⟩
  | cons f c =>
    obtain ⟨⟨z, d, h1⟩, h2, h3⟩ := h
    refine ⟨_, h1, (mkN_kid _ _ _ _ _ _ _).1, fun hs => ?_, fun a e => ?_, fun M' p e e2 => ?_⟩
    · simp only [sdF] at hs
      simp only [hs, mkN]
      intro q
      exact hn (by simp [adF, Tr.root_mem q])
    · cases hs : f.s with
      | true => rw [hs] at e; simp [mkN] at e; exact .inl e.symm
      | false =>
        rw [hs] at e
        simp [mkN] at e
        obtain ⟨y, hy, _⟩ := h2.is e
        exact .inr ⟨y, hy⟩
    · simp only [adF, List.nodup_cons, List.mem_cons, List.mem_append, not_or] at hnd
      refine ⟨⟨z, d, ?_⟩, h2.frame fun a ha => e2 a (by simp [adF, ha]) ?_, h3.frame fun a ha => e2 a ?_ ?_⟩
      · simp only [hdF, sdF] at e
        rw [e]
        cases f.s <;> simp [mkN, Nd.setKid] <;> (cases c <;> rfl)
      · rintro rfl; exact hnd.2.1.1 ha
      · rcases List.mem_cons.1 ha with rfl | ha
        · simp
        · simp [adF, ha]
      · rintro rfl
        rcases List.mem_cons.1 ha with q | q
        · exact hnd.1.1 q.symm
        · exact hnd.2.1.2 q
/-- A whole tree. -/
structure Wh (M : MN) (top : Nat) (T : Tr) : Prop where
  top' : M top = some ⟨(0, 0), none, T.root, none, 0, 0⟩
  sub : Sub M (some top) T
theorem Wh.open {M : MN} {top : Nat} : ∀ {c : List Fra} {x : Tr}, Wh M top (plug c x) → Path M top x.root c ∧ Sub M (some (hdF top c)) x
  | [], x, h => ⟨h.top', h.sub⟩
  | f :: c, x, h => by
    obtain ⟨h1, h2⟩ := Wh.open (c := c) (x := plug1 f x) h
    rw [plug1, Sub_mkT] at h2
    rw [plug1, mkT_root] at h1
    exact ⟨⟨⟨_, _, h2.1⟩, h2.2.2, h1⟩, h2.2.1⟩
theorem adds_plug : ∀ (c : List Fra) (x : Tr), (plug c x).adds.Perm (x.adds ++ adF c)
  | [], x => by simp [plug, adF]
  | f :: c, x => by
    rw [plug]
    refine (adds_plug c _).trans ?_
    obtain ⟨s, a, k, t⟩ := f
    cases s
    · simp only [plug1, mkT, Tr.adds_nd, adF, Bool.false_eq_true, if_false]
      simp
    · simp only [plug1, mkT, Tr.adds_nd, adF, if_true]
      have : (t.adds ++ a :: x.adds).Perm (x.adds ++ a :: t.adds) := by
        refine (List.perm_append_comm).trans ?_
        rw [List.cons_append]
        exact (List.perm_middle).symm
      simpa using this.append_right (adF c)
/-- Places that may be, while the tree there has that depth. -/
def Okc : List Fra → Nat → Prop
  | [], _ => True
  | f :: c, d => f.t.avl ∧ d ≤ f.t.deep + 1 ∧ f.t.deep ≤ d + 1 ∧ Okc c (1 + max d f.t.deep)
theorem Okc_of : ∀ {c : List Fra} {x : Tr}, (plug c x).avl → x.avl ∧ Okc c x.deep
  | [], x, h => ⟨h, trivial⟩
  | f :: c, x, h => by
    obtain ⟨h1, h2⟩ := Okc_of (c := c) (x := plug1 f x) h
    rw [plug1, mkT_avl] at h1
    rw [plug1, mkT_deep] at h2
    exact ⟨h1.1, h1.2.1, h1.2.2.1, h1.2.2.2, h2⟩
/-- Each node of a tree is at a place. -/
theorem place_of : ∀ {t : Tr} {a : Nat} {k : HKey}, (a, k) ∈ t.rows → ∃ c l r, t = plug c (.nd a k l r)
  | .nil, a, k, h => by simp [Tr.rows] at h
  | .nd b k' l r, a, k, h => by
    have app : ∀ (c d : List Fra) (x : Tr), plug (c ++ d) x = plug d (plug c x) := by
      intro c
      induction c with
      | nil => intro d x; rfl
      | cons f c ih => intro d x; exact ih d _
    simp only [Tr.rows, List.mem_append, List.mem_cons, Prod.mk.injEq] at h
    rcases h with h | ⟨rfl, rfl⟩ | h
    · obtain ⟨c, l', r', e⟩ := place_of h
      exact ⟨c ++ [⟨false, b, k', r⟩], l', r', by rw [app, ← e]; rfl⟩
    · exact ⟨[], l, r, rfl⟩
    · obtain ⟨c, l', r', e⟩ := place_of h
      exact ⟨c ++ [⟨true, b, k', l⟩], l', r', by rw [app, ← e]; rfl⟩
end Go.Proofs.Ythgpbbpmfpfjnaa.T
