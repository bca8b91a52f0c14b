/- Structs of integers and several slices: slices that lie apart; what marks keep. No program but the laws' helpers over lists of integers. -/
import Derived.Test.YtfbapbgiegploaaLcl
import Derived.Test.YtfbapbgiegploaaKin
import Derived.Lib.SmallJoins
namespace Go.Proofs.Ytfbapbgiegploaa
open Go.ChangeShapes Go.WideShapes Go.ChangeAt Go.RowKit
set_option linter.unusedVariables false
theorem Box.five {w : World} {b : Nat} {t : TypeId} {x0 x1 x2 x3 x4 : Value} (h : Box w b t #[x0, x1, x2, x3, x4]) : w.cell? ⟨b, 0, none⟩ = some x0 ∧ w.cell? ⟨b, 1, none⟩ = some x1 ∧ w.cell? ⟨b, 2, none⟩ = some x2 ∧ w.cell? ⟨b, 3, none⟩ = some x3 ∧ w.cell? ⟨b, 4, none⟩ = some x4 := ⟨h.cell 0, h.cell 1, h.cell 2, h.cell 3, h.cell 4⟩
theorem Box.putK {w : World} {b : Nat} {t : TypeId} {vs : Array Value} (h : Box w b t vs) (i : Nat) (v : Value) : Box (w.setCell ⟨b, i, none⟩ v) b t (vs.setIfInBounds i v) := Go.Joins.block_setCell h v
/-- two slices of the call's own in different blocks -/
def Apart (a b : Option Addr) : Prop := ∀ x y, a = some x → b = some y → x.block ≠ y.block
theorem Apart.symm {a b : Option Addr} (h : Apart a b) : Apart b a := fun x y hx hy e => h y x hy hx e.symm
theorem Apart.none_left (b : Option Addr) : Apart none b := fun x y hx => by cases hx
theorem Apart.none_right (a : Option Addr) : Apart a none := fun x y _ hy => by cases hy
theorem Apart.of_blocks {p q : Addr} (h : p.block ≠ q.block) : Apart (some p) (some q) := fun x y hx hy => by cases hx; cases hy; exact h
/-- slices in ranges of blocks that do not meet -/
theorem Own.apart_of {t t' : TypeId} {w w' : World} {lo hi lo' hi' n c n' c' : Nat} {a a' : Option Addr} {vs vs' : List Value} (h : Own t w lo hi a n c vs) (h' : Own t' w' lo' hi' a' n' c' vs') (hd : hi ≤ lo' ∨ hi' ≤ lo) : Apart a a' := by
  intro x y hx hy
  rcases h.2.2 with ⟨rfl, _⟩ | ⟨g, f, rfl, h1, h2, _, _⟩
  · cases hx
  rcases h'.2.2 with ⟨rfl, _⟩ | ⟨g', f', rfl, h3, h4, _, _⟩
  · cases hy
  cases hx; cases hy
  show g ≠ g'
  omega
/-- what a deed in the block of a slice leaves alone -/
def Keeps (a : Option Addr) (w w' : World) : Prop := ∀ (t : TypeId) (lo hi : Nat) (b : Option Addr) (n c : Nat) (vs : List Value), Apart b a → Own t w lo hi b n c vs → Own t w' lo hi b n c vs
theorem Keeps.refl (a : Option Addr) (w : World) : Keeps a w w := fun _ _ _ _ _ _ _ _ h => h
theorem Keeps.trans {a : Option Addr} {u v w : World} (h : Keeps a u v) (k : Keeps a v w) : Keeps a u w := fun t lo hi b n c vs hp ho => k t lo hi b n c vs hp (h t lo hi b n c vs hp ho)
theorem Keeps.of_ext {a : Option Addr} {u v : World} (h : Ext u v) : Keeps a u v := fun t lo hi b n c vs hp ho => ho.on h
theorem Keeps.of_touch {g o : Nat} {u v : World} (h : Touch g (g + 1) u v) : Keeps (some ⟨g, o, none⟩) u v := fun t lo hi b n c vs hp ho => by
  refine ⟨ho.1, ho.2.1, ?_⟩
  rcases ho.2.2 with h0 | ⟨g', f, rfl, g1, g2, hr, hf⟩
  · exact .inl h0
  · have hne : g' ≠ g := hp _ _ rfl rfl
    exact .inr ⟨g', f, rfl, g1, g2, hr.of_block (h.block g' hr.lt (by omega)), hf⟩
theorem Keeps.own {t : TypeId} {a b : Option Addr} {u v : World} {lo hi n c : Nat} {vs : List Value} (h : Keeps a u v) (ho : Own t u lo hi b n c vs) (hp : Apart b a) : Own t v lo hi b n c vs := h t lo hi b n c vs hp ho
/-- two slices of the call's own -/
structure Own2 (t1 t2 : TypeId) (w : World) (lo hi : Nat) (a1 : Option Addr) (n1 c1 : Nat) (v1 : List Value) (a2 : Option Addr) (n2 c2 : Nat) (v2 : List Value) : Prop where
  o1 : Own t1 w lo hi a1 n1 c1 v1
  o2 : Own t2 w lo hi a2 n2 c2 v2
  p12 : Apart a1 a2
/-- three slices of the call's own -/
structure Own3 (t1 t2 t3 : TypeId) (w : World) (lo hi : Nat) (a1 : Option Addr) (n1 c1 : Nat) (v1 : List Value) (a2 : Option Addr) (n2 c2 : Nat) (v2 : List Value) (a3 : Option Addr) (n3 c3 : Nat) (v3 : List Value) : Prop where
  o1 : Own t1 w lo hi a1 n1 c1 v1
  o2 : Own t2 w lo hi a2 n2 c2 v2
  o3 : Own t3 w lo hi a3 n3 c3 v3
  p12 : Apart a1 a2
  p13 : Apart a1 a3
  p23 : Apart a2 a3
structure Reads2 (w : World) (a1 : Option Addr) (n1 : Nat) (v1 : List Value) (a2 : Option Addr) (n2 : Nat) (v2 : List Value) : Prop where
  r1 : Reads w a1 n1 v1
  r2 : Reads w a2 n2 v2
structure Reads3 (w : World) (a1 : Option Addr) (n1 : Nat) (v1 : List Value) (a2 : Option Addr) (n2 : Nat) (v2 : List Value) (a3 : Option Addr) (n3 : Nat) (v3 : List Value) : Prop where
  r1 : Reads w a1 n1 v1
  r2 : Reads w a2 n2 v2
  r3 : Reads w a3 n3 v3
section
variable {t1 t2 t3 : TypeId} {w w' : World} {lo hi lo' hi' n1 c1 n2 c2 n3 c3 : Nat} {a1 a2 a3 : Option Addr} {v1 v2 v3 : List Value}
theorem Own2.on (h : Own2 t1 t2 w lo hi a1 n1 c1 v1 a2 n2 c2 v2) (e : Ext w w') : Own2 t1 t2 w' lo hi a1 n1 c1 v1 a2 n2 c2 v2 := ⟨h.o1.on e, h.o2.on e, h.p12⟩
theorem Own2.beside (h : Own2 t1 t2 w lo hi a1 n1 c1 v1 a2 n2 c2 v2) (e : Touch lo' hi' w w') (hd : hi ≤ lo' ∨ hi' ≤ lo) : Own2 t1 t2 w' lo hi a1 n1 c1 v1 a2 n2 c2 v2 := ⟨h.o1.beside e hd, h.o2.beside e hd, h.p12⟩
theorem Own2.wide (h : Own2 t1 t2 w lo hi a1 n1 c1 v1 a2 n2 c2 v2) (h1 : lo' ≤ lo) (h2 : hi ≤ hi') : Own2 t1 t2 w lo' hi' a1 n1 c1 v1 a2 n2 c2 v2 := ⟨h.o1.wide h1 h2, h.o2.wide h1 h2, h.p12⟩
theorem Own2.reads (h : Own2 t1 t2 w lo hi a1 n1 c1 v1 a2 n2 c2 v2) : Reads2 w a1 n1 v1 a2 n2 v2 := ⟨h.o1.reads, h.o2.reads⟩
theorem Own2.nil (t1 t2 : TypeId) (w : World) (lo hi : Nat) : Own2 t1 t2 w lo hi none 0 0 [] none 0 0 [] := ⟨Own.nil _ _ _ _, Own.nil _ _ _ _, Apart.none_left _⟩
theorem Own3.on (h : Own3 t1 t2 t3 w lo hi a1 n1 c1 v1 a2 n2 c2 v2 a3 n3 c3 v3) (e : Ext w w') : Own3 t1 t2 t3 w' lo hi a1 n1 c1 v1 a2 n2 c2 v2 a3 n3 c3 v3 := ⟨h.o1.on e, h.o2.on e, h.o3.on e, h.p12, h.p13, h.p23⟩
theorem Own3.beside (h : Own3 t1 t2 t3 w lo hi a1 n1 c1 v1 a2 n2 c2 v2 a3 n3 c3 v3) (e : Touch lo' hi' w w') (hd : hi ≤ lo' ∨ hi' ≤ lo) : Own3 t1 t2 t3 w' lo hi a1 n1 c1 v1 a2 n2 c2 v2 a3 n3 c3 v3 := ⟨h.o1.beside e hd, h.o2.beside e hd, h.o3.beside e hd, h.p12, h.p13, h.p23⟩
theorem Own3.wide (h : Own3 t1 t2 t3 w lo hi a1 n1 c1 v1 a2 n2 c2 v2 a3 n3 c3 v3) (h1 : lo' ≤ lo) (h2 : hi ≤ hi') : Own3 t1 t2 t3 w lo' hi' a1 n1 c1 v1 a2 n2 c2 v2 a3 n3 c3 v3 := ⟨h.o1.wide h1 h2, h.o2.wide h1 h2, h.o3.wide h1 h2, h.p12, h.p13, h.p23⟩
theorem Own3.reads (h : Own3 t1 t2 t3 w lo hi a1 n1 c1 v1 a2 n2 c2 v2 a3 n3 c3 v3) : Reads3 w a1 n1 v1 a2 n2 v2 a3 n3 v3 := ⟨h.o1.reads, h.o2.reads, h.o3.reads⟩
theorem Own3.nil (t1 t2 t3 : TypeId) (w : World) (lo hi : Nat) : Own3 t1 t2 t3 w lo hi none 0 0 [] none 0 0 [] none 0 0 [] := ⟨Own.nil _ _ _ _, Own.nil _ _ _ _, Own.nil _ _ _ _, Apart.none_left _, Apart.none_left _, Apart.none_left _⟩
theorem Reads2.on (h : Reads2 w a1 n1 v1 a2 n2 v2) (e : Ext w w') : Reads2 w' a1 n1 v1 a2 n2 v2 := ⟨h.r1.on e, h.r2.on e⟩
theorem Reads3.on (h : Reads3 w a1 n1 v1 a2 n2 v2 a3 n3 v3) (e : Ext w w') : Reads3 w' a1 n1 v1 a2 n2 v2 a3 n3 v3 := ⟨h.r1.on e, h.r2.on e, h.r3.on e⟩
end
/-- marks in a slice, told apart from what lies in other blocks -/
def RetMarkK (t : TypeId) (lo hi : Nat) (a : Option Addr) (n c k : Nat) (ms : List Value) (w : World) (e : Ending) (w' : World) : Prop := e = .returned (.int .i64 ((k + n : Nat) : Int)) ∧ Own t w' lo hi a n c ms ∧ Touch lo hi w w' ∧ Keeps a w w'
theorem c_markI_k (lo hi : Nat) (a : Option Addr) (n cap s : Nat) (vs : List Value) (w : World) (hn : n ≤ 1048576) (hs : s ≤ 1073741824) (h : Own 2 w lo hi a n cap vs) :
    Calls Try.prog 195 #[.slice a n cap, .int .i64 s] w (RetMarkK 2 lo hi a n cap s (ints (marks s n)) w) := by
  obtain ⟨h1, h2, hr⟩ := h
  rcases hr with ⟨rfl, rfl⟩ | ⟨g, f, rfl, g1, g2, hrow, hf⟩
  · refine (c_markI 0 0 none n 0 s vs w hn hs ⟨h1, h2, .inl ⟨rfl, rfl⟩⟩).mono ?_
    rintro e w' ⟨rfl, o, t⟩
    exact ⟨rfl, ⟨o.1, o.2.1, .inl ⟨rfl, rfl⟩⟩, ⟨t.os, t.tape, t.output, t.size, fun k hk _ => t.block k hk (.inr (Nat.zero_le _))⟩, fun t' lo' hi' b' n' c' vs' _ ho => ho.of_block fun k _ _ hk => t.block k hk (.inr (Nat.zero_le _))⟩
  · refine (c_markI g (g + 1) (some ⟨g, 0, none⟩) n cap s vs w hn hs ⟨h1, h2, .inr ⟨g, f, rfl, Nat.le_refl _, Nat.lt_succ_self _, hrow, hf⟩⟩).mono ?_
    rintro e w' ⟨rfl, o, t⟩
    exact ⟨rfl, o.wide g1 (by omega), t.wide g1 (by omega), Keeps.of_touch t⟩
theorem c_heldI_E (a : Option Addr) (n cap s : Nat) (w : World) (hn : n ≤ 1048576) (hs : s ≤ 1073741824) (h : Reads w a n (ints (marks s n))) :
    Calls Try.prog 196 #[.slice a n cap, .int .i64 s] w fun e w' => e = .returned (.int .i64 ((s + n : Nat) : Int)) ∧ Ext w w' :=
  (c_heldI a n cap s w hn hs h).mono (by rintro e w' ⟨rfl, rfl⟩; exact ⟨rfl, Ext.refl _⟩)
end Go.Proofs.Ytfbapbgiegploaa
