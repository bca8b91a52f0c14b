/- Cells: plain facts. -/
import Derived.Test.YtfbapbgiegploaaSca
import Derived.Test.YtfbapbgiegploaaIls
namespace Go.Proofs.Ytfbapbgiegploaa
open Go Go.RowKit
set_option linter.unusedVariables false
/-- whether cells can have such sides and such a salt -/
def sidesB (W D S : Int) : Bool := inB 2 W 64 && (inB 1 D 6 && keyB S)
def manyB (m : Int) (zs : List Int) : Bool := zs.all fun z => inB (-m) z m
/-- whether cells are valid -/
def cellsB (W D S : Int) (zs : List Int) : Bool := sidesB W D S && (decide ((zs.length : Int) = W * D) && manyB 1000000000000 zs)
theorem inB_is {lo k hi : Int} : inB lo k hi = true ↔ lo ≤ k ∧ k ≤ hi := by unfold inB; exact decide_eq_true_iff
theorem manyB_at {m : Int} {zs : List Int} (h : manyB m zs = true) {i : Nat} (hi : i < zs.length) : -m ≤ zs[i]?.getD 0 ∧ zs[i]?.getD 0 ≤ m := by
  unfold manyB at h
  rw [List.all_eq_true] at h
  have := h _ (List.getElem_mem hi)
  rw [List.getElem?_eq_getElem hi]
  exact inB_is.1 this
theorem manyB_mk {m : Int} {zs : List Int} (h : ∀ i, i < zs.length → -m ≤ zs[i]?.getD 0 ∧ zs[i]?.getD 0 ≤ m) : manyB m zs = true := by
  unfold manyB
  rw [List.all_eq_true]
  intro x hx
  obtain ⟨i, hi, rfl⟩ := List.getElem_of_mem hx
  have := h i hi
  rw [List.getElem?_eq_getElem hi] at this
  exact inB_is.2 this
theorem manyB_bad {m : Int} {zs : List Int} {i : Nat} (hi : i < zs.length) (h : ¬ (-m ≤ zs[i]?.getD 0 ∧ zs[i]?.getD 0 ≤ m)) : manyB m zs = false := by
  cases hb : manyB m zs
  · rfl
  · exact absurd (manyB_at hb hi) h
theorem many_step {m : Int} {zs : List Int} {k : Nat} (ha : ∀ i, i < k → -m ≤ zs[i]?.getD 0 ∧ zs[i]?.getD 0 ≤ m) (h : -m ≤ zs[k]?.getD 0 ∧ zs[k]?.getD 0 ≤ m) : ∀ i, i < k + 1 → -m ≤ zs[i]?.getD 0 ∧ zs[i]?.getD 0 ≤ m := by
  intro i hi
  by_cases e : i = k
  · subst e; exact h
  · exact ha i (by omega)
/-- valid cells -/
structure CellsOk (m d : Nat) (S : Int) (zs : List Int) : Prop where
  m2 : 2 ≤ m
  m64 : m ≤ 64
  d1 : 1 ≤ d
  d6 : d ≤ 6
  key : keyB S = true
  len : zs.length = m * d
  many : manyB 1000000000000 zs = true
theorem CellsOk.le {m d : Nat} {S : Int} {zs : List Int} (h : CellsOk m d S zs) : zs.length ≤ 384 := by
  have : m * d ≤ 64 * 6 := Nat.mul_le_mul h.m64 h.d6
  rw [h.len]; omega
theorem sides_of {W D S : Int} (h : sidesB W D S = true) : ∃ m d : Nat, W = m ∧ D = d ∧ 2 ≤ m ∧ m ≤ 64 ∧ 1 ≤ d ∧ d ≤ 6 ∧ keyB S = true := by
  unfold sidesB at h
  simp only [Bool.and_eq_true, inB_is] at h
  exact ⟨W.toNat, D.toNat, by omega, by omega, by omega, by omega, by omega, by omega, h.2.2⟩
theorem sidesB_mk {m d : Nat} {S : Int} (h1 : 2 ≤ m) (h2 : m ≤ 64) (h3 : 1 ≤ d) (h4 : d ≤ 6) (h5 : keyB S = true) : sidesB m d S = true := by
  unfold sidesB
  simp only [Bool.and_eq_true, inB_is]
  exact ⟨by omega, by omega, h5⟩
theorem cells_ok {W D S : Int} {zs : List Int} (h : cellsB W D S zs = true) : ∃ m d : Nat, W = m ∧ D = d ∧ CellsOk m d S zs := by
  unfold cellsB at h
  simp only [Bool.and_eq_true, decide_eq_true_eq] at h
  obtain ⟨m, d, rfl, rfl, h1, h2, h3, h4, h5⟩ := sides_of h.1
  exact ⟨m, d, rfl, rfl, h1, h2, h3, h4, h5, by have := h.2.1; rw [← Int.natCast_mul] at this; omega, h.2.2⟩
theorem CellsOk.cellsB {m d : Nat} {S : Int} {zs : List Int} (h : CellsOk m d S zs) : cellsB m d S zs = true := by
  unfold Go.Proofs.Ytfbapbgiegploaa.cellsB
  rw [sidesB_mk h.m2 h.m64 h.d1 h.d6 h.key, h.many, decide_eq_true (by rw [h.len, Int.natCast_mul])]
  rfl
theorem cellsB_sides {W D S : Int} {zs : List Int} (h : sidesB W D S = false) : cellsB W D S zs = false := by unfold cellsB; rw [h]; rfl
theorem cellsB_len {W D S : Int} {zs : List Int} (h : ¬ (zs.length : Int) = W * D) : cellsB W D S zs = false := by unfold cellsB; rw [decide_eq_false h]; simp
theorem cellsB_many {W D S : Int} {zs : List Int} (h : manyB 1000000000000 zs = false) : cellsB W D S zs = false := by unfold cellsB; rw [h]; simp
/-- the salt of a row -/
def saltZ (S : Int) (i : Nat) : Int := (S + (i : Int)) % 4294967296
theorem saltZ_key (S : Int) (i : Nat) : keyB (saltZ S i) = true := by unfold saltZ; exact keyB_true (by omega) (by omega)
/-- the place of a key in a row -/
def placeN (m : Nat) (S key : Int) (i : Nat) : Nat := i * m + belowN key (saltZ S i) m
theorem placeN_lo (m : Nat) (S key : Int) (i : Nat) : i * m ≤ placeN m S key i := Nat.le_add_right _ _
theorem placeN_hi {m : Nat} (S key : Int) (i : Nat) (h : 1 ≤ m) : placeN m S key i < (i + 1) * m := by
  have := belowN_lt key (saltZ S i) m h
  unfold placeN
  rw [Nat.add_mul, Nat.one_mul]
  omega
theorem placeN_lt {m d : Nat} (S key : Int) {i : Nat} (h : 1 ≤ m) (hi : i < d) : placeN m S key i < m * d := by
  have h1 := placeN_hi S key i h
  have h2 : (i + 1) * m ≤ d * m := Nat.mul_le_mul_right m (by omega)
  rw [Nat.mul_comm m d]
  omega
theorem placeN_mono {m : Nat} (S key : Int) (h : 1 ≤ m) {i j : Nat} (hij : i < j) : placeN m S key i < placeN m S key j := by
  have h1 := placeN_hi S key i h
  have h2 := placeN_lo m S key j
  have h3 : (i + 1) * m ≤ j * m := Nat.mul_le_mul_right m (by omega)
  omega
theorem place_small {m i : Nat} (S key : Int) (h1 : 1 ≤ m) (h : m ≤ 64) (hi : i ≤ 6) : placeN m S key i < 448 := by
  have h1 := placeN_hi S key i h1
  have h2 : (i + 1) * m ≤ 7 * 64 := Nat.mul_le_mul (by omega) h
  omega
/-- the places of a key -/
def placesZ (m d : Nat) (S key : Int) : List Int := (List.range d).map fun i => ((placeN m S key i : Nat) : Int)
theorem placesZ_length (m d : Nat) (S key : Int) : (placesZ m d S key).length = d := by simp [placesZ]
theorem placesZ_get (m d : Nat) (S key : Int) (i : Nat) (h : i < d) : (placesZ m d S key)[i]?.getD 0 = ((placeN m S key i : Nat) : Int) := by simp [placesZ, h]
theorem placesZ_snoc (m k : Nat) (S key : Int) : ints (placesZ m (k + 1) S key) = ints (placesZ m k S key) ++ [.int .i64 ((placeN m S key k : Nat) : Int)] := by simp [placesZ, ints, List.range_succ]
/-- one cell of each row becomes what f tells -/
def upd (p : Nat → Nat) (f : Nat → Int → Int) (zs : List Int) : Nat → List Int
  | 0 => zs
  | k + 1 => (upd p f zs k).set (p k) (f k (zs[p k]?.getD 0))
theorem upd_length (p : Nat → Nat) (f : Nat → Int → Int) (zs : List Int) : ∀ k, (upd p f zs k).length = zs.length
  | 0 => rfl
  | k + 1 => by
    show ((upd p f zs k).set (p k) _).length = _
    rw [List.length_set, upd_length p f zs k]
theorem upd_get {p : Nat → Nat} (hp : ∀ i j, i < j → p i < p j) (f : Nat → Int → Int) (zs : List Int) : ∀ (k j : Nat), k ≤ j → (upd p f zs k)[p j]?.getD 0 = zs[p j]?.getD 0
  | 0, _, _ => rfl
  | k + 1, j, h => by
    show ((upd p f zs k).set (p k) _)[p j]?.getD 0 = _
    have := hp k j (by omega)
    rw [List.getElem?_set, if_neg (by omega), upd_get hp f zs k j (by omega)]
theorem upd_congr {p : Nat → Nat} {f g : Nat → Int → Int} (zs : List Int) : ∀ (k : Nat), (∀ i, i < k → f i (zs[p i]?.getD 0) = g i (zs[p i]?.getD 0)) → upd p f zs k = upd p g zs k
  | 0, _ => rfl
  | k + 1, h => by
    show (upd p f zs k).set (p k) _ = (upd p g zs k).set (p k) _
    rw [upd_congr zs k (fun i hi => h i (by omega)), h k (by omega)]
theorem getD_set (zs : List Int) (k j : Nat) (v : Int) (hk : k < zs.length) : (zs.set k v)[j]?.getD 0 = if j = k then v else zs[j]?.getD 0 := by
  rw [List.getElem?_set]
  by_cases e : k = j
  · subst e; simp [hk]
  · rw [if_neg e, if_neg (fun h => e h.symm)]
/-- a row that holds numbers -/
def rowL (zs : List Int) (i : Nat) : Value := .int .i64 (zs[i]?.getD 0)
theorem rowL_set {zs : List Int} {w : World} {b n k : Nat} {t : TypeId} (h : w.rowIs b t n (rowL zs)) (hk : k < zs.length) (v : Int) : (w.setCell ⟨b, k, none⟩ (.int .i64 v)).rowIs b t n (rowL (zs.set k v)) := by
  refine (h.set k _).congr fun i hi => ?_
  unfold rowL
  rw [getD_set zs k i v hk]
  by_cases e : i = k
  · rw [if_pos e, if_pos e]
  · rw [if_neg e, if_neg e]
/-- a row that begins with numbers -/
def rowT (zs : List Int) (f : Nat → Value) (i : Nat) : Value := if i < zs.length then .int .i64 (zs[i]?.getD 0) else f i
theorem rowT_at {zs : List Int} {f : Nat → Value} {i : Nat} (h : i < zs.length) : rowT zs f i = .int .i64 (zs[i]?.getD 0) := if_pos h
theorem rowT_set {zs : List Int} {f : Nat → Value} {w : World} {b n k : Nat} {t : TypeId} (h : w.rowIs b t n (rowT zs f)) (hk : k < zs.length) (v : Int) : (w.setCell ⟨b, k, none⟩ (.int .i64 v)).rowIs b t n (rowT (zs.set k v) f) := by
  refine (h.set k _).congr fun i hi => ?_
  unfold rowT
  rw [List.length_set, getD_set zs k i v hk]
  by_cases e : i = k
  · subst e; rw [if_pos rfl, if_pos hk, if_pos rfl]
  · rw [if_neg e, if_neg e]
theorem own_rowT {w' : World} {t : TypeId} {g lo c : Nat} {zs : List Int} {f : Nat → Value} (hc : zs.length ≤ c) (hg : lo ≤ g) (h : w'.rowIs g t c (rowT zs f)) : Own t w' lo w'.heap.size (some ⟨g, 0, none⟩) zs.length c (ints zs) :=
  ⟨ints_length zs, hc, .inr ⟨g, _, rfl, hg, h.lt, h, fun i hi => by rw [rowT_at hi]; exact ints_get zs i hi⟩⟩
theorem Own.rowT {w : World} {t : TypeId} {lo hi n c : Nat} {a : Option Addr} {zs : List Int} (h : Own t w lo hi a n c (ints zs)) (hn : 0 < n) : ∃ g f, a = some ⟨g, 0, none⟩ ∧ lo ≤ g ∧ g < hi ∧ zs.length = n ∧ n ≤ c ∧ w.rowIs g t c (rowT zs f) := by
  obtain ⟨hl, hc, h0⟩ := h
  rw [ints_length] at hl
  rcases h0 with ⟨_, h0⟩ | ⟨g, f, rfl, h1, h2, hr, hf⟩
  · omega
  · refine ⟨g, f, rfl, h1, h2, hl, hc, hr.congr fun i hi => ?_⟩
    unfold Go.Proofs.Ytfbapbgiegploaa.rowT
    by_cases e : i < zs.length
    · rw [if_pos e]
      have h3 := hf i (by omega)
      rw [ints_get zs i e] at h3
      simpa using h3.symm
    · rw [if_neg e]
theorem own_rowL {w' : World} {t : TypeId} {g lo c : Nat} {zs : List Int} (hc : zs.length ≤ c) (hg : lo ≤ g) (h : w'.rowIs g t c (rowL zs)) : Own t w' lo w'.heap.size (some ⟨g, 0, none⟩) zs.length c (ints zs) :=
  ⟨ints_length zs, hc, .inr ⟨g, _, rfl, hg, h.lt, h, fun i hi => ints_get zs i hi⟩⟩
/-- steps of a walk, for Ext -/
theorem Ext.stepA {w u : World} (h : Ext w u) (o : Obj) : Ext w (u.alloc o) := Below.alloc h h.size o
theorem Ext.stepS {w u : World} (h : Ext w u) {a : Addr} (hb : w.heap.size ≤ a.block) (v : Value) : Ext w (u.setCell a v) := Below.setCell h hb v
theorem Ext.stepD {w u : World} (h : Ext w u) : Ext w u.drew := h.trans (Ext.drew _)
theorem Ext.stepN {w u : World} (h : Ext w u) (n : Nat) : Ext w (u.drewN n) := h.trans (Ext.drewN _ _)
/-- a variable of so many cells that the call has laid -/
def Box (w : World) (b : Nat) (t : TypeId) (vs : Array Value) : Prop := w.heap[b]? = some (.cells vs t (0, 0))
theorem Box.cell {w : World} {b : Nat} {t : TypeId} {vs : Array Value} (h : Box w b t vs) (i : Nat) : w.cell? ⟨b, i, none⟩ = vs[i]? := by simp [World.cell?, show w.heap[b]? = _ from h]
theorem Box.frozen {w : World} {b : Nat} {t : TypeId} {vs : Array Value} (h : Box w b t vs) (i : Nat) : w.frozen? ⟨b, i, none⟩ = false := by simp [World.frozen?, show w.heap[b]? = _ from h]
theorem Box.lt {w : World} {b : Nat} {t : TypeId} {vs : Array Value} (h : Box w b t vs) : b < w.heap.size := (Array.getElem?_eq_some_iff.1 h).1
theorem Box.on {w w' : World} {b : Nat} {t : TypeId} {vs : Array Value} (h : Box w b t vs) (e : Ext w w') : Box w' b t vs := (Below.block e b h.lt).trans h
theorem Box.beside {w w' : World} {b lo hi : Nat} {t : TypeId} {vs : Array Value} (h : Box w b t vs) (e : Touch lo hi w w') (hd : b < lo ∨ hi ≤ b) : Box w' b t vs := (e.block b h.lt hd).trans h
theorem Box.three {w : World} {b : Nat} {t : TypeId} {x0 x1 x2 : Value} (h : Box w b t #[x0, x1, x2]) : w.cell? ⟨b, 0, none⟩ = some x0 ∧ w.cell? ⟨b, 1, none⟩ = some x1 ∧ w.cell? ⟨b, 2, none⟩ = some x2 := ⟨h.cell 0, h.cell 1, h.cell 2⟩
theorem Box.four {w : World} {b : Nat} {t : TypeId} {x0 x1 x2 x3 : Value} (h : Box w b t #[x0, x1, x2, x3]) : w.cell? ⟨b, 0, none⟩ = some x0 ∧ w.cell? ⟨b, 1, none⟩ = some x1 ∧ w.cell? ⟨b, 2, none⟩ = some x2 ∧ w.cell? ⟨b, 3, none⟩ = some x3 := ⟨h.cell 0, h.cell 1, h.cell 2, h.cell 3⟩
theorem Box.alloc (w : World) (vs : Array Value) (t : TypeId) : Box (w.alloc (.cells vs t)) w.heap.size t vs := heap_alloc_new w _
theorem Box.alloc_at (w : World) (vs : Array Value) (t : TypeId) {b : Nat} (h : b = w.heap.size) : Box (w.alloc (.cells vs t)) b t vs := by subst h; exact Box.alloc w vs t
theorem Box.free {w : World} {b : Nat} {t : TypeId} {vs : Array Value} (h : Box w b t vs) : w.frozen? ⟨b, 0, none⟩ = false ∧ w.frozen? ⟨b, 1, none⟩ = false ∧ w.frozen? ⟨b, 2, none⟩ = false ∧ w.frozen? ⟨b, 3, none⟩ = false := ⟨h.frozen 0, h.frozen 1, h.frozen 2, h.frozen 3⟩
theorem Box.past {w : World} {b : Nat} {t : TypeId} {vs : Array Value} (h : Box w b t vs) (o : Obj) : Box (w.alloc o) b t vs := (heap_alloc_old w o h.lt).trans h
/-- insertion from behind -/
def swapL (zs : List Int) (i j : Nat) : List Int := (zs.set i (zs[j]?.getD 0)).set j (zs[i]?.getD 0)
def sink : Nat → List Int → List Int
  | 0, zs => zs
  | j + 1, zs => if zs[j + 1]?.getD 0 < zs[j]?.getD 0 then sink j (swapL zs (j + 1) j) else zs
def sortN : Nat → List Int → List Int
  | 0, zs => zs
  | k + 1, zs => sink (k + 1) (sortN k zs)
theorem swapL_length (zs : List Int) (i j : Nat) : (swapL zs i j).length = zs.length := by simp [swapL]
theorem sink_length : ∀ (j : Nat) (zs : List Int), (sink j zs).length = zs.length
  | 0, _ => rfl
  | j + 1, zs => by
    show (if zs[j + 1]?.getD 0 < zs[j]?.getD 0 then sink j (swapL zs (j + 1) j) else zs).length = zs.length
    split
    · rw [sink_length j, swapL_length]
    · rfl
theorem sortN_length : ∀ (k : Nat) (zs : List Int), (sortN k zs).length = zs.length
  | 0, _ => rfl
  | k + 1, zs => by
    show (sink (k + 1) (sortN k zs)).length = _
    rw [sink_length, sortN_length k]
theorem sink_go {j : Nat} {zs : List Int} (h : zs[j + 1]?.getD 0 < zs[j]?.getD 0) : sink (j + 1) zs = sink j (swapL zs (j + 1) j) := if_pos h
theorem sink_end {j : Nat} {zs : List Int} (h : ¬ zs[j + 1]?.getD 0 < zs[j]?.getD 0) : sink (j + 1) zs = zs := if_neg h
/-- the least one of the cells of a key -/
def minOf (f : Nat → Int) : Nat → Int
  | 0 => f 0
  | k + 1 => min (minOf f k) (f (k + 1))
/-- sums -/
def sumZ (f : Nat → Int) : Nat → Int
  | 0 => 0
  | k + 1 => sumZ f k + f k
theorem sumZ_bd {f : Nat → Int} {B : Int} (n : Nat) (h : ∀ i, i < n → -B ≤ f i ∧ f i ≤ B) : -(B * n) ≤ sumZ f n ∧ sumZ f n ≤ B * n := by
  induction n with
  | zero => simp [sumZ]
  | succ n ih =>
    have h1 := ih (fun i hi => h i (by omega))
    have h2 := h n (by omega)
    have e : B * ((n + 1 : Nat) : Int) = B * (n : Int) + B := by rw [Int.natCast_add, Int.mul_add]; simp
    rw [e]
    show -(B * (n : Int) + B) ≤ sumZ f n + f n ∧ sumZ f n + f n ≤ B * (n : Int) + B
    omega
/-- cells as values -/
structure CV where
  W : Int
  D : Int
  S : Int
  zs : List Int
def CV.no : CV := ⟨0, 0, 0, []⟩
def CV.val (c : CV) (a : Option Addr) (n k : Nat) : Value := .agg #[.int .i64 c.W, .int .i64 c.D, .int .i64 c.S, .slice a n k]
def RetC (t : TypeId) (c : CV) (w : World) (e : Ending) (w' : World) : Prop := ∃ a k, e = .returned (.agg #[.int .i64 c.W, .int .i64 c.D, .int .i64 c.S, .slice a c.zs.length k]) ∧ Own t w' w.heap.size w'.heap.size a c.zs.length k (ints c.zs) ∧ Ext w w'
def RetCB (t : TypeId) (c : CV) (b : Bool) (w : World) (e : Ending) (w' : World) : Prop := ∃ a k, e = .returned (.tuple #[.agg #[.int .i64 c.W, .int .i64 c.D, .int .i64 c.S, .slice a c.zs.length k], .bool b]) ∧ Own t w' w.heap.size w'.heap.size a c.zs.length k (ints c.zs) ∧ Ext w w'
end Go.Proofs.Ytfbapbgiegploaa
