/- Tops: plain facts (first places of numbers, valid tops, a key more). No program. -/
import Derived.Test.YtfmjohpmfcmpoabCel
import Derived.Test.YtfmjohpmfcmpoabKey
import Derived.Test.YtfmjohpmfcmpoabAll
namespace Go.Proofs.Ytfmjohpmfcmpoab
open Go Go.RowKit
set_option linter.unusedVariables false
/-- the first place of a number among the first n; n if there is none -/
def findTo (f : Nat → Int) (x : Int) : Nat → Nat
  | 0 => 0
  | n + 1 => if findTo f x n < n then findTo f x n else if f n = x then n else n + 1
theorem findTo_spec (f : Nat → Int) (x : Int) : ∀ n, (findTo f x n < n ∧ f (findTo f x n) = x ∧ ∀ j, j < findTo f x n → f j ≠ x) ∨ (findTo f x n = n ∧ ∀ j, j < n → f j ≠ x)
  | 0 => .inr ⟨rfl, fun j hj => by omega⟩
  | n + 1 => by
    rcases findTo_spec f x n with ⟨h1, h2, h3⟩ | ⟨h1, h2⟩
    · have e : findTo f x (n + 1) = findTo f x n := if_pos h1
      rw [e]; exact .inl ⟨by omega, h2, h3⟩
    · by_cases hx : f n = x
      · have e : findTo f x (n + 1) = n := by show (if _ then _ else _) = _; rw [if_neg (by omega), if_pos hx]
        rw [e]; exact .inl ⟨by omega, hx, h2⟩
      · have e : findTo f x (n + 1) = n + 1 := by show (if _ then _ else _) = _; rw [if_neg (by omega), if_neg hx]
        rw [e]; exact .inr ⟨rfl, fun j hj => by
          by_cases e2 : j = n
          · subst e2; exact hx
          · exact h2 j (by omega)⟩
theorem findTo_is {f : Nat → Int} {x : Int} {n k : Nat} (hk : k < n) (h : f k = x) (hb : ∀ j, j < k → f j ≠ x) : findTo f x n = k := by
  rcases findTo_spec f x n with ⟨h1, h2, h3⟩ | ⟨h1, h2⟩
  · by_cases h4 : findTo f x n < k
    · exact absurd h2 (hb _ h4)
    · by_cases h5 : k < findTo f x n
      · exact absurd h (h3 k h5)
      · omega
  · exact absurd h (h2 k hk)
theorem findTo_none {f : Nat → Int} {x : Int} {n : Nat} (hb : ∀ j, j < n → f j ≠ x) : findTo f x n = n := by
  rcases findTo_spec f x n with ⟨h1, h2, h3⟩ | ⟨h1, h2⟩
  · exact absurd h2 (hb _ h1)
  · exact h1
theorem findTo_le (f : Nat → Int) (x : Int) (n : Nat) : findTo f x n ≤ n := by
  rcases findTo_spec f x n with ⟨h1, _, _⟩ | ⟨h1, _⟩ <;> omega
def findL (zs : List Int) (x : Int) : Nat := findTo (getI zs) x zs.length
/-- .. as a number; -1 if there is none -/
def idxZ (zs : List Int) (x : Int) : Int := if findL zs x < zs.length then ((findL zs x : Nat) : Int) else -1
theorem idxZ_yes {zs : List Int} {x : Int} (h : findL zs x < zs.length) : idxZ zs x = ((findL zs x : Nat) : Int) := if_pos h
theorem idxZ_no {zs : List Int} {x : Int} (h : ¬ findL zs x < zs.length) : idxZ zs x = -1 := if_neg h
theorem idxZ_is {zs : List Int} {x : Int} {k : Nat} (hk : k < zs.length) (h : getI zs k = x) (hb : ∀ j, j < k → getI zs j ≠ x) : idxZ zs x = (k : Int) := by
  have e : findL zs x = k := findTo_is hk h hb
  rw [idxZ_yes (by rw [e]; exact hk), e]
theorem idxZ_none {zs : List Int} {x : Int} (hb : ∀ j, j < zs.length → getI zs j ≠ x) : idxZ zs x = -1 := by
  have e : findL zs x = zs.length := findTo_none hb
  exact idxZ_no (by omega)
def hasL (zs : List Int) (x : Int) : Bool := decide (findL zs x < zs.length)
theorem hasL_is {zs : List Int} {x : Int} {k : Nat} (hk : k < zs.length) (h : getI zs k = x) : hasL zs x = true := by
  refine decide_eq_true ?_
  rcases findTo_spec (getI zs) x zs.length with ⟨h1, _, _⟩ | ⟨h1, h2⟩
  · exact h1
  · exact absurd h (h2 k hk)
theorem hasL_none {zs : List Int} {x : Int} (hb : ∀ j, j < zs.length → getI zs j ≠ x) : hasL zs x = false := by
  refine decide_eq_false ?_
  have e : findL zs x = zs.length := findTo_none hb
  omega
theorem hasL_idx (zs : List Int) (x : Int) : hasL zs x = decide (0 ≤ idxZ zs x) := by
  unfold hasL idxZ
  split
  · rw [decide_eq_true (by assumption), decide_eq_true (by omega)]
  · rw [decide_eq_false (by assumption), decide_eq_false (by omega)]
theorem hasL_mem {zs : List Int} {x : Int} : hasL zs x = true ↔ x ∈ zs := by
  constructor
  · intro h
    have h1 : findL zs x < zs.length := of_decide_eq_true h
    rcases findTo_spec (getI zs) x zs.length with ⟨h2, h3, _⟩ | ⟨h2, _⟩
    · have e : getI zs (findL zs x) = zs[findL zs x] := by unfold getI; rw [List.getElem?_eq_getElem h1]; rfl
      have h3' : getI zs (findL zs x) = x := h3
      rw [e] at h3'
      rw [← h3']; exact List.getElem_mem h1
    · have : findL zs x = zs.length := h2
      omega
  · intro h
    obtain ⟨i, hi, rfl⟩ := List.getElem_of_mem h
    exact hasL_is hi (by unfold getI; rw [List.getElem?_eq_getElem hi]; rfl)
/-- whether a list tells no number twice -/
def diffB (zs : List Int) : Bool := allTo zs.length fun i => !hasL (zs.take i) (getI zs i)
/-- whether counts and errors are within their bounds -/
def cntB (c e : Int) : Bool := inB 1 c 1000000000000 && inB 0 e (c - 1)
def cntsB (cs es : List Int) : Bool := allTo cs.length fun i => cntB (getI cs i) (getI es i)
/-- whether tops can have so many keys, counts and errors -/
def roomB (R : Int) (k c e : Nat) : Bool := inB 1 R 32 && (decide ((k : Int) ≤ R) && (decide (c = k) && decide (e = k)))
def topsB (R : Int) (ks cs es : List Int) : Bool := roomB R ks.length cs.length es.length && (keysB ks && (diffB ks && cntsB cs es))
/-- a key at a place, as the other side asks of it -/
def topAt (ks cs es : List Int) (i : Nat) : Bool := keyB (getI ks i) && (!hasL (ks.take i) (getI ks i) && cntB (getI cs i) (getI es i))
structure RoomOk (R : Int) (k c e : Nat) : Prop where
  lo : 1 ≤ R
  hi : R ≤ 32
  le : (k : Int) ≤ R
  c : c = k
  e : e = k
theorem room_ok {R : Int} {k c e : Nat} (h : roomB R k c e = true) : RoomOk R k c e := by
  unfold roomB at h
  simp only [Bool.and_eq_true, decide_eq_true_eq, inB_is] at h
  exact ⟨h.1.1, h.1.2, h.2.1, h.2.2.1, h.2.2.2⟩
theorem RoomOk.b {R : Int} {k c e : Nat} (h : RoomOk R k c e) : roomB R k c e = true := by
  unfold roomB
  rw [inB_is.2 ⟨h.lo, h.hi⟩, decide_eq_true h.le, decide_eq_true h.c, decide_eq_true h.e]; rfl
theorem topsB_all {R : Int} {ks cs es : List Int} (h : roomB R ks.length cs.length es.length = true) : topsB R ks cs es = allTo ks.length (topAt ks cs es) := by
  have ok := room_ok h
  have hk : keysB ks = allTo ks.length fun i => keyB (getI ks i) := by
    rw [keysB_short (by have := ok.hi; have := ok.le; omega)]
    cases ha : allTo ks.length fun i => keyB (getI ks i)
    · rw [List.all_eq_false]
      apply Classical.byContradiction
      intro hn
      have : (allTo ks.length fun i => keyB (getI ks i)) = true := allTo_yes fun i hi => by
        cases hb : keyB (getI ks i)
        · exact absurd ⟨ks[i], List.getElem_mem hi, by unfold getI at hb; rw [List.getElem?_eq_getElem hi] at hb; simpa using hb⟩ hn
        · rfl
      rw [this] at ha; cases ha
    · rw [List.all_eq_true]
      intro x hx
      obtain ⟨i, hi, rfl⟩ := List.getElem_of_mem hx
      have := allTo_at ha hi
      unfold getI at this
      rw [List.getElem?_eq_getElem hi] at this
      exact this
  unfold topsB
  rw [h, hk, Bool.true_and]
  unfold diffB cntsB
  rw [ok.c]
  cases h1 : allTo ks.length (topAt ks cs es)
  · apply Classical.byContradiction
    intro hn
    have hn' : (allTo ks.length (fun i => keyB (getI ks i)) && (allTo ks.length (fun i => !hasL (List.take i ks) (getI ks i)) && allTo ks.length fun i => cntB (getI cs i) (getI es i))) = true := by simpa using hn
    simp only [Bool.and_eq_true] at hn'
    have : allTo ks.length (topAt ks cs es) = true := allTo_yes fun i hi => by
      unfold topAt
      rw [allTo_at hn'.1 hi, allTo_at hn'.2.1 hi, allTo_at hn'.2.2 hi]; rfl
    rw [this] at h1; cases h1
  · have h2 : ∀ i, i < ks.length → keyB (getI ks i) = true ∧ (!hasL (ks.take i) (getI ks i)) = true ∧ cntB (getI cs i) (getI es i) = true := fun i hi => by
      have := allTo_at h1 hi
      unfold topAt at this
      simp only [Bool.and_eq_true] at this
      exact this
    rw [allTo_yes fun i hi => (h2 i hi).1, allTo_yes fun i hi => (h2 i hi).2.1, allTo_yes fun i hi => (h2 i hi).2.2]; rfl
theorem topsB_room {R : Int} {ks cs es : List Int} (h : roomB R ks.length cs.length es.length = false) : topsB R ks cs es = false := by unfold topsB; rw [h]; rfl
/-- valid tops -/
structure TopsOk (R : Int) (ks cs es : List Int) : Prop where
  room : RoomOk R ks.length cs.length es.length
  key : ∀ i, i < ks.length → keyB (getI ks i) = true
  diff : ∀ i j, j < i → i < ks.length → getI ks j ≠ getI ks i
  c1 : ∀ i, i < ks.length → 1 ≤ getI cs i ∧ getI cs i ≤ 1000000000000
  e1 : ∀ i, i < ks.length → 0 ≤ getI es i ∧ getI es i < getI cs i
theorem tops_ok {R : Int} {ks cs es : List Int} (h : topsB R ks cs es = true) : TopsOk R ks cs es := by
  cases hr : roomB R ks.length cs.length es.length
  · rw [topsB_room hr] at h; cases h
  · rw [topsB_all hr] at h
    have h2 : ∀ i, i < ks.length → keyB (getI ks i) = true ∧ (!hasL (ks.take i) (getI ks i)) = true ∧ cntB (getI cs i) (getI es i) = true := fun i hi => by
      have := allTo_at h hi
      unfold topAt at this
      simp only [Bool.and_eq_true] at this
      exact this
    refine ⟨room_ok hr, fun i hi => (h2 i hi).1, fun i j hj hi he => ?_, fun i hi => ?_, fun i hi => ?_⟩
    · have h3 := (h2 i hi).2.1
      rw [hasL_is (zs := ks.take i) (k := j) (by rw [List.length_take]; omega) (by rw [getI_take hj]; exact he)] at h3
      cases h3
    · have h3 := (h2 i hi).2.2
      unfold cntB at h3
      simp only [Bool.and_eq_true, inB_is] at h3
      exact h3.1
    · have h3 := (h2 i hi).2.2
      unfold cntB at h3
      simp only [Bool.and_eq_true, inB_is] at h3
      omega
end Go.Proofs.Ytfmjohpmfcmpoab
