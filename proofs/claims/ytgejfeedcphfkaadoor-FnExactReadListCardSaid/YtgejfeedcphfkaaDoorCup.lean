/- Texts cut at a mark: what both sides tell. No program. -/
import Derived.Test.YtgejfeedcphfkaaDoorOwn
import Derived.Lib.SplitLaws
import Derived.Lib.Replace
namespace Go.Proofs.YtgejfeedcphfkaaDoor
open Go Go.RowKit
set_option linter.unusedVariables false
/-- the pieces between the marks -/
def cutL (c : UInt8) : List UInt8 → List (List UInt8)
  | [] => [[]]
  | b :: r => if b = c then [] :: cutL c r else match cutL c r with
    | [] => [[b]]
    | x :: xs => (b :: x) :: xs
theorem cutL_ne (c : UInt8) : ∀ l, cutL c l ≠ []
  | [] => by simp [cutL]
  | b :: r => by
    unfold cutL
    by_cases h : b = c
    · rw [if_pos h]; simp
    · rw [if_neg h]
      cases cutL c r <;> simp
theorem cutL_len (c : UInt8) : ∀ l, (cutL c l).length ≤ l.length + 1
  | [] => by simp [cutL]
  | b :: r => by
    have ih := cutL_len c r
    unfold cutL
    by_cases h : b = c
    · rw [if_pos h]; simp; omega
    · rw [if_neg h]
      cases hq : cutL c r with
      | nil => simp
      | cons x xs => rw [hq] at ih; simp at ih ⊢; omega
theorem cutL_snoc (c b : UInt8) : ∀ (l : List UInt8) (P : List (List UInt8)) (cur : List UInt8), cutL c l = P ++ [cur] → cutL c (l ++ [b]) = if b = c then P ++ [cur] ++ [[]] else P ++ [cur ++ [b]]
  | [], P, cur, h => by
    have h1 : [[]] = P ++ [cur] := h
    cases P with
    | nil =>
      simp at h1
      subst h1
      show (if b = c then [] :: cutL c [] else match cutL c [] with | [] => [[b]] | x :: xs => (b :: x) :: xs) = _
      by_cases e : b = c
      · rw [if_pos e, if_pos e]; rfl
      · rw [if_neg e, if_neg e]; rfl
    | cons p ps =>
      have := congrArg List.length h1
      simp at this
  | a :: l, P, cur, h => by
    have hd : ∀ m, cutL c (a :: m) = if a = c then [] :: cutL c m else match cutL c m with | [] => [[a]] | x :: xs => (a :: x) :: xs := fun m => rfl
    rw [List.cons_append, hd]
    rw [hd] at h
    by_cases e : a = c
    · rw [if_pos e] at h ⊢
      cases P with
      | nil =>
        simp at h
        exact absurd h.2 (cutL_ne c l)
      | cons p ps =>
        rw [List.cons_append] at h
        simp only [List.cons.injEq] at h
        obtain ⟨h1, h2⟩ := h
        subst h1
        rw [cutL_snoc c b l ps cur h2]
        by_cases e2 : b = c
        · rw [if_pos e2, if_pos e2]; simp
        · rw [if_neg e2, if_neg e2]; simp
    · rw [if_neg e] at h ⊢
      cases hq : cutL c l with
      | nil => exact absurd hq (cutL_ne c l)
      | cons x xs =>
        rw [hq] at h
        dsimp only at h
        cases P with
        | nil =>
          simp only [List.nil_append, List.cons.injEq] at h
          obtain ⟨h1, h2⟩ := h
          have := cutL_snoc c b l [] x (by rw [hq, h2]; rfl)
          rw [this]
          subst h1
          by_cases e2 : b = c
          · rw [if_pos e2, if_pos e2]; simp
          · rw [if_neg e2, if_neg e2]; simp
        | cons p ps =>
          rw [List.cons_append] at h
          simp only [List.cons.injEq] at h
          obtain ⟨h1, h2⟩ := h
          have := cutL_snoc c b l (x :: ps) cur (by rw [hq, h2]; rfl)
          rw [this]
          subst h1
          by_cases e2 : b = c
          · rw [if_pos e2, if_pos e2]; simp
          · rw [if_neg e2, if_neg e2]; simp
/-- strings.Split at one byte -/
theorem splitK_cut (c : UInt8) : ∀ l : List UInt8, Lib.splitK [c] 0 (Lib.count l [c]) l = cutL c l
  | [] => by
    rw [Lib.count_miss (by simp [Lib.index])]
    rfl
  | b :: l => by
    have ih := splitK_cut c l
    by_cases e : b = c
    · subst e
      have hix : Lib.index (b :: l) [b] = ((0 : Nat) : Int) := by rw [Lib.index]; simp [List.isPrefixOf]
      rw [Lib.count_cons_eq, Nat.add_comm]
      unfold Lib.splitK
      rw [if_neg (by rw [hix]; decide), hix]
      show _ = if b = b then [] :: cutL b l else _
      rw [if_pos rfl]
      simp [ih]
    · have hp : ([c] : List UInt8).isPrefixOf (b :: l) = false := by simp [List.isPrefixOf, Ne.symm e]
      have hix : Lib.index (b :: l) [c] = if Lib.index l [c] == -1 then -1 else Lib.index l [c] + 1 := by rw [Lib.index, hp]; simp
      rw [Lib.count_cons_ne b c l e]
      show _ = if b = c then [] :: cutL c l else match cutL c l with | [] => [[b]] | x :: xs => (b :: x) :: xs
      rw [if_neg e]
      cases hk : Lib.count l [c] with
      | zero =>
        rw [hk] at ih
        have h0 : cutL c l = [l] := by rw [← ih]; rfl
        rw [h0]; rfl
      | succ k =>
        rw [hk] at ih
        obtain ⟨j, hj⟩ := Lib.index_of_count (s := l) (old := [c]) (by rw [hk]; omega)
        have hm : ¬ (Lib.index l [c] == -1) = true := fun h => by have := beq_iff_eq.1 h; omega
        rw [if_neg hm, hj] at hix
        unfold Lib.splitK at ih ⊢
        rw [if_neg hm, hj] at ih
        rw [if_neg (by rw [hix]; simp; omega), hix, ← ih]
        have e1 : ((j : Int) + 1).toNat = j + 1 := by omega
        have e2 : (j : Int).toNat = j := by omega
        rw [e1, e2]
        rfl
/-- a piece as a text -/
def txt (x : List UInt8) : ByteArray := ⟨x.toArray⟩
theorem txt_data (s : ByteArray) : txt s.data.toList = s := by unfold txt; simp
def txts (P : List (List UInt8)) : List Value := P.map fun x => .string (txt x)
theorem txts_length (P : List (List UInt8)) : (txts P).length = P.length := by simp [txts]
theorem txts_get (P : List (List UInt8)) (i : Nat) (h : i < P.length) : (txts P)[i]? = some (.string (txt (P[i]?.getD []))) := by simp [txts, h]
theorem txts_snoc (P : List (List UInt8)) (x : List UInt8) : txts (P ++ [x]) = txts P ++ [.string (txt x)] := by simp [txts]
theorem split_cut (s : ByteArray) (c : UInt8) : (Lib.splitB ⟨#[c]⟩ 0 (Lib.countB s ⟨#[c]⟩) s).map Value.string = txts (cutL c s.data.toList) := by
  have h := Lib.splitB_data ⟨#[c]⟩ 0 (Lib.countB s ⟨#[c]⟩) s
  have h2 : Lib.countB s ⟨#[c]⟩ = Lib.count s.data.toList [c] := rfl
  have h3 : (⟨#[c]⟩ : ByteArray).data.toList = [c] := rfl
  rw [h3] at h
  rw [h2] at h ⊢
  rw [splitK_cut] at h
  unfold txts
  rw [← h, List.map_map]
  refine List.map_congr_left fun x _ => ?_
  show Value.string x = Value.string (txt x.data.toList)
  rw [txt_data]
theorem cut_len (s : ByteArray) (c : UInt8) : Lib.countB s ⟨#[c]⟩ + 1 = (cutL c s.data.toList).length := by
  have h := Lib.splitB_all ⟨#[c]⟩ (by simp [ByteArray.size]) 0 (Lib.countB s ⟨#[c]⟩) s rfl
  have h2 := congrArg List.length (split_cut s c)
  rw [List.length_map, txts_length, h] at h2
  exact h2
theorem extract_txt (s : ByteArray) (a b : Nat) : s.extract a b = txt ((s.data.toList.take b).drop a) := by
  unfold txt
  apply ByteArray.ext
  show (s.extract a b).data = _
  rw [ByteArray.data_extract]
  apply Array.ext'
  simp [List.drop_take]
end Go.Proofs.YtgejfeedcphfkaaDoor
