/- Samples of different keys, by the program: keys of a lower level are deleted, level by level. -/
import Derived.Test.YtplngjbllllanaaDoorDsb
import Derived.Deep.LoopGhost
namespace Go.Proofs.YtplngjbllllanaaDoor
open Go.ChangeShapes Go.WideShapes Go.ChangeAt Go.RowKit Go.Sort Go.Shelf Go.Lib
set_option linter.unusedVariables false
abbrev KeyI := {x : Int // keyB x = true}
instance : Inhabited KeyI := ⟨⟨0, rfl⟩⟩
def encK (x : KeyI) : Value := .int .i64 x.1
theorem retB_d {a b : Bool} (h : a = b) : Ending.returned (.bool a) = Ending.returned (.bool b) := by rw [h]
theorem putRow_encK (w : World) (g : Nat) (d : Array KeyI) : putRow encK w g 0 d = putRow (Value.int .i64) w g 0 (d.map (·.1)) := by
  unfold putRow
  congr 1
  funext c
  unfold putCells
  congr 1
  funext k x
  rw [Array.size_map]
  split
  · rename_i h
    have hk : k - 0 < d.size := by omega
    rw [getElem!_pos (d.map (·.1)) (k - 0) (by rw [Array.size_map]; exact hk), getElem!_pos d (k - 0) hk, Array.getElem_map]; rfl
  · rfl
theorem filter_val (p : Int → Bool) (d : List KeyI) : (d.filter fun x => !(!p x.1)).map (·.1) = (d.map (·.1)).filter p := by
  rw [List.filter_map]
  congr 1
  refine List.filter_congr fun x _ => ?_
  simp
/-- a world in which a row has been rewritten keeps the cells of the other blocks -/
theorem sortWorld_cell {w : World} {g n size b o : Nat} {os : Array Obj} {dk : Array KeyI} {v : Value} (hne : b ≠ g) (h : w.cell? ⟨b, o, none⟩ = some v) : (sortWorld encK w g 0 n dk os).cell? ⟨b, o, none⟩ = some v := by
  unfold sortWorld
  rw [cell?_grow _ _ _ (by show b < (putRow _ _ _ _ _).heap.size; rw [size_putRow]; exact World.block_lt_of_cell? w ⟨b, o, none⟩ h), cell?_putRow_other _ _ g 0 _ _ (Or.inl hne)]
  exact h
theorem c_disGives (ps pl : Nat) (x : KeyI) (salt level : Int) (W : World) (hs : keyB salt = true) (hps : W.cell? ⟨ps, 0, none⟩ = some (.int .i64 salt)) (hpl : W.cell? ⟨pl, 0, none⟩ = some (.int .i64 level)) (hT : TabW W) :
    FnGives Tryd.prog 32 #[.pointer (some ⟨ps, 0, none⟩), .pointer (some ⟨pl, 0, none⟩)] #[encK x] (.bool (!zerP salt level x.1)) W := by
  obtain ⟨x, hx⟩ := x
  show Calls Tryd.prog 32 #[.int .i64 x, .pointer (some ⟨ps, 0, none⟩), .pointer (some ⟨pl, 0, none⟩)] W fun e w' => e = .returned (.bool (!zerP salt level x)) ∧ ∃ q, w' = W.drewN q
  have HX := Lib.hid hx
  have HS := Lib.hid hs
  have HT := Lib.hid hT
  obtain ⟨u, hu⟩ : ∃ u : Int, ((hashN x salt : Nat) : Int) = u := ⟨_, rfl⟩
  have HU := Lib.hid hu
  have HV := Lib.hid (show keyB u = true by rw [← hu]; exact hash_key x salt)
  obtain ⟨z, hzz⟩ : ∃ z, lowV u = z := ⟨_, rfl⟩
  have HZZ := Lib.hid hzz
  have HR := Lib.hid (show zerP salt level x = decide (level ≤ z) by unfold zerP; rw [hu, hzz])
  clear hs hT hu hzz hx
  by_cases hl : z < level
  · go_enter Tryd.func32, Tryd.ntmps32
    go_wp2_with (first | (go_at_call 34; refine (c_impl_hashKey x salt _ HX.out HS.out).mono ?_; rw [HU.out]; rintro e w' ⟨rfl, rfl⟩) | (go_at_call 33; refine (c_impl_LowZerosOf u _ HT.out).mono ?_; rw [HZZ.out, HV.out]; rintro e w' ⟨rfl, rfl⟩))
    go_ret
    exact ⟨retB_d (by first | (rw [HR.out, decide_eq_false (show ¬ level ≤ z by omega)]; done) | (rw [HR.out, decide_eq_false (show ¬ level ≤ z by omega)]; rfl)), 0, rfl⟩
  · go_enter Tryd.func32, Tryd.ntmps32
    go_wp2_with (first | (go_at_call 34; refine (c_impl_hashKey x salt _ HX.out HS.out).mono ?_; rw [HU.out]; rintro e w' ⟨rfl, rfl⟩) | (go_at_call 33; refine (c_impl_LowZerosOf u _ HT.out).mono ?_; rw [HZZ.out, HV.out]; rintro e w' ⟨rfl, rfl⟩))
    go_ret
    exact ⟨retB_d (by first | (rw [HR.out, decide_eq_true (show level ≤ z by omega)]; done) | (rw [HR.out, decide_eq_true (show level ≤ z by omega), decide_eq_false (show ¬ z < level by omega)]; rfl)), 0, rfl⟩
theorem c_IndexFunc_nil (f : Value) (cap : Nat) (w : World) : Calls Tryd.prog 43 #[.slice none 0 cap, f] w fun e w' => e = .returned (.int .i64 (-1)) ∧ w = w' := by
  go_enter Tryd.func43, Tryd.ntmps43
  go_wp2
  go_loopw [8] (fun i wr => i = .int .i64 0 ∧ w = wr) (fun i _ => 0)
  case atStart => exact ⟨rfl, rfl⟩
  case round =>
    obtain ⟨rfl, rfl⟩ := hrel
    go_wp2
    go_ret
    exact ⟨rfl, rfl⟩
theorem c_Delete_nil (f : Value) (cap : Nat) (w : World) : Calls Tryd.prog 31 #[.slice none 0 cap, f] w fun e w' => e = .returned (.slice none 0 cap) ∧ w = w' := by
  go_enter Tryd.func31, Tryd.ntmps31
  go_wp2_with (go_at_call 43; refine (c_IndexFunc_nil _ _ _).mono ?_; rintro e w' ⟨rfl, rfl⟩)
  go_ret
  exact ⟨rfl, rfl⟩
theorem c_Delete (lo hi ps pl : Nat) (a : Option Addr) (n cap : Nat) (zs : List Int) (salt level : Int) (w : World) (hn : n ≤ 1048576) (hk : ∀ x ∈ zs, keyB x = true) (hs : keyB salt = true)
    (hps : w.cell? ⟨ps, 0, none⟩ = some (.int .i64 salt)) (hpl : w.cell? ⟨pl, 0, none⟩ = some (.int .i64 level)) (p1 : ps < lo) (p2 : pl < lo) (h0 : 0 < lo) (hT : TabW w) (h : Own 2 w lo hi a n cap (ints zs)) :
    Calls Tryd.prog 31 #[.slice a n cap, .func (.func 32) #[] #[.pointer (some ⟨ps, 0, none⟩), .pointer (some ⟨pl, 0, none⟩)]] w fun e w' => e = .returned (.slice a (zs.filter (zerP salt level)).length cap) ∧ Own 2 w' lo hi a (zs.filter (zerP salt level)).length cap (ints (zs.filter (zerP salt level))) ∧ Touch lo hi w w' := by
  have hl := h.1
  rw [ints_length] at hl
  subst hl
  have hle := List.length_filter_le (zerP salt level) zs
  rcases h.2.2 with ⟨rfl, h1⟩ | ⟨g, f, rfl, h1, h2, h3, h4⟩
  · have he : zs = [] := List.eq_nil_of_length_eq_zero (by have := h.2.1; omega)
    subst he
    refine (c_Delete_nil _ cap w).mono ?_
    rintro e w' ⟨rfl, rfl⟩
    exact ⟨rfl, h, Touch.refl _ _ _⟩
  · obtain ⟨d, hd⟩ : ∃ d : List KeyI, d = zs.attachWith _ hk := ⟨_, rfl⟩
    have hdv : d.map (·.1) = zs := by rw [hd]; exact List.attachWith_map_subtype_val ..
    have hds : d.toArray.size = zs.length := by rw [← hdv]; simp
    have hH : Holds encK w g 0 d.toArray := by
      have hz := holds_own h3 h.2.1 h4
      intro j hj
      have hj' : j < zs.toArray.size := by rw [hds] at hj; simpa using hj
      obtain ⟨e1, e2⟩ := hz j hj'
      refine ⟨?_, e2⟩
      rw [e1]
      rw [getElem!_pos zs.toArray j hj', getElem!_pos d.toArray j hj]
      show some (Value.int .i64 zs.toArray[j]) = some (Value.int .i64 (d.toArray[j]).1)
      have : zs.toArray[j] = (d.toArray[j]).1 := by
        have e3 : (d.map (·.1))[j]'(by simpa using hj) = (d.toArray[j]).1 := by simp
        rw [← e3]
        simp [hdv]
      rw [this]
    have hg := h3.lt
    have eg : ∀ args w, (callFunc 32 args).run Tryd.prog w = .ok (.enter 32 args) w := enters_of Tryd.func32 (by kernel_rfl) rfl
    have hc := AnyE.slices_DeleteFunc Sh.laysDelete encK (fun _ => rfl) (fun x => !zerP salt level x.1) 32 #[.pointer (some ⟨ps, 0, none⟩), .pointer (some ⟨pl, 0, none⟩)] eg ⟨0, rfl⟩ (fun w => by kernel_rfl) g 0 cap d.toArray w
      (fun W x hb => c_disGives ps pl x salt level W hs (Ext.some hb hps) (Ext.some hb hpl) (hT.on hb))
      (fun n os dk x _ => c_disGives ps pl x salt level _ hs (sortWorld_cell (size := 0) (by omega) hps) (sortWorld_cell (size := 0) (by omega) hpl) (fun j hj => sortWorld_cell (size := 0) (by omega) (hT j hj)))
      hH (by rw [hds]; omega) (by rw [hds]; exact h.2.1)
    change Calls Tryd.prog 31 _ _ _ at hc
    rw [hds] at hc
    refine hc.mono ?_
    rintro e w' ⟨rfl, m, rfl⟩
    have hfl : (d.filter fun x => !(!zerP salt level x.1)).length = (zs.filter (zerP salt level)).length := by
      have h9 := congrArg List.length (filter_val (zerP salt level) d)
      rw [List.length_map, hdv] at h9
      exact h9
    have hmap : (((d.filter fun x => !(!zerP salt level x.1)) ++ List.replicate (zs.length - (d.filter fun x => !(!zerP salt level x.1)).length) (⟨0, rfl⟩ : KeyI)).toArray.map (·.1)) = (zs.filter (zerP salt level) ++ List.replicate (zs.length - (zs.filter (zerP salt level)).length) 0).toArray := by
      rw [List.map_toArray, List.map_append, filter_val, hdv, List.map_replicate, hfl]
    have htl : d.toArray.toList = d := by simp
    rw [htl, putRow_encK, hmap, hfl]
    have hr := putRow_rowIs (rowIs_ahead h3 m) (zs.filter (zerP salt level) ++ List.replicate (zs.length - (zs.filter (zerP salt level)).length) 0)
    have ht : Touch g (g + 1) w (putRow (Value.int .i64) (Sort.ahead w m) g 0 (zs.filter (zerP salt level) ++ List.replicate (zs.length - (zs.filter (zerP salt level)).length) 0).toArray) := by
      have := touch_sort (w := w) (g := g) (n := m) (d := (zs.filter (zerP salt level) ++ List.replicate (zs.length - (zs.filter (zerP salt level)).length) 0).toArray) (os := #[])
      rwa [grow_empty] at this
    refine ⟨rfl, ⟨ints_length _, by have := h.2.1; omega, .inr ⟨g, _, rfl, h1, h2, hr, fun i hi => ?_⟩⟩, ht.wide h1 (by omega)⟩
    rw [ints_get _ _ hi]; unfold rowT; rw [if_pos (by rw [List.length_append]; omega), List.getElem?_append_left hi]
theorem c_impl_isLevel (l : Int) (w : World) {r : Bool} (h : inB 0 l 32 = r) : Calls Tryd.prog 30 #[.int .i64 l] w fun e w' => e = .returned (.bool r) ∧ w = w' := by
  unfold inB at h
  by_cases h1 : 0 ≤ l
  · by_cases h2 : l ≤ 32
    · have H := Lib.hid (show r = true by rw [← h]; exact decide_eq_true ⟨h1, h2⟩)
      clear h
      go_enter Tryd.func30, Tryd.ntmps30
      go_wp2
      go_ret
      exact ⟨retB_d H.out.symm, rfl⟩
    · have H := Lib.hid (show r = false by rw [← h]; exact decide_eq_false (by omega))
      have h3 : 32 < l := by omega
      clear h
      go_enter Tryd.func30, Tryd.ntmps30
      go_wp2
      go_ret
      exact ⟨retB_d H.out.symm, rfl⟩
  · have H := Lib.hid (show r = false by rw [← h]; exact decide_eq_false (by omega))
    have h3 : l < 0 := by omega
    clear h
    go_enter Tryd.func30, Tryd.ntmps30
    go_wp2
    go_ret
    exact ⟨retB_d H.out.symm, rfl⟩
end Go.Proofs.YtplngjbllllanaaDoor
