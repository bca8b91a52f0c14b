/- ReadDecimal: what both sides answer. -/
import Derived.Test.YtgejfeedcphfkaaDoorRdp
import Derived.Test.YtgejfeedcphfkaaDoorLsu
import Derived.Test.YtgejfeedcphfkaaDoorShk
import Derived.Lib.AtoiErrMem
namespace Go.Proofs.YtgejfeedcphfkaaDoor
open Go.ChangeShapes Go.WideShapes Go.ChangeAt Go.RowKit
set_option linter.unusedVariables false
def FactR (w : World) : Prop := TabP w ∧ (∃ tp p, w.var? Tryd.prog "strconv.ErrSyntax" = some #[.iface tp p]) ∧ (∃ tp p, w.var? Tryd.prog "strconv.ErrRange" = some #[.iface tp p])
theorem FactR.on {w w' : World} (h : FactR w) (e : Ext w w') : FactR w' := by
  obtain ⟨h1, ⟨a, b, h2⟩, ⟨c, d, h3⟩⟩ := h
  exact ⟨h1.on e, ⟨a, b, Joins.var_stays (g := 1) (by kernel_rfl) h2 e (Nat.le_refl _)⟩, ⟨c, d, Joins.var_stays (g := 2) (by kernel_rfl) h3 e (Nat.le_refl _)⟩⟩
theorem ne_text {t s : ByteArray} (h : ¬ t = s) : (t.toList == s.toList) = false := by
  rw [beq_eq_false_iff_ne]
  intro e
  rw [ByteArray.toList_eq, ByteArray.toList_eq] at e
  exact h (bytes_inj e)
theorem readV_no {s : ByteArray} (h : readB s = false) : readV s = 0 := by unfold readV; rw [h]; rfl
theorem c_parse_no (s : ByteArray) (w : World) (hs : s.size ≤ 1048576) (hF : FactR w) (h : ∀ v, ¬ Lib.parseIntB 64 s.data.toList = .ok v) :
    Calls Tryd.prog 100 #[.string s, .int .i64 10, .int .i64 64] w fun e w' => ∃ (z : Int) (t : TypeId) (p : Value), e = .returned (.tuple #[.int .i64 z, .iface t p]) ∧ Ext w w' := by
  obtain ⟨_, ⟨a, b, h2⟩, ⟨c, d, h3⟩⟩ := hF
  cases hp : Lib.parseIntB 64 s.data.toList
  · rename_i v
    exact absurd hp (h v)
  · exact (Any.strconv_ParseInt_10_at64_syntax_var Sh.laysC174 s (by omega) hp a b w h2).mono (by rintro e w' ⟨N, rfl, _, _, hx⟩; exact ⟨_, _, _, rfl, hx⟩)
  · exact (Sh.strconv_ParseInt_10_at64_range_var s (by omega) hp c d w h3).mono (by rintro e w' ⟨N, rfl, _, _, hx⟩; exact ⟨_, _, _, rfl, hx⟩)
theorem c_parse_ok (s : ByteArray) (v : Int) (w : World) (hs : s.size ≤ 1048576) (h : Lib.parseIntB 64 s.data.toList = .ok v) :
    Calls Tryd.prog 100 #[.string s, .int .i64 10, .int .i64 64] w fun e w' => e = .returned (.tuple #[.int .i64 v, .nilIface]) ∧ Ext w w' :=
  (Sh.strconv_ParseInt_10_at64_ok s (by omega) v h w).mono (by
    rintro e w' ⟨rfl, hx⟩
    refine ⟨rfl, ?_⟩
    rcases hx with rfl | ⟨t, rfl⟩
    · exact Ext.refl _
    · exact Lib.bytesWorld_below w _ t)
set_option maxHeartbeats 1000000 in
theorem c_impl_ReadDecimal (s : ByteArray) (w : World) (hs : s.size ≤ 1048576) (hF : FactR w) :
    Calls Tryd.prog 72 #[.string s] w fun e w' => e = .returned (.tuple #[.int .i64 (readV s), .bool (readB s)]) ∧ Ext w w' := by
  have HF := Lib.hid hF
  clear hF
  by_cases hyes : ∃ v, Lib.parseIntB 64 s.data.toList = .ok v
  case neg =>
    have hno : ∀ v, ¬ Lib.parseIntB 64 s.data.toList = .ok v := fun v h => hyes ⟨v, h⟩
    have hB : readB s = false := by
      cases h : readB s with
      | false => rfl
      | true => exact absurd (readB_parse h) (hno _)
    rw [readV_no hB, hB]
    have HN := Lib.hid hno
    clear hno hyes hB
    go_enter Tryd.func72, Tryd.ntmps72
    go_wp2_with fail
    refine (c_parse_no s _ hs HF.out HN.out).mono ?_
    rintro e w1 ⟨z, t, p, rfl, x1⟩
    have X1 := Lib.hid x1
    clear x1
    go_wp2
    go_ret2
    exact ⟨rfl, X1.out⟩
  case pos =>
    obtain ⟨v, hv⟩ := hyes
    have HV := Lib.hid hv
    cases hb : valB v
    · have hB : readB s = false := by
        cases h : readB s with
        | false => rfl
        | true =>
          have := readB_parse h
          rw [hv] at this
          injection this with this
          have h2 := (readB_yes h).1
          rw [← this, hb] at h2
          cases h2
      rw [readV_no hB, hB]
      have HX := Lib.hid hb
      clear hb hB hv
      go_enter Tryd.func72, Tryd.ntmps72
      go_wp2_with fail
      refine (c_parse_ok s v _ hs HV.out).mono ?_
      rintro e w1 ⟨rfl, x1⟩
      have X1 := Lib.hid x1
      clear x1
      go_wp2_with (go_at_call 101; refine (c_isValue v _ HX.out).mono ?_; rintro e w' ⟨rfl, rfl⟩)
      go_ret2
      exact ⟨rfl, X1.out⟩
    · have HX := Lib.hid hb
      obtain ⟨t, ht⟩ : ∃ t, decT v = t := ⟨_, rfl⟩
      have HT := Lib.hid ht
      by_cases he : t = s
      · subst he
        have h1 := readB_dec v hb
        rw [ht] at h1
        rw [h1.1, h1.2]
        clear hb hv h1 ht
        go_enter Tryd.func72, Tryd.ntmps72
        go_wp2_with fail
        refine (c_parse_ok t v _ hs HV.out).mono ?_
        rintro e w1 ⟨rfl, x1⟩
        have X1 := Lib.hid x1
        clear x1
        go_wp2_with (go_at_call 101; refine (c_isValue v _ HX.out).mono ?_; rintro e w' ⟨rfl, rfl⟩)
        refine (c_Dec_of v t _ HX.out HT.out (HF.out.1.on X1.out)).mono ?_
        rintro e w2 ⟨rfl, x2⟩
        have X2 := Lib.hid (X1.out.trans x2)
        clear x2
        go_wp2
        go_ret2
        exact ⟨rfl, X2.out⟩
      · have hB : readB s = false := by
          cases h : readB s with
          | false => rfl
          | true =>
            have h0 := readB_parse h
            rw [hv] at h0
            injection h0 with h0
            have h2 := (readB_yes h).2.1
            rw [← h0, ht] at h2
            exact absurd h2 he
        rw [readV_no hB, hB]
        have he1 : (t.toList == s.toList) = false := ne_text he
        clear hb hv ht hB
        go_enter Tryd.func72, Tryd.ntmps72
        go_wp2_with fail
        refine (c_parse_ok s v _ hs HV.out).mono ?_
        rintro e w1 ⟨rfl, x1⟩
        have X1 := Lib.hid x1
        clear x1
        go_wp2_with (go_at_call 101; refine (c_isValue v _ HX.out).mono ?_; rintro e w' ⟨rfl, rfl⟩)
        refine (c_Dec_of v t _ HX.out HT.out (HF.out.1.on X1.out)).mono ?_
        rintro e w2 ⟨rfl, x2⟩
        have X2 := Lib.hid (X1.out.trans x2)
        clear x2
        go_wp2
        go_ret2
        exact ⟨rfl, X2.out⟩
end Go.Proofs.YtgejfeedcphfkaaDoor
