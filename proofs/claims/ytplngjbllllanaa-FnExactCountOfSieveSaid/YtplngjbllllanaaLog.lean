/- Logarithms: what wideLog answers. -/
import Derived.Test.YtplngjbllllanaaFlg
import Derived.Test.YtplngjbllllanaaSin
namespace Go.Proofs.Ytplngjbllllanaa
open Go.ChangeShapes Go.WideShapes Go.ChangeAt Go.RowKit Go.Proofs.Ytplngjbllllanaa.Flo
set_option linter.unusedVariables false
attribute [local go_sem] unary_neg_float run_store_float run_store_complex ext_Float64bits ext_Float64frombits
set_option maxHeartbeats 8000000 in
theorem c_impl_wideLog (m : Nat) (i : Int) (w : World) (h1 : 4503599627370496 ≤ m) (h2 : m < 9007199254740992) (hi : -210 ≤ i) (hi' : i ≤ 80) : Calls Try.prog 163 #[.float .f64 (wd m i)] w (RetG .f64 (logOf (logS (fv .f64 (wd m (endK m)))) (i - endK m)) w) := by
  have H1 := Lib.hid h1
  have H2 := Lib.hid h2
  clear h1 h2
  go_enter Try.func163, Try.ntmps163
  go_wp2_with fail
  go_loopw [0, 3] (fun x e wr => ∃ (k : Int) (n : Nat), k ≤ i ∧ (k = i ∨ -53 ≤ k) ∧ e = .int .i64 (i - k) ∧ wr = w.drewN n ∧ x = .float .f64 (wd m k)) (fun _ e _ => (300 - intOf e).toNat)
  case atStart => exact ⟨i, 0, by omega, .inl rfl, by rw [Int.sub_self], rfl, rfl⟩
  case round =>
    obtain ⟨k, n, hk, hk', rfl, rfl, rfl⟩ := hrel
    have G := ge_15 H1.out H2.out (k := k) (by omega) (by omega)
    by_cases hc : -52 < k ∨ (k = -52 ∧ 6755399441055744 ≤ m)
    · rw [decide_eq_true hc] at G
      have hk1 : -52 ≤ k := by omega
      clear hc
      go_wp2_with fail
      (with_reducible refine upon_fl rfl ?_); intro r nr hr
      have hx := hr.out
      have hx2 := half_wd H1.out H2.out (k := k) (by omega) (by omega)
      obtain rfl := fv_eq (hx.trans hx2)
      clear hx hx2 hr G
      go_wp2
      go_roundw
      case rel => exact ⟨k - 1, _, by omega, .inr (by omega), by rw [show i - (k - 1) = i - k + 1 from by omega], rfl, rfl⟩
      case measure => simp [intOf]; omega
    · rw [decide_eq_false hc] at G
      have hc' : k ≤ -52 ∧ (k = -52 → m < 6755399441055744) := by omega
      clear hc
      obtain ⟨hc1, hc2⟩ := hc'
      have HC2 := Lib.hid hc2
      clear hc2
      go_wp2_with fail
      clear G
      go_loopw [0, 3] (fun x e wr => ∃ (k : Int) (n : Nat), -210 ≤ k ∧ k ≤ -52 ∧ (k = -52 → m < 6755399441055744) ∧ e = .int .i64 (i - k) ∧ wr = w.drewN n ∧ x = .float .f64 (wd m k)) (fun _ e _ => (intOf e + 300).toNat)
      case atStart => exact ⟨k, _, by omega, hc1, HC2.out, rfl, rfl, rfl⟩
      case round =>
        clear HC2 hc1 hk hk'
        obtain ⟨k, n, hk, hk', hk2, rfl, rfl, rfl⟩ := hrel
        have HK2 := Lib.hid hk2
        clear hk2
        have G := lt_075 H1.out H2.out (k := k) (by omega) (by omega)
        by_cases hc : k < -53 ∨ (k = -53 ∧ m < 6755399441055744)
        · rw [decide_eq_true hc] at G
          have HC := Lib.hid hc
          have hk1 : k ≤ -53 := by omega
          clear hc
          go_wp2_with fail
          (with_reducible refine upon_fl rfl ?_); intro r nr hr
          have hx := hr.out
          have hx2 := double_wd H1.out H2.out (k := k) (by omega) (by omega)
          obtain rfl := fv_eq (hx.trans hx2)
          clear hx hx2 hr G
          go_wp2
          go_roundw
          case rel => exact ⟨k + 1, _, by omega, by omega, by have := HC.out; omega, by rw [show i - (k + 1) = i - k - 1 from by omega], rfl, rfl⟩
          case measure => simp [intOf]; omega
        · rw [decide_eq_false hc] at G
          have hek : k = endK m := by
            have := HK2.out
            unfold endK
            split <;> omega
          have HEK := Lib.hid hek
          clear hc hek HK2
          go_wp2_with fail
          (with_reducible refine upon_fl rfl ?_); intro a na ha
          go_wp2_with fail
          (with_reducible refine upon_fl rfl ?_); intro b nb hb
          go_wp2_with fail
          (with_reducible refine upon_fl rfl ?_); intro s ns hs
          go_wp2_with fail
          (with_reducible refine upon_fl rfl ?_); intro u nu hu
          clear G
          go_wp2_with fail
          go_loopw [6, 7] (fun q i wr => ∃ (j n p : Nat), j ≤ 13 ∧ i = .int .i64 (25 - 2 * (j : Int)) ∧ wr = w.drewN n ∧ q = .float .f64 p ∧ fv .f64 p = logP (fv .f64 u) j) (fun _ i _ => (intOf i + 2).toNat)
          case atStart => exact ⟨0, _, _, by omega, rfl, rfl, rfl, rfl⟩
          case round =>
            obtain ⟨j, n, p, hj, rfl, rfl, rfl, hp⟩ := hrel
            have HP := Lib.hid hp
            clear hp
            by_cases h13 : j = 13
            · subst h13
              go_wp2_with fail
              (with_reducible refine upon_fl rfl ?_); intro c nc hc
              go_wp2_with fail
              (with_reducible refine upon_fl rfl ?_); intro d nd hd
              go_wp2_with fail
              (with_reducible refine upon_fl rfl ?_); intro f nf hf
              go_wp2_with fail
              (with_reducible refine upon_fl rfl ?_); intro g ng hg
              go_wp2
              go_ret
              refine RetG.mk _ ?_
              rw [hg.out, hf.out, hd.out, hc.out, HP.out, hu.out, hs.out, ha.out, hb.out, HEK.out]
              rfl
            · have hcs : j = 0 ∨ j = 1 ∨ j = 2 ∨ j = 3 ∨ j = 4 ∨ j = 5 ∨ j = 6 ∨ j = 7 ∨ j = 8 ∨ j = 9 ∨ j = 10 ∨ j = 11 ∨ j = 12 := by omega
              clear h13 hj
              rcases hcs with rfl | rfl | rfl | rfl | rfl | rfl | rfl | rfl | rfl | rfl | rfl | rfl | rfl
              all_goals
                go_wp2_with fail
                (with_reducible refine upon_fl rfl ?_); intro a nna hha
                go_wp2_with fail
                (with_reducible refine upon_fl rfl ?_); intro b nnb hhb
                go_wp2_with fail
                (with_reducible refine upon_fl rfl ?_); intro c nnc hhc
                go_wp2
                go_roundw
                case rel => first | (refine ⟨1, _, c, by omega, rfl, rfl, rfl, ?_⟩; rw [hhc.out, hhb.out, hha.out, HP.out]; rfl) | (refine ⟨2, _, c, by omega, rfl, rfl, rfl, ?_⟩; rw [hhc.out, hhb.out, hha.out, HP.out]; rfl) | (refine ⟨3, _, c, by omega, rfl, rfl, rfl, ?_⟩; rw [hhc.out, hhb.out, hha.out, HP.out]; rfl) | (refine ⟨4, _, c, by omega, rfl, rfl, rfl, ?_⟩; rw [hhc.out, hhb.out, hha.out, HP.out]; rfl) | (refine ⟨5, _, c, by omega, rfl, rfl, rfl, ?_⟩; rw [hhc.out, hhb.out, hha.out, HP.out]; rfl) | (refine ⟨6, _, c, by omega, rfl, rfl, rfl, ?_⟩; rw [hhc.out, hhb.out, hha.out, HP.out]; rfl) | (refine ⟨7, _, c, by omega, rfl, rfl, rfl, ?_⟩; rw [hhc.out, hhb.out, hha.out, HP.out]; rfl) | (refine ⟨8, _, c, by omega, rfl, rfl, rfl, ?_⟩; rw [hhc.out, hhb.out, hha.out, HP.out]; rfl) | (refine ⟨9, _, c, by omega, rfl, rfl, rfl, ?_⟩; rw [hhc.out, hhb.out, hha.out, HP.out]; rfl) | (refine ⟨10, _, c, by omega, rfl, rfl, rfl, ?_⟩; rw [hhc.out, hhb.out, hha.out, HP.out]; rfl) | (refine ⟨11, _, c, by omega, rfl, rfl, rfl, ?_⟩; rw [hhc.out, hhb.out, hha.out, HP.out]; rfl) | (refine ⟨12, _, c, by omega, rfl, rfl, rfl, ?_⟩; rw [hhc.out, hhb.out, hha.out, HP.out]; rfl) | (refine ⟨13, _, c, by omega, rfl, rfl, rfl, ?_⟩; rw [hhc.out, hhb.out, hha.out, HP.out]; rfl)
                case measure => simp [intOf]
theorem wd_lt {m : Nat} {k : Int} (h1 : 4503599627370496 ≤ m) (h2 : m < 9007199254740992) (hk : -1074 ≤ k) (hk' : k ≤ 900) : wd m k < 9223372036854775808 := by
  have := (wd_word h1 h2 hk hk').1
  rw [double_inf] at this
  omega
set_option maxHeartbeats 8000000 in
theorem c_spec_l01LogWide (m : Nat) (i : Int) (w : World) (h1 : 4503599627370496 ≤ m) (h2 : m < 9007199254740992) (hi : -210 ≤ i) (hi' : i ≤ 80) : Calls Try.prog 156 #[.float .f64 (wd m i)] w (RetG .f64 (logOf (logS (fv .f64 (wd m (endK m)))) (i - endK m)) w) := by
  have hd := decode_wd h1 h2 (k := i) (by omega) (by omega)
  have g1 : (FloatKind.f64.format.order (wd m i) (wd m i) != some .eq) = false := by rw [bne_of_beq (order_self .f64 (wd m i)), hd]; rfl
  have g2 : (FloatKind.f64.format.order (wd m i) 0 == some .lt) = false := by rw [(sign_num hd).2]; rfl
  have g3 : (FloatKind.f64.format.order (wd m i) 0 == some .eq) = false := by rw [(sign_num hd).1]; exact decide_eq_false (by omega)
  have g4 : (FloatKind.f64.format.order (wd m i) 9218868437227405311 == some .gt) = false := by
    have := abs_gt_max (wd m i)
    rw [Nat.mod_eq_of_lt (wd_lt h1 h2 (by omega) (by omega)), hd] at this
    rw [this]; rfl
  have c : ∀ wx, Calls Try.prog 179 #[.float .f64 (wd m i), .int .i64 1] wx fun e w' => e = .returned (.bool false) ∧ wx = w' := by
    intro wx
    clear g1 g2 g3 hd h1 h2 hi hi'
    go_enter Try.func179, Try.ntmps179
    go_wp2
    go_ret
    exact ⟨rfl, rfl⟩
  have C := Lib.hid c
  have H1 := Lib.hid h1
  have H2 := Lib.hid h2
  clear h1 h2 c hd g4
  go_enter Try.func156, Try.ntmps156
  go_wp2_with (go_at_call 179; refine (C.out _).mono ?_; rintro e w' ⟨rfl, rfl⟩)
  clear g1 g2 g3 C
  go_loopw [0, 3] (fun x e wr => ∃ (k : Int) (n : Nat), k ≤ i ∧ (k = i ∨ -53 ≤ k) ∧ e = .int .i64 (i - k) ∧ wr = w.drewN n ∧ x = .float .f64 (wd m k)) (fun _ e _ => (300 - intOf e).toNat)
  case atStart => exact ⟨i, 0, by omega, .inl rfl, by rw [Int.sub_self], rfl, rfl⟩
  case round =>
    obtain ⟨k, n, hk, hk', rfl, rfl, rfl⟩ := hrel
    have G := ge_15 H1.out H2.out (k := k) (by omega) (by omega)
    by_cases hc : -52 < k ∨ (k = -52 ∧ 6755399441055744 ≤ m)
    · rw [decide_eq_true hc] at G
      have hk1 : -52 ≤ k := by omega
      clear hc
      go_wp2_with fail
      (with_reducible refine upon_fl rfl ?_); intro r nr hr
      have hx := hr.out
      have hx2 := half_wd H1.out H2.out (k := k) (by omega) (by omega)
      obtain rfl := fv_eq (hx.trans hx2)
      clear hx hx2 hr G
      go_wp2
      go_roundw
      case rel => exact ⟨k - 1, _, by omega, .inr (by omega), by rw [show i - (k - 1) = i - k + 1 from by omega], rfl, rfl⟩
      case measure => simp [intOf]; omega
    · rw [decide_eq_false hc] at G
      have hc' : k ≤ -52 ∧ (k = -52 → m < 6755399441055744) := by omega
      clear hc
      obtain ⟨hc1, hc2⟩ := hc'
      have HC2 := Lib.hid hc2
      clear hc2
      go_wp2_with fail
      clear G
      go_loopw [0, 3] (fun x e wr => ∃ (k : Int) (n : Nat), -210 ≤ k ∧ k ≤ -52 ∧ (k = -52 → m < 6755399441055744) ∧ e = .int .i64 (i - k) ∧ wr = w.drewN n ∧ x = .float .f64 (wd m k)) (fun _ e _ => (intOf e + 300).toNat)
      case atStart => exact ⟨k, _, by omega, hc1, HC2.out, rfl, rfl, rfl⟩
      case round =>
        clear HC2 hc1 hk hk'
        obtain ⟨k, n, hk, hk', hk2, rfl, rfl, rfl⟩ := hrel
        have HK2 := Lib.hid hk2
        clear hk2
        have G := lt_075 H1.out H2.out (k := k) (by omega) (by omega)
        by_cases hc : k < -53 ∨ (k = -53 ∧ m < 6755399441055744)
        · rw [decide_eq_true hc] at G
          have HC := Lib.hid hc
          have hk1 : k ≤ -53 := by omega
          clear hc
          go_wp2_with fail
          (with_reducible refine upon_fl rfl ?_); intro r nr hr
          have hx := hr.out
          have hx2 := double_wd H1.out H2.out (k := k) (by omega) (by omega)
          obtain rfl := fv_eq (hx.trans hx2)
          clear hx hx2 hr G
          go_wp2
          go_roundw
          case rel => exact ⟨k + 1, _, by omega, by omega, by have := HC.out; omega, by rw [show i - (k + 1) = i - k - 1 from by omega], rfl, rfl⟩
          case measure => simp [intOf]; omega
        · rw [decide_eq_false hc] at G
          have hek : k = endK m := by
            have := HK2.out
            unfold endK
            split <;> omega
          have HEK := Lib.hid hek
          clear hc hek HK2
          go_wp2_with fail
          (with_reducible refine upon_fl rfl ?_); intro a na ha
          go_wp2_with fail
          (with_reducible refine upon_fl rfl ?_); intro b nb hb
          go_wp2_with fail
          (with_reducible refine upon_fl rfl ?_); intro s ns hs
          go_wp2_with fail
          (with_reducible refine upon_fl rfl ?_); intro u nu hu
          clear G
          go_wp2_with fail
          go_loopw [6, 7] (fun q i wr => ∃ (j n p : Nat), j ≤ 13 ∧ i = .int .i64 (25 - 2 * (j : Int)) ∧ wr = w.drewN n ∧ q = .float .f64 p ∧ fv .f64 p = logP (fv .f64 u) j) (fun _ i _ => (intOf i + 2).toNat)
          case atStart => exact ⟨0, _, _, by omega, rfl, rfl, rfl, rfl⟩
          case round =>
            obtain ⟨j, n, p, hj, rfl, rfl, rfl, hp⟩ := hrel
            have HP := Lib.hid hp
            clear hp
            by_cases h13 : j = 13
            · subst h13
              go_wp2_with fail
              (with_reducible refine upon_fl rfl ?_); intro c nc hc
              go_wp2_with fail
              (with_reducible refine upon_fl rfl ?_); intro d nd hd
              go_wp2_with fail
              (with_reducible refine upon_fl rfl ?_); intro f nf hf
              go_wp2_with fail
              (with_reducible refine upon_fl rfl ?_); intro g ng hg
              go_wp2
              go_ret
              refine RetG.mk _ ?_
              rw [hg.out, hf.out, hd.out, hc.out, HP.out, hu.out, hs.out, ha.out, hb.out, HEK.out]
              rfl
            · have hcs : j = 0 ∨ j = 1 ∨ j = 2 ∨ j = 3 ∨ j = 4 ∨ j = 5 ∨ j = 6 ∨ j = 7 ∨ j = 8 ∨ j = 9 ∨ j = 10 ∨ j = 11 ∨ j = 12 := by omega
              clear h13 hj
              rcases hcs with rfl | rfl | rfl | rfl | rfl | rfl | rfl | rfl | rfl | rfl | rfl | rfl | rfl
              all_goals
                go_wp2_with fail
                (with_reducible refine upon_fl rfl ?_); intro a nna hha
                go_wp2_with fail
                (with_reducible refine upon_fl rfl ?_); intro b nnb hhb
                go_wp2_with fail
                (with_reducible refine upon_fl rfl ?_); intro c nnc hhc
                go_wp2
                go_roundw
                case rel => first | (refine ⟨1, _, c, by omega, rfl, rfl, rfl, ?_⟩; rw [hhc.out, hhb.out, hha.out, HP.out]; rfl) | (refine ⟨2, _, c, by omega, rfl, rfl, rfl, ?_⟩; rw [hhc.out, hhb.out, hha.out, HP.out]; rfl) | (refine ⟨3, _, c, by omega, rfl, rfl, rfl, ?_⟩; rw [hhc.out, hhb.out, hha.out, HP.out]; rfl) | (refine ⟨4, _, c, by omega, rfl, rfl, rfl, ?_⟩; rw [hhc.out, hhb.out, hha.out, HP.out]; rfl) | (refine ⟨5, _, c, by omega, rfl, rfl, rfl, ?_⟩; rw [hhc.out, hhb.out, hha.out, HP.out]; rfl) | (refine ⟨6, _, c, by omega, rfl, rfl, rfl, ?_⟩; rw [hhc.out, hhb.out, hha.out, HP.out]; rfl) | (refine ⟨7, _, c, by omega, rfl, rfl, rfl, ?_⟩; rw [hhc.out, hhb.out, hha.out, HP.out]; rfl) | (refine ⟨8, _, c, by omega, rfl, rfl, rfl, ?_⟩; rw [hhc.out, hhb.out, hha.out, HP.out]; rfl) | (refine ⟨9, _, c, by omega, rfl, rfl, rfl, ?_⟩; rw [hhc.out, hhb.out, hha.out, HP.out]; rfl) | (refine ⟨10, _, c, by omega, rfl, rfl, rfl, ?_⟩; rw [hhc.out, hhb.out, hha.out, HP.out]; rfl) | (refine ⟨11, _, c, by omega, rfl, rfl, rfl, ?_⟩; rw [hhc.out, hhb.out, hha.out, HP.out]; rfl) | (refine ⟨12, _, c, by omega, rfl, rfl, rfl, ?_⟩; rw [hhc.out, hhb.out, hha.out, HP.out]; rfl) | (refine ⟨13, _, c, by omega, rfl, rfl, rfl, ?_⟩; rw [hhc.out, hhb.out, hha.out, HP.out]; rfl)
                case measure => simp [intOf]
end Go.Proofs.Ytplngjbllllanaa
