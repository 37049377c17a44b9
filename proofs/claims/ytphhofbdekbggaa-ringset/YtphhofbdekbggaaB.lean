/-
  Contracts of the functions on numbers.
-/
import Derived.Test.YtphhofbdekbggaaA
import Derived.WalkKit
import Derived.WalkSpells
import Derived.WalkLawsBesides
import Derived.Deep.QuietTactic
import Derived.BigQuiet
import Derived.Laws.Bits64
namespace Go.Proofs.Ytphhofbdekbggaa
open Go.RowKit
set_option linter.unusedVariables false

theorem fnv_w (h c : Nat) (hh : h < 18446744073709551616) (hc : c < 256) : IntKind.u64.wrap (bits .xor .u64 (h : Int) (c : Int) * 1099511628211) = ((fnv h c : Nat) : Int) := by
  rw [bits_xor_u64_nat _ _ hh (by omega), IntKind.wrap_u64]
  unfold fnv
  rw [Int.natCast_emod, Int.natCast_mul]
  rfl

theorem next_27 (h c : Nat) (hh : h < 18446744073709551616) (hc : c < 256) (w : World) :
    Calls Try.prog 72 #[.int .u64 h, .int .u8 c] w fun e w' => e = .returned (.int .u64 (fnv h c : Nat)) ∧ w' = w := by
  have hw := fnv_w h c hh hc
  obtain ⟨v, hv⟩ : ∃ v, v = fnv h c := ⟨_, rfl⟩
  have HV : Hid (v = fnv h c) := hv
  rw [← hv] at hw ⊢
  clear hv
  go_enter Try.func72, Try.ntmps72
  go_wp2
  go_ret
  exact ⟨rfl, rfl⟩


theorem stir_w (h : Nat) (hh : h < 18446744073709551616) : IntKind.u64.wrap (bits .xor .u64 (h : Int) ((h : Int) / 1073741824) * 13787848793156543929) = ((stir h : Nat) : Int) := mixStep_u64 h 1073741824 13787848793156543929 hh
theorem again_w (h : Nat) (hh : h < 18446744073709551616) : IntKind.u64.wrap (bits .xor .u64 (h : Int) ((h : Int) / 134217728) * 10723151780598845931) = ((again h : Nat) : Int) := mixStep_u64 h 134217728 10723151780598845931 hh
theorem last_w (h : Nat) (hh : h < 18446744073709551616) : bits .xor .u64 (h : Int) ((h : Int) / 2147483648) = ((last h : Nat) : Int) := xorShift_u64 h 2147483648 hh

theorem mix_14 (h : Nat) (hh : h < 18446744073709551616) (w : World) :
    Calls Try.prog 71 #[.int .u64 h] w fun e w' => e = .returned (.int .u64 (mix h : Nat)) ∧ w' = w := by
  have h1 := stir_w h hh
  have h2 := again_w (stir h) (stir_lt _)
  have h3 := last_w (again (stir h)) (again_lt _)
  have l1 := stir_lt h
  have l2 := again_lt (stir h)
  have l3 := mix_lt h
  unfold mix at *
  generalize stir h = a at *
  generalize again a = b at *
  generalize last b = c at *
  go_enter Try.func71, Try.ntmps71
  go_wp2
  go_ret
  exact ⟨rfl, rfl⟩

theorem point_18 (h : Nat) (hh : h < 18446744073709551616) (w : World) :
    Calls Try.prog 53 #[.int .u64 h] w fun e w' => e = .returned (.int .u32 (point h : Nat)) ∧ w' = w := by
  have l3 := mix_lt h
  have hm := mix_14 h hh
  unfold point
  generalize mix h = c at *
  have hd : ((c / 4294967296 : Nat) : Int) = (c : Int) / 4294967296 := by omega
  rw [hd]
  clear hd
  go_enter Try.func53, Try.ntmps53
  go_wp2_with (first | (go_at_call 71; go_must (refine (hm _).mono ?_); rintro e w' ⟨rfl, rfl⟩) | fail)
  go_ret
  exact ⟨rfl, rfl⟩

/-- The product by adding. -/
theorem times_30 (a b : Nat) (ha : a < 18446744073709551616) (hb : b < 18446744073709551616) (w : World) :
    Calls Try.prog 58 #[.int .u64 a, .int .u64 b] w fun e w' => e = .returned (.int .u64 (a * b % 18446744073709551616 : Nat)) ∧ w' = w := by
  go_enter Try.func58, Try.ntmps58
  go_wp2
  go_loopw [0, 1, 5] (fun x y z wr => ∃ (p q n : Nat), p < 18446744073709551616 ∧ q < 18446744073709551616 ∧ n < 18446744073709551616 ∧ x = .int .u64 p ∧ y = .int .u64 q ∧ z = .int .u64 n ∧ (n + p * q) % 18446744073709551616 = a * b % 18446744073709551616 ∧ wr = w) (fun _ y _ _ => (intOf y).toNat)
  case atStart => exact ⟨a, b, 0, ha, hb, by omega, rfl, rfl, rfl, by rw [Nat.zero_add], rfl⟩
  case round =>
    clear ha hb
    obtain ⟨p, q, n, hp, hq, hn, rfl, rfl, rfl, he, rfl⟩ := hrel
    have HE : Hid ((n + p * q) % 18446744073709551616 = a * b % 18446744073709551616) := he
    clear he
    by_cases h0 : q = 0
    · subst h0
      have HN : Hid (n = a * b % 18446744073709551616) := by
        have := HE.out
        rw [Nat.mul_zero, Nat.add_zero, Nat.mod_eq_of_lt hn] at this
        exact this
      go_wp2
      go_ret
      exact ⟨by rw [← HN.out]; rfl, rfl⟩
    · have hpp : IntKind.u64.wrap ((p : Int) + p) = (((p + p) % 18446744073709551616 : Nat) : Int) := by
        rw [IntKind.wrap_u64]; omega
      have hqq : (q : Int) / 2 = ((q / 2 : Nat) : Int) := by omega
      have hlt := Nat.mod_lt (p + p) (show 0 < 18446744073709551616 by decide)
      have hpos : (0 : Int) < q := by omega
      have hmul : p * q = (p + p) * (q / 2) + p * (q % 2) := by
        have := Nat.div_add_mod q 2
        generalize q / 2 = s at *
        generalize q % 2 = t at *
        subst this
        rw [Nat.mul_add, Nat.add_mul, Nat.two_mul, Nat.mul_add]
      have HM : Hid (p * q = (p + p) * (q / 2) + p * (q % 2)) := hmul
      clear hmul
      by_cases h1 : q % 2 = 1
      · have hr : (q : Int) % 2 = 1 := by omega
        have ht : (q : Int).tmod 2 = 1 := by rw [Int.tmod_eq_emod_of_nonneg (by omega)]; exact hr
        have hnn : IntKind.u64.wrap ((n : Int) + p) = (((n + p) % 18446744073709551616 : Nat) : Int) := by
          rw [IntKind.wrap_u64]; omega
        have hlt2 := Nat.mod_lt (n + p) (show 0 < 18446744073709551616 by decide)
        have HR : Hid (((n + p) % 18446744073709551616 + (p + p) % 18446744073709551616 * (q / 2)) % 18446744073709551616 = a * b % 18446744073709551616) := by
          show _ = _
          rw [← HE.out, HM.out, h1, Nat.mul_one, Nat.add_mod, Nat.mod_mod, Nat.mod_mul_mod, ← Nat.add_mod]
          congr 1
          omega
        clear h1 HM HE
        generalize (p + p) % 18446744073709551616 = p2 at *
        generalize (n + p) % 18446744073709551616 = n2 at *
        have HQ : Hid (q / 2 < q) := show q / 2 < q by omega
        generalize q / 2 = q2 at *
        go_wp2
        go_roundw
        case rel => exact ⟨p2, q2, n2, hlt, by have := HQ.out; omega, hlt2, rfl, rfl, rfl, HR.out, by first | rfl | trivial⟩
        case measure => have := HQ.out; simp [intOf]; omega
      · have hr : (q : Int) % 2 = 0 := by omega
        have ht : (q : Int).tmod 2 = 0 := by rw [Int.tmod_eq_emod_of_nonneg (by omega)]; exact hr
        have HR : Hid ((n + (p + p) % 18446744073709551616 * (q / 2)) % 18446744073709551616 = a * b % 18446744073709551616) := by
          show _ = _
          rw [← HE.out, HM.out, show q % 2 = 0 by omega, Nat.mul_zero, Nat.add_mod, Nat.mod_mul_mod, ← Nat.add_mod]
          rfl
        clear h1 HM HE
        generalize (p + p) % 18446744073709551616 = p2 at *
        have HQ : Hid (q / 2 < q) := show q / 2 < q by omega
        generalize q / 2 = q2 at *
        go_wp2
        go_roundw
        case rel => exact ⟨p2, q2, n, hlt, by have := HQ.out; omega, hn, rfl, rfl, rfl, HR.out, by first | rfl | trivial⟩
        case measure => have := HQ.out; simp [intOf]; omega


/-- Bit by bit. -/
theorem xor_31 (a b : Nat) (ha : a < 18446744073709551616) (hb : b < 18446744073709551616) (w : World) :
    Calls Try.prog 59 #[.int .u64 a, .int .u64 b] w fun e w' => e = .returned (.int .u64 (a ^^^ b : Nat)) ∧ w' = w := by
  have hx := xor_lt a b ha hb
  generalize hX : a ^^^ b = X at *
  have HX : Hid (a ^^^ b = X) := hX
  clear hX
  go_enter Try.func59, Try.ntmps59
  go_wp2
  go_loopw [0, 1, 5, 6] (fun x y z o wr => ∃ (p q n d : Nat), p < 18446744073709551616 ∧ q < 18446744073709551616 ∧ n < 18446744073709551616 ∧ d < 18446744073709551616 ∧ x = .int .u64 p ∧ y = .int .u64 q ∧ z = .int .u64 n ∧ o = .int .u64 d ∧ (n + d * (p ^^^ q)) % 18446744073709551616 = X ∧ wr = w) (fun x y _ _ _ => (intOf x).toNat + (intOf y).toNat)
  case atStart => exact ⟨a, b, 0, 1, ha, hb, by omega, by omega, rfl, rfl, rfl, rfl, by rw [HX.out, Nat.zero_add, Nat.one_mul, Nat.mod_eq_of_lt hx], rfl⟩
  case round =>
    clear ha hb HX hx
    obtain ⟨p, q, n, d, hp, hq, hn, hd, rfl, rfl, rfl, rfl, he, rfl⟩ := hrel
    have HE : Hid ((n + d * (p ^^^ q)) % 18446744073709551616 = X) := he
    clear he
    by_cases h0 : p = 0 ∧ q = 0
    · obtain ⟨rfl, rfl⟩ := h0
      have HN : Hid (n = X) := by
        have := HE.out
        rw [Nat.xor_zero, Nat.mul_zero, Nat.add_zero, Nat.mod_eq_of_lt hn] at this
        exact this
      go_wp2
      go_ret
      exact ⟨by rw [← HN.out]; rfl, rfl⟩
    · have hdd : IntKind.u64.wrap ((d : Int) + d) = (((d + d) % 18446744073709551616 : Nat) : Int) := by
        rw [IntKind.wrap_u64]; omega
      have hpp : (p : Int) / 2 = ((p / 2 : Nat) : Int) := by omega
      have hqq : (q : Int) / 2 = ((q / 2 : Nat) : Int) := by omega
      have hpt : (p : Int).tmod 2 = (p : Int) % 2 := Int.tmod_eq_emod_of_nonneg (by omega)
      have hqt : (q : Int).tmod 2 = (q : Int) % 2 := Int.tmod_eq_emod_of_nonneg (by omega)
      have hlt := Nat.mod_lt (d + d) (show 0 < 18446744073709551616 by decide)
      have HM : Hid (p ^^^ q = 2 * (p / 2 ^^^ q / 2) + (if p % 2 = q % 2 then 0 else 1)) := xor_half p q
      have HD : Hid (p / 2 + q / 2 < p + q) := show p / 2 + q / 2 < p + q by omega
      have hp2 : p / 2 < 18446744073709551616 := by omega
      have hq2 : q / 2 < 18446744073709551616 := by omega
      have hlt2 := Nat.mod_lt (n + d) (show 0 < 18446744073709551616 by decide)
      have hnn : IntKind.u64.wrap ((n : Int) + d) = (((n + d) % 18446744073709551616 : Nat) : Int) := by
        rw [IntKind.wrap_u64]; omega
      by_cases h1 : p % 2 = q % 2
      · have hr : (p : Int) % 2 = (q : Int) % 2 := by omega
        have HR : Hid ((n + (d + d) % 18446744073709551616 * (p / 2 ^^^ q / 2)) % 18446744073709551616 = X) := by
          show _ = _
          rw [← HE.out, HM.out, if_pos h1, Nat.add_zero, Nat.add_mod, Nat.mod_mul_mod, ← Nat.add_mod, ← Nat.mul_assoc, Nat.mul_two]
        clear HM HE h1
        by_cases hp0 : p = 0
        · have hqpos : (0 : Int) < q := by omega
          subst hp0
          have HR0 := HR.out
          have HD0 := HD.out
          clear HR HD
          rw [Nat.zero_div] at HR0 HD0
          have HR : Hid _ := HR0
          have HD : Hid _ := HD0
          clear HR0 HD0
          clear hpp hpt hp2
          generalize q / 2 = q2 at *
          generalize (d + d) % 18446744073709551616 = d2 at *
          clear h0 hnn hlt2
          go_wp2
          go_roundw
          case rel => exact ⟨0, q2, n, d2, by omega, hq2, hn, hlt, rfl, rfl, rfl, rfl, HR.out, by first | rfl | trivial⟩
          case measure => have := HD.out; simp [intOf]; omega
        · have hp0' : (0 : Int) < p := by omega
          generalize p / 2 = p2 at *
          generalize q / 2 = q2 at *
          generalize (d + d) % 18446744073709551616 = d2 at *
          clear h0 hp0 hnn hlt2
          go_wp2
          go_roundw
          case rel => exact ⟨p2, q2, n, d2, hp2, hq2, hn, hlt, rfl, rfl, rfl, rfl, HR.out, by first | rfl | trivial⟩
          case measure => have := HD.out; simp [intOf]; omega
      · have hr : ¬ (p : Int) % 2 = (q : Int) % 2 := by omega
        have HR : Hid (((n + d) % 18446744073709551616 + (d + d) % 18446744073709551616 * (p / 2 ^^^ q / 2)) % 18446744073709551616 = X) := by
          show _ = _
          rw [← HE.out, HM.out, if_neg h1, Nat.add_mod, Nat.mod_mod, Nat.mod_mul_mod, ← Nat.add_mod, Nat.mul_add, Nat.mul_one, ← Nat.mul_assoc, Nat.mul_two]
          congr 1
          omega
        clear HM HE h1
        by_cases hp0 : p = 0
        · have hqpos : (0 : Int) < q := by omega
          subst hp0
          have HR0 := HR.out
          have HD0 := HD.out
          clear HR HD
          rw [Nat.zero_div] at HR0 HD0
          have HR : Hid _ := HR0
          have HD : Hid _ := HD0
          clear HR0 HD0
          clear hpp hpt hp2
          generalize q / 2 = q2 at *
          generalize (d + d) % 18446744073709551616 = d2 at *
          generalize (n + d) % 18446744073709551616 = n2 at *
          clear h0
          go_wp2
          go_roundw
          case rel => exact ⟨0, q2, n2, d2, by omega, hq2, hlt2, hlt, rfl, rfl, rfl, rfl, HR.out, by first | rfl | trivial⟩
          case measure => have := HD.out; simp [intOf]; omega
        · have hp0' : (0 : Int) < p := by omega
          generalize p / 2 = p2 at *
          generalize q / 2 = q2 at *
          generalize (d + d) % 18446744073709551616 = d2 at *
          generalize (n + d) % 18446744073709551616 = n2 at *
          clear h0 hp0
          go_wp2
          go_roundw
          case rel => exact ⟨p2, q2, n2, d2, hp2, hq2, hlt2, hlt, rfl, rfl, rfl, rfl, HR.out, by first | rfl | trivial⟩
          case measure => have := HD.out; simp [intOf]; omega

/-- Halved k times. -/
theorem down_32 (h k : Nat) (hh : h < 18446744073709551616) (hk : k ≤ 64) (w : World) :
    Calls Try.prog 41 #[.int .u64 h, .int .i64 k] w fun e w' => e = .returned (.int .u64 (h / 2 ^ k : Nat)) ∧ w' = w := by
  go_enter Try.func41, Try.ntmps41
  go_wp2
  go_loopw [0, 5] (fun x y wr => ∃ (p i : Nat), p < 18446744073709551616 ∧ i ≤ k ∧ x = .int .u64 p ∧ y = .int .i64 i ∧ p = h / 2 ^ i ∧ wr = w) (fun _ y _ => k - (intOf y).toNat)
  case atStart => exact ⟨h, 0, hh, by omega, rfl, rfl, by simp, rfl⟩
  case round =>
    clear hh
    obtain ⟨p, i, hp, hi, rfl, rfl, he, rfl⟩ := hrel
    have HE : Hid (p = h / 2 ^ i) := he
    clear he
    by_cases hlt : i < k
    · have hpp : (p : Int) / 2 = ((p / 2 : Nat) : Int) := by omega
      have hp2 : p / 2 < 18446744073709551616 := by omega
      have HR : Hid (p / 2 = h / 2 ^ (i + 1)) := by
        show _ = _
        rw [HE.out, Nat.div_div_eq_div_mul, Nat.pow_succ]
      generalize p / 2 = p2 at *
      go_wp2
      go_roundw
      case rel => exact ⟨p2, i + 1, hp2, by omega, rfl, by go_num, HR.out, by first | rfl | trivial⟩
      case measure => simp [intOf]; omega
    · obtain rfl : i = k := by omega
      go_wp2
      go_ret
      exact ⟨by rw [← HE.out]; rfl, rfl⟩

theorem on_28 (h c : Nat) (hh : h < 18446744073709551616) (hc : c < 256) (w : World) :
    Calls Try.prog 43 #[.int .u64 h, .int .u8 c] w fun e w' => e = .returned (.int .u64 (fnv h c : Nat)) ∧ w' = w := by
  have h1 := xor_31 h c hh (by omega)
  have h2 := times_30 (h ^^^ c) 1099511628211 (xor_lt _ _ hh (by omega)) (by decide)
  have hlt := xor_lt h c hh (by omega)
  unfold fnv
  have l2 := Nat.mod_lt ((h ^^^ c) * 1099511628211) (show 0 < 18446744073709551616 by decide)
  generalize (h ^^^ c) * 1099511628211 % 18446744073709551616 = z at *
  generalize h ^^^ c = y at *
  go_enter Try.func43, Try.ntmps43
  go_wp2_with (first | (go_at_call 59; go_must (refine (h1 _).mono ?_); rintro e w' ⟨rfl, rfl⟩) | (go_at_call 58; go_must (refine (h2 _).mono ?_); rintro e w' ⟨rfl, rfl⟩) | fail)
  go_ret
  exact ⟨rfl, rfl⟩


theorem mix_15 (h : Nat) (hh : h < 18446744073709551616) (w : World) :
    Calls Try.prog 42 #[.int .u64 h] w fun e w' => e = .returned (.int .u64 (mix h : Nat)) ∧ w' = w := by
  have hdl : ∀ a s : Nat, a < 18446744073709551616 → a / s < 18446744073709551616 := fun a s ha => Nat.lt_of_le_of_lt (Nat.div_le_self _ _) ha
  have d1 := down_32 h 30 hh (by decide)
  have x1 := xor_31 h (h / 2 ^ 30) hh (hdl _ _ hh)
  have t1 := times_30 (h ^^^ h / 2 ^ 30) 13787848793156543929 (xor_lt _ _ hh (hdl _ _ hh)) (by decide)
  rw [show (2 : Nat) ^ 30 = 1073741824 by decide] at d1 x1 t1
  rw [show (h ^^^ h / 1073741824) * 13787848793156543929 % 18446744073709551616 = stir h by unfold stir; exact Eq.refl _] at t1
  simp only [Int.cast_ofNat_Int] at d1 t1
  have l1 := stir_lt h
  have d2 := down_32 (stir h) 27 l1 (by decide)
  have x2 := xor_31 (stir h) (stir h / 2 ^ 27) l1 (hdl _ _ l1)
  have t2 := times_30 (stir h ^^^ stir h / 2 ^ 27) 10723151780598845931 (xor_lt _ _ l1 (hdl _ _ l1)) (by decide)
  rw [show (2 : Nat) ^ 27 = 134217728 by decide] at d2 x2 t2
  rw [show (stir h ^^^ stir h / 134217728) * 10723151780598845931 % 18446744073709551616 = again (stir h) by unfold again; exact Eq.refl _] at t2
  simp only [Int.cast_ofNat_Int] at d2 t2
  have l2 := again_lt (stir h)
  have d3 := down_32 (again (stir h)) 31 l2 (by decide)
  have x3 := xor_31 (again (stir h)) (again (stir h) / 2 ^ 31) l2 (hdl _ _ l2)
  rw [show (2 : Nat) ^ 31 = 2147483648 by decide] at d3 x3
  simp only [Int.cast_ofNat_Int] at d3
  rw [show again (stir h) ^^^ again (stir h) / 2147483648 = mix h by unfold mix last; exact Eq.refl _] at x3
  have l3 := mix_lt h
  generalize mix h = m at *
  generalize again (stir h) = s2 at *
  generalize stir h = s1 at *
  have k1 := xor_lt h (h / 1073741824) hh (hdl _ _ hh)
  have k2 := xor_lt s1 (s1 / 134217728) l1 (hdl _ _ l1)
  have j1 := hdl h 1073741824 hh
  have j2 := hdl s1 134217728 l1
  have j3 := hdl s2 2147483648 l2
  generalize h ^^^ h / 1073741824 = y1 at *
  generalize s1 ^^^ s1 / 134217728 = y2 at *
  generalize h / 1073741824 = z1 at *
  generalize s1 / 134217728 = z2 at *
  generalize s2 / 2147483648 = z3 at *
  clear hdl
  go_enter Try.func42, Try.ntmps42
  go_wp2_with (first | (go_at_call 41; go_must (with_reducible first | refine (d1 _).mono ?_ | refine (d2 _).mono ?_ | refine (d3 _).mono ?_); rintro e w' ⟨rfl, rfl⟩) | (go_at_call 59; go_must (with_reducible first | refine (x1 _).mono ?_ | refine (x2 _).mono ?_ | refine (x3 _).mono ?_); rintro e w' ⟨rfl, rfl⟩) | (go_at_call 58; go_must (with_reducible first | refine (t1 _).mono ?_ | refine (t2 _).mono ?_); rintro e w' ⟨rfl, rfl⟩) | fail)
  go_ret
  exact ⟨rfl, rfl⟩

theorem point_19 (h : Nat) (hh : h < 18446744073709551616) (w : World) :
    Calls Try.prog 26 #[.int .u64 h] w fun e w' => e = .returned (.int .u32 (point h : Nat)) ∧ w' = w := by
  have l3 := mix_lt h
  have hm := mix_15 h hh
  have hd := down_32 (mix h) 32 l3 (by decide)
  rw [show (2 : Nat) ^ 32 = 4294967296 by decide, show mix h / 4294967296 = point h by unfold point; exact Eq.refl _] at hd
  simp only [Int.cast_ofNat_Int] at hd
  have hp := point_lt h
  generalize point h = p at *
  generalize mix h = c at *
  go_enter Try.func26, Try.ntmps26
  go_wp2_with (first | (go_at_call 42; go_must (refine (hm _).mono ?_); rintro e w' ⟨rfl, rfl⟩) | (go_at_call 41; go_must (refine (hd _).mono ?_); rintro e w' ⟨rfl, rfl⟩) | fail)
  go_ret
  exact ⟨rfl, rfl⟩

theorem unlast_w (h : Nat) (hh : h < 18446744073709551616) : bits .xor .u64 (bits .xor .u64 (h : Int) ((h : Int) / 2147483648)) ((h : Int) / 4611686018427387904) = ((unlast h : Nat) : Int) := by
  have e := xorShift_u64 h 2147483648 hh
  simp only [Int.cast_ofNat_Int] at e
  rw [e, show (h : Int) / 4611686018427387904 = ((h / 4611686018427387904 : Nat) : Int) by omega, bits_xor_u64_nat _ _ (xor_lt _ _ hh (by omega)) (by omega)]
  rfl
theorem unagain_w (h : Nat) (hh : h < 18446744073709551616) : bits .xor .u64 (bits .xor .u64 (h : Int) ((h : Int) / 134217728)) ((h : Int) / 18014398509481984) = ((unagain h : Nat) : Int) := by
  have e := xorShift_u64 h 134217728 hh
  simp only [Int.cast_ofNat_Int] at e
  rw [e, show (h : Int) / 18014398509481984 = ((h / 18014398509481984 : Nat) : Int) by omega, bits_xor_u64_nat _ _ (xor_lt _ _ hh (by omega)) (by omega)]
  rfl
theorem unstir_w (h : Nat) (hh : h < 18446744073709551616) : bits .xor .u64 (bits .xor .u64 (h : Int) ((h : Int) / 1073741824)) ((h : Int) / 1152921504606846976) = ((unstir h : Nat) : Int) := by
  have e := xorShift_u64 h 1073741824 hh
  simp only [Int.cast_ofNat_Int] at e
  rw [e, show (h : Int) / 1152921504606846976 = ((h / 1152921504606846976 : Nat) : Int) by omega, bits_xor_u64_nat _ _ (xor_lt _ _ hh (by omega)) (by omega)]
  rfl
theorem mul_w (h c : Nat) : IntKind.u64.wrap ((h : Int) * (c : Int)) = ((h * c % 18446744073709551616 : Nat) : Int) := by
  rw [IntKind.wrap_u64, Int.natCast_emod, Int.natCast_mul]
  rfl

end Go.Proofs.Ytphhofbdekbggaa
