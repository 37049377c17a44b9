/-
  ItemSizes' walk.
-/
import Derived.Test.YtgldbdfadjmfeaaIl
namespace Go.Proofs.Ytgldbdfadjmfeaa
open Go.RowKit
set_option linter.unusedVariables false

theorem num_q (n : Int) (w : World) : Calls Try.prog 45 #[.int .i64 n] w fun e w' => e = .returned (.int .i64 n) ∧ w' = w := by
  go_enter Try.func45, Try.ntmps45
  go_wp2
  go_ret
  exact ⟨rfl, rfl⟩

set_option maxHeartbeats 1000000 in
theorem intact_q {w : World} {B : Nat} {ao a : Option Addr} {cap n c : Nat} {ys : List Int} (hown : Own B w ao cap (ys ++ marksTo 70)) (hy : Has w a n ys) (hb : isBytes ys) (hn : n ≤ 140737488351232) :
    Calls Try.prog 48 #[.slice ao n cap, .slice a n c] w fun e w' => e = .returned (.bool true) ∧ ∃ q, w' = w.drewN q := by
  have hl := hy.1
  have hll : (ys ++ marksTo 70).length = n + 70 := by rw [List.length_append, hl, length_marksTo]
  obtain ⟨g, rfl, hgb, hcap, hmx⟩ := hown.shape (by omega)
  unfold maxLen at hmx
  have hH := hown.has
  rw [hll] at hcap hH
  have hH1 : Has w (some ⟨g, 0, none⟩) n ys := by
    have := hH.piece 0 n 0 (by omega) (fun _ => rfl)
    have e : cut (ys ++ marksTo 70) 0 n = ys := by simp [cut, ← hl]
    rw [e] at this
    exact this
  obtain ⟨_, _, e1, hcs⟩ := hH.2 (by omega)
  cases e1
  go_enter Try.func48, Try.ntmps48
  go_wp2_with fail
  refine (equal_67 hH1 hy hb hb cap c).mono ?_
  rintro e w' ⟨rfl, rfl⟩
  rw [decide_eq_true rfl]
  clear hH1 hH hown
  go_wp2
  go_loopw [6] (fun c wr => ∃ (k : Nat), k ≤ 70 ∧ c = .int .i64 k ∧ ∃ q, wr = w.drewN q) (fun c _ => 70 - (intOf c).toNat)
  case atStart => exact ⟨0, by omega, rfl, 0, rfl⟩
  case round =>
    obtain ⟨k, hk, rfl, q, rfl⟩ := hrel
    by_cases hlt : k < 70
    · have hc := hcs (n + k) (by omega)
      rw [← hl, getD_right, getD_marksTo 70 k hlt, Nat.zero_add, hl] at hc
      have hc2 : (w.drewN q).cell? ⟨g, n + k, none⟩ = some (.int .u8 (165 - (k : Int))) := hc
      have hnk : (0 : Int) ≤ (n : Int) + k := by omega
      have hnk3 : (n : Int) + k < (n : Int) + 70 := by omega
      have hnk4 : ((n : Int) + k).toNat = n + k := by omega
      have hwr : IntKind.i64.wrap ((n : Int) + k) = (n : Int) + k := by rw [IntKind.wrap_i64]; omega
      have hd : decide ((k : Int) < 70) = true := by simp; omega
      clear hcs hc
      have HE : Hid (∀ m, ∃ q', (w.drewN q).drewN m = w.drewN q') := fun m => ⟨q + m, by simp⟩
      generalize w.drewN q = V at *
      go_wp2
      go_quiet ((go_at_call 85; exact Calls.quiet_of_same (markAt_any _ (by omega) (by omega) _)))
      go_wp2
      go_roundw
      case rel => exact ⟨k + 1, by omega, by go_num, HE.out _⟩
      case measure => simp [intOf]; omega
    · go_wp2
      go_ret
      exact ⟨rfl, q, rfl⟩

/-- Sizes that came in. -/
def SzIn (w : World) (a : Option Addr) (n : Nat) : Prop := ∀ i, i < n → ∃ b o, a = some ⟨b, o, none⟩ ∧ ∃ (x y : Int) (sa : Option Addr) (sn sc : Nat) (ys : List Int),
  w.cell? ⟨b, o + i * 3, none⟩ = some (.int .i64 x) ∧ w.cell? ⟨b, o + i * 3 + 1, none⟩ = some (.int .i64 y) ∧ w.cell? ⟨b, o + i * 3 + 2, none⟩ = some (.slice sa sn sc) ∧ Has w sa sn ys ∧ isBytes ys ∧ sn ≤ 140737488351232 ∧ (sa = none → sc = 0)

set_option maxRecDepth 100000 in
set_option maxHeartbeats 4000000 in
theorem isizes_any (a : Option Addr) (n c : Nat) (w : World) (hn : n ≤ maxLen) (hin : SzIn w a n) : Calls Try.prog 10 #[.slice a n c] w fun e w' => e = .returned (.bool true) ∧ w.grownBy w' none := by
  have hn' : (n : Int) ≤ 9223372036854775807 := by unfold maxLen at hn; omega
  have hwk := fun W => iwakes W
  go_enter Try.func10, Try.ntmps10
  go_wp2
  go_loopw [3] (fun v wr => ∃ (k : Nat), k ≤ n ∧ v = .int .i64 k ∧ w.grownBy wr none) (fun v _ => n - (intOf v).toNat)
  case atStart => exact ⟨0, by omega, rfl, gb_refl _ _⟩
  case round =>
    obtain ⟨k, hk, rfl, hF⟩ := hrel
    by_cases hlt : k < n
    · obtain ⟨b, o, rfl, x, y, sa, sn, sc, ys, y0, y1, y2, hy, hyb, hsn, hsc⟩ := hin k hlt
      obtain ⟨r1, r2, hr⟩ := SzR.ex x y
      have h42 := size_42 x y r1 r2 hr
      have h43 := rsize_43 x y r1 r2 hr
      have hd1 : decide ((k : Int) < n) = true := by simp; omega
      have hd3 : decide (k < n) = true := by simp; omega
      have z0 := gb_cellN hF y0
      have z1 := gb_cellN hF y1
      have z2 := gb_cellN hF y2
      clear hin hr
      go_wp2
      go_quiet ((go_at_call 42; with_reducible exact Calls.quiet_of_same (h42 _)))
      have hF1 := gb_drewN hF nq
      generalize wr.drewN nq = w1 at *
      have z0 := gb_cellN hF1 y0
      have z1 := gb_cellN hF1 y1
      have z2 := gb_cellN hF1 y2
      go_wp2
      go_quiet ((go_at_call 43; with_reducible exact Calls.quiet_of_same (h43 _)))
      have hF2 := gb_drewN hF1 nq
      generalize w1.drewN nq = w2 at *
      have z0 := gb_cellN hF2 y0
      have z1 := gb_cellN hF2 y1
      have z2 := gb_cellN hF2 y2
      have hl := lend_any (hy.kept0 hF2) sc hsc hsn
      go_wp2_with (first | (go_at_call 44; go_must (refine hl.mono ?_); rintro e w3 ⟨ao, cap, rfl, hown, hf3⟩) | fail)
      have hF3 := gb_trans hF2 hf3
      have z0 := gb_cellN hF3 y0
      have z1 := gb_cellN hF3 y1
      have z2 := gb_cellN hF3 y2
      have hll : (ys ++ marksTo 70).length = sn + 70 := by rw [List.length_append, hy.1, length_marksTo]
      obtain ⟨g, rfl, hgb, hcap, hmx⟩ := hown.shape (by omega)
      have hH : Has w3 (some ⟨g, 0, none⟩) sn ys := by
        have h1 := hown.has
        rw [hll] at h1
        have := h1.piece 0 sn 0 (by omega) (fun _ => rfl)
        have e : cut (ys ++ marksTo 70) 0 sn = ys := by simp [cut, ← hy.1]
        rw [e] at this
        exact this
      have hq := fun q => intact_q (w := w3.drewN q) (c := sc) (hown.kept (gb_drewN (gb_refl _ none) q) (.inr (by simp [blk]))) ((hy.kept0 hF3).drewN q) hyb hsn
      have hq0 := intact_q (w := w3) (c := sc) hown (hy.kept0 hF3) hyb hsn
      by_cases hlg : LegalP ys
      · have h46 := fun q => legal_yes (hH.drewN q) hlg cap
        have h47 := fun q => rlegal_yes ((hy.kept0 hF3).drewN q) hlg sc
        clear hy hown hl hf3 hll hH h42 h43
        go_quiet ((first | (go_at_call 45; with_reducible exact Calls.quiet_of_same (num_q _ _)) | (go_at_call 46; with_reducible exact Calls.quiet_of_same (h46 _)) | (go_at_call 47; with_reducible exact Calls.quiet_of_same (h47 _)) | (go_at_call 48; with_reducible exact Calls.quiet_of (hq _))))
        have hF4 := gb_drewN hF3 nq
        go_wp2
        go_roundw
        case rel => exact ⟨k + 1, by omega, by go_num, hF4⟩
        case measure => simp [intOf]; omega
      · have h46 := fun q => legal_no (hH.drewN q) hlg hsn cap
        have h47 := fun q => rlegal_no ((hy.kept0 hF3).drewN q) hlg hsn sc
        clear hy hown hl hf3 hll hH h42 h43
        go_quiet ((first | (go_at_call 45; with_reducible exact Calls.quiet_of_same (num_q _ _)) | (go_at_call 46; with_reducible exact Calls.quiet_of_same (h46 _)) | (go_at_call 47; with_reducible exact Calls.quiet_of_same (h47 _)) | (go_at_call 48; with_reducible exact Calls.quiet_of (hq _))))
        have hF4 := gb_drewN hF3 nq
        go_wp2
        go_roundw
        case rel => exact ⟨k + 1, by omega, by go_num, hF4⟩
        case measure => simp [intOf]; omega
    · clear hin
      go_wp2_with (first | (go_at_call 49; go_must (refine (hwk _).mono ?_); rintro y w2 ⟨rfl, hf2⟩) | fail)
      go_ret
      exact ⟨rfl, gb_trans hF hf2⟩

end Go.Proofs.Ytgldbdfadjmfeaa
