import Derived.Test.YtefnahdeghgijaaIp
/-
  big, equal, right.
-/
namespace Go.Proofs.Ytefnahdeghgijaa
open Go.RowKit
set_option linter.unusedVariables false

set_option maxHeartbeats 1000000 in
theorem big_108 {w : World} {bb nb cb : Nat} {bs : List Int} (hb : Has w (some ⟨bb, 0, none⟩) nb bs) (hbs : isBytes bs) (x n : Nat) (hx : x + n ≤ nb) (hn : n ≤ 8) (hnb : nb ≤ 1073741824) :
    Calls Try.prog 57 #[.slice (some ⟨bb, 0, none⟩) nb cb, .int .i64 x, .int .i64 n] w fun y w' => y = .returned (.int .u64 (getL bs x n 0 0)) ∧ w' = w := by
  have hl := hb.1
  have hc : ∀ i, i < nb → w.cell? ⟨bb, i, none⟩ = some (.int .u8 (bs.getD i 0)) := by
    intro i hi
    obtain ⟨b', o', e1, e2⟩ := hb.2 (by omega)
    cases e1
    have := e2 i hi
    rw [Nat.zero_add] at this
    exact this
  clear hb
  go_enter Try.func57, Try.ntmps57
  go_wp2
  go_loopw [7, 8] (fun r c wr => ∃ (i : Nat) (s : Int), i ≤ n ∧ c = .int .i64 i ∧ r = .int .u64 s ∧ 0 ≤ s ∧ Hid (s < pw i) ∧ Hid (getL bs x (n - i) i s = getL bs x n 0 0) ∧ wr = w) (fun _ c _ => n - (intOf c).toNat)
  case atStart => exact ⟨0, 0, by omega, rfl, rfl, by omega, (show (0 : Int) < 1 by decide), rfl, rfl⟩
  case round =>
    obtain ⟨i, s, hi, rfl, rfl, hs0, hs1, hp, rfl⟩ := hrel
    by_cases hlt : i < n
    · have hcell := hc (x + i) (by omega)
      have hz := hbs (bs.getD (x + i) 0) (getD_mem (by omega))
      obtain ⟨z, hz'⟩ : ∃ z, z = bs.getD (x + i) 0 := ⟨_, rfl⟩
      have HP : Hid (getL bs x (n - (i + 1)) (i + 1) (256 * s + z) = getL bs x n 0 0) := by
        have := hp.out
        rw [getL_go bs _ _ _ _ hlt, ← hz'] at this
        exact this
      rw [← hz'] at hcell hz
      have hst := pow_step i s z (by omega) hs1.out hz.2
      have HB : Hid (256 * s + z < pw (i + 1)) := hst.2
      have hb2 := hst.1
      have hxi : ((x : Int) + i).toNat = x + i := by omega
      have hwx : IntKind.i64.wrap ((x : Int) + i) = (x : Int) + i := by rw [IntKind.wrap_i64]; omega
      have hx0 : (0 : Int) ≤ (x : Int) + i := by omega
      have hx1 : (x : Int) + i < nb := by omega
      have hw1 : IntKind.u64.wrap (256 * s) = 256 * s := by rw [IntKind.wrap_u64]; omega
      have hw2 : IntKind.u64.wrap (256 * s + z) = 256 * s + z := by rw [IntKind.wrap_u64]; omega
      have hd : decide ((i : Int) < n) = true := by simp; omega
      clear hz' hst hc
      go_wp2
      go_roundw
      case rel => exact ⟨i + 1, 256 * s + z, by omega, by go_num, rfl, by omega, HB, HP, trivial⟩
      case measure => simp [intOf]; omega
    · have e : Hid (getL bs x n 0 0 = s) := by
        have := hp.out
        rw [getL_stop bs _ _ _ _ (by omega)] at this
        exact this.symm
      clear hp hc
      go_wp2
      go_ret
      refine ⟨?_, rfl⟩
      rw [e.out]
      rfl

set_option maxRecDepth 100000 in
set_option maxHeartbeats 1000000 in
theorem equal_57 {w : World} (ka va kb vb : Option Addr) (kn kc kc' vn vc vc' : Nat) (fl ex to tk st mk : Int) (key val : List Int) (h1 : Has w ka kn key) (h2 : Has w va vn val) (h3 : Has w kb kn key) (h4 : Has w vb vn val) (hk : isBytes key) (hv : isBytes val) :
    Calls Try.prog 18 #[itV ka kn kc va vn vc fl ex to tk st mk, itV kb kn kc' vb vn vc' fl ex to tk st mk] w fun y w' => y = .returned (.bool true) ∧ w.grownBy w' none := by
  have hal : w.grownBy ((w.alloc (.cells #[.slice ka kn kc, .slice va vn vc, .int .u64 fl, .int .i64 ex, .int .i64 to, .int .u64 tk, .int .i64 st, .int .i64 mk] 41)).alloc (.cells #[.slice kb kn kc', .slice vb vn vc', .int .u64 fl, .int .i64 ex, .int .i64 to, .int .u64 tk, .int .i64 st, .int .i64 mk] 41)) none := gb_alloc (gb_alloc (gb_refl _ _) _) _
  have e1 := equal_67 (h1.kept0 hal) (h3.kept0 hal) hk hk kc kc'
  have e2 := equal_67 (h2.kept0 hal) (h4.kept0 hal) hv hv vc vc'
  rw [decide_eq_true rfl] at e1 e2
  clear h1 h2 h3 h4
  unfold itV
  go_enter Try.func18, Try.ntmps18
  go_wp2_with (first | (go_at_call 16; with_reducible refine e1.mono ?_; rintro y w' ⟨rfl, rfl⟩) | (go_at_call 16; with_reducible refine e2.mono ?_; rintro y w' ⟨rfl, rfl⟩) | fail)
  go_ret
  exact ⟨rfl, hal⟩

end Go.Proofs.Ytefnahdeghgijaa
