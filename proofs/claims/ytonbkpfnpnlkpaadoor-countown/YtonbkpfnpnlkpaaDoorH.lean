/-
  A board: New, Read, Add, Set, Reset.
-/
import Derived.Test.YtonbkpfnpnlkpaaDoorC
import Derived.Test.YtonbkpfnpnlkpaaDoorLk
import Derived.Conc.MuLone
namespace Go.Proofs.YtonbkpfnpnlkpaaDoor
open Go.RowKit Go.MuLone
set_option linter.unusedVariables false
set_option linter.unusedSimpArgs false
attribute [local go_sem] Oper.semAt_some

def nm (n : Int) : Bool := decide (1 ≤ n) && decide (n ≤ 30)
set_option maxRecDepth 100000 in
set_option maxHeartbeats 4000000 in
theorem isName_38 (n : Int) (w : World) : Calls Tryd.prog 38 #[.int .i64 n] w fun e w' => e = .returned (.bool (nm n)) ∧ w' = w := by
  go_enter Tryd.func38, Tryd.ntmps38
  go_wp2
  all_goals (go_ret; refine ⟨?_, rfl⟩; simp_all [nm])
  all_goals omega
theorem nm_yes {n : Int} (h : nm n = true) : ∃ i : Nat, i < 30 ∧ n = (i : Int) + 1 := by
  simp [nm] at h
  exact ⟨(n - 1).toNat, by omega, by omega⟩
def N0 : Cn := fun _ => 0
set_option maxRecDepth 100000 in
set_option maxHeartbeats 4000000 in
theorem new_11 (w : World) : Calls Tryd.prog 11 #[] w fun e w' => e = .returned (.pointer (some ⟨w.heap.size, 0, none⟩)) ∧ Bd w' w.heap.size 0 N0 ∧ w.grownBy w' none ∧ w'.heap.size = w.heap.size + 1 := by
  have hz : bdA 0 N0 = #[.int .i32 0, .int .u32 0, .int .u64 0, .int .u64 0, .int .u64 0, .int .u64 0, .int .u64 0, .int .u64 0, .int .u64 0, .int .u64 0, .int .u64 0, .int .u64 0, .int .u64 0, .int .u64 0, .int .u64 0, .int .u64 0, .int .u64 0, .int .u64 0, .int .u64 0, .int .u64 0, .int .u64 0, .int .u64 0, .int .u64 0, .int .u64 0, .int .u64 0, .int .u64 0, .int .u64 0, .int .u64 0, .int .u64 0, .int .u64 0, .int .u64 0, .int .u64 0] := by rfl
  have hn := Box.new w 90 (bdA 0 N0)
  have hg := World.grownBy_alloc w (.cells (bdA 0 N0) 90) none
  have hs : (w.alloc (.cells (bdA 0 N0) 90)).heap.size = w.heap.size + 1 := by simp
  rw [hz] at hn hg hs
  go_enter Tryd.func11, Tryd.ntmps11
  go_wp2
  go_ret
  refine ⟨rfl, ?_, hg, hs⟩
  unfold Bd
  rw [hz]
  exact hn
def rd (N : Cn) (n : Int) : Nat := if nm n then N n.toNat else 0
set_option maxRecDepth 100000 in
set_option maxHeartbeats 4000000 in
theorem read_17 (b : Nat) (N : Cn) (n : Int) (w : World) (hB : Bd w b 0 N) :
    Calls Tryd.prog 17 #[.pointer (some ⟨b, 0, none⟩), .int .i64 n] w fun e w' => e = .returned (.int .u64 (rd N n : Nat)) ∧ Bd w' b 0 N ∧ Kp (· = b) w w' := by
  have h38 := fun W => isName_38 n W
  cases hn : nm n
  · rw [hn] at h38
    simp only [rd, hn]
    go_enter_defers Tryd.func17, Tryd.ntmps17
    go_wp2_with (go_at_call 38; (with_reducible refine (h38 _).mono ?_); rintro e w1 ⟨rfl, h1⟩; (have h2 := h1.symm); subst h2)
    exact ⟨_, results_tmp rfl _ _ _, rfl, hB, Kp.refl _ _⟩
  · rw [hn] at h38
    obtain ⟨i, hi, rfl⟩ := nm_yes hn
    have hl := hB.lock
    have hf := hB.fz 0
    have hB1 := hB.setLock 1
    have hc := hB1.get hi
    have hl1 := hB1.lock
    have hf1 := hB1.fz 0
    have e1 : (i : Int) + 1 - 1 = (i : Int) := by omega
    have hi2 : (i : Int) < 30 := by omega
    have er : rd N ((i : Int) + 1) = N (i + 1) := by simp only [rd, hn, if_true]; congr 1
    rw [er]
    clear er hn
    go_enter_defers Tryd.func17, Tryd.ntmps17
    go_wp2_with (first | (go_at_call 38; (with_reducible refine (h38 _).mono ?_); rintro e w1 ⟨rfl, h1⟩; (have h2 := h1.symm); subst h2) | (go_at_call 36; refine (lock_free Tryd.muLib ⟨b, 0, none⟩ _ hl hf).mono ?_; rintro e w' ⟨rfl, rfl⟩))
    refine leaves_cons (f := 37) (args := #[.pointer (some ⟨b, 0, none⟩)]) (by simp) (by simp [go_sem]) ?_
    refine (unlock_deferred Tryd.muLib ⟨b, 0, none⟩ .returning _ hl1 hf1).mono ?_
    rintro e u' w'' ⟨rfl, rfl, rfl⟩
    exact ⟨_, results_tmp rfl _ _ _, rfl, hB1.setLock 0, (Kp.setCell w b 0 _).then (Kp.setCell _ b 0 _)⟩
set_option maxRecDepth 100000 in
set_option maxHeartbeats 4000000 in
theorem add_23 (b : Nat) (N : Cn) (n : Int) (x : Nat) (w : World) (hB : Bd w b 0 N) (hN : Fit N) (hx : x ≤ 18446744073709551615) :
    Calls Tryd.prog 23 #[.pointer (some ⟨b, 0, none⟩), .int .i64 n, .int .u64 (x : Nat)] w fun e w' => e = .returned (.tuple #[]) ∧ Bd w' b 0 (if nm n then plus N (sgl n.toNat x) else N) ∧ Kp (· = b) w w' := by
  have h38 := fun W => isName_38 n W
  cases hn : nm n
  · rw [hn] at h38
    go_enter_defers Tryd.func23, Tryd.ntmps23
    go_wp2_with (go_at_call 38; (with_reducible refine (h38 _).mono ?_); rintro e w1 ⟨rfl, h1⟩; (have h2 := h1.symm); subst h2)
    exact ⟨_, results_none rfl _ _ _, rfl, hB, Kp.refl _ _⟩
  · rw [hn] at h38
    obtain ⟨i, hi, rfl⟩ := nm_yes hn
    have hl := hB.lock
    have hf := hB.fz 0
    have hB1 := hB.setLock 1
    have h45 := add_45 b 1 N i x _ hB1 hi hN hx
    have er : ((i : Int) + 1).toNat = i + 1 := by omega
    rw [er]
    clear er hn
    go_enter_defers Tryd.func23, Tryd.ntmps23
    go_wp2_with (first | (go_at_call 38; (with_reducible refine (h38 _).mono ?_); rintro e w1 ⟨rfl, h1⟩; (have h2 := h1.symm); subst h2) | (go_at_call 36; refine (lock_free Tryd.muLib ⟨b, 0, none⟩ _ hl hf).mono ?_; rintro e w' ⟨rfl, rfl⟩) | (go_at_call 45; (with_reducible refine h45.mono ?_); rintro e w5 ⟨rfl, hb5, hk5⟩))
    have hl2 := hb5.lock
    have hf2 := hb5.fz 0
    refine leaves_cons (f := 37) (args := #[.pointer (some ⟨b, 0, none⟩)]) (by simp) (by simp [go_sem]) ?_
    refine (unlock_deferred Tryd.muLib ⟨b, 0, none⟩ .returning _ hl2 hf2).mono ?_
    rintro e u' w'' ⟨rfl, rfl, rfl⟩
    exact ⟨_, results_none rfl _ _ _, rfl, hb5.setLock 0, ((Kp.setCell w b 0 _).then hk5).then (Kp.setCell _ b 0 _)⟩
set_option maxRecDepth 100000 in
set_option maxHeartbeats 4000000 in
theorem set_24 (b : Nat) (N : Cn) (n : Int) (x : Nat) (w : World) (hB : Bd w b 0 N) :
    Calls Tryd.prog 24 #[.pointer (some ⟨b, 0, none⟩), .int .i64 n, .int .u64 (x : Nat)] w fun e w' => e = .returned (.tuple #[]) ∧ Bd w' b 0 (if nm n then upd N n.toNat x else N) ∧ Kp (· = b) w w' := by
  have h38 := fun W => isName_38 n W
  cases hn : nm n
  · rw [hn] at h38
    go_enter_defers Tryd.func24, Tryd.ntmps24
    go_wp2_with (go_at_call 38; (with_reducible refine (h38 _).mono ?_); rintro e w1 ⟨rfl, h1⟩; (have h2 := h1.symm); subst h2)
    exact ⟨_, results_none rfl _ _ _, rfl, hB, Kp.refl _ _⟩
  · rw [hn] at h38
    obtain ⟨i, hi, rfl⟩ := nm_yes hn
    have hl := hB.lock
    have hf := hB.fz 0
    have hB1 := hB.setLock 1
    have hc := hB1.get hi
    have hfc := hB1.fz (2 + i)
    have e1 : (i : Int) + 1 - 1 = (i : Int) := by omega
    have hi2 : (i : Int) < 30 := by omega
    have er : ((i : Int) + 1).toNat = i + 1 := by omega
    rw [er]
    clear er hn
    have hB2 := hB1.set hi x
    have hl2 := hB2.lock
    have hf2 := hB2.fz 0
    go_enter_defers Tryd.func24, Tryd.ntmps24
    go_wp2_with (first | (go_at_call 38; (with_reducible refine (h38 _).mono ?_); rintro e w1 ⟨rfl, h1⟩; (have h2 := h1.symm); subst h2) | (go_at_call 36; refine (lock_free Tryd.muLib ⟨b, 0, none⟩ _ hl hf).mono ?_; rintro e w' ⟨rfl, rfl⟩))
    refine leaves_cons (f := 37) (args := #[.pointer (some ⟨b, 0, none⟩)]) (by simp) (by simp [go_sem]) ?_
    refine (unlock_deferred Tryd.muLib ⟨b, 0, none⟩ .returning _ hl2 hf2).mono ?_
    rintro e u' w'' ⟨rfl, rfl, rfl⟩
    exact ⟨_, results_none rfl _ _ _, rfl, hB2.setLock 0, ((Kp.setCell w b 0 _).then (Kp.setCell _ b (2 + i) _)).then (Kp.setCell _ b 0 _)⟩
set_option maxRecDepth 100000 in
set_option maxHeartbeats 4000000 in
theorem stays_46 (n : Int) (w : World) : Calls Tryd.prog 46 #[.int .i64 n] w fun e w' => e = .returned (.bool (n == 25 || n == 26 || n == 28)) ∧ w' = w := by
  go_enter Tryd.func46, Tryd.ntmps46
  go_wp2
  all_goals (go_ret; refine ⟨?_, rfl⟩; simp_all)
/-- What a reset leaves of the first i names. -/
def rst (N : Cn) (i : Nat) : Cn := fun n => if 1 ≤ n ∧ n ≤ i ∧ ¬ (n = 25 ∨ n = 26 ∨ n = 28) then 0 else N n
theorem rst_zero (N : Cn) : rst N 0 = N := by funext n; simp only [rst]; rw [if_neg (by omega)]
theorem rst_keep (N : Cn) (i : Nat) (h : i + 1 = 25 ∨ i + 1 = 26 ∨ i + 1 = 28) : rst N i = rst N (i + 1) := by
  funext n; simp only [rst]
  by_cases c : 1 ≤ n ∧ n ≤ i ∧ ¬ (n = 25 ∨ n = 26 ∨ n = 28)
  · rw [if_pos c, if_pos (by omega)]
  · rw [if_neg c, if_neg (by omega)]
theorem rst_set (N : Cn) (i : Nat) (h : ¬ (i + 1 = 25 ∨ i + 1 = 26 ∨ i + 1 = 28)) : upd (rst N i) (i + 1) 0 = rst N (i + 1) := by
  funext n; simp only [rst, upd]
  by_cases e : n = i + 1
  · rw [if_pos e, if_pos (by omega)]
  · rw [if_neg e]
    by_cases c : 1 ≤ n ∧ n ≤ i ∧ ¬ (n = 25 ∨ n = 26 ∨ n = 28)
    · rw [if_pos c, if_pos (by omega)]
    · rw [if_neg c, if_neg (by omega)]
set_option maxRecDepth 100000 in
set_option maxHeartbeats 4000000 in
theorem reset_26 (b : Nat) (N : Cn) (w : World) (hB : Bd w b 0 N) :
    Calls Tryd.prog 26 #[.pointer (some ⟨b, 0, none⟩)] w fun e w' => e = .returned (.tuple #[]) ∧ Bd w' b 0 (rst N 30) ∧ Kp (· = b) w w' := by
  have hl := hB.lock
  have hf := hB.fz 0
  have hB1 := hB.setLock 1
  have hK1 := Kp.setCell w b 0 (.int .i32 1)
  go_enter_defers Tryd.func26, Tryd.ntmps26
  go_wp2_with (go_at_call 36; refine (lock_free Tryd.muLib ⟨b, 0, none⟩ _ hl hf).mono ?_; rintro e w' ⟨rfl, rfl⟩)
  generalize w.setCell ⟨b, 0, none⟩ (.int .i32 1) = W at *
  go_loopw [10] (fun v wr => ∃ i : Nat, i ≤ 30 ∧ v = .int .i64 i ∧ Bd wr b 1 (rst N i) ∧ Kp (· = b) W wr) (fun v _ => 30 - (intOf v).toNat)
  case atStart => exact ⟨0, by omega, rfl, by rw [rst_zero]; exact hB1, Kp.refl _ _⟩
  case round =>
    obtain ⟨i, hi, rfl, hb, hk⟩ := hrel
    rcases (by omega : i < 30 ∨ i = 30) with hlt | rfl
    · have h46 := fun X => stays_46 ((i : Int) + 1) X
      have d1 : (i : Int) < 30 := by omega
      have hc := hb.get hlt
      have hfc := hb.fz (2 + i)
      by_cases hst : i + 1 = 25 ∨ i + 1 = 26 ∨ i + 1 = 28
      · have e : ((i : Int) + 1 == 25 || (i : Int) + 1 == 26 || (i : Int) + 1 == 28) = true := by
          simp only [Bool.or_eq_true, beq_iff_eq]; omega
        rw [e] at h46
        rw [rst_keep N i hst] at hb
        clear e hst
        go_wp2_with (go_at_call 46; (with_reducible refine (h46 _).mono ?_); rintro e w1 ⟨rfl, h1⟩; (have h2 := h1.symm); subst h2)
        refine ⟨⟨i + 1, by omega, by simp, hb, hk⟩, ?_⟩
        simp only [intOf]; omega
      · have e : ((i : Int) + 1 == 25 || (i : Int) + 1 == 26 || (i : Int) + 1 == 28) = false := by
          simp only [Bool.or_eq_false_iff, beq_eq_false_iff_ne]; omega
        rw [e] at h46
        have hb2 := hb.set hlt 0
        rw [rst_set N i hst] at hb2
        clear e hst
        go_wp2_with (go_at_call 46; (with_reducible refine (h46 _).mono ?_); rintro e w1 ⟨rfl, h1⟩; (have h2 := h1.symm); subst h2)
        refine ⟨⟨i + 1, by omega, by simp, hb2, hk.then (Kp.setCell _ b (2 + i) _)⟩, ?_⟩
        simp only [intOf]; omega
    · have hl2 := hb.lock
      have hf2 := hb.fz 0
      go_wp2
      refine leaves_cons (f := 37) (args := #[.pointer (some ⟨b, 0, none⟩)]) (by simp) (by simp [go_sem]) ?_
      refine (unlock_deferred Tryd.muLib ⟨b, 0, none⟩ .returning _ hl2 hf2).mono ?_
      rintro e u' w'' ⟨rfl, rfl, rfl⟩
      exact ⟨_, results_none rfl _ _ _, rfl, hb.setLock 0, (hK1.then hk).then (Kp.setCell _ b 0 _)⟩
end Go.Proofs.YtonbkpfnpnlkpaaDoor
