/-
  The search for a server.
-/
import Derived.Test.YtphhofbdekbggaaSf
namespace Go.Proofs.Ytphhofbdekbggaa
open Go.RowKit
set_option linter.unusedVariables false
set_option linter.unusedSimpArgs false

/-- Where a name would stand. -/
structure Ls (L : List Sv) (t : List UInt8) (i : Nat) : Prop where
  le : i ≤ L.length
  lo : ∀ k, k < i → (sat L k).1.toList < t
  hi : ∀ k, i ≤ k → k < L.length → ¬ (sat L k).1.toList < t
theorem cmpS_neg (s t : ByteArray) : decide (cmpS s t < 0) = decide (s.toList < t.toList) := by
  unfold cmpS
  rw [bytesLess_eq]
  by_cases h : s.toList < t.toList
  · simp [h]
  · by_cases h2 : s.toList = t.toList
    · rw [h2] at h
      simp [h2, h]
    · simp [h, h2]
theorem cmpS_zero (s t : ByteArray) : decide (cmpS s t = 0) = decide (s.toList = t.toList) := by
  unfold cmpS
  rw [bytesLess_eq]
  by_cases h : s.toList < t.toList
  · have : ¬ s.toList = t.toList := fun e => List.lt_irrefl _ (e ▸ h)
    simp [h, this]
  · by_cases h2 : s.toList = t.toList
    · rw [h2] at h
      simp [h2, h]
    · simp [h, h2]
/-- Does a name stand there? -/
def isAt (L : List Sv) (t : List UInt8) (i : Nat) : Bool := decide (i < L.length) && decide ((sat L i).1.toList = t)
set_option maxHeartbeats 4000000 in
theorem search_48 {a : Option Addr} {g n c : Nat} {L : List Sv} {t : ByteArray} {w : World} (hn : L.length = n) (hn2 : n ≤ 1000) (ha : 0 < n → a = some ⟨g, 0, none⟩) (hP : SvAt w g L) (hR : Asc L) :
    Calls Try.prog 48 #[.slice a n c, .string t, .func (.func 49) #[] #[]] w fun e w' => (∃ (i : Nat), e = .returned (.tuple #[.int .i64 i, .bool (isAt L t.toList i)]) ∧ Ls L t.toList i) ∧ w.grownBy w' none := by
  go_enter Try.func48, Try.ntmps48
  go_wp2_with fail
  go_loopw [9, 10] (fun x y wr => ∃ (i j : Nat), i ≤ j ∧ j ≤ n ∧ x = .int .i64 i ∧ y = .int .i64 j ∧ (∀ k, k < i → (sat L k).1.toList < t.toList) ∧ (∀ k, j ≤ k → k < n → ¬ (sat L k).1.toList < t.toList) ∧ w.grownBy wr none) (fun x y _ => (intOf y).toNat - (intOf x).toNat)
  case atStart => exact ⟨0, n, by omega, by omega, rfl, rfl, by omega, by omega, gb_refl _ _⟩
  case round =>
    obtain ⟨i, j, hij, hj, rfl, rfl, hlo, hhi, hg⟩ := hrel
    by_cases hlt : i < j
    · obtain rfl := ha (by omega)
      have hd : decide (i < j) = true := by simp [hlt]
      have hP' := hP.grown hg
      obtain ⟨c0, c1⟩ := hP' ((i + j) / 2) (by omega)
      have hcl := fun W => clo_49 (sat L ((i + j) / 2)).1 t (sat L ((i + j) / 2)).2 W
      have hneg := cmpS_neg (sat L ((i + j) / 2)).1 t
      have HLT : Hid ((sat L ((i + j) / 2)).1.toList < t.toList → ∀ k, k < (i + j) / 2 + 1 → (sat L k).1.toList < t.toList) := fun hx k hk => by
        by_cases hk2 : k < (i + j) / 2
        · exact List.lt_trans (hR k ((i + j) / 2) hk2 (by omega)) hx
        · obtain rfl : k = (i + j) / 2 := by omega
          exact hx
      have HGE : Hid (¬ (sat L ((i + j) / 2)).1.toList < t.toList → ∀ k, (i + j) / 2 ≤ k → k < n → ¬ (sat L k).1.toList < t.toList) := fun hx k hk1 hk2 => by
        by_cases hk3 : (i + j) / 2 < k
        · intro h4
          exact hx (List.lt_trans (hR ((i + j) / 2) k hk3 (by omega)) h4)
        · obtain rfl : k = (i + j) / 2 := by omega
          exact hx
      have HLO : Hid _ := hlo
      have HHI : Hid _ := hhi
      have HNEG : Hid _ := hneg
      obtain ⟨lt, hltb⟩ : ∃ lt : Bool, decide (cmpS (sat L ((i + j) / 2)).1 t < 0) = lt := ⟨_, rfl⟩
      have HB : Hid (lt = true ↔ (sat L ((i + j) / 2)).1.toList < t.toList) := by
        show lt = true ↔ _
        rw [← hltb, hneg]
        simp
      generalize (sat L ((i + j) / 2)).1 = pa at *
      generalize (sat L ((i + j) / 2)).2 = pb at *
      generalize cmpS pa t = cv at *
      have HG : Hid (w.grownBy wr none) := hg
      clear hlo hhi hP hP' hg hneg HNEG
      cases lt with
      | true =>
        go_wp2_with (go_at_call 49; go_must (refine (hcl _).mono ?_); rintro y w' ⟨rfl, q, os, rfl⟩)
        go_roundw
        case rel => exact ⟨(i + j) / 2 + 1, j, by omega, by omega, by go_num, rfl, HLT.out (HB.out.1 (by trivial)), HHI.out, gb_trans HG.out (gb_grow _ _ _)⟩
        case measure => simp [intOf]; omega
      | false =>
        go_wp2_with (go_at_call 49; go_must (refine (hcl _).mono ?_); rintro y w' ⟨rfl, q, os, rfl⟩)
        go_roundw
        case rel => exact ⟨i, (i + j) / 2, by omega, by omega, rfl, by go_num, HLO.out, HGE.out (fun h => by simpa using HB.out.2 h), gb_trans HG.out (gb_grow _ _ _)⟩
        case measure => simp [intOf]; omega
    · obtain rfl : i = j := by omega
      have hlb : Hid (Ls L t.toList i) := ⟨by omega, hlo, fun k h1 h2 => hhi k h1 (by omega)⟩
      have HG : Hid (w.grownBy wr none) := hg
      by_cases hin : i < n
      · obtain rfl := ha (by omega)
        obtain ⟨c0, c1⟩ := (hP.grown hg) i (by omega)
        have hcl := fun W => clo_49 (sat L i).1 t (sat L i).2 W
        have hzz := cmpS_zero (sat L i).1 t
        have hat : isAt L t.toList i = decide ((sat L i).1.toList = t.toList) := by unfold isAt; rw [hn]; simp [hin]
        rw [← hzz] at hat
        have HAT : Hid _ := hat
        generalize (sat L i).1 = pa at *
        generalize (sat L i).2 = pb at *
        generalize cmpS pa t = cv at *
        clear hlo hhi hP hg hat hzz
        go_wp2_with (go_at_call 49; go_must (refine (hcl _).mono ?_); rintro y w' ⟨rfl, q, os, rfl⟩)
        go_ret2
        exact ⟨⟨i, by rw [HAT.out]; by_cases h : cv = 0 <;> simp [h], hlb.out⟩, gb_trans HG.out (gb_grow _ _ _)⟩
      · have hat : isAt L t.toList i = false := by unfold isAt; rw [hn]; simp [hin]
        have HAT : Hid _ := hat
        clear hlo hhi hP hg hat
        go_wp2_with fail
        go_ret2
        exact ⟨⟨i, by rw [HAT.out]; rfl, hlb.out⟩, HG.out⟩
end Go.Proofs.Ytphhofbdekbggaa
