/-
  Append: the call.
-/
import Derived.Test.YtndjimdegkdljaaZc
namespace Go.Proofs.Ytndjimdegkdljaa
open Go.RowKit Go.MapKept
set_option linter.unusedVariables false
set_option linter.unusedSimpArgs false
attribute [local go_sem] Oper.semAt_some

/-- Append to a disk with room for rm bytes: what it answers, and leaves. -/
def doAp (M : Md) (rm : Nat) (s b : Bs) : Int × Md :=
  if okN s = true then (match M.names s with | some k => ((if min b.length rm < b.length then 181 else 0), M.put k ((M.file k).1 ++ b.take (min b.length rm), (M.file k).2)) | none => (182, M)) else (186, M)
set_option maxRecDepth 100000 in
set_option maxHeartbeats 4000000 in
theorem add_65 {w : World} {p : Pl} {M : Md} (h : RP w p M) (s : Bs) (hl : s.length ≤ 9223372036854775807) {L : List (Bs × Nat)} (hL : Rep L M.names) (hsm : sumL M L ≤ 1000000000000)
    {b : Bs} {g cp : Nat} (hb : Rdr w 5 1 g b.length cp (b.map b8)) (rm : Nat) (hrm : (rm : Int) = max (M.space - (sumL M L : Int)) 0) (hbd : ∀ k, (M.file k).1.length + b.length ≤ M.acts * 2097152) (hbd2 : ∀ k, (M.file k).1.length + b.length ≤ 1000000000) :
    Calls Try.prog 65 #[pv p.d, sv s, .slice (some ⟨g, 0, none⟩) b.length cp] w fun e w' => e = .returned (.int .i64 (doAp M rm s b).1) ∧ ∃ p', RP w' p' (doAp M rm s b).2 ∧ Aft w w' p p' := by
  unfold doAp
  by_cases hs : okN s = true
  · rw [if_pos hs]
    cases hn : M.names s with
    | some k => exact add_some h s hl hs hn hL hsm hb rm hrm (hbd k) (hbd2 k)
    | none =>
      have h56 := find_none h s hl hs hn
      have HR := Lib.hid h
      clear h hb
      simp only
      go_enter Try.func65, Try.ntmps65
      go_wp2_with (go_at_call 56; go_must (refine h56.mono ?_); rintro e w1 ⟨rfl, hw1⟩; have hw2 := hw1.symm; subst hw2)
      go_ret
      exact ⟨rfl, p, HR.out, Aft.refl _ _⟩
  · rw [if_neg hs]
    have h56 := find_no h s hl (by simpa using hs)
    have HR := Lib.hid h
    clear h hb
    simp only
    go_enter Try.func65, Try.ntmps65
    go_wp2_with (go_at_call 56; go_must (refine h56.mono ?_); rintro e w1 ⟨rfl, hw1⟩; have hw2 := hw1.symm; subst hw2)
    go_ret
    exact ⟨rfl, p, HR.out, Aft.refl _ _⟩
set_option maxRecDepth 100000 in
set_option maxHeartbeats 4000000 in
theorem clo_64 {w : World} {p : Pl} {M : Md} (h : RP w p M) (s : Bs) (hl : s.length ≤ 9223372036854775807) {L : List (Bs × Nat)} (hL : Rep L M.names) (hsm : sumL M L ≤ 1000000000000)
    {b : Bs} {g cp : Nat} (hb : Rdr w 5 1 g b.length cp (b.map b8)) (rm : Nat) (hrm : (rm : Int) = max (M.space - (sumL M L : Int)) 0) (hbd : ∀ k, (M.file k).1.length + b.length ≤ M.acts * 2097152) (hbd2 : ∀ k, (M.file k).1.length + b.length ≤ 1000000000)
    {b1 b2 b3 : Nat} (hb1 : Box w 25 b1 #[pv p.d]) (hb2 : Box w 9 b2 #[sv s]) (hb3 : Box w 38 b3 #[.slice (some ⟨g, 0, none⟩) b.length cp]) :
    Calls Try.prog 64 #[pv b1, pv b2, pv b3] w fun e w' => e = .returned (.int .i64 (doAp M rm s b).1) ∧ ∃ p', RP w' p' (doAp M rm s b).2 ∧ Aft w w' p p' := by
  have c1 : w.cell? ⟨b1, 0, none⟩ = some (pv p.d) := hb1.cell 0
  have c2 : w.cell? ⟨b2, 0, none⟩ = some (sv s) := hb2.cell 0
  have c3 : w.cell? ⟨b3, 0, none⟩ = some _ := hb3.cell 0
  have h65 := add_65 h s hl hL hsm hb rm hrm hbd hbd2
  have HR := Lib.hid h
  clear h hb1 hb2 hb3 hb hbd hbd2 hrm
  generalize doAp M rm s b = r at *
  go_enter Try.func64, Try.ntmps64
  go_wp2_with (go_at_call 65; go_must (refine h65.mono ?_); rintro e w1 ⟨rfl, hp⟩)
  go_ret
  exact ⟨rfl, hp⟩
end Go.Proofs.Ytndjimdegkdljaa
