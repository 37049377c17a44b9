/-
  The document's names and lines; the law's comparison of lines.
-/
import Derived.Test.YtonbkpfnpnlkpaaDoorJ
import Derived.Test.YtonbkpfnpnlkpaaDoorM
namespace Go.Proofs.YtonbkpfnpnlkpaaDoor
open Go.RowKit
set_option linter.unusedVariables false
set_option linter.unusedSimpArgs false
attribute [local go_sem] Oper.semAt_some

def nmA : Array Value := ((List.range 30).map (fun i => sv (wrd (i + 1)))).toArray
theorem nmA_get (i : Nat) (h : i < 30) : nmA[i]? = some (sv (wrd (i + 1))) := by simp [nmA, h]
set_option maxRecDepth 100000 in
set_option maxHeartbeats 4000000 in
theorem rname_27 (n : Int) (w : World) : Calls Tryd.prog 27 #[.int .i64 n] w fun e w' => e = .returned (sv (nmW n)) ∧ w.grownBy w' none := by
  have hz : nmA = #[.string ⟨#[99, 109, 100, 95, 103, 101, 116]⟩, .string ⟨#[99, 109, 100, 95, 115, 101, 116]⟩, .string ⟨#[99, 109, 100, 95, 116, 111, 117, 99, 104]⟩, .string ⟨#[99, 109, 100, 95, 102, 108, 117, 115, 104]⟩, .string ⟨#[99, 109, 100, 95, 109, 101, 116, 97]⟩, .string ⟨#[103, 101, 116, 95, 104, 105, 116, 115]⟩, .string ⟨#[103, 101, 116, 95, 109, 105, 115, 115, 101, 115]⟩, .string ⟨#[103, 101, 116, 95, 101, 120, 112, 105, 114, 101, 100]⟩, .string ⟨#[103, 101, 116, 95, 102, 108, 117, 115, 104, 101, 100]⟩, .string ⟨#[100, 101, 108, 101, 116, 101, 95, 104, 105, 116, 115]⟩, .string ⟨#[100, 101, 108, 101, 116, 101, 95, 109, 105, 115, 115, 101, 115]⟩, .string ⟨#[105, 110, 99, 114, 95, 104, 105, 116, 115]⟩, .string ⟨#[105, 110, 99, 114, 95, 109, 105, 115, 115, 101, 115]⟩, .string ⟨#[100, 101, 99, 114, 95, 104, 105, 116, 115]⟩, .string ⟨#[100, 101, 99, 114, 95, 109, 105, 115, 115, 101, 115]⟩, .string ⟨#[99, 97, 115, 95, 104, 105, 116, 115]⟩, .string ⟨#[99, 97, 115, 95, 98, 97, 100, 118, 97, 108]⟩, .string ⟨#[99, 97, 115, 95, 109, 105, 115, 115, 101, 115]⟩, .string ⟨#[116, 111, 117, 99, 104, 95, 104, 105, 116, 115]⟩, .string ⟨#[116, 111, 117, 99, 104, 95, 109, 105, 115, 115, 101, 115]⟩, .string ⟨#[101, 118, 105, 99, 116, 105, 111, 110, 115]⟩, .string ⟨#[114, 101, 99, 108, 97, 105, 109, 101, 100]⟩, .string ⟨#[114, 101, 102, 117, 115, 101, 100]⟩, .string ⟨#[116, 111, 116, 97, 108, 95, 105, 116, 101, 109, 115]⟩, .string ⟨#[99, 117, 114, 114, 95, 105, 116, 101, 109, 115]⟩, .string ⟨#[98, 121, 116, 101, 115]⟩, .string ⟨#[116, 111, 116, 97, 108, 95, 99, 111, 110, 110, 101, 99, 116, 105, 111, 110, 115]⟩, .string ⟨#[99, 117, 114, 114, 95, 99, 111, 110, 110, 101, 99, 116, 105, 111, 110, 115]⟩, .string ⟨#[99, 114, 97, 119, 108, 101, 100]⟩, .string ⟨#[98, 97, 100, 95, 108, 105, 110, 101, 115]⟩] := by rfl
  have hn := Box.new w 9 nmA
  have hg := World.grownBy_alloc w (.cells nmA 9) none
  have hc : ∀ i, i < 30 → (w.alloc (.cells nmA 9)).cell? ⟨w.heap.size, i, none⟩ = some (sv (wrd (i + 1))) := fun i hi => (hn.cell i).trans (nmA_get i hi)
  clear hn
  rw [hz] at hg hc
  clear hz
  go_enter Tryd.func27, Tryd.ntmps27
  go_wp2
  generalize w.alloc (.cells #[.string ⟨#[99, 109, 100, 95, 103, 101, 116]⟩, .string ⟨#[99, 109, 100, 95, 115, 101, 116]⟩, .string ⟨#[99, 109, 100, 95, 116, 111, 117, 99, 104]⟩, .string ⟨#[99, 109, 100, 95, 102, 108, 117, 115, 104]⟩, .string ⟨#[99, 109, 100, 95, 109, 101, 116, 97]⟩, .string ⟨#[103, 101, 116, 95, 104, 105, 116, 115]⟩, .string ⟨#[103, 101, 116, 95, 109, 105, 115, 115, 101, 115]⟩, .string ⟨#[103, 101, 116, 95, 101, 120, 112, 105, 114, 101, 100]⟩, .string ⟨#[103, 101, 116, 95, 102, 108, 117, 115, 104, 101, 100]⟩, .string ⟨#[100, 101, 108, 101, 116, 101, 95, 104, 105, 116, 115]⟩, .string ⟨#[100, 101, 108, 101, 116, 101, 95, 109, 105, 115, 115, 101, 115]⟩, .string ⟨#[105, 110, 99, 114, 95, 104, 105, 116, 115]⟩, .string ⟨#[105, 110, 99, 114, 95, 109, 105, 115, 115, 101, 115]⟩, .string ⟨#[100, 101, 99, 114, 95, 104, 105, 116, 115]⟩, .string ⟨#[100, 101, 99, 114, 95, 109, 105, 115, 115, 101, 115]⟩, .string ⟨#[99, 97, 115, 95, 104, 105, 116, 115]⟩, .string ⟨#[99, 97, 115, 95, 98, 97, 100, 118, 97, 108]⟩, .string ⟨#[99, 97, 115, 95, 109, 105, 115, 115, 101, 115]⟩, .string ⟨#[116, 111, 117, 99, 104, 95, 104, 105, 116, 115]⟩, .string ⟨#[116, 111, 117, 99, 104, 95, 109, 105, 115, 115, 101, 115]⟩, .string ⟨#[101, 118, 105, 99, 116, 105, 111, 110, 115]⟩, .string ⟨#[114, 101, 99, 108, 97, 105, 109, 101, 100]⟩, .string ⟨#[114, 101, 102, 117, 115, 101, 100]⟩, .string ⟨#[116, 111, 116, 97, 108, 95, 105, 116, 101, 109, 115]⟩, .string ⟨#[99, 117, 114, 114, 95, 105, 116, 101, 109, 115]⟩, .string ⟨#[98, 121, 116, 101, 115]⟩, .string ⟨#[116, 111, 116, 97, 108, 95, 99, 111, 110, 110, 101, 99, 116, 105, 111, 110, 115]⟩, .string ⟨#[99, 117, 114, 114, 95, 99, 111, 110, 110, 101, 99, 116, 105, 111, 110, 115]⟩, .string ⟨#[99, 114, 97, 119, 108, 101, 100]⟩, .string ⟨#[98, 97, 100, 95, 108, 105, 110, 101, 115]⟩] 9) = W at *
  go_loopw [4] (fun v wr => ∃ i : Nat, i ≤ 30 ∧ v = .int .i64 i ∧ wr = W ∧ ∀ j : Nat, j < i → ¬ ((j : Int) + 1 = n)) (fun v _ => 30 - (intOf v).toNat)
  case atStart => exact ⟨0, by omega, rfl, rfl, fun j hj => by omega⟩
  case round =>
    obtain ⟨i, hi, rfl, rfl, hno⟩ := hrel
    rcases (by omega : i < 30 ∨ i = 30) with hlt | rfl
    · have hci := hc i hlt
      have d1 : (i : Int) < 30 := by omega
      by_cases he : (i : Int) + 1 = n
      · have er : nmW n = wrd (i + 1) := by
          subst he
          simp only [nmW]; rw [if_pos (by simp [nm]; omega)]; congr 1
        subst he
        generalize wrd (i + 1) = x at *
        clear hc hno
        go_wp2
        go_ret
        exact ⟨by rw [er]; rfl, hg⟩
      · clear hc
        go_wp2
        refine ⟨⟨i + 1, by omega, by simp, trivial, fun j hj => ?_⟩, ?_⟩
        · rcases (by omega : j < i ∨ j = i) with h1 | rfl
          · exact hno j h1
          · exact he
        · simp only [intOf]; omega
    · have er : nmW n = [] := by
        simp only [nmW]
        rw [if_neg]
        intro h
        obtain ⟨j, hj, rfl⟩ := nm_yes h
        exact hno j hj rfl
      clear hc hno
      go_wp2
      go_ret
      exact ⟨by rw [er]; rfl, hg⟩
end Go.Proofs.YtonbkpfnpnlkpaaDoor
