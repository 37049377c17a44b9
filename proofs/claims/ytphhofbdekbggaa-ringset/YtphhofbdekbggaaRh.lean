/-
  Points, told.
-/
import Derived.Test.YtphhofbdekbggaaRg
namespace Go.Proofs.Ytphhofbdekbggaa
open Go.RowKit
set_option linter.unusedVariables false
set_option linter.unusedSimpArgs false

set_option maxRecDepth 100000 in
set_option maxHeartbeats 2000000 in
theorem clone_37_no {w : World} {g c : Nat} :
    Calls Try.prog 37 #[.slice (some ⟨g, 0, none⟩) 0 c] w fun e w' => (∃ a' c', e = .returned (.slice a' 0 c')) ∧ w.grownBy w' none := by
  have hq : ∀ (W : World) (n c : Nat), Sem.run Try.prog (binOp .eql 30 (.slice (some ⟨g, 0, none⟩) n c) (.slice none 0 0)) W = .ok (.bool false) W := fun _ _ _ => by first | rfl | kernel_rfl | simp [binOp, go_sem]
  have ga := gb_alloc (gb_refl w none) (.cells #[] 49)
  go_enter Try.func37, Try.ntmps37
  go_wp2_with fail
  go_ret
  exact ⟨⟨_, _, rfl⟩, ga⟩
set_option maxRecDepth 100000 in
set_option maxHeartbeats 2000000 in
theorem points_14 {w : World} {g n c : Nat} {ps : List Pt} (h : PtAt w g ps) (hn : ps.length = n) (h0 : 0 < n) (hn2 : n ≤ 1000000) (s1 : Option Addr) (s2 s3 : Nat) :
    Calls Try.prog 14 #[.agg #[.slice s1 s2 s3, .slice (some ⟨g, 0, none⟩) n c]] w fun e w' => (∃ g' c', e = .returned (.slice (some ⟨g', 0, none⟩) n c') ∧ w'.ownsRow w.heap.size 49 3 (.slice (some ⟨g', 0, none⟩) n c') n (flatP ps)) ∧ w.grownBy w' none := by
  have hf1 : w.grownBy (w.alloc (.cells #[.slice s1 s2 s3, .slice (some ⟨g, 0, none⟩) n c] 32)) none := gb_alloc (gb_refl _ _) _
  have c1 : (w.alloc (.cells #[.slice s1 s2 s3, .slice (some ⟨g, 0, none⟩) n c] 32)).cell? ⟨w.heap.size, 1, none⟩ = some (.slice (some ⟨g, 0, none⟩) n c) := by simp
  have h37 := clone_37 (c := c) (h.grown hf1) hn h0 hn2
  clear h
  go_enter Try.func14, Try.ntmps14
  go_wp2_with (go_at_call 37; go_must (refine h37.mono ?_); rintro y w2 ⟨⟨g2, c2, rfl, hr⟩, hg2⟩)
  go_ret
  exact ⟨⟨_, _, rfl, row_base hr (by simp)⟩, gb_trans hf1 hg2⟩
set_option maxRecDepth 100000 in
set_option maxHeartbeats 2000000 in
theorem points_14_no {w : World} {g c : Nat} (s1 : Option Addr) (s2 s3 : Nat) :
    Calls Try.prog 14 #[.agg #[.slice s1 s2 s3, .slice (some ⟨g, 0, none⟩) 0 c]] w fun e w' => (∃ a' c', e = .returned (.slice a' 0 c')) ∧ w.grownBy w' none := by
  have hf1 : w.grownBy (w.alloc (.cells #[.slice s1 s2 s3, .slice (some ⟨g, 0, none⟩) 0 c] 32)) none := gb_alloc (gb_refl _ _) _
  have c1 : (w.alloc (.cells #[.slice s1 s2 s3, .slice (some ⟨g, 0, none⟩) 0 c] 32)).cell? ⟨w.heap.size, 1, none⟩ = some (.slice (some ⟨g, 0, none⟩) 0 c) := by simp
  have h37 := fun W => clone_37_no (w := W) (g := g) (c := c)
  go_enter Try.func14, Try.ntmps14
  go_wp2_with (go_at_call 37; go_must (refine (h37 _).mono ?_); rintro y w2 ⟨⟨g2, c2, rfl⟩, hg2⟩)
  go_ret
  exact ⟨⟨_, _, rfl⟩, gb_trans hf1 hg2⟩
theorem owner_25_no {w : World} {a s1 s4 : Option Addr} {s2 s3 c m cc : Nat} :
    Calls Try.prog 25 #[.agg #[.slice s1 s2 s3, .slice s4 0 c], .slice a m cc] w fun e w' => e = .returned (.tuple #[.int .i64 0, .int .i64 190]) ∧ w.grownBy w' none := by
  have hf1 : w.grownBy (w.alloc (.cells #[.slice s1 s2 s3, .slice s4 0 c] 32)) none := gb_alloc (gb_refl _ _) _
  have c1 : (w.alloc (.cells #[.slice s1 s2 s3, .slice s4 0 c] 32)).cell? ⟨w.heap.size, 1, none⟩ = some (.slice s4 0 c) := by simp
  go_enter Try.func25, Try.ntmps25
  go_wp2_with fail
  go_ret2
  exact ⟨rfl, hf1⟩
end Go.Proofs.Ytphhofbdekbggaa
