import Derived.Test.YtdlaanigfhlolaaGreatRg
/-
  The document's table: the first Put.
-/
namespace Go.Proofs.YtdlaanigfhlolaaGreat
open Go.RowKit
set_option linter.unusedVariables false

section
variable {w w' : World} {rb qb wb : Nat}

set_option maxRecDepth 100000 in
set_option maxHeartbeats 1000000 in
theorem rput5 {mo : Int} {H : Nat} (hb : Box w 90 wb #[.pointer (some ⟨qb, 0, none⟩), .slice none 0 0, .int .i64 16, .int .i64 mo, .int .i64 0]) {ka va : Option Addr} {kn kc vn vc : Nat} {fl ex to tk st mk l0 l1 l2 : Int} (hrd : ∀ W, w.grownBy W none → Calls Tryz.prog 11 #[.pointer (some ⟨qb, 0, none⟩), .int .u64 H] W fun y w' => y = .returned (.tuple #[.agg #[.bool true, .slice ka kn kc, .slice va vn vc, .int .u64 fl, .int .i64 ex, .int .i64 to, .int .u64 tk, .int .i64 st, .int .i64 mk, .int .u64 l0, .int .u64 l1, .int .u64 l2], .int .i64 0]) ∧ W.grownBy w' none) :
    Calls Tryz.prog 73 #[.pointer (some ⟨wb, 0, none⟩), .int .u64 H] w fun y w' => y = .returned (.int .i64 0) ∧ w.grownBy w' (some wb) ∧ ∃ gin cin, w.heap.size ≤ gin ∧ Box w' 90 wb #[.pointer (some ⟨qb, 0, none⟩), .slice (some ⟨gin, 0, none⟩) 1 cin, .int .i64 16, .int .i64 mo, .int .i64 0] ∧ w'.cell? ⟨gin, 0, none⟩ = some (.int .u64 H) := by
  have hcs := fun W (hf : w.grownBy W none) => hb.kept hf (by simp)
  have hfn := fun W (hf : w.grownBy W none) => rfind5_nil (hcs W hf) ka kn kc
  have c0 := hb.cell 0
  simp at c0
  have hrw := hrd w (gb_refl _ _)
  go_enter Tryz.func73, Tryz.ntmps73
  go_wp2_with (first | (go_at_call 11; go_must (refine hrw.mono ?_); rintro y w1 ⟨rfl, hf1⟩) | (go_at_call 50; go_must (refine (hfn _ (gb_alloc hf1 _)).mono ?_); rintro y w2 ⟨rfl, hf2⟩; (have hF2 := gb_trans (gb_alloc hf1 _) hf2); (have hb2 := hcs _ hF2); (have d1 := hb2.cell 1); simp at d1; (have ca : ∀ o, (w2.alloc o).cell? ⟨wb, 1, none⟩ = some (.slice none 0 0) := fun o => gb_cellN (World.grownBy_alloc w2 o none) d1)) | (at_builtin; go_must (refine push40 rfl _ _ rfl 0 (.slice none 0 0) 0 [] (by rfl) (World.ownsRow_nil _ _ _ _) (H : Int) (by rfl) (by omega) (Nat.zero_le _) ?_); intro g1 cap1 w4 ho4 hg4 hat4; (have hg5 : w2.grownBy w4 none := hg4); (have hb4 := hb2.kept hg5 (by simp)); (have e1 := hb4.cell 1); simp at e1; (have z1 := hb4.fz 1)) | fail)
  have hb5 : Box (w4.setCell ⟨wb, 1, none⟩ (.slice (some ⟨g1, 0, none⟩) 1 cap1)) 90 wb #[.pointer (some ⟨qb, 0, none⟩), .slice (some ⟨g1, 0, none⟩) 1 cap1, .int .i64 16, .int .i64 mo, .int .i64 0] := hb4.set 1 _
  have hlt4 := hb2.lt
  have hg1 : w.heap.size ≤ g1 := by
    rcases hat4 with h | h
    · simp [Value.ownBlock] at h
    · have := hF2.size; omega
  have hHE : Hid (w.grownBy (w4.setCell ⟨wb, 1, none⟩ (.slice (some ⟨g1, 0, none⟩) 1 cap1)) (some wb) ∧ (w4.setCell ⟨wb, 1, none⟩ (.slice (some ⟨g1, 0, none⟩) 1 cap1)).cell? ⟨g1, 0, none⟩ = some (.int .u64 H)) := by
    refine ⟨gb_trans (gb_none _ (gb_trans hF2 hg5)) (gb_setCell (gb_refl _ _) _), ?_⟩
    have hc := row_cell ho4 0 (.int .u64 H) rfl
    refine gb_cell (gb_setCell (gb_refl w4 (some wb)) _) hc ?_
    obtain ⟨cur, hcc⟩ := row_block ho4 g1 rfl
    have := ne_of_type hcc hb4 (by decide)
    simpa using this
  have q1 := hb5.cell 1
  have q2 := hb5.cell 2
  have q3 := hb5.cell 3
  have q4 := hb5.cell 4
  simp at q1 q2 q3 q4
  clear ho4 hg4 hat4 hb4 e1 z1 hg5
  have HB5 : Hid (Box (w4.setCell ⟨wb, 1, none⟩ (.slice (some ⟨g1, 0, none⟩) 1 cap1)) 90 wb #[.pointer (some ⟨qb, 0, none⟩), .slice (some ⟨g1, 0, none⟩) 1 cap1, .int .i64 16, .int .i64 mo, .int .i64 0]) := hb5
  clear hb5
  generalize w4.setCell ⟨wb, 1, none⟩ (.slice (some ⟨g1, 0, none⟩) 1 cap1) = W5 at *
  go_quiet (fail)
  have hdr := gb_drewN (gb_refl W5 none) nq
  have HZ : Hid (w.grownBy (W5.drewN nq) (some wb) ∧ Box (W5.drewN nq) 90 wb #[.pointer (some ⟨qb, 0, none⟩), .slice (some ⟨g1, 0, none⟩) 1 cap1, .int .i64 16, .int .i64 mo, .int .i64 0] ∧ (W5.drewN nq).cell? ⟨g1, 0, none⟩ = some (.int .u64 H)) := ⟨gb_trans hHE.out.1 (gb_none _ hdr), HB5.out.kept hdr (by simp), gb_cellN hdr hHE.out.2⟩
  go_wp2
  go_ret
  exact ⟨rfl, HZ.out.1, g1, cap1, hg1, HZ.out.2.1, HZ.out.2.2⟩
end
end Go.Proofs.YtdlaanigfhlolaaGreat
