import Derived.Test.YtdlaanigfhlolaaGreatRg
/-
  The document's table: a Find of one.
-/
namespace Go.Proofs.YtdlaanigfhlolaaGreat
open Go.RowKit
set_option linter.unusedVariables false

section
variable {w w' : World} {rb qb wb : Nat} {F : Nat → Prop} {Q : Rl} {c d e : Int} {R : Rb} {iv : Value} {M : Nat} {its : Nat → List Value}

set_option maxRecDepth 100000 in
set_option maxHeartbeats 16000000 in
theorem rfind5_one {mo : Int} {bu mv : Int} {gin cin H : Nat} (hb : Box w 90 wb #[.pointer (some ⟨qb, 0, none⟩), .slice (some ⟨gin, 0, none⟩) 1 cin, .int .i64 bu, .int .i64 mo, .int .i64 mv]) (hin : w.cell? ⟨gin, 0, none⟩ = some (.int .u64 H)) {la : Bool} {ka va : Option Addr} {kn kc vn vc : Nat} {fl ex to tk st mk l0 l1 l2 : Int} (hrd : ∀ W, w.grownBy W none → Calls Tryz.prog 11 #[.pointer (some ⟨qb, 0, none⟩), .int .u64 H] W fun y w' => y = .returned (.tuple #[.agg #[.bool la, .slice ka kn kc, .slice va vn vc, .int .u64 fl, .int .i64 ex, .int .i64 to, .int .u64 tk, .int .i64 st, .int .i64 mk, .int .u64 l0, .int .u64 l1, .int .u64 l2], .int .i64 0]) ∧ W.grownBy w' none) {key : List Int} (hk : Has w ka kn key) (hkb : isBytes key) {a : Option Addr} {n cp : Nat} (hy : Has w a n key) :
    Calls Tryz.prog 50 #[.pointer (some ⟨wb, 0, none⟩), .slice a n cp] w fun y w' => y = .returned (.tuple #[.int .u64 H, .bool true]) ∧ w.grownBy w' none := by
  have hcs := fun W (hf : w.grownBy W none) => hb.kept hf (by simp)
  have c0 := hb.cell 0
  have c1 := hb.cell 1
  simp at c0 c1
  have heq := fun W (hf : w.grownBy W none) => equal_67 (hk.kept0 hf) (hy.kept0 hf) hkb hkb kc cp
  simp only [decide_true] at heq
  have hin2 := fun W (hf : w.grownBy W none) => gb_cellN hf hin
  have ca0 := fun o => gb_cellN (World.grownBy_alloc w o none) c0
  have ca1 := fun o => gb_cellN (World.grownBy_alloc w o none) c1
  have ca2 := fun o => gb_cellN (World.grownBy_alloc w o none) hin
  clear hk hy
  go_enter Tryz.func50, Tryz.ntmps50
  go_wp2
  go_loopw [6] (fun v wr => v = .int .i64 0 ∧ w = wr) (fun _ _ => 0)
  case atStart => exact ⟨rfl, rfl⟩
  case round =>
    obtain ⟨rfl, rfl⟩ := hrel
    go_wp2
    go_region_law ((go_simp; go_at_call 11; first | (with_reducible refine (hrd _ (gb_drew (gb_refl _ _))).mono ?_; rintro y w2 ⟨rfl, hf2⟩; have hFw : w.grownBy w2 none := gb_trans (gb_drew (gb_refl _ _)) hf2) | (with_reducible refine (hrd _ (gb_drew (gb_alloc (gb_refl _ _) _))).mono ?_; rintro y w2 ⟨rfl, hf2⟩; have hFw : w.grownBy w2 none := gb_trans (gb_drew (gb_alloc (gb_refl _ _) _)) hf2; have hbA := (Box.new w 43 #[.bool false, .slice none 0 0, .slice none 0 0, .int .u64 0, .int .i64 0, .int .i64 0, .int .u64 0, .int .i64 0, .int .i64 0, .int .u64 0, .int .u64 0, .int .u64 0]).kept (gb_trans (gb_drew (gb_refl _ none)) hf2) (by simp); (have k0 := hbA.cell 0); (have m0 := hbA.fz 0); (have k1 := hbA.cell 1); (have m1 := hbA.fz 1); (have k2 := hbA.cell 2); (have m2 := hbA.fz 2); (have k3 := hbA.cell 3); (have m3 := hbA.fz 3); (have k4 := hbA.cell 4); (have m4 := hbA.fz 4); (have k5 := hbA.cell 5); (have m5 := hbA.fz 5); (have k6 := hbA.cell 6); (have m6 := hbA.fz 6); (have k7 := hbA.cell 7); (have m7 := hbA.fz 7); (have k8 := hbA.cell 8); (have m8 := hbA.fz 8); (have k9 := hbA.cell 9); (have m9 := hbA.fz 9); (have k10 := hbA.cell 10); (have m10 := hbA.fz 10); (have k11 := hbA.cell 11); (have m11 := hbA.fz 11); simp at k0 k1 k2 k3 k4 k5 k6 k7 k8 k9 k10 k11)))
    all_goals first
    | (have hb3 := ((((((((((((hbA.set 0 (.bool la)).set 1 (.slice ka kn kc)).set 2 (.slice va vn vc)).set 3 (.int .u64 fl)).set 4 (.int .i64 ex)).set 5 (.int .i64 to)).set 6 (.int .u64 tk)).set 7 (.int .i64 st)).set 8 (.int .i64 mk)).set 9 (.int .u64 l0)).set 10 (.int .u64 l1)).set 11 (.int .u64 l2))
       have hF3 : w.grownBy ((((((((((((w2.setCell ⟨w.heap.size, 0, none⟩ (.bool la)).setCell ⟨w.heap.size, 1, none⟩ (.slice ka kn kc)).setCell ⟨w.heap.size, 2, none⟩ (.slice va vn vc)).setCell ⟨w.heap.size, 3, none⟩ (.int .u64 fl)).setCell ⟨w.heap.size, 4, none⟩ (.int .i64 ex)).setCell ⟨w.heap.size, 5, none⟩ (.int .i64 to)).setCell ⟨w.heap.size, 6, none⟩ (.int .u64 tk)).setCell ⟨w.heap.size, 7, none⟩ (.int .i64 st)).setCell ⟨w.heap.size, 8, none⟩ (.int .i64 mk)).setCell ⟨w.heap.size, 9, none⟩ (.int .u64 l0)).setCell ⟨w.heap.size, 10, none⟩ (.int .u64 l1)).setCell ⟨w.heap.size, 11, none⟩ (.int .u64 l2)) none := gb_mine hFw (gb_setCell (gb_setCell (gb_setCell (gb_setCell (gb_setCell (gb_setCell (gb_setCell (gb_setCell (gb_setCell (gb_setCell (gb_setCell (gb_setCell (gb_refl _ _) _) _) _) _) _) _) _) _) _) _) _) _) (Nat.le_refl _)
       have r1 := hb3.cell 1
       simp at r1
       have d1 := (hcs _ hF3).cell 1
       simp at d1
       have d2 := hin2 _ hF3
       have he3 := heq _ hF3
       have HF : Hid (w.grownBy ((((((((((((w2.setCell ⟨w.heap.size, 0, none⟩ (.bool la)).setCell ⟨w.heap.size, 1, none⟩ (.slice ka kn kc)).setCell ⟨w.heap.size, 2, none⟩ (.slice va vn vc)).setCell ⟨w.heap.size, 3, none⟩ (.int .u64 fl)).setCell ⟨w.heap.size, 4, none⟩ (.int .i64 ex)).setCell ⟨w.heap.size, 5, none⟩ (.int .i64 to)).setCell ⟨w.heap.size, 6, none⟩ (.int .u64 tk)).setCell ⟨w.heap.size, 7, none⟩ (.int .i64 st)).setCell ⟨w.heap.size, 8, none⟩ (.int .i64 mk)).setCell ⟨w.heap.size, 9, none⟩ (.int .u64 l0)).setCell ⟨w.heap.size, 10, none⟩ (.int .u64 l1)).setCell ⟨w.heap.size, 11, none⟩ (.int .u64 l2)) none) := hF3
       clear hb3 hF3 k0 k1 k2 k3 k4 k5 k6 k7 k8 k9 k10 k11 m0 m1 m2 m3 m4 m5 m6 m7 m8 m9 m10 m11 hbA ca0 ca1 ca2
       generalize ((((((((((((w2.setCell ⟨w.heap.size, 0, none⟩ (.bool la)).setCell ⟨w.heap.size, 1, none⟩ (.slice ka kn kc)).setCell ⟨w.heap.size, 2, none⟩ (.slice va vn vc)).setCell ⟨w.heap.size, 3, none⟩ (.int .u64 fl)).setCell ⟨w.heap.size, 4, none⟩ (.int .i64 ex)).setCell ⟨w.heap.size, 5, none⟩ (.int .i64 to)).setCell ⟨w.heap.size, 6, none⟩ (.int .u64 tk)).setCell ⟨w.heap.size, 7, none⟩ (.int .i64 st)).setCell ⟨w.heap.size, 8, none⟩ (.int .i64 mk)).setCell ⟨w.heap.size, 9, none⟩ (.int .u64 l0)).setCell ⟨w.heap.size, 10, none⟩ (.int .u64 l1)).setCell ⟨w.heap.size, 11, none⟩ (.int .u64 l2)) = W3 at *
       go_wp2_with (first | (go_at_call 79; go_must (refine he3.mono ?_); rintro y w' ⟨rfl, rfl⟩) | fail)
       go_ret2
       exact ⟨rfl, HF.out⟩)
    | (have hF3 : w.grownBy (w2.alloc (.cells #[.bool la, .slice ka kn kc, .slice va vn vc, .int .u64 fl, .int .i64 ex, .int .i64 to, .int .u64 tk, .int .i64 st, .int .i64 mk, .int .u64 l0, .int .u64 l1, .int .u64 l2] 43)) none := gb_alloc hFw _
       have hb3 := Box.new w2 43 #[.bool la, .slice ka kn kc, .slice va vn vc, .int .u64 fl, .int .i64 ex, .int .i64 to, .int .u64 tk, .int .i64 st, .int .i64 mk, .int .u64 l0, .int .u64 l1, .int .u64 l2]
       have r1 : (w2.alloc (.cells #[.bool la, .slice ka kn kc, .slice va vn vc, .int .u64 fl, .int .i64 ex, .int .i64 to, .int .u64 tk, .int .i64 st, .int .i64 mk, .int .u64 l0, .int .u64 l1, .int .u64 l2] 43)).cell? ⟨w2.heap.size, 1, none⟩ = some (.slice ka kn kc) := hb3.cell 1
       have d1 := (hcs _ hF3).cell 1
       simp at d1
       have d2 := hin2 _ hF3
       have he3 := heq _ hF3
       have HF : Hid (w.grownBy (w2.alloc (.cells #[.bool la, .slice ka kn kc, .slice va vn vc, .int .u64 fl, .int .i64 ex, .int .i64 to, .int .u64 tk, .int .i64 st, .int .i64 mk, .int .u64 l0, .int .u64 l1, .int .u64 l2] 43)) none) := hF3
       clear hb3 hF3 ca0 ca1 ca2
       generalize w2.alloc (.cells #[.bool la, .slice ka kn kc, .slice va vn vc, .int .u64 fl, .int .i64 ex, .int .i64 to, .int .u64 tk, .int .i64 st, .int .i64 mk, .int .u64 l0, .int .u64 l1, .int .u64 l2] 43) = W3 at *
       go_wp2_with (first | (go_at_call 79; go_must (refine he3.mono ?_); rintro y w' ⟨rfl, rfl⟩) | fail)
       go_ret2
       exact ⟨rfl, HF.out⟩)
end
end Go.Proofs.YtdlaanigfhlolaaGreat
