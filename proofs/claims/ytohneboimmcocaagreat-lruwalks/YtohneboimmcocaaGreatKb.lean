import Derived.Maps.AppendAt
import Derived.Test.YtohneboimmcocaaGreatOl
import Derived.Test.YtohneboimmcocaaGreatWj
/-
  LruWalks: slices.Collect over the row of a class.
-/
namespace Go.Proofs.YtohneboimmcocaaGreat
open Go.RowKit Go.Shelf
set_option linter.unusedVariables false
attribute [local go_sem] Oper.semAt_some

section
variable {w : World} {xb sb qb gl gc : Nat} {F : Nat → Prop} {B : Bl} {b c d e f g : Int} {A : Ab} {m : List Int} {T : List Nat} {bs : Nat → It} {cls : Nat → Nat} {X : Nat → Nat → List Nat} {mk : Nat → Nat} {hot warm : Nat}
set_option maxRecDepth 100000 in
set_option maxHeartbeats 4000000 in
theorem append_115 (h : LQ w xb sb qb gl gc F B b c d e f g A m T bs cls X mk hot warm) {ci : Nat} (hc : ci < A.n) {Bl Bc : Nat} (hBl : Bl < w.heap.size) (hBc : Bc < w.heap.size) (c1 : w.cell? ⟨Bl, 0, none⟩ = some (.pointer (some ⟨xb, 0, none⟩))) (c2 : w.cell? ⟨Bc, 0, none⟩ = some (.int .i64 ci)) (hR5 : (rowN X ci).length ≤ 5000) :
    Calls Tryz.prog 115 #[.slice none 0 0, .func (.func 116) #[] #[.pointer (some ⟨Bl, 0, none⟩), .pointer (some ⟨Bc, 0, none⟩)]] w fun y w' => ∃ v, y = .returned v ∧ w'.ownsRow w.heap.size 48 1 v (rowN X ci).length (uvs (rowN X ci)) ∧ Below w.heap.size w w' := by
  have hLB := h.lb
  obtain ⟨i0, hi, hz0, hz1, hz2⟩ := info_parts Tryz.info48h
  refine (callsIn_wide (n := 4)).1 ?_
  refine callsIn_of_wp_marks Tryz.func115 rfl trivial ?_ rfl
  simp only [Tryz.ntmps115, List.size_toArray, List.length_cons, List.length_nil, Nat.reduceAdd, Nat.reduceSub, Array.replicate_succ, Array.replicate_zero, List.push_toArray, List.append_toArray, List.nil_append, List.cons_append]
  gi_wp2
  have bO := Boxed.new w 72 (.slice none 0 0)
  have hB0 : Below w.heap.size w (w.alloc (.cells #[.slice none 0 0] 72)) := (Below.refl _ w).alloc (Nat.le_refl _) _
  refine wpIn_rangeFunc_ownG rfl (by omega) (gf := 116) (lb := #[.pointer (some ⟨Bl, 0, none⟩), .pointer (some ⟨Bc, 0, none⟩)]) rfl trivial (enters_of Tryz.func116 (by kernel_rfl) rfl)
    (row_stops (n₀ := w.heap.size) _ (by omega) Bl Bc hc (by simp) (by simp; omega) (by simp; omega) ((hB0.cell (p := ⟨Bl, 0, none⟩) hBl).trans c1) ((hB0.cell (p := ⟨Bc, 0, none⟩) hBc).trans c2) (hLB.below hB0)) (fun h1 h2 => h1.trans h2) ?hKb (Below.refl _ _) (fun _ => rfl)
    (fun pre W => (∃ v, Boxed W w.heap.size 72 v ∧ W.ownsRow w.heap.size 48 1 v pre.length (uvs (pre.map Subtype.val)) ∧ True) ∧ Below w.heap.size w W)
    (fun _ _ _ => False)
    (OwnFrom.and (Own.from (holdsRow_own w.heap.size w.heap.size 72 48 1 (fun pre : List { H : Nat // H ∈ T } => pre.length) (fun pre => uvs (pre.map Subtype.val)) (fun pre v => True)) _) (ownFrom_below (Nat.le_refl _) (by simp)))
    (fun _ _ _ _ _ hs _ _ => hs)
    ⟨⟨_, bO, World.ownsRow_nil _ _ _ _, trivial⟩, hB0⟩
    (fun x => { tmps := #[.slice none 0 0, .func (.func 116) #[] #[.pointer (some ⟨Bl, 0, none⟩), .pointer (some ⟨Bc, 0, none⟩)], .pointer (some ⟨w.heap.size, 0, none⟩), undef, .slice none 0 0, .int .u64 (x.1 : Nat), .func (.func 116) #[] #[.pointer (some ⟨Bl, 0, none⟩), .pointer (some ⟨Bc, 0, none⟩)], .int .u64 (x.1 : Nat), undef, undef, undef, undef, undef], defers := [] }) ?assign ?body ?done ?stop
  case hKb =>
    intro W l o o' hl ho h1 h2
    simp at hl
    refine ⟨belowK_b (w := w) (by omega) W l o o' (by omega) ho h1 h2, fun k hk => ?_⟩
    exact (grownBy_putObj' W l o').block k (by have := (Array.getElem?_eq_some_iff.1 ho).1; omega) (by simp; omega)
  case assign =>
    intro l x W K hK
    gi_wp2
    exact hK
  case body =>
    rintro l pre x W ⟨⟨v, hv, hrow, _⟩, hB⟩ hlt
    have hc := hv.cell
    gi_wp2_with (gi_at_builtin; refine wpListIn_append_own _ rfl _ _ 72 rfl w.heap.size 48 i0 (.int .u64 0) 1 8 Tryz.underlying72 hi hz0 hz1 hz2 rfl (by decide) _ _ _ rfl (hrow.alloc _) ⟨W.heap.size, 0, none⟩ 1 1 [.int .u64 (x.1 : Nat)] rfl rfl (cell_one_new _ _ _) (by simp [Value.oneCell']) (by unfold maxLen; omega) (by omega) (by have := hB.size; simp; omega) ?_; intro v' w1 hown' hgrow _; obtain ⟨g', cap', rfl⟩ := ownsRow_succ hown'; obtain ⟨hv1, hv2, hr2, hk2, hb2⟩ := hv.appended (by decide) hrow hB.size (Nat.le_refl _) hown' hgrow; have hc1 := hv1.cell; have hf1 := hv1.frozen)
    refine ⟨hk2.from _, ⟨hb2, fun k hk => hb2.block k (by omega)⟩, ⟨_, hv2, ?_, trivial⟩, hB.trans hb2⟩
    simpa [uvs] using hr2
  case done =>
    rintro D ys W hD hS ⟨⟨v, hv, hrow, _⟩, hB⟩ hK
    have hc := hv.cell
    gi_wp2
    refine ⟨by simp, .inl ⟨_, _, rfl, run_takeDeferred hK, ?_⟩⟩
    have hl : ys.length = (rowN X ci).length := by rw [← hS]; simp
    rw [hS, hl] at hrow
    exact ⟨_, results_tmp rfl _ _ _, v, rfl, ownsRow_putObj hrow _ hK rfl, hB.trans (belowK_b (w := w) (Nat.le_refl _) W D _ _ (by simp at hD; omega) hK rfl rfl)⟩
  case stop =>
    rintro D c pre W _ _ h _
    exact h.elim
theorem collect_72 (h : LQ w xb sb qb gl gc F B b c d e f g A m T bs cls X mk hot warm) {ci : Nat} (hc : ci < A.n) {Bl Bc : Nat} (hBl : Bl < w.heap.size) (hBc : Bc < w.heap.size) (c1 : w.cell? ⟨Bl, 0, none⟩ = some (.pointer (some ⟨xb, 0, none⟩))) (c2 : w.cell? ⟨Bc, 0, none⟩ = some (.int .i64 ci)) (hR5 : (rowN X ci).length ≤ 5000) :
    Calls Tryz.prog 72 #[.func (.func 116) #[] #[.pointer (some ⟨Bl, 0, none⟩), .pointer (some ⟨Bc, 0, none⟩)]] w fun y w' => ∃ v, y = .returned v ∧ w'.ownsRow w.heap.size 48 1 v (rowN X ci).length (uvs (rowN X ci)) ∧ w.grownBy w' none := by
  have h115 := append_115 h hc hBl hBc c1 c2 hR5
  clear h
  go_enter Tryz.func72, Tryz.ntmps72
  go_wp2_with (first | (go_at_call 115; go_must (refine h115.mono ?_); rintro y w1 ⟨v, rfl, hr, hb⟩) | fail)
  go_ret
  exact ⟨v, rfl, hr, hb.os, hb.tape, hb.output, hb.size, fun k hk _ => hb.block k hk⟩
end
end Go.Proofs.YtohneboimmcocaaGreat
