/-
  Copy and image.
-/
import Derived.Test.YtknhoncnaigogaaS
namespace Go.Proofs.Ytknhoncnaigogaa
open Go.RowKit
set_option linter.unusedVariables false

theorem run_make_room (N : Nat) (h : N ≤ 281474976710656) (w : World) : (Instr.makeSlice 29 (.int .i64 0) (.int .i64 N)).run Try.prog w = .ok (.slice (some ⟨w.heap.size, 0, none⟩) 0 N) (w.alloc (.cells (vals (List.replicate N 0)) 5)) := by
  obtain ⟨i0, hi, hz0, hz1, hz2⟩ := info_parts Try.info5
  have := run_make (P := Try.prog) w 29 5 i0 (.int .u8 0) Try.underlying29 hi hz0 .i64 .i64 0 N (by omega) (by omega) (by rw [hz2]; omega) (by omega)
  rw [this, hz1]
  simp [made_zeros]
theorem Own.made (B : Nat) (w : World) (N : Nat) (hB : B ≤ w.heap.size) (hN : N ≤ 281474976710656) : Own B (w.alloc (.cells (vals (List.replicate N 0)) 5)) (some ⟨w.heap.size, 0, none⟩) N [] :=
  World.ownsRow_made w _ N hB (by unfold maxLen; omega) (by simp [vals])
theorem Own.base {B B' : Nat} {w : World} {ao : Option Addr} {cap : Nat} {us : List Int} (h : Own B w ao cap us) (hB : B' ≤ B) : Own B' w ao cap us := by
  refine ⟨h.1, ?_⟩
  rcases h.2 with h1 | ⟨g, c, cur, h1, h2, h3⟩
  · exact .inl h1
  · exact .inr ⟨g, c, cur, h1, Nat.le_trans hB h2, h3⟩

theorem copy_any {w : World} {a : Option Addr} {n : Nat} {ys : List Int} (hy : Has w a n ys) (c : Nat) (hc : a = none → c = 0) (hn : n ≤ 1000000000000) :
    Calls Try.prog 35 #[.slice a n c] w fun e w' => ∃ ao cap, e = .returned (.slice ao n cap) ∧ Own w.heap.size w' ao cap ys ∧ w.grownBy w' none := by
  have hmk := run_make_room n (by omega)
  have hl := hy.1
  go_enter Try.func35, Try.ntmps35
  go_wp2_with (at_builtin; go_must (refine wpList_more rfl _ _ rfl w.heap.size (some ⟨w.heap.size, 0, none⟩) n [] rfl (Own.made _ w n (Nat.le_refl _) (by omega)) a n c ys rfl (hy.alloc _) hc (by simp; omega) (by simp) ?_))
  intro ao' cap' w' hown' hgr
  go_wp2
  go_ret
  exact ⟨ao', cap', rfl, hown', gb_mine (World.grownBy_alloc w _ none) hgr (Nat.le_refl _)⟩

theorem cut_all {zs : List Int} (h : zs.length = 8192) : cut zs 0 4096 ++ cut zs 4096 4096 = zs := by
  have e : cut zs 4096 4096 = zs.drop 4096 := by
    unfold cut
    exact List.take_of_length_le (by simp; omega)
  rw [e]
  simp [cut]

theorem has_block {w : World} {g : Nat} {ys : List Int} (h : w.heap[g]? = some (.cells (vals ys) 5 (0, 0))) {n : Nat} (hn : ys.length = n) : Has w (some ⟨g, 0, none⟩) n ys := by
  refine ⟨hn, fun _ => ⟨g, 0, rfl, fun i hi => ?_⟩⟩
  rw [Nat.zero_add]
  exact cell_of_vals h i (by omega)
theorem Has.kept {w w' : World} {a : Option Addr} {n : Nat} {ys : List Int} (h : Has w a n ys) {row : Option Nat} (hf : w.grownBy w' row) (hne : ∀ k, a.map (·.block) = some k → some k ≠ row) : Has w' a n ys := by
  refine ⟨h.1, fun hn => ?_⟩
  obtain ⟨b, o, rfl, hc⟩ := h.2 hn
  refine ⟨b, o, rfl, fun i hi => ?_⟩
  have hlt := World.block_lt_of_cell? _ _ (hc i hi)
  rw [← hc i hi]
  exact World.cell?_of_block (w := w) (w' := w') (a := ⟨b, o + i, none⟩) (hf.block b hlt (hne b rfl))
theorem Has.kept0 {w w' : World} {a : Option Addr} {n : Nat} {ys : List Int} (h : Has w a n ys) (hf : w.grownBy w' none) : Has w' a n ys := h.kept hf (fun _ _ => by simp)

set_option maxHeartbeats 1000000 in
theorem image_any {w : World} {b g : Nat} {zs : List Int} (hA : IsA w b g 4096 2 zs) (hl : zs.length = 8192) :
    Calls Try.prog 26 #[.pointer (some ⟨b, 0, none⟩)] w fun e w' => ∃ ao cap, e = .returned (.slice ao 8192 cap) ∧ Own w.heap.size w' ao cap zs ∧ w.grownBy w' none := by
  go_enter Try.func26, Try.ntmps26
  go_wp2_with fail
  refine (page_yes hA 0 (by omega) (by omega)).mono ?_
  rintro e w1 ⟨rfl, hf1, hg1⟩
  have hA1 := hA.kept hf1 (by simp) (by simp)
  have hH1 : Has w1 (some ⟨w.heap.size, 0, none⟩) 4096 (cut zs 0 4096) := has_block hg1 (length_cut (by omega))
  clear hg1
  go_wp2_with fail
  refine (page_yes hA1 1 (by omega) (by omega)).mono ?_
  rintro e w2 ⟨rfl, hf2, hg2⟩
  have hH2 : Has w2 (some ⟨w1.heap.size, 0, none⟩) 4096 (cut zs 4096 4096) := has_block hg2 (length_cut (by omega))
  have hH1' := hH1.kept0 hf2
  have hF2 := gb_trans hf1 hf2
  clear hg2 hH1 hA1 hf1 hf2
  go_wp2_with (first | (go_at_call 16; refine (num_any _ _).mono ?_; rintro e w' ⟨rfl, rfl⟩) | fail)
  refine (copy_any hH1' 4096 (by simp) (by omega)).mono ?_
  rintro e w3 ⟨ao, cap, rfl, hown, hf3⟩
  have hH2' := hH2.kept0 hf3
  have hF3 := gb_trans hF2 hf3
  have hl1 : (cut zs 0 4096).length = 4096 := length_cut (by omega)
  have hsz := hF2.size
  have hown' := hown.base hsz
  clear hH1' hH2 hF2 hf3 hown
  go_wp2_with (at_builtin; go_must (refine wpList_more rfl _ _ rfl w.heap.size ao cap (cut zs 0 4096) (by rw [hl1]; rfl) hown' _ 4096 4096 (cut zs 4096 4096) rfl hH2' (by simp) (by omega) hF3.size ?_))
  intro ao' cap' w' hown2 hgr
  rw [cut_all hl] at hown2
  go_wp2
  go_ret
  exact ⟨ao', cap', rfl, hown2, gb_far hF3 hgr (fun k e => (hown'.lt k e).1) (Nat.le_refl _)⟩

end Go.Proofs.Ytknhoncnaigogaa
