/-
  filled and image.
-/
import Derived.Test.YtknhoncnaigogaaH
import Derived.Test.YtknhoncnaigogaaR
namespace Go.Proofs.Ytknhoncnaigogaa
open Go.RowKit
set_option linter.unusedVariables false

theorem isBytes_snoc {us : List Int} {z : Int} (h : isBytes us) (hz : 0 ≤ z ∧ z < 256) : isBytes (us ++ [z]) := by
  intro y hy
  rcases List.mem_append.1 hy with h1 | h1
  · exact h y h1
  · simp at h1; omega

set_option maxHeartbeats 2000000 in
set_option maxRecDepth 100000 in
theorem filled_any (w : World) : Calls Try.prog 25 #[] w fun e w' => ∃ zs, e = .returned (.pointer (some ⟨w.heap.size + 1, 0, none⟩)) ∧ w.grownBy w' none ∧ IsA w' (w.heap.size + 1) w.heap.size 4096 2 zs ∧ zs.length = 8192 := by
  go_enter Try.func25, Try.ntmps25
  go_wp2_with fail
  refine (new_2 w).mono ?_
  rintro e w1 ⟨zs, rfl, hf1, hA1, hzs, hl⟩
  have hsz : w.heap.size + 2 ≤ w1.heap.size := (Array.getElem?_eq_some_iff.1 hA1.hb).1
  clear hzs
  go_wp2_with (go_at_call 16; refine (num_any _ _).mono ?_; rintro e w' ⟨rfl, rfl⟩)
  go_loopw [3] (fun c wr => ∃ (i : Nat) (zs : List Int), i ≤ 2 ∧ c = .int .i64 i ∧ zs.length = 8192 ∧ IsA wr (w.heap.size + 1) w.heap.size 4096 2 zs ∧ w.grownBy wr none ∧ w.heap.size + 2 ≤ wr.heap.size) (fun c _ => 2 - (intOf c).toNat)
  case atStart => exact ⟨0, zs, by omega, rfl, hl, hA1, hf1, hsz⟩
  case round =>
    clear hA1 hf1 hsz hl
    obtain ⟨i, zs, hi, rfl, hl, hA, hf, hsz⟩ := hrel
    by_cases hlt : i < 2
    · have hd : decide ((i : Int) < 2) = true := by simp; omega
      go_wp2
      go_loopw [4, 5] (fun v c wr' => ∃ (ao : Option Addr) (cap : Nat) (us : List Int), c = .int .i64 us.length ∧ v = .slice ao us.length cap ∧ us.length ≤ 4096 ∧ isBytes us ∧ Own (w.heap.size + 2) wr' ao cap us ∧ IsA wr' (w.heap.size + 1) w.heap.size 4096 2 zs ∧ w.grownBy wr' none ∧ w.heap.size + 2 ≤ wr'.heap.size) (fun _ c _ => 4096 - (intOf c).toNat)
      case atStart => exact ⟨none, 0, [], rfl, rfl, by simp, by intro z hz; simp at hz, Own.nil _ _, hA, hf, hsz⟩
      case round =>
        rename_i wr0
        clear hA hf hsz
        obtain ⟨ao, cap, us, rfl, rfl, hul, hub, hown, hA, hf, hsz⟩ := hrel
        by_cases hk : us.length < 4096
        · go_wp2_with (at_builtin; go_must (refine wpList_push rfl _ _ rfl (w.heap.size + 2) ao cap us _ rfl hown rfl (by omega) hsz ?_))
          intro ao' cap' w' hown' hgr
          go_wp2
          have hlt' := hown.lt
          go_roundw
          case rel => exact ⟨ao', cap', _, by simp, by simp, by simp; omega, isBytes_snoc hub (by omega), hown', hA.kept hgr (far_ne (fun k e => (hlt' k e).1) (by omega)) (far_ne (fun k e => (hlt' k e).1) (by omega)), gb_far hf hgr (fun k e => (hlt' k e).1) (by omega), Nat.le_trans hsz hgr.size⟩
          case measure => simp [intOf]; omega
        · have hul' : us.length = 4096 := by omega
          have hH := hown.has
          rw [hul'] at hH
          go_wp2_with (first | (go_at_call 16; refine (num_any _ _).mono ?_; rintro e w' ⟨rfl, rfl⟩) | fail)
          refine (write_yes hA (4096 * (i : Int)) ao 4096 cap us hH hub (by omega) ⟨by omega, by omega, by omega, by omega⟩).mono ?_
          rintro e w' ⟨rfl, hfw, hAw⟩
          have hFw := gb_mine hf hfw (Nat.le_refl _)
          have hsw := Nat.le_trans hsz hfw.size
          have hlw : (lay zs (4096 * (i : Int)).toNat us).length = 8192 := by rw [length_lay (by omega), hl]
          obtain ⟨ys, hys⟩ : ∃ ys, ys = lay zs (4096 * (i : Int)).toNat us := ⟨_, rfl⟩
          rw [← hys] at hAw hlw
          clear hys hown hH hA hf hfw hsz
          go_wp2_with (go_at_call 16; refine (num_any _ _).mono ?_; rintro e w' ⟨rfl, rfl⟩)
          go_roundw
          case rel => exact ⟨i + 1, ys, by omega, by go_num, hlw, hAw, hFw, hsw⟩
          case measure => simp [intOf]; omega
    · go_wp2
      go_ret
      exact ⟨zs, rfl, hf, hA, hl⟩

end Go.Proofs.Ytknhoncnaigogaa
