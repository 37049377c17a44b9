/-
  The document's Stats; the law's comparison of lines.
-/
import Derived.Test.YtonbkpfnpnlkpaaDoorK
import Derived.Deep.RegionLaw
namespace Go.Proofs.YtonbkpfnpnlkpaaDoor
open Go.RowKit
set_option linter.unusedVariables false
set_option linter.unusedSimpArgs false
attribute [local go_sem] Oper.semAt_some

theorem nmW_in (i : Nat) (hi : i < 30) : nmW ((i : Int) + 1) = wrd (i + 1) := by
  simp only [nmW]; rw [if_pos (by simp [nm]; omega)]; congr 1
set_option maxRecDepth 100000 in
set_option maxHeartbeats 4000000 in
theorem lines_14 {w : World} {B1 B2 : Nat} {N : Cn} {v1 v2 : Value} (h1 : StP B1 N v1 w) (h2 : StP B2 N v2 w) :
    Calls Tryd.prog 14 #[v1, v2] w fun e w' => e = .returned (.bool true) ∧ w.grownBy w' none := by
  obtain ⟨g1, c1, rfl, r1⟩ := h1
  obtain ⟨g2, c2, rfl, r2⟩ := h2
  go_enter Tryd.func14, Tryd.ntmps14
  go_wp2
  go_loopw [5] (fun v wr => ∃ i : Nat, i ≤ 30 ∧ v = .int .i64 i ∧ w.grownBy wr none) (fun v _ => 30 - (intOf v).toNat)
  case atStart => exact ⟨0, by omega, rfl, gb_refl _ _⟩
  case round =>
    obtain ⟨i, hi, rfl, hg⟩ := hrel
    rcases (by omega : i < 30 ∨ i = 30) with hlt | rfl
    · obtain ⟨a0, a1⟩ := row_st r1 hlt
      obtain ⟨b0, b1⟩ := row_st r2 hlt
      replace a0 := gb_cellN hg a0
      replace a1 := gb_cellN hg a1
      replace b0 := gb_cellN hg b0
      replace b1 := gb_cellN hg b1
      generalize wrd (i + 1) = x at *
      generalize N (i + 1) = n at *
      have d1 : (i : Int) < 30 := by omega
      clear r1 r2
      go_wp2_with fail
      go_region
      go_wp2
      refine ⟨⟨i + 1, by omega, by simp, gb_drew hg⟩, ?_⟩
      simp only [intOf]; omega
    · go_wp2
      go_ret
      exact ⟨rfl, hg⟩
set_option maxRecDepth 100000 in
set_option maxHeartbeats 4000000 in
theorem rstats_16 (b : Nat) (N : Cn) (w : World) (hB : Rb w b N) :
    Calls Tryd.prog 16 #[.pointer (some ⟨b, 0, none⟩)] w fun e w' => ∃ v, e = .returned v ∧ StP w.heap.size N v w' ∧ w.grownBy w' none := by
  obtain ⟨i0, hi0, hz0, hz1, hz2⟩ := info_parts Tryd.info60
  go_enter Tryd.func16, Tryd.ntmps16
  go_wp2
  go_loopw [3, 4] (fun u v wr => ∃ i : Nat, i ≤ 30 ∧ v = .int .i64 ((i : Int) + 1) ∧ wr.ownsRow w.heap.size 60 2 u i (stL N i) ∧ w.grownBy wr none) (fun _ v _ => 32 - (intOf v).toNat)
  case atStart => exact ⟨0, by omega, rfl, ⟨rfl, .inl ⟨rfl, rfl⟩⟩, gb_refl _ _⟩
  case round =>
    obtain ⟨i, hi, rfl, hr, hg⟩ := hrel
    rcases (by omega : i < 30 ∨ i = 30) with hlt | rfl
    · have h27 := fun X => rname_27 ((i : Int) + 1) X
      rw [nmW_in i hlt] at h27
      have hb := Box.kept hB hg (by simp)
      have hc := Rb.get (w := wr) (N := N) hb (i := i + 1) (by omega)
      have hsz := hg.size
      have hrl := World.ownsRow.lt hr
      generalize hx : wrd (i + 1) = x at *
      generalize hn : N (i + 1) = n at *
      have d1 : (i : Int) + 1 ≤ 30 := by omega
      have hi2 : (i : Int) + 1 < 31 := by omega
      have hi1 : (0 : Int) ≤ (i : Int) + 1 := by omega
      go_wp2_with fail
      go_region_law ((first | (go_simp; go_at_call 27; refine (h27 _).mono ?_; rintro y w6 ⟨rfl, hg6⟩; (have hg6' : wr.grownBy w6 none := gb_trans (by first | exact gb_drew (gb_refl _ _) | exact gb_drewN (gb_refl _ _) _ | exact gb_refl _ _) hg6); (have hc6 := gb_cellN hg6' hc); (have hr6 := row_kept hr hg6' (by simp)); (have hs6 := hg6'.size)) | (refine step_append_lies _ (by rfl) _ _ _ (by rfl) w.heap.size 60 i0 _ 2 24 Tryd.underlying37 hi0 hz0 hz1 hz2 rfl (by omega) _ i _ (by rfl) (World.ownsRow.alloc (w := w6) hr6 _) ⟨w6.heap.size, 0, none⟩ 1 1 [sv x, .int .u64 (n : Nat)] (by rfl) (by rfl) (World.news_of_block (cs := #[sv x, .int .u64 (n : Nat)]) (t := 60) (fr := (0, 0)) (heap_alloc_new w6 _)) (by simp [Value.oneCell']) (by omega) (by unfold maxLen; omega) (by omega) (by simp; omega) (w6.heap.size + 1) (by simp) ?_; intro g2 cap2 w7 hown7 hgrow7 hat7 hlt7; (have hg7 := gb_trans (World.grownBy_alloc w6 _ _) hgrow7))))
      all_goals
        go_wp2
        refine ⟨⟨i + 1, by omega, by simp, ?_, gb_far (gb_trans hg hg6') hg7 (fun k hk => (hrl k hk).1) (Nat.le_refl _)⟩, ?_⟩
        · rw [stL, rng_succ, show stF N i = [sv x, .int .u64 (n : Nat)] from by rw [stF, hx, hn]]
          exact hown7
        · simp only [intOf]; omega
    · obtain ⟨ao, c, rfl, -, -, -, hsome⟩ := row_shape hr
      obtain ⟨g, rfl⟩ := hsome (by omega)
      go_wp2
      go_ret
      exact ⟨_, rfl, ⟨g, c, rfl, hr⟩, hg⟩
end Go.Proofs.YtonbkpfnpnlkpaaDoor
