/-
  pair.tells: Read, Page (by program).
-/
import Derived.Test.YtknhoncnaigogaaBn
namespace Go.Proofs.Ytknhoncnaigogaa
open Go.RowKit
set_option linter.unusedVariables false

set_option maxRecDepth 100000 in
set_option maxHeartbeats 4000000 in
theorem tells_read {w : World} {p ab ag rb rg hb : Nat} {F P : Nat → Prop} {ps m : Nat} {zs : List Int} (hP : IsP w p ab ag rb rg hb F P ps m zs) (x1 x2 x3 x4 x5 x6 : Int) (sv : Value) (own : Bool) (h2 : x2 ≤ 9223372036854775807) (hN : zs.length ≤ 1000000000) :
    Calls Try.prog 11 #[.pointer (some ⟨p, 0, none⟩), .agg #[.int .i64 3, .int .i64 x1, .int .i64 x2, .int .i64 x3, .int .i64 x4, .int .i64 x5, .int .u64 x6, sv, .bool own]] w (TellsPost w p ab ag rb rg hb P ps m) := by
  unfold TellsPost
  obtain ⟨vs, hvs⟩ : ∃ vs : Array Value, vs = #[.int .i64 3, .int .i64 x1, .int .i64 x2, .int .i64 x3, .int .i64 x4, .int .i64 x5, .int .u64 x6, sv, .bool own] := ⟨_, rfl⟩
  have e0 : vs[0]? = some (.int .i64 3) := by rw [hvs]; rfl
  have e2 : vs[2]? = some (.int .i64 x2) := by rw [hvs]; rfl
  have e4 : vs[4]? = some (.int .i64 x4) := by rw [hvs]; rfl
  rw [← hvs]
  clear hvs
  have hB0 := Box.new w 31 vs
  have hal := World.grownBy_alloc w (.cells vs 31) none
  have hP0 := hP.kept0 hal
  have hPw := hP.lt
  have a0 := (hB0.cell 0).trans e0
  obtain ⟨xs, err, hbx, hlx, hcA, hcR⟩ := pack_read ps m zs hP.a.hz hN x2 x4 h2
  unfold TellsA at hcA
  unfold TellsR at hcR
  dsimp only at hcA hcR
  go_enter Try.func11, Try.ntmps11
  go_wp2
  clear a0 e0 hP
  have a2 := (hB0.cell 2).trans e2
  have a4 := (hB0.cell 4).trans e4
  generalize w.alloc (.cells vs 31) = V at *
  have p0 := hP0.box.cell 0
  simp at p0
  have hgd := gb_drew (gb_refl V none)
  have hA0 := hP0.a.kept hgd (by simp) (by simp)
  go_region_held3 (fun w' => w'.cell? ⟨p, 0, none⟩ = some (.pointer (some ⟨ab, 0, none⟩)) ∧ w'.cell? ⟨w.heap.size, 2, none⟩ = some (.int .i64 x2) ∧ w'.cell? ⟨w.heap.size, 4, none⟩ = some (.int .i64 x4)) (go_keep) ((go_at_call 28; refine (hcA _ _ _ hA0).mono ?_; rintro e w1 ⟨t, rfl, rfl, hf1', ht3, ht4⟩; have hf1 := gb_trans hgd hf1'; have r1 := gb_cellN hf1 p0; have r2 := gb_cellN hf1 a2; have r4 := gb_cellN hf1 a4))
  have hP1 := hP0.kept0 hf1
  have hw1 := gb_trans hal hf1
  have hsv : w.heap.size ≤ V.heap.size := hal.size
  have p1 := hP1.box.cell 1
  simp at p1
  have hge := gb_drew (gb_refl w1 none)
  have hR1d := hP1.r.kept hge (by simp) (by simp)
  have HT4 : Hid (∀ g, t.a = some g → V.heap.size ≤ g ∧ w1.heap[g]? = some (.cells (vals t.xs) 5 (0, 0))) := ht4
  have HT3 : Hid (t.a = none → t.xs = []) := ht3
  clear hcA hA0 hf1' p0 a2 a4 r1 hgd hal hf1 hB0 ht3 ht4
  go_wp2
  go_region_held3 (fun w' => w'.cell? ⟨p, 1, none⟩ = some (.pointer (some ⟨rb, 0, none⟩)) ∧ w'.cell? ⟨w.heap.size, 2, none⟩ = some (.int .i64 x2) ∧ w'.cell? ⟨w.heap.size, 4, none⟩ = some (.int .i64 x4)) (go_keep) ((go_at_call 45; refine (hcR _ _ _ hR1d).mono ?_; rintro e w2 ⟨ao, cap, rfl, hf2', hown⟩; have hf2 := gb_trans hge hf2'; have s1 := gb_cellN hf2 p1; have s2 := gb_cellN hf2 r2; have s4 := gb_cellN hf2 r4))
  have hP2 := hP1.kept0 hf2
  have hw2 := gb_trans hw1 hf2
  have HB : Hid (∀ g, t.a = some g → ¬ F g ∧ w2.heap[g]? = some (.cells (vals t.xs) 5 (0, 0))) := by
    intro g hg
    obtain ⟨h1, h3⟩ := HT4.out g hg
    refine ⟨fun h => ?_, by rw [hf2.block g (lt_of_block h3) (by simp)]; exact h3⟩
    have := hP0.lt g (hP0.FP g h)
    omega
  have HW : Hid (∀ g, t.a = some g → w.heap.size ≤ g) := by
    intro g hg
    have := (HT4.out g hg).1
    omega
  have q1 := got_has HT3.out (fun g hg => (HB.out g hg).2)
  have q2 := hown.has
  have hadd := heldAdd_any hP2.held t hbx hlx HT3.out HB.out (hown.base (Nat.zero_le _))
  have p2 := hP2.box.cell 2
  simp at p2
  clear hcR hR1d hge p1 hf2' hf2 hown hP1 hw1 s1 HT4
  go_wp2_with (first | (go_at_call 16; refine (num_q _ _).mono ?_; rintro e w' ⟨rfl, hw⟩; subst hw) | (go_at_call 34; refine (equal_same q1 q2 hbx _ _).mono ?_; rintro e w' ⟨rfl, hw⟩; subst hw) | fail)
  refine hadd.mono ?_
  rintro e w3 ⟨rfl, hk3, F', hO, hF'⟩
  have hfin := tells_end hP2 hw2 hPw hk3 hO hF' HW.out
  clear hadd q1 q2 hk3 hO hF' p2
  go_wp2
  go_ret
  exact ⟨rfl, hfin⟩

set_option maxRecDepth 100000 in
set_option maxHeartbeats 4000000 in
theorem tells_page {w : World} {p ab ag rb rg hb : Nat} {F P : Nat → Prop} {ps m : Nat} {zs : List Int} (hP : IsP w p ab ag rb rg hb F P ps m zs) (x1 x2 x3 x4 x5 x6 : Int) (sv : Value) (own : Bool) (h2 : x2 ≤ 9223372036854775807) (hN : zs.length ≤ 1000000000) :
    Calls Try.prog 11 #[.pointer (some ⟨p, 0, none⟩), .agg #[.int .i64 8, .int .i64 x1, .int .i64 x2, .int .i64 x3, .int .i64 x4, .int .i64 x5, .int .u64 x6, sv, .bool own]] w (TellsPost w p ab ag rb rg hb P ps m) := by
  unfold TellsPost
  obtain ⟨vs, hvs⟩ : ∃ vs : Array Value, vs = #[.int .i64 8, .int .i64 x1, .int .i64 x2, .int .i64 x3, .int .i64 x4, .int .i64 x5, .int .u64 x6, sv, .bool own] := ⟨_, rfl⟩
  have e0 : vs[0]? = some (.int .i64 8) := by rw [hvs]; rfl
  have e2 : vs[2]? = some (.int .i64 x2) := by rw [hvs]; rfl
  rw [← hvs]
  clear hvs
  have hB0 := Box.new w 31 vs
  have hal := World.grownBy_alloc w (.cells vs 31) none
  have hP0 := hP.kept0 hal
  have hPw := hP.lt
  have a0 := (hB0.cell 0).trans e0
  obtain ⟨xs, err, hbx, hlx, hcA, hcR⟩ := pack_page ps m zs hP.a.hz hP.a.bounds.1.2 hP.len hP.a.hpg.2 x2
  unfold TellsA at hcA
  unfold TellsR at hcR
  dsimp only at hcA hcR
  go_enter Try.func11, Try.ntmps11
  go_wp2
  clear a0 e0 hP
  have a2 := (hB0.cell 2).trans e2
  generalize w.alloc (.cells vs 31) = V at *
  have p0 := hP0.box.cell 0
  simp at p0
  have hgd := gb_drew (gb_refl V none)
  have hA0 := hP0.a.kept hgd (by simp) (by simp)
  go_region_held3 (fun w' => w'.cell? ⟨p, 0, none⟩ = some (.pointer (some ⟨ab, 0, none⟩)) ∧ w'.cell? ⟨w.heap.size, 2, none⟩ = some (.int .i64 x2)) (go_keep) ((go_at_call 48; refine (hcA _ _ _ hA0).mono ?_; rintro e w1 ⟨t, rfl, rfl, hf1', ht3, ht4⟩; have hf1 := gb_trans hgd hf1'; have r1 := gb_cellN hf1 p0; have r2 := gb_cellN hf1 a2))
  have hP1 := hP0.kept0 hf1
  have hw1 := gb_trans hal hf1
  have hsv : w.heap.size ≤ V.heap.size := hal.size
  have p1 := hP1.box.cell 1
  simp at p1
  have hge := gb_drew (gb_refl w1 none)
  have hR1d := hP1.r.kept hge (by simp) (by simp)
  have HT4 : Hid (∀ g, t.a = some g → V.heap.size ≤ g ∧ w1.heap[g]? = some (.cells (vals t.xs) 5 (0, 0))) := ht4
  have HT3 : Hid (t.a = none → t.xs = []) := ht3
  clear hcA hA0 hf1' p0 a2 r1 hgd hal hf1 hB0 ht3 ht4
  go_wp2
  go_region_held3 (fun w' => w'.cell? ⟨p, 1, none⟩ = some (.pointer (some ⟨rb, 0, none⟩)) ∧ w'.cell? ⟨w.heap.size, 2, none⟩ = some (.int .i64 x2)) (go_keep) ((go_at_call 49; refine (hcR _ _ _ hR1d).mono ?_; rintro e w2 ⟨ao, cap, rfl, hf2', hown⟩; have hf2 := gb_trans hge hf2'; have s1 := gb_cellN hf2 p1; have s2 := gb_cellN hf2 r2))
  have hP2 := hP1.kept0 hf2
  have hw2 := gb_trans hw1 hf2
  have HB : Hid (∀ g, t.a = some g → ¬ F g ∧ w2.heap[g]? = some (.cells (vals t.xs) 5 (0, 0))) := by
    intro g hg
    obtain ⟨h1, h3⟩ := HT4.out g hg
    refine ⟨fun h => ?_, by rw [hf2.block g (lt_of_block h3) (by simp)]; exact h3⟩
    have := hP0.lt g (hP0.FP g h)
    omega
  have HW : Hid (∀ g, t.a = some g → w.heap.size ≤ g) := by
    intro g hg
    have := (HT4.out g hg).1
    omega
  have q1 := got_has HT3.out (fun g hg => (HB.out g hg).2)
  have q2 := hown.has
  have hadd := heldAdd_any hP2.held t hbx hlx HT3.out HB.out (hown.base (Nat.zero_le _))
  have p2 := hP2.box.cell 2
  simp at p2
  clear hcR hR1d hge p1 hf2' hf2 hown hP1 hw1 s1 HT4
  go_wp2_with (first | (go_at_call 16; refine (num_q _ _).mono ?_; rintro e w' ⟨rfl, hw⟩; subst hw) | (go_at_call 34; refine (equal_same q1 q2 hbx _ _).mono ?_; rintro e w' ⟨rfl, hw⟩; subst hw) | fail)
  refine hadd.mono ?_
  rintro e w3 ⟨rfl, hk3, F', hO, hF'⟩
  have hfin := tells_end hP2 hw2 hPw hk3 hO hF' HW.out
  clear hadd q1 q2 hk3 hO hF' p2
  go_wp2
  go_ret
  exact ⟨rfl, hfin⟩

end Go.Proofs.Ytknhoncnaigogaa
