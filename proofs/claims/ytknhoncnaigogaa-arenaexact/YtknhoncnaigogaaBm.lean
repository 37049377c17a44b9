/-
  pair.lays: Write, Fill, Move, and all of it.
-/
import Derived.Test.YtknhoncnaigogaaBl
namespace Go.Proofs.Ytknhoncnaigogaa
open Go.RowKit
set_option linter.unusedVariables false

theorem Has.lt {w : World} {a : Option Addr} {n : Nat} {ys : List Int} (h : Has w a n ys) (h0 : 0 < n) : ∀ k, blk a = some k → k < w.heap.size := by
  intro k hk
  obtain ⟨b, o, rfl, hc⟩ := h.2 h0
  cases hk
  exact World.block_lt_of_cell? _ _ (hc 0 h0)
theorem Has.keptP {w w' : World} {a : Option Addr} {n : Nat} {ys : List Int} (h : Has w a n ys) {row : Option Nat} (hf : w.grownBy w' row) (hne : 0 < n → ∀ k, blk a = some k → some k ≠ row) : Has w' a n ys := by
  rcases Nat.eq_zero_or_pos n with h0 | h0
  · exact ⟨h.1, fun h1 => by omega⟩
  · exact h.kept hf (hne h0)
theorem num_q (x : Int) (w : World) : Calls Try.prog 16 #[.int .i64 x] w fun e w' => e = .returned (.int .i64 x) ∧ w' = w := (num_any x w).mono (by rintro e w' ⟨rfl, rfl⟩; exact ⟨rfl, rfl⟩)

set_option maxRecDepth 100000 in
set_option maxHeartbeats 4000000 in
theorem lays_fill {w : World} {p ab ag rb rg hb : Nat} {F P : Nat → Prop} {ps m : Nat} {zs : List Int} (hP : IsP w p ab ag rb rg hb F P ps m zs) (x1 x2 x3 x4 x5 x6 : Int) (sv : Value) (own : Bool) (h2 : x2 ≤ 9223372036854775807) (h6 : 0 ≤ x6 ∧ x6 < 18446744073709551616) :
    Calls Try.prog 10 #[.pointer (some ⟨p, 0, none⟩), .agg #[.int .i64 5, .int .i64 x1, .int .i64 x2, .int .i64 x3, .int .i64 x4, .int .i64 x5, .int .u64 x6, sv, .bool own]] w fun e w' => e = .returned (.bool true) ∧ ∃ zs', IsP w' p ab ag rb rg hb F P ps m zs' ∧ Kp P w w' := by
  obtain ⟨vs, hvs⟩ : ∃ vs, vs = #[.int .i64 5, .int .i64 x1, .int .i64 x2, .int .i64 x3, .int .i64 x4, .int .i64 x5, .int .u64 x6, sv, .bool own] := ⟨_, rfl⟩
  have e0 : vs[0]? = some (.int .i64 5) := by rw [hvs]; rfl
  have e2 : vs[2]? = some (.int .i64 x2) := by rw [hvs]; rfl
  have e4 : vs[4]? = some (.int .i64 x4) := by rw [hvs]; rfl
  have e6 : vs[6]? = some (.int .u64 x6) := by rw [hvs]; rfl
  rw [← hvs]
  clear hvs
  have hB0 := Box.new w 31 vs
  have hal := World.grownBy_alloc w (.cells vs 31) none
  have hP0 := hP.kept0 hal
  have a0 := (hB0.cell 0).trans e0
  go_enter Try.func10, Try.ntmps10
  go_wp2
  clear a0 e0 hP
  obtain ⟨v, hv⟩ : ∃ v, v = IntKind.u8.wrap x6 := ⟨_, rfl⟩
  have hv0 : 0 ≤ v ∧ v < 256 := by rw [hv, IntKind.wrap_u8]; omega
  obtain ⟨err, zs', hl, hcA, hcR⟩ := pack_fill ps m zs x2 x4 v hv0 h2
  rw [hv] at hcA hcR
  clear hv hv0
  have a2 := (hB0.cell 2).trans e2
  have a4 := (hB0.cell 4).trans e4
  have a6 := (hB0.cell 6).trans e6
  generalize w.alloc (.cells vs 31) = V at *
  have pb := hP0.box
  have p0 := pb.cell 0
  simp at p0
  have hgd := gb_drew (gb_refl V none)
  have hA0 := hP0.a.kept hgd (by simp) (by simp)
  have n1 := bx_ne pb hP0.a.hg (by decide)
  have n2 := bx_ne hB0 hP0.a.hg (by decide)
  go_region_held3 (fun w' => w'.cell? ⟨p, 0, none⟩ = some (.pointer (some ⟨ab, 0, none⟩)) ∧ w'.cell? ⟨w.heap.size, 2, none⟩ = some (.int .i64 x2) ∧ w'.cell? ⟨w.heap.size, 4, none⟩ = some (.int .i64 x4) ∧ w'.cell? ⟨w.heap.size, 6, none⟩ = some (.int .u64 x6)) (go_keep) ((go_at_call 29; refine (hcA _ _ _ hA0).mono ?_; rintro e w1 ⟨rfl, hf1', hA1⟩; have hf1 := gb_trans (gb_none _ hgd) hf1'; have r1 := gb_cellK hf1 p0 n1; have r2 := gb_cellK hf1 a2 n2; have r3 := gb_cellK hf1 a4 n2; have r4 := gb_cellK hf1 a6 n2))
  have hB1 := hB0.kept hf1 n2
  have pb1 := pb.kept hf1 n1
  have p1 := pb1.cell 1
  simp at p1
  have hR1 : IsR w1 rb rg ps zs := hP0.r.kept hf1 (bx_ne (t := 89) hP0.r.hb hP0.a.hg (by decide)) (by intro e; cases e; exact hP0.ne rfl)
  have hge := gb_drew (gb_refl w1 none)
  have hR1d := hR1.kept hge (by simp) (by simp)
  have n3 := bx_ne pb1 hR1.hg (by decide)
  have n4 := bx_ne hB1 hR1.hg (by decide)
  clear hcA hA0 hf1' p0 a2 a4 a6 r1 hgd
  go_wp2
  go_region_held3 (fun w' => w'.cell? ⟨p, 1, none⟩ = some (.pointer (some ⟨rb, 0, none⟩)) ∧ w'.cell? ⟨w.heap.size, 2, none⟩ = some (.int .i64 x2) ∧ w'.cell? ⟨w.heap.size, 4, none⟩ = some (.int .i64 x4) ∧ w'.cell? ⟨w.heap.size, 6, none⟩ = some (.int .u64 x6)) (go_keep) ((first | (go_at_call 16; refine (num_q _ _).mono ?_; rintro e w' ⟨rfl, rfl⟩) | (go_at_call 42; refine (hcR _ _ _ hR1d).mono ?_; rintro e w2 ⟨rfl, hf2', hR2⟩; have hf2 := gb_trans (gb_none _ hge) hf2'; have s1 := gb_cellK hf2 p1 n3; have s2 := gb_cellK hf2 r2 n4; have s3 := gb_cellK hf2 r3 n4; have s4 := gb_cellK hf2 r4 n4)))
  all_goals
    go_wp2
    go_ret
    exact ⟨by simp, lays_done hP0 hal hf1 hA1 hf2 hR2 hl⟩

set_option maxRecDepth 100000 in
set_option maxHeartbeats 4000000 in
theorem lays_move {w : World} {p ab ag rb rg hb : Nat} {F P : Nat → Prop} {ps m : Nat} {zs : List Int} (hP : IsP w p ab ag rb rg hb F P ps m zs) (x1 x2 x3 x4 x5 x6 : Int) (sv : Value) (own : Bool) (h2 : x2 ≤ 9223372036854775807) (h3 : x3 ≤ 9223372036854775807) :
    Calls Try.prog 10 #[.pointer (some ⟨p, 0, none⟩), .agg #[.int .i64 6, .int .i64 x1, .int .i64 x2, .int .i64 x3, .int .i64 x4, .int .i64 x5, .int .u64 x6, sv, .bool own]] w fun e w' => e = .returned (.bool true) ∧ ∃ zs', IsP w' p ab ag rb rg hb F P ps m zs' ∧ Kp P w w' := by
  obtain ⟨vs, hvs⟩ : ∃ vs, vs = #[.int .i64 6, .int .i64 x1, .int .i64 x2, .int .i64 x3, .int .i64 x4, .int .i64 x5, .int .u64 x6, sv, .bool own] := ⟨_, rfl⟩
  have e0 : vs[0]? = some (.int .i64 6) := by rw [hvs]; rfl
  have e2 : vs[2]? = some (.int .i64 x2) := by rw [hvs]; rfl
  have e4 : vs[4]? = some (.int .i64 x4) := by rw [hvs]; rfl
  have e3 : vs[3]? = some (.int .i64 x3) := by rw [hvs]; rfl
  rw [← hvs]
  clear hvs
  have hB0 := Box.new w 31 vs
  have hal := World.grownBy_alloc w (.cells vs 31) none
  have hP0 := hP.kept0 hal
  have a0 := (hB0.cell 0).trans e0
  go_enter Try.func10, Try.ntmps10
  go_wp2
  clear a0 e0 hP
  obtain ⟨err, zs', hl, hcA, hcR⟩ := pack_move ps m zs x3 x2 x4 h2 h3
  have a2 := (hB0.cell 2).trans e2
  have a4 := (hB0.cell 4).trans e4
  have a6 := (hB0.cell 3).trans e3
  generalize w.alloc (.cells vs 31) = V at *
  have pb := hP0.box
  have p0 := pb.cell 0
  simp at p0
  have hgd := gb_drew (gb_refl V none)
  have hA0 := hP0.a.kept hgd (by simp) (by simp)
  have n1 := bx_ne pb hP0.a.hg (by decide)
  have n2 := bx_ne hB0 hP0.a.hg (by decide)
  go_region_held3 (fun w' => w'.cell? ⟨p, 0, none⟩ = some (.pointer (some ⟨ab, 0, none⟩)) ∧ w'.cell? ⟨w.heap.size, 2, none⟩ = some (.int .i64 x2) ∧ w'.cell? ⟨w.heap.size, 4, none⟩ = some (.int .i64 x4) ∧ w'.cell? ⟨w.heap.size, 3, none⟩ = some (.int .i64 x3)) (go_keep) ((go_at_call 30; refine (hcA _ _ _ hA0).mono ?_; rintro e w1 ⟨rfl, hf1', hA1⟩; have hf1 := gb_trans (gb_none _ hgd) hf1'; have r1 := gb_cellK hf1 p0 n1; have r2 := gb_cellK hf1 a2 n2; have r3 := gb_cellK hf1 a4 n2; have r4 := gb_cellK hf1 a6 n2))
  have hB1 := hB0.kept hf1 n2
  have pb1 := pb.kept hf1 n1
  have p1 := pb1.cell 1
  simp at p1
  have hR1 : IsR w1 rb rg ps zs := hP0.r.kept hf1 (bx_ne (t := 89) hP0.r.hb hP0.a.hg (by decide)) (by intro e; cases e; exact hP0.ne rfl)
  have hge := gb_drew (gb_refl w1 none)
  have hR1d := hR1.kept hge (by simp) (by simp)
  have n3 := bx_ne pb1 hR1.hg (by decide)
  have n4 := bx_ne hB1 hR1.hg (by decide)
  clear hcA hA0 hf1' p0 a2 a4 a6 r1 hgd
  go_wp2
  go_region_held3 (fun w' => w'.cell? ⟨p, 1, none⟩ = some (.pointer (some ⟨rb, 0, none⟩)) ∧ w'.cell? ⟨w.heap.size, 2, none⟩ = some (.int .i64 x2) ∧ w'.cell? ⟨w.heap.size, 4, none⟩ = some (.int .i64 x4) ∧ w'.cell? ⟨w.heap.size, 3, none⟩ = some (.int .i64 x3)) (go_keep) ((first | (go_at_call 16; refine (num_q _ _).mono ?_; rintro e w' ⟨rfl, rfl⟩) | (go_at_call 43; refine (hcR _ _ _ hR1d).mono ?_; rintro e w2 ⟨rfl, hf2', hR2⟩; have hf2 := gb_trans (gb_none _ hge) hf2'; have s1 := gb_cellK hf2 p1 n3; have s2 := gb_cellK hf2 r2 n4; have s3 := gb_cellK hf2 r3 n4; have s4 := gb_cellK hf2 r4 n4)))
  all_goals
    go_wp2
    go_ret
    exact ⟨by simp, lays_done hP0 hal hf1 hA1 hf2 hR2 hl⟩

set_option maxRecDepth 100000 in
set_option maxHeartbeats 4000000 in
theorem lays_write {w : World} {p ab ag rb rg hb : Nat} {F P : Nat → Prop} {ps m : Nat} {zs : List Int} (hP : IsP w p ab ag rb rg hb F P ps m zs) (x1 x2 x3 x4 x5 x6 : Int) (a : Option Addr) (n c : Nat) (ys : List Int) (own : Bool) (h2 : x2 ≤ 9223372036854775807)
    (hy : Has w a n ys) (hbs : isBytes ys) (hn : n ≤ 140737488351232) (hc : a = none → c = 0) (hfar : 0 < n → ∀ k, blk a = some k → ¬ P k) :
    Calls Try.prog 10 #[.pointer (some ⟨p, 0, none⟩), .agg #[.int .i64 4, .int .i64 x1, .int .i64 x2, .int .i64 x3, .int .i64 x4, .int .i64 x5, .int .u64 x6, .slice a n c, .bool own]] w fun e w' => e = .returned (.bool true) ∧ ∃ zs', IsP w' p ab ag rb rg hb F P ps m zs' ∧ Kp P w w' := by
  obtain ⟨vs, hvs⟩ : ∃ vs : Array Value, vs = #[.int .i64 4, .int .i64 x1, .int .i64 x2, .int .i64 x3, .int .i64 x4, .int .i64 x5, .int .u64 x6, .slice a n c, .bool own] := ⟨_, rfl⟩
  have e0 : vs[0]? = some (.int .i64 4) := by rw [hvs]; rfl
  have e2 : vs[2]? = some (.int .i64 x2) := by rw [hvs]; rfl
  have e7 : vs[7]? = some (.slice a n c) := by rw [hvs]; rfl
  rw [← hvs]
  clear hvs
  have hB0 := Box.new w 31 vs
  have hal := World.grownBy_alloc w (.cells vs 31) none
  have hP0 := hP.kept0 hal
  have hy0 := hy.kept0 hal
  have a0 := (hB0.cell 0).trans e0
  have a7 := (hB0.cell 7).trans e7
  obtain ⟨err, zs', hl, hcA, hcR⟩ := pack_write ps m zs x2 n ys hbs (by omega) h2 hy.1
  go_enter Try.func10, Try.ntmps10
  go_wp2_with fail
  refine (lend_any hy0 c hc hn).mono ?_
  rintro e v1 ⟨ao, cap, rfl, hown, hg1⟩
  clear a0 a7 e0
  have hwv := gb_trans hal hg1
  have hP1 := hP0.kept0 hg1
  have hy1 := hy0.kept0 hg1
  have hB1 := hB0.kept hg1 (by simp)
  have hao : ∀ k, blk ao = some k → w.heap.size ≤ k := fun k hk => Nat.le_trans hal.size (hown.lt k hk).1
  clear hP0 hy0 hB0 hal hg1
  generalize w.alloc (.cells vs 31) = V at *
  have hll : (ys ++ marksTo 70).length = n + 70 := by rw [List.length_append, hy.1, length_marksTo]
  obtain ⟨gl, rfl, _, hcap, hmx⟩ := hown.shape (by omega)
  have hH1 : Has v1 (some ⟨gl, 0, none⟩) n ys := by
    have hH := hown.has
    rw [hll] at hH
    have := hH.piece 0 n 0 (by omega) (fun _ => rfl)
    have e : cut (ys ++ marksTo 70) 0 n = ys := by simp [cut, ← hy.1]
    rw [e] at this
    exact this
  obtain ⟨q1, q2, q3, q4, q5⟩ := hP.inP
  have a2 := (hB1.cell 2).trans e2
  have pb := hP1.box
  have p0 := pb.cell 0
  simp at p0
  have hgd := gb_drew (gb_refl v1 none)
  have hA0 := hP1.a.kept hgd (by simp) (by simp)
  have hH1d := hH1.kept0 hgd
  have n1 := bx_ne pb hP1.a.hg (by decide)
  have n2 := bx_ne hB1 hP1.a.hg (by decide)
  have n5 : some gl ≠ some ag := by
    intro e
    have e1 : gl = ag := by simpa using e
    have := hao gl rfl
    have := hP.lt _ q3
    omega
  clear hmx hcap
  go_wp2
  go_region_held3 (fun w' => w'.cell? ⟨p, 0, none⟩ = some (.pointer (some ⟨ab, 0, none⟩)) ∧ w'.cell? ⟨w.heap.size, 2, none⟩ = some (.int .i64 x2)) (go_keep) ((go_at_call 31; refine (hcA _ _ _ _ _ hA0 hH1d).mono ?_; rintro e w1 ⟨rfl, hf1', hA1⟩; have hf1 := gb_trans (gb_none _ hgd) hf1'; have r1 := gb_cellK hf1 p0 n1; have r2 := gb_cellK hf1 a2 n2))
  have hB2 := hB1.kept hf1 n2
  have hpb2 := pb.kept hf1 n1
  have hR1 : IsR w1 rb rg ps zs := hP1.r.kept hf1 (bx_ne (t := 89) hP1.r.hb hP1.a.hg (by decide)) (by intro e; cases e; exact hP1.ne rfl)
  have hown1 := hown.kept hf1 (.inr n5)
  have hy2 := hy1.keptP hf1 (fun h0 k hk e => by cases e; exact hfar h0 _ hk q3)
  have hk1 : Kp (fun k => k = ag ∨ k = rg) w w1 := (Kp.of hwv).step hf1 (fun i hi => by cases hi; exact .inl (.inl rfl))
  have a7 := (hB2.cell 7).trans e7
  clear hcA hA0 hf1' hf1 hB1 pb p0 a2 hH1 hH1d hgd hown hy1 hP1 n1 n2 hwv r1 r2
  go_wp2_with fail
  refine (intact_any hown1 hy2 hbs hn).mono ?_
  rintro e w2 ⟨rfl, hf2⟩
  have hB3 := hB2.kept hf2 (by simp)
  have hpb3 := hpb2.kept hf2 (by simp)
  have hR2 := hR1.kept hf2 (by simp) (by simp)
  have hA2 := hA1.kept hf2 (by simp) (by simp)
  have hown2 := hown1.kept hf2 (.inr (by simp [blk]))
  have hy3 := hy2.kept0 hf2
  have hk2 := hk1.step hf2 (by simp)
  clear hf2 hB2 hpb2 hR1 hA1 hown1 hy2 hk1 a7
  go_wp2_with fail
  refine (over_any hown2 (n := n) (by omega) (by omega)).mono ?_
  rintro e w3 ⟨rfl, hf3⟩
  have hge3 := hao gl rfl
  have hlt : ∀ k, P k → some k ≠ blk (some ⟨gl, 0, none⟩) := by
    intro k hk e
    cases e
    have : gl < w.heap.size := hP.lt _ hk
    omega
  have n6 : some w.heap.size ≠ blk (some ⟨gl, 0, none⟩) := bx_ne hB3 (row_block hown2 gl rfl).choose_spec (by decide)
  have hB4 := hB3.kept hf3 n6
  have hpb4 := hpb3.kept hf3 (hlt p q1)
  have hR3 := hR2.kept hf3 (hlt rb q4) (hlt rg q5)
  have hA3 := hA2.kept hf3 (hlt ab q2) (hlt ag q3)
  have hy4 : Has w3 a n ys := hy3.keptP hf3 (fun h0 k hk e => by
    cases e
    have : gl < w.heap.size := hy.lt h0 _ hk
    omega)
  have hk3 := hk2.step hf3 (fun i hi => by cases hi; exact .inr hge3)
  clear hf3 hB3 hpb3 hR2 hA2 hown2 hy3 hk2 n6
  have a2 := (hB4.cell 2).trans e2
  have a7 := (hB4.cell 7).trans e7
  have p1 := hpb4.cell 1
  simp at p1
  have hge := gb_drew (gb_refl w3 none)
  have hR3d := hR3.kept hge (by simp) (by simp)
  have hy4d := hy4.kept0 hge
  have n3 := bx_ne hpb4 hR3.hg (by decide)
  have n4 := bx_ne hB4 hR3.hg (by decide)
  have hnr : 0 < n → ∀ k, a.map (·.block) = some k → k ≠ rg := by intro h0 k hk e; subst e; exact hfar h0 _ hk q5
  go_wp2
  go_region_held3 (fun w' => w'.cell? ⟨p, 1, none⟩ = some (.pointer (some ⟨rb, 0, none⟩)) ∧ w'.cell? ⟨w.heap.size, 2, none⟩ = some (.int .i64 x2) ∧ w'.cell? ⟨w.heap.size, 7, none⟩ = some (.slice a n c)) (go_keep) ((first | (go_at_call 16; refine (num_q _ _).mono ?_; rintro e w' ⟨rfl, rfl⟩) | (go_at_call 41; refine (hcR _ _ _ _ _ hR3d hy4d hnr).mono ?_; rintro e w4 ⟨rfl, hf4', hR4⟩; have hf4 := gb_trans (gb_none _ hge) hf4'; have s1 := gb_cellK hf4 p1 n3; have s2 := gb_cellK hf4 a2 n4; have s3 := gb_cellK hf4 a7 n4)))
  all_goals
    have hA4 := hA3.kept hf4 (bx_ne (t := 96) hA3.hb hR3.hg (by decide)) (by intro e; cases e; exact hP.ne rfl)
    have hk4 := hk3.step hf4 (fun i hi => by cases hi; exact .inl (.inr rfl))
    obtain ⟨f1, f2⟩ := hP.wrote hk4 hA4 hR4 hl
    clear hA4 hk4 hA3 hk3 hR4
    go_wp2
    go_ret
    exact ⟨by simp, zs', f1, f2⟩

end Go.Proofs.Ytknhoncnaigogaa
