/-
  pair.lays: Put (by program: one text a width).
-/
import Derived.Test.YtknhoncnaigogaaBk
namespace Go.Proofs.Ytknhoncnaigogaa
open Go.RowKit
set_option linter.unusedVariables false

theorem bx_ne {w : World} {t t' : TypeId} {b g : Nat} {vs cs : Array Value} (h : Box w t b vs) (hg : w.heap[g]? = some (.cells cs t' (0, 0))) (hn : t ≠ t') : some b ≠ some g := by
  intro e; cases e; exact ne_of_type h hg hn rfl

/-- Both arenas written, one behind the other. -/
theorem lays_done {w V w1 w2 : World} {p ab ag rb rg hb : Nat} {F P : Nat → Prop} {ps m : Nat} {zs zs' : List Int} (hP : IsP V p ab ag rb rg hb F P ps m zs) (hal : w.grownBy V none) (hf1 : V.grownBy w1 (some ag)) (hA1 : IsA w1 ab ag ps m zs')
    (hf2 : w1.grownBy w2 (some rg)) (hR2 : IsR w2 rb rg ps zs') (hl : zs'.length = zs.length) : ∃ zs', IsP w2 p ab ag rb rg hb F P ps m zs' ∧ Kp P w w2 := by
  have hR1 : IsR w1 rb rg ps zs := hP.r.kept hf1 (bx_ne (t := 89) hP.r.hb hP.a.hg (by decide)) (by intro e; cases e; exact hP.ne rfl)
  have hA2 := hA1.kept hf2 (bx_ne (t := 96) hA1.hb hR1.hg (by decide)) (by intro e; cases e; exact hP.ne rfl)
  have hk : Kp (fun k => k = ag ∨ k = rg) V w2 := ((Kp.refl _ V).step hf1 (fun i hi => by cases hi; exact .inl (.inl rfl))).step hf2 (fun i hi => by cases hi; exact .inl (.inr rfl))
  obtain ⟨h1, h2⟩ := hP.wrote hk hA2 hR2 hl
  exact ⟨zs', h1, (Kp.of (F := P) hal).trans h2 (fun i h => h) (fun i h => .inl h)⟩

theorem gb_cellK {w w' : World} {row : Option Nat} (hf : w.grownBy w' row) {b o : Nat} {v : Value} (h : w.cell? ⟨b, o, none⟩ = some v) (hn : some b ≠ row) : w'.cell? ⟨b, o, none⟩ = some v := hf.cell h hn

set_option maxRecDepth 100000 in
set_option maxHeartbeats 4000000 in
theorem lays_put_1 {w : World} {p ab ag rb rg hb : Nat} {F P : Nat → Prop} {ps m : Nat} {zs : List Int} (hP : IsP w p ab ag rb rg hb F P ps m zs) (x1 x2 x3 x4 x5 x6 : Int) (sv : Value) (own : Bool) (h2 : x2 ≤ 9223372036854775807) (h6 : 0 ≤ x6 ∧ x6 < 18446744073709551616) (hk : wd x5 = 1) :
    Calls Try.prog 10 #[.pointer (some ⟨p, 0, none⟩), .agg #[.int .i64 2, .int .i64 x1, .int .i64 x2, .int .i64 x3, .int .i64 x4, .int .i64 x5, .int .u64 x6, sv, .bool own]] w fun e w' => e = .returned (.bool true) ∧ ∃ zs', IsP w' p ab ag rb rg hb F P ps m zs' ∧ Kp P w w' := by
  obtain ⟨vs, hvs⟩ : ∃ vs, vs = #[.int .i64 2, .int .i64 x1, .int .i64 x2, .int .i64 x3, .int .i64 x4, .int .i64 x5, .int .u64 x6, sv, .bool own] := ⟨_, rfl⟩
  have e0 : vs[0]? = some (.int .i64 2) := by rw [hvs]; rfl
  have e2 : vs[2]? = some (.int .i64 x2) := by rw [hvs]; rfl
  have e5 : vs[5]? = some (.int .i64 x5) := by rw [hvs]; rfl
  have e6 : vs[6]? = some (.int .u64 x6) := by rw [hvs]; rfl
  have e8 : vs[8]? = some (.bool own) := by rw [hvs]; rfl
  rw [← hvs]
  clear hvs
  have hB0 := Box.new w 31 vs
  have hal := World.grownBy_alloc w (.cells vs 31) none
  have hP0 := hP.kept0 hal
  have a0 := (hB0.cell 0).trans e0
  have a5 := (hB0.cell 5).trans e5
  have a6 := (hB0.cell 6).trans e6
  go_enter Try.func10, Try.ntmps10
  go_wp2_with (go_at_call 21; refine (widthOf_any _ _).mono ?_; rintro e w' ⟨rfl, rfl⟩; rw [hk])
  obtain ⟨v, hv⟩ : ∃ v, v = x6 % 256 := ⟨_, rfl⟩
  have hv0 : 0 ≤ v ∧ v < 256 := by omega
  rw [← hv]
  clear hv
  clear a0 a5 a6 e0 e5 e6 hP hk
  obtain ⟨err, zs', hl, hcA, hcR⟩ := pack_put ps m zs x2 1 v own (by simp [isWidth]) (by omega) hv0 (by omega) h2
  have a2 := (hB0.cell 2).trans e2
  have a8 := (hB0.cell 8).trans e8
  generalize w.alloc (.cells vs 31) = V at *
  have pb := hP0.box
  have p0 := pb.cell 0
  simp at p0
  have hgd := gb_drew (gb_refl V none)
  have hA0 := hP0.a.kept hgd (by simp) (by simp)
  have n1 := bx_ne pb hP0.a.hg (by decide)
  have n2 := bx_ne hB0 hP0.a.hg (by decide)
  go_region_held3 (fun w' => w'.cell? ⟨p, 0, none⟩ = some (.pointer (some ⟨ab, 0, none⟩)) ∧ w'.cell? ⟨w.heap.size, 2, none⟩ = some (.int .i64 x2) ∧ w'.cell? ⟨w.heap.size, 8, none⟩ = some (.bool own)) (go_keep) ((go_at_call 23; refine (hcA _ _ _ hA0).mono ?_; rintro e w1 ⟨rfl, hf1', hA1⟩; have hf1 := gb_trans (gb_none _ hgd) hf1'; have r1 := gb_cellK hf1 p0 n1; have r2 := gb_cellK hf1 a2 n2; have r3 := gb_cellK hf1 a8 n2))
  have hB1 := hB0.kept hf1 n2
  have pb1 := pb.kept hf1 n1
  have p1 := pb1.cell 1
  simp at p1
  have hR1 : IsR w1 rb rg ps zs := hP0.r.kept hf1 (bx_ne (t := 89) hP0.r.hb hP0.a.hg (by decide)) (by intro e; cases e; exact hP0.ne rfl)
  have hge := gb_drew (gb_refl w1 none)
  have hR1d := hR1.kept hge (by simp) (by simp)
  have n3 := bx_ne pb1 hR1.hg (by decide)
  have n4 := bx_ne hB1 hR1.hg (by decide)
  clear hcA hA0 hf1' p0 a2 a8 r1 r3 hgd
  go_wp2
  go_region_held3 (fun w' => w'.cell? ⟨p, 1, none⟩ = some (.pointer (some ⟨rb, 0, none⟩)) ∧ w'.cell? ⟨w.heap.size, 2, none⟩ = some (.int .i64 x2)) (go_keep) ((go_at_call 37; refine (hcR _ _ _ hR1d).mono ?_; rintro e w2 ⟨rfl, hf2', hR2⟩; have hf2 := gb_trans (gb_none _ hge) hf2'; have r1 := gb_cellK hf2 p1 n3; have r2 := gb_cellK hf2 r2 n4))
  go_wp2
  go_ret
  exact ⟨by simp, lays_done hP0 hal hf1 hA1 hf2 hR2 hl⟩

set_option maxRecDepth 100000 in
set_option maxHeartbeats 4000000 in
theorem lays_put_2 {w : World} {p ab ag rb rg hb : Nat} {F P : Nat → Prop} {ps m : Nat} {zs : List Int} (hP : IsP w p ab ag rb rg hb F P ps m zs) (x1 x2 x3 x4 x5 x6 : Int) (sv : Value) (own : Bool) (h2 : x2 ≤ 9223372036854775807) (h6 : 0 ≤ x6 ∧ x6 < 18446744073709551616) (hk : wd x5 = 2) :
    Calls Try.prog 10 #[.pointer (some ⟨p, 0, none⟩), .agg #[.int .i64 2, .int .i64 x1, .int .i64 x2, .int .i64 x3, .int .i64 x4, .int .i64 x5, .int .u64 x6, sv, .bool own]] w fun e w' => e = .returned (.bool true) ∧ ∃ zs', IsP w' p ab ag rb rg hb F P ps m zs' ∧ Kp P w w' := by
  obtain ⟨vs, hvs⟩ : ∃ vs, vs = #[.int .i64 2, .int .i64 x1, .int .i64 x2, .int .i64 x3, .int .i64 x4, .int .i64 x5, .int .u64 x6, sv, .bool own] := ⟨_, rfl⟩
  have e0 : vs[0]? = some (.int .i64 2) := by rw [hvs]; rfl
  have e2 : vs[2]? = some (.int .i64 x2) := by rw [hvs]; rfl
  have e5 : vs[5]? = some (.int .i64 x5) := by rw [hvs]; rfl
  have e6 : vs[6]? = some (.int .u64 x6) := by rw [hvs]; rfl
  have e8 : vs[8]? = some (.bool own) := by rw [hvs]; rfl
  rw [← hvs]
  clear hvs
  have hB0 := Box.new w 31 vs
  have hal := World.grownBy_alloc w (.cells vs 31) none
  have hP0 := hP.kept0 hal
  have a0 := (hB0.cell 0).trans e0
  have a5 := (hB0.cell 5).trans e5
  have a6 := (hB0.cell 6).trans e6
  go_enter Try.func10, Try.ntmps10
  go_wp2_with (go_at_call 21; refine (widthOf_any _ _).mono ?_; rintro e w' ⟨rfl, rfl⟩; rw [hk])
  obtain ⟨v, hv⟩ : ∃ v, v = x6 % 65536 := ⟨_, rfl⟩
  have hv0 : 0 ≤ v ∧ v < 65536 := by omega
  rw [← hv]
  clear hv
  clear a0 a5 a6 e0 e5 e6 hP hk
  obtain ⟨err, zs', hl, hcA, hcR⟩ := pack_put ps m zs x2 2 v own (by simp [isWidth]) (by omega) hv0 (by omega) h2
  have a2 := (hB0.cell 2).trans e2
  have a8 := (hB0.cell 8).trans e8
  generalize w.alloc (.cells vs 31) = V at *
  have pb := hP0.box
  have p0 := pb.cell 0
  simp at p0
  have hgd := gb_drew (gb_refl V none)
  have hA0 := hP0.a.kept hgd (by simp) (by simp)
  have n1 := bx_ne pb hP0.a.hg (by decide)
  have n2 := bx_ne hB0 hP0.a.hg (by decide)
  go_region_held3 (fun w' => w'.cell? ⟨p, 0, none⟩ = some (.pointer (some ⟨ab, 0, none⟩)) ∧ w'.cell? ⟨w.heap.size, 2, none⟩ = some (.int .i64 x2) ∧ w'.cell? ⟨w.heap.size, 8, none⟩ = some (.bool own)) (go_keep) ((go_at_call 23; refine (hcA _ _ _ hA0).mono ?_; rintro e w1 ⟨rfl, hf1', hA1⟩; have hf1 := gb_trans (gb_none _ hgd) hf1'; have r1 := gb_cellK hf1 p0 n1; have r2 := gb_cellK hf1 a2 n2; have r3 := gb_cellK hf1 a8 n2))
  have hB1 := hB0.kept hf1 n2
  have pb1 := pb.kept hf1 n1
  have p1 := pb1.cell 1
  simp at p1
  have hR1 : IsR w1 rb rg ps zs := hP0.r.kept hf1 (bx_ne (t := 89) hP0.r.hb hP0.a.hg (by decide)) (by intro e; cases e; exact hP0.ne rfl)
  have hge := gb_drew (gb_refl w1 none)
  have hR1d := hR1.kept hge (by simp) (by simp)
  have n3 := bx_ne pb1 hR1.hg (by decide)
  have n4 := bx_ne hB1 hR1.hg (by decide)
  clear hcA hA0 hf1' p0 a2 a8 r1 r3 hgd
  go_wp2
  go_region_held3 (fun w' => w'.cell? ⟨p, 1, none⟩ = some (.pointer (some ⟨rb, 0, none⟩)) ∧ w'.cell? ⟨w.heap.size, 2, none⟩ = some (.int .i64 x2)) (go_keep) ((go_at_call 37; refine (hcR _ _ _ hR1d).mono ?_; rintro e w2 ⟨rfl, hf2', hR2⟩; have hf2 := gb_trans (gb_none _ hge) hf2'; have r1 := gb_cellK hf2 p1 n3; have r2 := gb_cellK hf2 r2 n4))
  go_wp2
  go_ret
  exact ⟨by simp, lays_done hP0 hal hf1 hA1 hf2 hR2 hl⟩

set_option maxRecDepth 100000 in
set_option maxHeartbeats 4000000 in
theorem lays_put_4 {w : World} {p ab ag rb rg hb : Nat} {F P : Nat → Prop} {ps m : Nat} {zs : List Int} (hP : IsP w p ab ag rb rg hb F P ps m zs) (x1 x2 x3 x4 x5 x6 : Int) (sv : Value) (own : Bool) (h2 : x2 ≤ 9223372036854775807) (h6 : 0 ≤ x6 ∧ x6 < 18446744073709551616) (hk : wd x5 = 4) :
    Calls Try.prog 10 #[.pointer (some ⟨p, 0, none⟩), .agg #[.int .i64 2, .int .i64 x1, .int .i64 x2, .int .i64 x3, .int .i64 x4, .int .i64 x5, .int .u64 x6, sv, .bool own]] w fun e w' => e = .returned (.bool true) ∧ ∃ zs', IsP w' p ab ag rb rg hb F P ps m zs' ∧ Kp P w w' := by
  obtain ⟨vs, hvs⟩ : ∃ vs, vs = #[.int .i64 2, .int .i64 x1, .int .i64 x2, .int .i64 x3, .int .i64 x4, .int .i64 x5, .int .u64 x6, sv, .bool own] := ⟨_, rfl⟩
  have e0 : vs[0]? = some (.int .i64 2) := by rw [hvs]; rfl
  have e2 : vs[2]? = some (.int .i64 x2) := by rw [hvs]; rfl
  have e5 : vs[5]? = some (.int .i64 x5) := by rw [hvs]; rfl
  have e6 : vs[6]? = some (.int .u64 x6) := by rw [hvs]; rfl
  have e8 : vs[8]? = some (.bool own) := by rw [hvs]; rfl
  rw [← hvs]
  clear hvs
  have hB0 := Box.new w 31 vs
  have hal := World.grownBy_alloc w (.cells vs 31) none
  have hP0 := hP.kept0 hal
  have a0 := (hB0.cell 0).trans e0
  have a5 := (hB0.cell 5).trans e5
  have a6 := (hB0.cell 6).trans e6
  go_enter Try.func10, Try.ntmps10
  go_wp2_with (go_at_call 21; refine (widthOf_any _ _).mono ?_; rintro e w' ⟨rfl, rfl⟩; rw [hk])
  obtain ⟨v, hv⟩ : ∃ v, v = x6 % 4294967296 := ⟨_, rfl⟩
  have hv0 : 0 ≤ v ∧ v < 4294967296 := by omega
  rw [← hv]
  clear hv
  clear a0 a5 a6 e0 e5 e6 hP hk
  obtain ⟨err, zs', hl, hcA, hcR⟩ := pack_put ps m zs x2 4 v own (by simp [isWidth]) (by omega) hv0 (by omega) h2
  have a2 := (hB0.cell 2).trans e2
  have a8 := (hB0.cell 8).trans e8
  generalize w.alloc (.cells vs 31) = V at *
  have pb := hP0.box
  have p0 := pb.cell 0
  simp at p0
  have hgd := gb_drew (gb_refl V none)
  have hA0 := hP0.a.kept hgd (by simp) (by simp)
  have n1 := bx_ne pb hP0.a.hg (by decide)
  have n2 := bx_ne hB0 hP0.a.hg (by decide)
  go_region_held3 (fun w' => w'.cell? ⟨p, 0, none⟩ = some (.pointer (some ⟨ab, 0, none⟩)) ∧ w'.cell? ⟨w.heap.size, 2, none⟩ = some (.int .i64 x2) ∧ w'.cell? ⟨w.heap.size, 8, none⟩ = some (.bool own)) (go_keep) ((go_at_call 23; refine (hcA _ _ _ hA0).mono ?_; rintro e w1 ⟨rfl, hf1', hA1⟩; have hf1 := gb_trans (gb_none _ hgd) hf1'; have r1 := gb_cellK hf1 p0 n1; have r2 := gb_cellK hf1 a2 n2; have r3 := gb_cellK hf1 a8 n2))
  have hB1 := hB0.kept hf1 n2
  have pb1 := pb.kept hf1 n1
  have p1 := pb1.cell 1
  simp at p1
  have hR1 : IsR w1 rb rg ps zs := hP0.r.kept hf1 (bx_ne (t := 89) hP0.r.hb hP0.a.hg (by decide)) (by intro e; cases e; exact hP0.ne rfl)
  have hge := gb_drew (gb_refl w1 none)
  have hR1d := hR1.kept hge (by simp) (by simp)
  have n3 := bx_ne pb1 hR1.hg (by decide)
  have n4 := bx_ne hB1 hR1.hg (by decide)
  clear hcA hA0 hf1' p0 a2 a8 r1 r3 hgd
  go_wp2
  go_region_held3 (fun w' => w'.cell? ⟨p, 1, none⟩ = some (.pointer (some ⟨rb, 0, none⟩)) ∧ w'.cell? ⟨w.heap.size, 2, none⟩ = some (.int .i64 x2)) (go_keep) ((go_at_call 37; refine (hcR _ _ _ hR1d).mono ?_; rintro e w2 ⟨rfl, hf2', hR2⟩; have hf2 := gb_trans (gb_none _ hge) hf2'; have r1 := gb_cellK hf2 p1 n3; have r2 := gb_cellK hf2 r2 n4))
  go_wp2
  go_ret
  exact ⟨by simp, lays_done hP0 hal hf1 hA1 hf2 hR2 hl⟩

set_option maxRecDepth 100000 in
set_option maxHeartbeats 4000000 in
theorem lays_put_8 {w : World} {p ab ag rb rg hb : Nat} {F P : Nat → Prop} {ps m : Nat} {zs : List Int} (hP : IsP w p ab ag rb rg hb F P ps m zs) (x1 x2 x3 x4 x5 x6 : Int) (sv : Value) (own : Bool) (h2 : x2 ≤ 9223372036854775807) (h6 : 0 ≤ x6 ∧ x6 < 18446744073709551616) (hk : wd x5 = 8) :
    Calls Try.prog 10 #[.pointer (some ⟨p, 0, none⟩), .agg #[.int .i64 2, .int .i64 x1, .int .i64 x2, .int .i64 x3, .int .i64 x4, .int .i64 x5, .int .u64 x6, sv, .bool own]] w fun e w' => e = .returned (.bool true) ∧ ∃ zs', IsP w' p ab ag rb rg hb F P ps m zs' ∧ Kp P w w' := by
  obtain ⟨vs, hvs⟩ : ∃ vs, vs = #[.int .i64 2, .int .i64 x1, .int .i64 x2, .int .i64 x3, .int .i64 x4, .int .i64 x5, .int .u64 x6, sv, .bool own] := ⟨_, rfl⟩
  have e0 : vs[0]? = some (.int .i64 2) := by rw [hvs]; rfl
  have e2 : vs[2]? = some (.int .i64 x2) := by rw [hvs]; rfl
  have e5 : vs[5]? = some (.int .i64 x5) := by rw [hvs]; rfl
  have e6 : vs[6]? = some (.int .u64 x6) := by rw [hvs]; rfl
  have e8 : vs[8]? = some (.bool own) := by rw [hvs]; rfl
  rw [← hvs]
  clear hvs
  have hB0 := Box.new w 31 vs
  have hal := World.grownBy_alloc w (.cells vs 31) none
  have hP0 := hP.kept0 hal
  have a0 := (hB0.cell 0).trans e0
  have a5 := (hB0.cell 5).trans e5
  have a6 := (hB0.cell 6).trans e6
  go_enter Try.func10, Try.ntmps10
  go_wp2_with (go_at_call 21; refine (widthOf_any _ _).mono ?_; rintro e w' ⟨rfl, rfl⟩; rw [hk])
  obtain ⟨v, hv⟩ : ∃ v, v = x6 := ⟨_, rfl⟩
  rw [← hv] at h6 ⊢
  have hv0 := h6
  clear hv
  clear a0 a5 a6 e0 e5 e6 hP hk
  obtain ⟨err, zs', hl, hcA, hcR⟩ := pack_put ps m zs x2 8 v own (by simp [isWidth]) (by omega) hv0 (by omega) h2
  have a2 := (hB0.cell 2).trans e2
  have a8 := (hB0.cell 8).trans e8
  generalize w.alloc (.cells vs 31) = V at *
  have pb := hP0.box
  have p0 := pb.cell 0
  simp at p0
  have hgd := gb_drew (gb_refl V none)
  have hA0 := hP0.a.kept hgd (by simp) (by simp)
  have n1 := bx_ne pb hP0.a.hg (by decide)
  have n2 := bx_ne hB0 hP0.a.hg (by decide)
  go_region_held3 (fun w' => w'.cell? ⟨p, 0, none⟩ = some (.pointer (some ⟨ab, 0, none⟩)) ∧ w'.cell? ⟨w.heap.size, 2, none⟩ = some (.int .i64 x2) ∧ w'.cell? ⟨w.heap.size, 8, none⟩ = some (.bool own)) (go_keep) ((go_at_call 23; refine (hcA _ _ _ hA0).mono ?_; rintro e w1 ⟨rfl, hf1', hA1⟩; have hf1 := gb_trans (gb_none _ hgd) hf1'; have r1 := gb_cellK hf1 p0 n1; have r2 := gb_cellK hf1 a2 n2; have r3 := gb_cellK hf1 a8 n2))
  have hB1 := hB0.kept hf1 n2
  have pb1 := pb.kept hf1 n1
  have p1 := pb1.cell 1
  simp at p1
  have hR1 : IsR w1 rb rg ps zs := hP0.r.kept hf1 (bx_ne (t := 89) hP0.r.hb hP0.a.hg (by decide)) (by intro e; cases e; exact hP0.ne rfl)
  have hge := gb_drew (gb_refl w1 none)
  have hR1d := hR1.kept hge (by simp) (by simp)
  have n3 := bx_ne pb1 hR1.hg (by decide)
  have n4 := bx_ne hB1 hR1.hg (by decide)
  clear hcA hA0 hf1' p0 a2 a8 r1 r3 hgd
  go_wp2
  go_region_held3 (fun w' => w'.cell? ⟨p, 1, none⟩ = some (.pointer (some ⟨rb, 0, none⟩)) ∧ w'.cell? ⟨w.heap.size, 2, none⟩ = some (.int .i64 x2)) (go_keep) ((go_at_call 37; refine (hcR _ _ _ hR1d).mono ?_; rintro e w2 ⟨rfl, hf2', hR2⟩; have hf2 := gb_trans (gb_none _ hge) hf2'; have r1 := gb_cellK hf2 p1 n3; have r2 := gb_cellK hf2 r2 n4))
  go_wp2
  go_ret
  exact ⟨by simp, lays_done hP0 hal hf1 hA1 hf2 hR2 hl⟩

end Go.Proofs.Ytknhoncnaigogaa
