import Derived.Test.YtjkdflnnpdionaaGreatMc
import Derived.Deep.RegionLaw
/-
  class.New makes a Set.
-/
namespace Go.Proofs.YtjkdflnnpdionaaGreat
open Go.RowKit
set_option linter.unusedVariables false

/-- A new Set. -/
def A0 (ps m n : Nat) (sz : Nat → Nat) : Ab := { ps := ps, m := m, n := n, sz := sz, np := 0, own := fun _ => 0, gen := fun _ _ => 0, tkn := fun _ _ => false, row := fun _ => [], tk := fun _ => 0 }

theorem Tryz.info190 : (Tryz.prog.info? 190).map (fun i => (i.zero, i.size, i.bytes)) = some (some (.agg #[.int .i64 0, .int .i64 0, .slice none 0 0, .int .i64 0]), 4, 48) := by kernel_rfl

def set0 (a b c d e f g : Int) (ab : Nat) (kv : Value) : Array Value := #[.int .i64 a, .int .i64 b, .int .i64 c, .int .i64 d, .int .i64 e, .int .i64 f, .int .i64 g, .pointer (some ⟨ab, 0, none⟩), kv, .slice none 0 0]

set_option maxRecDepth 100000 in
set_option maxHeartbeats 4000000 in
theorem new_ok {ps m F s0 il n : Nat} (h : Cfg ps m F s0 il) (f g : Int) (hn : n ≤ 62) (hc : Cls F (limOf il) s0 n) (hmn : n ≤ m) (w : World) : Calls Tryz.prog 56 #[cfgV ps m F s0 il f g] w fun x w' => ∃ sb G B, x = .returned (.tuple #[.pointer (some ⟨sb, 0, none⟩), .int .i64 0]) ∧ w.grownBy w' none ∧
    IsS w' sb G B m F s0 il f g (A0 ps m n (chain F (limOf il) s0)) (List.replicate (ps * m) 0) ∧ ∀ k, G k → w.heap.size ≤ k := by
  obtain ⟨bp0, bp1, bp2, bp3⟩ := h.bounds
  have hil := h.il1
  have hcf := chain_facts h.good
  have hs64 := h.good.s64
  have hn1 := hc.1
  have hin := fun W => inB_yes ps m F s0 il f g h.inB W
  have h7 := C7.box w ps m F s0 il f g
  have hF0 : w.grownBy (w.alloc (.cells #[.int .i64 ps, .int .i64 m, .int .i64 F, .int .i64 s0, .int .i64 il, .int .i64 f, .int .i64 g] 105)) none := World.grownBy_alloc _ _ _
  have hsz0 : w.heap.size < (w.alloc (.cells #[.int .i64 ps, .int .i64 m, .int .i64 F, .int .i64 s0, .int .i64 il, .int .i64 f, .int .i64 g] 105)).heap.size := by simp
  obtain ⟨kk, hkk⟩ := h.pw
  have hpo : PageOk (ps : Int) := ⟨kk, by rw [hkk.1], hkk.2⟩
  have hyes := fun W => new_yes ps m W ⟨kk, hkk⟩ (page_of hpo) ⟨h.m1, h.m2⟩
  have hsz := fun W => (sizes_any h.good rfl (by omega) ps m f g W).mono (R' := fun e w' => ∃ ga cp, e = .returned (.tuple #[.slice (some ⟨ga, 0, none⟩) n cp, .bool true]) ∧ W.grownBy w' none ∧ w'.ownsRow W.heap.size 3 1 (.slice (some ⟨ga, 0, none⟩) n cp) n (ints (szL F (limOf il) s0 n))) (by
    rintro x w' ⟨hf, ⟨n', v, h1, h2, rfl, h3⟩ | ⟨h1, _⟩⟩
    · have := cls_uniq hc h2
      subst this
      obtain ⟨ao, cp, rfl, _, _, _, h4⟩ := row_shape h3
      obtain ⟨ga, rfl⟩ := h4 (by omega)
      exact ⟨ga, cp, rfl, hf, h3⟩
    · have := h1 (n - 1) (by omega)
      have := hc.2.1
      omega)
  have hd1 : decide (m < n) = false := by simp; omega
  have hd2 : decide ((m : Int) < n) = false := by simp; omega
  clear hkk hc hpo h
  unfold cfgV at hin hsz ⊢
  go_enter Tryz.func56, Tryz.ntmps56
  go_wp2_with (first | (go_at_call 117; go_must (refine (hin _).mono ?_); rintro x w1 ⟨rfl, hf1⟩; have h71 := h7.kept hf1; have h71' := h71; obtain ⟨k0, k1, k2, k3, k4, k5, k6⟩ := h71') | (go_at_call 118; go_must (refine (hyes _).mono ?_); rintro x w2 ⟨rfl, hf2, hA⟩; have h72 := h71.kept hf2; have h72' := h72; obtain ⟨j0, j1, j2, j3, j4, j5, j6⟩ := h72') | (go_at_call 119; go_must (refine (hsz _).mono ?_); rintro x w3 ⟨ga, cp, rfl, hf3, hall⟩; have h73 := h72.kept hf3; have h73' := h73; obtain ⟨i0, i1, i2, i3, i4, i5, i6⟩ := h73') | fail)
  have hF3 : w.grownBy w3 none := gb_trans (gb_trans (gb_trans hF0 hf1) hf2) hf3
  have s1 := hf1.size
  have s2 := hf2.size
  have s3 := hf3.size
  have hA3 : IsA w3 (w1.heap.size + 1) w1.heap.size ps m (List.replicate (ps * m) 0) := hA.kept hf3 (by simp) (by simp)
  have hb4 : Box (w3.alloc (.cells (set0 ps m F s0 il f g (w1.heap.size + 1) (.slice none 0 0)) 187)) 187 w3.heap.size (set0 ps m F s0 il f g (w1.heap.size + 1) (.slice none 0 0)) := Box.new _ _ _
  have hF4 : w3.grownBy (w3.alloc (.cells (set0 ps m F s0 il f g (w1.heap.size + 1) (.slice none 0 0)) 187)) none := World.grownBy_alloc _ _ _
  have hs4 : (w3.alloc (.cells (set0 ps m F s0 il f g (w1.heap.size + 1) (.slice none 0 0)) 187)).heap.size = w3.heap.size + 1 := by simp
  have hal4 : w3.heap.size ≤ (w3.alloc (.cells (set0 ps m F s0 il f g (w1.heap.size + 1) (.slice none 0 0)) 187)).heap.size := by omega
  change Code.wp _ _ _ _ (w3.alloc (.cells (set0 ps m F s0 il f g (w1.heap.size + 1) (.slice none 0 0)) 187))
  generalize w3.alloc (.cells (set0 ps m F s0 il f g (w1.heap.size + 1) (.slice none 0 0)) 187) = w4 at *
  have hgal := (hall.lt ga rfl)
  have hall4 := row_kept hall hF4 (by simp)
  have h74 := h73.kept hF4
  have hA4 : IsA w4 (w1.heap.size + 1) w1.heap.size ps m (List.replicate (ps * m) 0) := hA3.kept hF4 (by simp) (by simp)
  have hab := (lt_of_block hA3.hb)
  have hag := (lt_of_block hA3.hg)
  have hFF : w.grownBy w4 none := gb_trans hF3 hF4
  clear hin hsz hyes h7 hF0 h71 k0 k1 k2 k3 k4 k5 k6 h72 j0 j1 j2 j3 j4 j5 j6 h73 i0 i1 i2 i3 i4 i5 i6 hA hall hA3 hF3 hF4 hf1 hf2 hf3
  generalize hab' : w1.heap.size + 1 = ab at *
  generalize hag' : w1.heap.size = ag at *
  generalize hsb : w3.heap.size = sb at *
  have hR : Hid (w.heap.size < ag ∨ w.heap.size ≤ ag) := .inr (by omega)
  have hL1 : w.heap.size ≤ ag := by omega
  clear hal4 s1 s2 s3 hsz0
  go_loopw [42] (fun iv wr => ∃ (k : Nat) (kv : Value), iv = .int .i64 k ∧ k ≤ n ∧ Box wr 187 sb (set0 ps m F s0 il f g ab kv) ∧ wr.ownsRow (sb + 1) 190 4 kv k (rng k (kindC (A0 ps m n (chain F (limOf il) s0)) (fun _ => .slice none 0 0))) ∧ Kp (fun k => k = sb) w4 wr) (fun iv _ => n - (intOf iv).toNat)
  case atStart => exact ⟨0, .slice none 0 0, rfl, by omega, hb4, World.ownsRow_nil _ _ _ _, Kp.refl _ _⟩
  case round =>
    obtain ⟨k, kv, rfl, hk, hbx, hrow, hK⟩ := hrel
    have hall5 := row_same (w' := wr) hall4 (fun b hb => hK.block b (by simp [Value.ownBlock] at hb; omega) (by simp [Value.ownBlock] at hb; omega))
    by_cases hlt : k < n
    · have hc0 := row_cell hall5 k (.int .i64 (chain F (limOf il) s0 k)) (ints_get _ _ _ (szL_get _ _ _ _ _ hlt))
      obtain ⟨h8, h0, hl⟩ := hcf k
      obtain ⟨s, hs⟩ : ∃ s, s = chain F (limOf il) s0 k := ⟨_, rfl⟩
      rw [← hs] at hc0 h8 h0 hl
      have HS : Hid (s = chain F (limOf il) s0 k) := hs
      have q0 : wr.cell? ⟨w.heap.size, 0, none⟩ = some (.int .i64 ps) := by
        have := h74.1
        have hlt2 := World.block_lt_of_cell? _ _ this
        have hb := hK.block w.heap.size hlt2 (by omega)
        simpa [World.cell?, hb] using this
      have c8 := hbx.cell 8
      have z8 := hbx.fz 8
      simp [set0] at c8
      obtain ⟨q, hq⟩ : ∃ q, q = ps / s := ⟨_, rfl⟩
      have HQ : Hid (q = ps / s) := hq
      have hdv : (ps : Int).tdiv s = q := by rw [Int.tdiv_eq_ediv_of_nonneg (by omega), hq]; exact (Int.natCast_ediv _ _).symm
      have hq1 : q ≤ ps := by rw [hq]; exact Nat.div_le_self _ _
      have hs0 : (s : Int) ≠ 0 := by omega
      have hs0n : ¬ s = 0 := by omega
      have hwq : IntKind.i64.wrap (q : Int) = q := by rw [IntKind.wrap_i64]; omega
      have hne : ∀ b, kv.ownBlock = some b → b ≠ sb := fun b hb => by have := (hrow.lt b hb).1; omega
      have hne8 : some sb ≠ kv.ownBlock := fun e => hne sb e.symm rfl
      obtain ⟨io, hi0, hz0, hz1, hz2⟩ := info_parts Tryz.info190
      have ka : ∀ o, (wr.alloc o).cell? ⟨sb, 8, none⟩ = some kv := fun o => gb_cellN (World.grownBy_alloc wr o none) c8
      have kb : ∀ o, (wr.drew.alloc o).cell? ⟨sb, 8, none⟩ = some kv := fun o => gb_cellN (World.grownBy_alloc wr.drew o none) c8
      clear hs hq hcf
      go_wp2
      go_region_law ((refine step_append_lies _ (by rfl) _ _ _ (by rfl) (sb + 1) 190 io _ 4 48 Tryz.underlying184 hi0 hz0 hz1 hz2 rfl (by omega) kv k _ (by rfl) (World.ownsRow.alloc (w := wr.drew) hrow _) ⟨wr.heap.size, 0, none⟩ 1 1 [.int .i64 s, .int .i64 q, .slice none 0 0, .int .i64 0] (by rfl) (by rfl) (World.news_of_block (cs := #[.int .i64 s, .int .i64 q, .slice none 0 0, .int .i64 0]) (t := 190) (fr := (0, 0)) (heap_alloc_new wr.drew _)) (by simp [Value.oneCell']) (by omega) (by unfold maxLen; omega) (by omega) (by simp; have := hK.size; omega) (wr.heap.size + 1) (by simp) ?_; intro g2 cap2 w5 hown5 hgrow5 hat5 hlt5; have b3 := ((hbx.kept (gb_drew (gb_refl _ none)) (by simp)).kept (World.grownBy_alloc wr.drew _ none) (by simp)).kept hgrow5 hne8; have b4 : w5.cell? ⟨sb, 8, none⟩ = some kv := (by rw [b3.cell 8]; rfl); have b5 : w5.frozen? ⟨sb, 8, none⟩ = false := b3.fz 8; have hg5 : wr.grownBy w5 kv.ownBlock := gb_trans (by first | exact gb_alloc (gb_drew (gb_refl _ _)) _ | exact gb_drew (gb_alloc (gb_refl _ _) _)) hgrow5))
      all_goals
        have hK5 : Kp (fun k => k = sb) w4 (w5.setCell ⟨sb, 8, none⟩ (.slice (some ⟨g2, 0, none⟩) (k + 1) cap2)) := by
          refine (hK.step hg5 (fun b hb => .inr ?_)).step (gb_setCell (gb_refl _ _) _) (fun b hb => .inl (by simpa using hb.symm))
          have := (hrow.lt b hb).1
          omega
        have hB5 : Box (w5.setCell ⟨sb, 8, none⟩ (.slice (some ⟨g2, 0, none⟩) (k + 1) cap2)) 187 sb (set0 ps m F s0 il f g ab (.slice (some ⟨g2, 0, none⟩) (k + 1) cap2)) := b3.set 8 _
        have hg2 := hown5.lt g2 rfl
        have hR5 : (w5.setCell ⟨sb, 8, none⟩ (.slice (some ⟨g2, 0, none⟩) (k + 1) cap2)).ownsRow (sb + 1) 190 4 (.slice (some ⟨g2, 0, none⟩) (k + 1) cap2) (k + 1) (rng (k + 1) (kindC (A0 ps m n (chain F (limOf il) s0)) (fun _ => .slice none 0 0))) := by
          rw [rng_succ]
          refine row_same ?_ (fun b hb => heap_setCell_other _ _ _ _ (by simp [Value.ownBlock] at hb; simp; omega))
          have e : kindC (A0 ps m n (chain F (limOf il) s0)) (fun _ => .slice none 0 0) k = [.int .i64 s, .int .i64 q, .slice none 0 0, .int .i64 0] := by
            simp only [kindC, A0, Ab.each]
            rw [← HS.out, ← HQ.out]; rfl
          rw [e]
          exact hown5
        have HH : Hid (_ ∧ _ ∧ _) := ⟨hK5, hB5, hR5⟩
        clear hK5 hB5 hR5
        go_wp2
        go_roundw
        case rel => exact ⟨k + 1, _, by go_num, by omega, HH.out.2.1, HH.out.2.2, HH.out.1⟩
        case measure => simp [intOf]; omega
    · obtain rfl : k = n := by omega
      obtain ⟨ao, cc, rfl, _, _, _, hh⟩ := row_shape hrow
      obtain ⟨kb, rfl⟩ := hh (by omega)
      have hkb := hrow.lt kb rfl
      have hFw : w.grownBy wr none := ((Kp.of (F := fun _ => False) hFF).trans hK (H := fun _ => False) (fun i h => h) (fun i hi => .inr (by omega))).grown (fun i hi => hi.elim)
      have hA5 : IsA wr ab ag ps m (List.replicate (ps * m) 0) := hA4.same (hK.block ab (by omega) (by omega)) (hK.block ag (by omega) (by omega))
      have HH : Hid (_ ∧ _ ∧ _ ∧ _) := ⟨hFw, hA5, hrow, hbx⟩
      have hws := hFw.size
      have hwr := hK.size
      clear hcf hFw hA5 hrow hbx
      go_wp2
      go_ret2
      obtain ⟨hFw, hA5, hrow, hbx⟩ := HH.out
      refine ⟨sb, fun b => b = sb ∨ b = kb ∨ b = ab ∨ b = ag, ⟨ab, ag, kb, cc, .slice none 0 0, fun _ => .slice none 0 0, fun _ => 0⟩, rfl, hFw, ?_, ?_⟩
      · refine ⟨hbx, row_base hrow (Nat.zero_le _), World.ownsRow_nil _ _ _ _, fun p hp => absurd hp (Nat.not_lt_zero _), fun i hi => World.ownsRow_nil _ _ _ _, hA5, .inl rfl, .inr (.inl rfl), fun b hb => by simp [Value.ownBlock] at hb, fun p hp => absurd hp (Nat.not_lt_zero _), fun i b hi hb => by simp [Value.ownBlock] at hb, ⟨.inr (.inr (.inl rfl)), .inr (.inr (.inr rfl))⟩, ?_, fun p q hp => absurd hp (Nat.not_lt_zero _), fun i j b hi hj hb => by simp [Value.ownBlock] at hb, rfl⟩
        rintro b (h | h | h | h) <;> omega
      · rintro b (h | h | h | h) <;> omega

end Go.Proofs.YtjkdflnnpdionaaGreat
/-
  What a Set tells.
-/
namespace Go.Proofs.YtjkdflnnpdionaaGreat
open Go.RowKit
set_option linter.unusedVariables false

theorem field96_0 (a b c d : Value) (w : World) : (Instr.field 190 (.agg #[a, b, c, d]) 0).run Tryz.prog w = .ok a w := by kernel_rfl
theorem field96_2 (a b c d : Value) (w : World) : (Instr.field 190 (.agg #[a, b, c, d]) 2).run Tryz.prog w = .ok c w := by kernel_rfl
theorem field96_3 (a b c d : Value) (w : World) : (Instr.field 190 (.agg #[a, b, c, d]) 3).run Tryz.prog w = .ok d w := by kernel_rfl

/-- The numbers are small enough. -/
structure Fit (A : Ab) : Prop extends Szs A where
  nm : A.np ≤ A.m
  rt : ∀ c, c < A.n → (A.row c).length + A.tk c ≤ 16777216

theorem Szs.ps0 {A : Ab} (h : Szs A) : 4096 ≤ A.ps ∧ A.ps ≤ 1048576 ∧ A.ps % 8 = 0 := by
  obtain ⟨k, hk⟩ := h.pp
  have h1 : PageOk (A.ps : Int) := ⟨k, by rw [hk.1], hk.2⟩
  have h2 := h1.bounds
  omega
theorem Szs.each {A : Ab} (h : Szs A) {c : Nat} (hc : c < A.n) : 1 ≤ A.each c ∧ A.each c ≤ 16384 ∧ A.each c * A.sz c ≤ A.ps := by
  have h1 := h.lo c hc
  have h2 := h.hi c hc
  have h3 := h.ps0
  refine ⟨(Nat.le_div_iff_mul_le (by omega)).2 (by omega), ?_, Nat.div_mul_le_self _ _⟩
  have := Nat.div_le_div (a := A.ps) (b := 1048576) (c := A.sz c) (d := 64) (by omega) h1 (by omega)
  exact this

section
variable {w : World} {sb : Nat} {F : Nat → Prop} {B : Bl} {b c d e f g : Int} {A : Ab} {zs : List Int}

theorem arena_39 (h : IsS w sb F B b c d e f g A zs) : Calls Tryz.prog 83 #[.pointer (some ⟨sb, 0, none⟩)] w fun x w' => x = .returned (.pointer (some ⟨B.ab, 0, none⟩)) ∧ w = w' := by
  have c7 := h.sc 7
  simp [setC] at c7
  go_enter Tryz.func83, Tryz.ntmps83
  go_wp2
  go_ret
  exact ⟨rfl, rfl⟩
theorem classes_20 (h : IsS w sb F B b c d e f g A zs) (hA : Szs A) : Calls Tryz.prog 62 #[.pointer (some ⟨sb, 0, none⟩)] w fun x w' => x = .returned (.int .i64 A.n) ∧ w = w' := by
  have c8 := h.sc 8
  simp [setC] at c8
  have := hA.n2
  go_enter Tryz.func62, Tryz.ntmps62
  go_wp2
  go_ret
  exact ⟨rfl, rfl⟩
theorem freePages_21 (h : IsS w sb F B b c d e f g A zs) (hA : Fit A) : Calls Tryz.prog 132 #[.pointer (some ⟨sb, 0, none⟩)] w fun x w' => x = .returned (.int .i64 ((A.m - A.np : Nat) : Int)) ∧ ∃ q, w' = w.drewN q := by
  have c1 := h.sc 1
  have c9 := h.sc 9
  simp [setC] at c1 c9
  obtain ⟨ao, cp, hp, h1, h2, h3, h4⟩ := row_shape h.pages
  rw [hp] at c9
  have hb := h.bm
  have hnm := hA.nm
  have hmm := hA.mm
  rw [hb] at c1
  have hsub : (A.m : Int) - A.np = ((A.m - A.np : Nat) : Int) := by omega
  clear h hp h1 h4 hb
  generalize A.m - A.np = q at *
  generalize A.m = m at *
  generalize A.np = np at *
  go_enter Tryz.func132, Tryz.ntmps132
  go_wp2
  go_quiet (fail)
  go_wp2
  go_ret
  exact ⟨rfl, _, rfl⟩
theorem has_50 (h : IsS w sb F B b c d e f g A zs) (hA : Szs A) (x : Int) : Calls Tryz.prog 131 #[.pointer (some ⟨sb, 0, none⟩), .int .i64 x] w fun y w' => y = .returned (.bool (decide (0 ≤ x ∧ x < A.n))) ∧ w = w' := by
  have c8 := h.sc 8
  simp [setC] at c8
  have := hA.n2
  clear h hA
  generalize A.n = n at *
  by_cases h0 : 0 ≤ x
  · by_cases h1 : x < n
    · have HD : Hid (decide (0 ≤ x ∧ x < n) = true) := by show _ = _; simp [h0, h1]
      rw [HD.out]
      go_enter Tryz.func131, Tryz.ntmps131
      go_wp2
      go_ret
      exact ⟨rfl, rfl⟩
    · have HD : Hid (decide (0 ≤ x ∧ x < n) = false) := by show _ = _; simp [h1]
      rw [HD.out]
      go_enter Tryz.func131, Tryz.ntmps131
      go_wp2
      go_ret
      exact ⟨rfl, rfl⟩
  · have HD : Hid (decide (0 ≤ x ∧ x < n) = false) := by show _ = _; simp [h0]
    rw [HD.out]
    go_enter Tryz.func131, Tryz.ntmps131
    go_wp2
    go_ret
    exact ⟨rfl, rfl⟩
theorem has_yes (h : IsS w sb F B b c d e f g A zs) (hA : Szs A) (i : Nat) (hi : i < A.n) : Calls Tryz.prog 131 #[.pointer (some ⟨sb, 0, none⟩), .int .i64 i] w fun y w' => y = .returned (.bool true) ∧ w = w' := by
  have := has_50 h hA i
  rwa [show decide ((0 : Int) ≤ i ∧ (i : Int) < A.n) = true by simp; omega] at this
theorem has_no (h : IsS w sb F B b c d e f g A zs) (hA : Szs A) (x : Int) (hx : ¬ (0 ≤ x ∧ x < A.n)) : Calls Tryz.prog 131 #[.pointer (some ⟨sb, 0, none⟩), .int .i64 x] w fun y w' => y = .returned (.bool false) ∧ w = w' := by
  have := has_50 h hA x
  rwa [show decide (0 ≤ x ∧ x < A.n) = false by simp only [decide_eq_false_iff_not]; exact hx] at this

theorem kind_yes (h : IsS w sb F B b c d e f g A zs) (hA : Szs A) (i : Nat) (hi : i < A.n) : Calls Tryz.prog 207 #[.pointer (some ⟨sb, 0, none⟩), .int .i64 i] w fun y w' => y = .returned (.agg #[.int .i64 (A.sz i), .int .i64 (A.each i), B.rv i, .int .i64 (A.tk i)]) ∧ w.grownBy w' none := by
  have c8 := h.sc 8
  simp [setC] at c8
  have k := fun (o : Obj) (x : Addr) (v : Value) (hv : w.cell? x = some v) => gb_cellN (World.grownBy_alloc w o none) hv
  have e0 := h.kcell hi (j := 0) (by omega)
  have e1 := h.kcell hi (j := 1) (by omega)
  have e2 := h.kcell hi (j := 2) (by omega)
  have e3 := h.kcell hi (j := 3) (by omega)
  simp only [kindC, List.getElem?_cons_zero, List.getElem?_cons_succ, Nat.add_zero] at e0 e1 e2 e3
  obtain ⟨ao, cp, hrv, _, _, _, _⟩ := row_shape (h.rows i hi)
  rw [hrv] at e2 ⊢
  have hn := hA.n2
  have hk : Calls Tryz.prog 131 #[.pointer (some ⟨sb, 0, none⟩), .int .i64 i] (w.alloc (.cells #[.int .i64 0, .int .i64 0, .slice none 0 0, .int .i64 0] 190)) fun y w' => y = .returned (.bool true) ∧ w.alloc (.cells #[.int .i64 0, .int .i64 0, .slice none 0 0, .int .i64 0] 190) = w' := has_yes (h.kept0 (World.grownBy_alloc _ _ _)) hA i hi
  have f8 := fun o => k o _ _ c8
  have f0 := fun o => k o _ _ e0
  have f1 := fun o => k o _ _ e1
  have f2 := fun o => k o _ _ e2
  have f3 := fun o => k o _ _ e3
  clear k h
  go_enter Tryz.func207, Tryz.ntmps207
  go_wp2_with (first | (go_at_call 131; go_must (refine hk.mono ?_); rintro y w' ⟨rfl, rfl⟩) | fail)
  exact bodyPost_ret (v := .agg #[.int .i64 (A.sz i), .int .i64 (A.each i), .slice ao (A.row i).length cp, .int .i64 (A.tk i)]) (by simp [results, Tryz.results207, go_sem]) rfl ⟨rfl, gb_alloc (gb_refl _ _) _⟩
theorem kind_no (h : IsS w sb F B b c d e f g A zs) (hA : Szs A) (x : Int) (hx : ¬ (0 ≤ x ∧ x < A.n)) : Calls Tryz.prog 207 #[.pointer (some ⟨sb, 0, none⟩), .int .i64 x] w fun y w' => y = .returned (.agg #[.int .i64 0, .int .i64 0, .slice none 0 0, .int .i64 0]) ∧ w.grownBy w' none := by
  have hk : Calls Tryz.prog 131 #[.pointer (some ⟨sb, 0, none⟩), .int .i64 x] (w.alloc (.cells #[.int .i64 0, .int .i64 0, .slice none 0 0, .int .i64 0] 190)) fun y w' => y = .returned (.bool false) ∧ w.alloc (.cells #[.int .i64 0, .int .i64 0, .slice none 0 0, .int .i64 0] 190) = w' := has_no (h.kept0 (World.grownBy_alloc _ _ _)) hA x hx
  clear h hx
  go_enter Tryz.func207, Tryz.ntmps207
  go_wp2_with (first | (go_at_call 131; go_must (refine hk.mono ?_); rintro y w' ⟨rfl, rfl⟩) | fail)
  exact bodyPost_ret (v := .agg #[.int .i64 0, .int .i64 0, .slice none 0 0, .int .i64 0]) (by simp [results, Tryz.results207, go_sem]) rfl ⟨rfl, gb_alloc (gb_refl _ _) _⟩

set_option maxRecDepth 100000 in
theorem chunk_yes (h : IsS w sb F B b c d e f g A zs) (hA : Szs A) (i : Nat) (hi : i < A.n) : Calls Tryz.prog 185 #[.pointer (some ⟨sb, 0, none⟩), .int .i64 i] w fun y w' => y = .returned (.int .i64 (A.sz i)) ∧ w.grownBy w' none := by
  have hk := kind_yes h hA i hi
  have hfd := field96_0
  go_enter Tryz.func185, Tryz.ntmps185
  go_wp2_with (first | (go_at_call 207; go_must (refine hk.mono ?_); rintro y w' ⟨rfl, hf⟩) | fail)
  go_ret
  exact ⟨rfl, hf⟩
set_option maxRecDepth 100000 in
theorem chunk_no (h : IsS w sb F B b c d e f g A zs) (hA : Szs A) (x : Int) (hx : ¬ (0 ≤ x ∧ x < A.n)) : Calls Tryz.prog 185 #[.pointer (some ⟨sb, 0, none⟩), .int .i64 x] w fun y w' => y = .returned (.int .i64 0) ∧ w.grownBy w' none := by
  have hk := kind_no h hA x hx
  have hfd := field96_0
  go_enter Tryz.func185, Tryz.ntmps185
  go_wp2_with (first | (go_at_call 207; go_must (refine hk.mono ?_); rintro y w' ⟨rfl, hf⟩) | fail)
  go_ret
  exact ⟨rfl, hf⟩
def Ab.quota (A : Ab) (i : Nat) : Nat := (A.row i).length + A.tk i + (A.m - A.np) * A.each i

theorem IsS.pcell (h : IsS w sb F B b c d e f g A zs) {p j : Nat} (hp : p < A.np) (hj : j < 2) : ∃ pb cp, B.pv = .slice (some ⟨pb, 0, none⟩) A.np cp ∧ w.cell? ⟨pb, p * 2 + j, none⟩ = (pageC A B.cb p)[j]? := by
  obtain ⟨ao, cp, hpv, _, _, _, h4⟩ := row_shape h.pages
  obtain ⟨pb, rfl⟩ := h4 (by omega)
  have e := rng_get (pageC_len A B.cb) hp hj
  have hl : j < (pageC A B.cb p).length := hj
  rw [List.getElem?_eq_getElem hl] at e
  have hr := h.pages
  rw [hpv] at hr
  exact ⟨pb, cp, hpv, by rw [row_cell hr _ _ e, List.getElem?_eq_getElem hl]⟩

end

end Go.Proofs.YtjkdflnnpdionaaGreat
/-
  find, good, At, Of.
-/
namespace Go.Proofs.YtjkdflnnpdionaaGreat
open Go.RowKit
set_option linter.unusedVariables false

theorem placeOf_52 (x : Nat) (hx : x < 4294967296) (w : World) : Calls Tryz.prog 134 #[.int .u32 x] w fun y w' => y = .returned (.int .i64 (((x : Int) - 1) * 8)) ∧ w = w' := by
  go_enter Tryz.func134, Tryz.ntmps134
  go_wp2
  go_ret
  exact ⟨rfl, rfl⟩
theorem numberOf_60 (x : Nat) (hx : x ≤ 2147483648) (w : World) : Calls Tryz.prog 176 #[.int .i64 x] w fun y w' => y = .returned (.int .u32 ((x / 8 + 1 : Nat) : Int)) ∧ w = w' := by
  have e1 : (x : Int).tdiv 8 = ((x / 8 : Nat) : Int) := by rw [Int.tdiv_eq_ediv_of_nonneg (by omega)]; omega
  have h1 : x / 8 ≤ 268435456 := by omega
  generalize x / 8 = q at *
  have e2 : IntKind.u32.wrap ((q : Int) + 1) = q + 1 := by rw [IntKind.wrap_u32]; omega
  go_enter Tryz.func176, Tryz.ntmps176
  go_wp2
  go_ret
  exact ⟨by simp, rfl⟩
theorem handleOf_55 (x g : Nat) (hx : x ≤ 2147483648) (hg : g < 4294967296) (w : World) : Calls Tryz.prog 137 #[.int .i64 x, .int .u32 g] w fun y w' => y = .returned (.int .u64 ((g * 4294967296 + (x / 8 + 1) : Nat) : Int)) ∧ w = w' := by
  have hn := numberOf_60 x hx
  have h1 : x / 8 + 1 < 4294967296 := by omega
  generalize x / 8 + 1 = q at *
  have e3 : bits BinOp.or IntKind.u64 ((g : Int) * 4294967296) q = ((g * 4294967296 + q : Nat) : Int) := by
    rw [u64_or _ _ (by omega) (by omega) (by omega) (by omega), nat_join 32 _ _ (by omega) (by omega)]
    omega
  have e4 : ((g * 4294967296 + q : Nat) : Int) = (g : Int) * 4294967296 + q := by omega
  rw [e4] at e3 ⊢
  go_enter Tryz.func137, Tryz.ntmps137
  go_wp2_with (first | (go_at_call 176; go_must (refine (hn _).mono ?_); rintro y w' ⟨rfl, rfl⟩) | fail)
  go_ret
  exact ⟨rfl, rfl⟩

section
variable {w : World} {sb : Nat} {F : Nat → Prop} {B : Bl} {b c d e f g : Int} {A : Ab} {zs : List Int}

/-- Pages are of classes that there are. -/
structure Fit1 (A : Ab) : Prop extends Fit A where
  on : ∀ p, p < A.np → A.own p < A.n

set_option maxRecDepth 100000 in
set_option maxHeartbeats 2000000 in
theorem find_neg (h : IsS w sb F B b c d e f g A zs) (hA : Fit1 A) (x : Int) (hx9 : x ≤ 9223372036854775807) (hx : x < 0 ∨ (0 ≤ x ∧ (A.np : Int) ≤ x / A.ps)) : Calls Tryz.prog 135 #[.pointer (some ⟨sb, 0, none⟩), .int .i64 x] w fun y w' => y = .returned (.tuple #[.pointer none, .int .i64 0]) ∧ w.grownBy w' none := by
  have c0 := h.sc 0
  have c9 := h.sc 9
  simp [setC] at c0 c9
  obtain ⟨ao, cp, hpv, _, _, _, h4⟩ := row_shape h.pages
  rw [hpv] at c9
  have hp := hA.ps0
  have h3 := hA.nm
  have hm := hA.mm
  clear h hpv
  generalize A.np = np at *
  generalize A.ps = ps at *
  rcases hx with hx | ⟨hx, hy⟩
  · go_enter Tryz.func135, Tryz.ntmps135
    go_wp2
    go_quiet (fail)
    go_wp2
    go_ret2
    exact ⟨rfl, gb_drewN (gb_refl _ _) _⟩
  · obtain ⟨pr, hpr⟩ : ∃ pr, pr = np * ps := ⟨_, rfl⟩
    have hpi : (np : Int) * ps = pr := by rw [hpr]; simp
    have hpb : pr ≤ 1024 * 1048576 := by rw [hpr]; exact Nat.mul_le_mul (by omega) (by omega)
    have hle : (pr : Int) ≤ x := by rw [← hpi]; exact (Int.le_ediv_iff_mul_le (by omega)).1 hy
    have hd : decide ((pr : Int) ≤ x) = true := by simpa using hle
    have hwpr : IntKind.i64.wrap (pr : Int) = pr := by rw [IntKind.wrap_i64]; omega
    clear hpr hy
    go_enter Tryz.func135, Tryz.ntmps135
    go_wp2
    go_quiet (fail)
    go_wp2
    go_ret2
    exact ⟨rfl, gb_drewN (gb_refl _ _) _⟩

/-- Division of a chunk's place. -/
theorem place_div {A : Ab} (hA : Fit1 A) {p k : Nat} (hp : p < A.np) (hk : k < A.each (A.own p)) : A.place p k / A.ps = p ∧ A.place p k % A.ps = k * A.sz (A.own p) ∧ A.place p k + A.sz (A.own p) ≤ (p + 1) * A.ps := by
  have ho := hA.on p hp
  have h1 := hA.lo _ ho
  have h2 := (hA.toSzs.each ho).2.2
  have h3 : (k + 1) * A.sz (A.own p) ≤ A.each (A.own p) * A.sz (A.own p) := Nat.mul_le_mul_right _ hk
  rw [Nat.add_mul, Nat.one_mul] at h3
  have h4 := hA.ps0
  have h5 : k * A.sz (A.own p) < A.ps := by omega
  unfold Ab.place
  refine ⟨?_, ?_, ?_⟩
  · rw [Nat.mul_comm, Nat.mul_add_div (by omega), Nat.div_eq_of_lt h5]; omega
  · rw [Nat.mul_comm, Nat.mul_add_mod, Nat.mod_eq_of_lt h5]
  · rw [Nat.add_mul, Nat.one_mul]; omega
theorem place_le {A : Ab} (hA : Fit1 A) {p k : Nat} (hp : p < A.np) (hk : k < A.each (A.own p)) : A.place p k ≤ 1073741824 ∧ A.place p k % 8 = 0 := by
  obtain ⟨_, _, h3⟩ := place_div hA hp hk
  have h4 := hA.ps0
  have h5 := hA.nm
  have h6 := hA.mm
  have h7 : (p + 1) * A.ps ≤ 1024 * 1048576 := Nat.mul_le_mul (by omega) (by omega)
  refine ⟨by omega, ?_⟩
  have h8 := hA.m8 _ (hA.on p hp)
  unfold Ab.place
  have e1 : p * A.ps % 8 = 0 := by rw [Nat.mul_mod, h4.2.2]; simp
  have e2 : k * A.sz (A.own p) % 8 = 0 := by rw [Nat.mul_mod, h8]; simp
  omega

theorem Tryz.zero263 : (Tryz.prog.info? 263).map (fun i => (i.zero, i.size, i.bytes)) = some (some (.agg #[.int .i64 0, .slice none 0 0]), 2, 32) := by kernel_rfl

set_option maxRecDepth 100000 in
set_option maxHeartbeats 2000000 in
theorem find_at (h : IsS w sb F B b c d e f g A zs) (hA : Fit1 A) (x : Nat) (hx : x / A.ps < A.np) (v : Value) (o : Int)
    (hv : Hid ((x % A.ps % A.sz (A.own (x / A.ps)) = 0 ∧ x % A.ps / A.sz (A.own (x / A.ps)) < A.each (A.own (x / A.ps)) ∧ v = .pointer (some ⟨B.cb (x / A.ps), x % A.ps / A.sz (A.own (x / A.ps)) * 2, none⟩) ∧ o = A.own (x / A.ps)) ∨
      (¬ (x % A.ps % A.sz (A.own (x / A.ps)) = 0 ∧ x % A.ps / A.sz (A.own (x / A.ps)) < A.each (A.own (x / A.ps))) ∧ v = .pointer none ∧ o = 0))) :
    Calls Tryz.prog 135 #[.pointer (some ⟨sb, 0, none⟩), .int .i64 x] w fun y w' => y = .returned (.tuple #[v, .int .i64 o]) ∧ w.grownBy w' none := by
  have c0 := h.sc 0
  have c8 := h.sc 8
  have c9 := h.sc 9
  simp [setC] at c0 c8 c9
  obtain ⟨p, hpdef⟩ : ∃ p, p = x / A.ps := ⟨_, rfl⟩
  rw [← hpdef] at hx hv
  obtain ⟨pb, cp, hpv, e0⟩ := h.pcell hx (j := 0) (by omega)
  obtain ⟨pb', cp', hpv', e1⟩ := h.pcell hx (j := 1) (by omega)
  rw [hpv] at hpv'
  simp at hpv'
  obtain ⟨rfl, rfl⟩ := hpv'
  rw [hpv] at c9
  simp only [pageC, List.getElem?_cons_zero, List.getElem?_cons_succ, Nat.add_zero] at e0 e1
  have hon := hA.on p hx
  have k0 := h.kcell hon (j := 0) (by omega)
  simp only [kindC, List.getElem?_cons_zero, Nat.add_zero] at k0
  have hp := hA.ps0
  have h3 := hA.nm
  have hm := hA.mm
  have hlo := hA.lo _ hon
  have hn2 := hA.n2
  have hxp : x < A.np * A.ps := by
    have := Nat.div_add_mod x A.ps
    rw [← hpdef] at this
    have h1 := Nat.mod_lt x (show A.ps > 0 by omega)
    have h2 : (p + 1) * A.ps ≤ A.np * A.ps := Nat.mul_le_mul_right _ hx
    rw [Nat.add_mul, Nat.one_mul, Nat.mul_comm] at h2
    omega
  have hxb : A.np * A.ps ≤ 1024 * 1048576 := Nat.mul_le_mul (by omega) (by omega)
  have hdv : (x : Int).tdiv A.ps = p := by rw [Int.tdiv_eq_ediv_of_nonneg (by omega), hpdef]; exact (Int.natCast_ediv _ _).symm
  have hmd : (x : Int).tmod A.ps = (x % A.ps : Nat) := by rw [Int.tmod_eq_emod_of_nonneg (by omega)]; exact (Int.natCast_emod _ _).symm
  have hrl : x % A.ps < A.ps := Nat.mod_lt _ (by omega)
  generalize x % A.ps = r at *
  have hdr : (r : Int).tdiv (A.sz (A.own p)) = (r / A.sz (A.own p) : Nat) := by rw [Int.tdiv_eq_ediv_of_nonneg (by omega)]; exact (Int.natCast_ediv _ _).symm
  have hmr : (r : Int).tmod (A.sz (A.own p)) = (r % A.sz (A.own p) : Nat) := by rw [Int.tmod_eq_emod_of_nonneg (by omega)]; exact (Int.natCast_emod _ _).symm
  have hrq : r / A.sz (A.own p) ≤ r := Nat.div_le_self _ _
  have hea := hA.toSzs.each hon
  generalize hk : r / A.sz (A.own p) = k at *
  generalize hmm : r % A.sz (A.own p) = mr at *
  have hml : mr ≤ r := by rw [← hmm]; exact Nat.mod_le _ _
  obtain ⟨pr, hpr⟩ : ∃ pr, pr = A.np * A.ps := ⟨_, rfl⟩
  have hpi : (A.np : Int) * A.ps = pr := by rw [hpr]; simp
  rw [← hpr] at hxp hxb
  have hwpr : IntKind.i64.wrap (pr : Int) = pr := by rw [IntKind.wrap_i64]; omega
  clear hpr
  clear hpv hpdef hk hmm h
  generalize A.each (A.own p) = ea at *
  generalize A.sz (A.own p) = s at *
  generalize A.own p = op at *
  generalize B.cb p = cb at *
  generalize A.np = np at *
  generalize A.ps = ps at *
  generalize A.n = n at *
  have hs0 : ¬ s = 0 := by omega
  have hp0 : ¬ ps = 0 := by omega
  have hwp : IntKind.i64.wrap (p : Int) = p := by rw [IntKind.wrap_i64]; omega
  have hwr : IntKind.i64.wrap (r : Int) = r := by rw [IntKind.wrap_i64]; omega
  have hwk : IntKind.i64.wrap (k : Int) = k := by rw [IntKind.wrap_i64]; omega
  have hwm : IntKind.i64.wrap (mr : Int) = mr := by rw [IntKind.wrap_i64]; omega
  have hd1 : decide ((np : Int) ≤ p) = false := by simp; omega
  have hd2 : decide (np ≤ p) = false := by simp; omega
  have hdx : decide ((x : Int) < 0) = false := by simp
  have hd8 : decide ((pr : Int) ≤ x) = false := by simp; omega
  have hd9 : decide (pr ≤ x) = false := by simp; omega
  go_enter Tryz.func135, Tryz.ntmps135
  go_wp2
  go_quiet (fail)
  have hFV : w.grownBy (w.drewN nq) none := gb_drewN (gb_refl _ _) _
  generalize w.drewN nq = V at *
  replace c0 := gb_cellN hFV c0
  replace c8 := gb_cellN hFV c8
  replace c9 := gb_cellN hFV c9
  replace e0 := gb_cellN hFV e0
  replace e1 := gb_cellN hFV e1
  replace k0 := gb_cellN hFV k0
  have al := fun (o : Obj) (x : Addr) (v : Value) (hv : V.cell? x = some v) => gb_cellN (World.grownBy_alloc V o none) hv
  have a0 := fun o => al o _ _ c0
  have a8 := fun o => al o _ _ c8
  have a9 := fun o => al o _ _ c9
  have a1 := fun o => al o _ _ e0
  have a2 := fun o => al o _ _ e1
  have ak := fun o => al o _ _ k0
  clear al
  go_wp2
  go_region
  have hbV : Box ((V.alloc (.cells #[.int .i64 op, .slice (some ⟨cb, 0, none⟩) ea ea] 263)).drew) 263 V.heap.size #[.int .i64 op, .slice (some ⟨cb, 0, none⟩) ea ea] := (Box.new V 263 _).kept (gb_drew (gb_refl _ none)) (by simp)
  have hFU : w.grownBy ((V.alloc (.cells #[.int .i64 op, .slice (some ⟨cb, 0, none⟩) ea ea] 263)).drew) none := gb_drew (gb_alloc hFV _)
  have hFVU : V.grownBy ((V.alloc (.cells #[.int .i64 op, .slice (some ⟨cb, 0, none⟩) ea ea] 263)).drew) none := gb_drew (gb_alloc (gb_refl _ _) _)
  generalize (V.alloc (.cells #[.int .i64 op, .slice (some ⟨cb, 0, none⟩) ea ea] 263)).drew = U at *
  have u0 := gb_cellN hFVU c0
  have u8 := gb_cellN hFVU c8
  have uk := gb_cellN hFVU k0
  have v0 := hbV.cell 0
  have v1 := hbV.cell 1
  simp at v0 v1
  generalize V.heap.size = vb at *
  clear a0 a8 a9 a1 a2 ak c0 c8 c9 e0 e1 k0 hFVU hFV hbV
  clear V
  go_wp2
  go_quiet (fail)
  have hFX : U.grownBy (U.drewN nq) none := gb_drewN (gb_refl _ _) _
  generalize U.drewN nq = X at *
  replace v0 := gb_cellN hFX v0
  replace v1 := gb_cellN hFX v1
  replace hFX := gb_trans hFU hFX
  clear u0 u8 uk hFU
  clear U
  rcases hv.out with ⟨h1, h2, h3, h4⟩ | ⟨h1, h2, h3⟩
  · subst h1 h3 h4
    have hd5 : decide ((ea : Int) ≤ k) = false := by simp; omega
    have hd6 : decide (ea ≤ k) = false := by simp; omega
    clear hv
    go_wp2
    go_quiet (fail)
    have hFY : w.grownBy (X.drewN nq) none := gb_drewN hFX _
    have y0 : (X.drewN nq).cell? ⟨vb, 0, none⟩ = some (.int .i64 op) := v0
    have y1 : (X.drewN nq).cell? ⟨vb, 1, none⟩ = some (.slice (some ⟨cb, 0, none⟩) ea ea) := v1
    generalize X.drewN nq = Y at *
    clear v0 v1 hFX
    go_wp2
    go_quiet (fail)
    go_wp2
    go_ret2
    exact ⟨rfl, gb_drewN hFY _⟩
  · subst h2 h3
    by_cases h5 : mr = 0
    · have h6 : ea ≤ k := by
        rcases Nat.lt_or_ge k ea with h | h
        · exact absurd ⟨h5, h⟩ h1
        · exact h
      subst h5
      have hd5 : decide ((ea : Int) ≤ k) = true := by simp; omega
      have hd6 : decide (ea ≤ k) = true := by simp; omega
      clear hv h1
      go_wp2
      go_quiet (fail)
      go_wp2
      go_ret2
      exact ⟨rfl, gb_drewN hFX _⟩
    · have hd5 : decide ((mr : Int) = 0) = false := by simp; omega
      have hd6 : decide (mr = 0) = false := by simp; omega
      have hd7 : ((mr : Int) == 0) = false := by simp; omega
      clear hv h1
      go_wp2
      first | go_quiet (fail) | fail
      go_wp2
      go_ret2
      exact ⟨rfl, gb_drewN hFX _⟩
end

end Go.Proofs.YtjkdflnnpdionaaGreat
/-
  good, At, Of.
-/
namespace Go.Proofs.YtjkdflnnpdionaaGreat
open Go.RowKit
set_option linter.unusedVariables false

/-- Generations are below 2^32. -/
structure Fit2 (A : Ab) : Prop extends Fit1 A where
  gn : ∀ p k, A.gen p k < 4294967296

/-- A chunk begins at x. -/
structure IsC (A : Ab) (x : Int) (p k : Nat) : Prop where
  hp : p < A.np
  hk : k < A.each (A.own p)
  hx : x = A.place p k

def Ab.hdl (A : Ab) (p k : Nat) : Nat := A.gen p k * 4294967296 + A.num p k

theorem num_lt {A : Ab} (hA : Fit1 A) {p k : Nat} (hp : p < A.np) (hk : k < A.each (A.own p)) : A.num p k < 4294967296 ∧ 1 ≤ A.num p k ∧ ((A.num p k : Int) - 1) * 8 = A.place p k := by
  obtain ⟨h1, h2⟩ := place_le hA hp hk
  unfold Ab.num
  omega

section
variable {w : World} {sb : Nat} {F : Nat → Prop} {B : Bl} {b c d e f g : Int} {A : Ab} {zs : List Int}

theorem find_yes (h : IsS w sb F B b c d e f g A zs) (hA : Fit1 A) {x : Int} {p k : Nat} (hC : IsC A x p k) :
    Calls Tryz.prog 135 #[.pointer (some ⟨sb, 0, none⟩), .int .i64 x] w fun y w' => y = .returned (.tuple #[.pointer (some ⟨B.cb p, k * 2, none⟩), .int .i64 (A.own p)]) ∧ w.grownBy w' none := by
  obtain ⟨hp, hk, rfl⟩ := hC
  obtain ⟨h1, h2, h3⟩ := place_div hA hp hk
  have ho := hA.on p hp
  have hl := hA.lo _ ho
  have e1 : k * A.sz (A.own p) % A.sz (A.own p) = 0 := Nat.mul_mod_left _ _
  have e2 : k * A.sz (A.own p) / A.sz (A.own p) = k := Nat.mul_div_cancel _ (by omega)
  refine find_at h hA (A.place p k) (by rw [h1]; exact hp) _ _ (.inl ?_)
  rw [h1, h2, e1, e2]
  exact ⟨rfl, hk, rfl, rfl⟩
theorem find_no (h : IsS w sb F B b c d e f g A zs) (hA : Fit1 A) {x : Int} (hx9 : x ≤ 9223372036854775807) (hC : ∀ p k, ¬ IsC A x p k) :
    Calls Tryz.prog 135 #[.pointer (some ⟨sb, 0, none⟩), .int .i64 x] w fun y w' => y = .returned (.tuple #[.pointer none, .int .i64 0]) ∧ w.grownBy w' none := by
  by_cases h0 : x < 0
  · exact find_neg h hA x hx9 (.inl h0)
  · obtain ⟨n, rfl⟩ := Int.eq_ofNat_of_zero_le (show 0 ≤ x by omega)
    by_cases h1 : n / A.ps < A.np
    · refine find_at h hA n h1 _ _ (.inr ⟨?_, rfl, rfl⟩)
      rintro ⟨h2, h3⟩
      refine hC _ _ ⟨h1, h3, ?_⟩
      unfold Ab.place
      have e1 := Nat.div_add_mod n A.ps
      have e2 := Nat.div_add_mod (n % A.ps) (A.sz (A.own (n / A.ps)))
      rw [h2] at e2
      rw [Nat.mul_comm] at e1 e2
      omega
    · refine find_neg h hA n hx9 (.inr ⟨by omega, ?_⟩)
      have : ((n / A.ps : Nat) : Int) = (n : Int) / A.ps := Int.natCast_ediv _ _
      rw [← this]
      omega

/-- The good handle of a chunk. -/
structure IsH (A : Ab) (H p k : Nat) : Prop where
  hp : p < A.np
  hk : k < A.each (A.own p)
  ht : A.tkn p k = true
  hH : H = A.hdl p k
theorem IsH.parts {H p k : Nat} (hA : Fit2 A) (h : IsH A H p k) : H % 4294967296 = A.num p k ∧ H / 4294967296 = A.gen p k ∧ H < 18446744073709551616 := by
  obtain ⟨hp, hk, ht, rfl⟩ := h
  have h1 := (num_lt hA.toFit1 hp hk).1
  have h2 := hA.gn p k
  unfold Ab.hdl
  omega

theorem ccell (h : IsS w sb F B b c d e f g A zs) {p k : Nat} (hp : p < A.np) (hk : k < A.each (A.own p)) : w.cell? ⟨B.cb p, k * 2, none⟩ = some (.int .u32 (A.gen p k)) ∧ w.cell? ⟨B.cb p, k * 2 + 1, none⟩ = some (.bool (A.tkn p k)) := by
  have hb := h.chunks p hp
  have e0 := rng_get (chunkC_len A p) hk (j := 0) (by omega)
  have e1 := rng_get (chunkC_len A p) hk (j := 1) (by omega)
  simp only [chunkC, List.getElem?_cons_zero, List.getElem?_cons_succ, Nat.add_zero] at e0 e1
  constructor
  · rw [cell_of_row w _ _ _ _ _ hb]; simpa using e0
  · rw [cell_of_row w _ _ _ _ _ hb]; simpa using e1

set_option maxRecDepth 100000 in
theorem good_yes (h : IsS w sb F B b c d e f g A zs) (hA : Fit2 A) {H p k : Nat} (hH : IsH A H p k) :
    Calls Tryz.prog 155 #[.pointer (some ⟨sb, 0, none⟩), .int .u64 H] w fun y w' => y = .returned (.tuple #[.pointer (some ⟨B.cb p, k * 2, none⟩), .int .i64 (A.place p k), .int .i64 (A.own p)]) ∧ w.grownBy w' none := by
  obtain ⟨m1, m2, m3⟩ := hH.parts hA
  obtain ⟨hp, hk, ht, hHd⟩ := hH
  obtain ⟨n1, n2, n3⟩ := num_lt hA.toFit1 hp hk
  obtain ⟨l1, l2⟩ := place_le hA.toFit1 hp hk
  have hpl := placeOf_52 (A.num p k) n1
  rw [n3] at hpl
  have hfd := (find_yes h hA.toFit1 (x := A.place p k) (p := p) (k := k) ⟨hp, hk, rfl⟩).mono (R' := fun y w' => y = .returned (.tuple #[.pointer (some ⟨B.cb p, k * 2, none⟩), .int .i64 (A.own p)]) ∧ w.grownBy w' none ∧ w'.cell? ⟨B.cb p, k * 2, none⟩ = some (.int .u32 (A.gen p k)) ∧ w'.cell? ⟨B.cb p, k * 2 + 1, none⟩ = some (.bool true)) (by
    rintro y w' ⟨rfl, hf⟩
    have := ccell (h.kept0 hf) hp hk
    rw [ht] at this
    exact ⟨rfl, hf, this.1, this.2⟩)
  have hgn := hA.gn p k
  have e1 : IntKind.u32.wrap (H : Int) = A.num p k := by rw [IntKind.wrap_u32]; omega
  have e1' : (H : Int) % 4294967296 = A.num p k := by omega
  have e2 : (H : Int) / 4294967296 = A.gen p k := by omega
  clear h
  generalize A.num p k = num at *
  generalize A.gen p k = gen at *
  have e3 : IntKind.u32.wrap (gen : Int) = gen := by rw [IntKind.wrap_u32]; omega
  clear hHd m1 m2 n3
  generalize A.place p k = pl at *
  generalize A.own p = op at *
  go_enter Tryz.func155, Tryz.ntmps155
  go_wp2_with (first | (go_at_call 134; go_must (refine (hpl _).mono ?_); rintro y w' ⟨rfl, rfl⟩) | (go_at_call 135; go_must (refine hfd.mono ?_); rintro y w1 ⟨rfl, hf, d0, d1⟩) | fail)
  go_ret3
  exact ⟨rfl, hf⟩

set_option maxRecDepth 100000 in
theorem good_no (h : IsS w sb F B b c d e f g A zs) (hA : Fit2 A) {H : Nat} (h64 : H < 18446744073709551616) (hH : ∀ p k, ¬ IsH A H p k) :
    Calls Tryz.prog 155 #[.pointer (some ⟨sb, 0, none⟩), .int .u64 H] w fun y w' => y = .returned (.tuple #[.pointer none, .int .i64 0, .int .i64 0]) ∧ w.grownBy w' none := by
  obtain ⟨num, hnum⟩ : ∃ num, num = H % 4294967296 := ⟨_, rfl⟩
  obtain ⟨gen, hgen⟩ : ∃ gen, gen = H / 4294967296 := ⟨_, rfl⟩
  have n1 : num < 4294967296 := by omega
  have g1 : gen < 4294967296 := by omega
  have hpl := placeOf_52 num n1
  obtain ⟨pl, hpl2⟩ : ∃ pl, pl = ((num : Int) - 1) * 8 := ⟨_, rfl⟩
  rw [← hpl2] at hpl
  have l1 : -8 ≤ pl ∧ pl ≤ 34359738368 := by omega
  have e1 : IntKind.u32.wrap (H : Int) = num := by rw [IntKind.wrap_u32]; omega
  have e1' : (H : Int) % 4294967296 = num := by omega
  have e2 : (H : Int) / 4294967296 = gen := by omega
  have e3 : IntKind.u32.wrap (gen : Int) = gen := by rw [IntKind.wrap_u32]; omega
  by_cases hC : ∃ p k, IsC A pl p k
  · obtain ⟨p, k, hC⟩ := hC
    have hp := hC.hp
    have hk := hC.hk
    have hnp : num = A.num p k := by
      have h1 := hC.hx
      have h2 := (num_lt hA.toFit1 hp hk).2.2
      omega
    have hfd := (find_yes h hA.toFit1 hC).mono (R' := fun y w' => y = .returned (.tuple #[.pointer (some ⟨B.cb p, k * 2, none⟩), .int .i64 (A.own p)]) ∧ w.grownBy w' none ∧ w'.cell? ⟨B.cb p, k * 2, none⟩ = some (.int .u32 (A.gen p k)) ∧ w'.cell? ⟨B.cb p, k * 2 + 1, none⟩ = some (.bool (A.tkn p k))) (by
      rintro y w' ⟨rfl, hf⟩
      have := ccell (h.kept0 hf) hp hk
      exact ⟨rfl, hf, this.1, this.2⟩)
    have hgn := hA.gn p k
    have hne : A.tkn p k = true → A.gen p k ≠ gen := by
      intro ht e
      refine hH p k ⟨hp, hk, ht, ?_⟩
      unfold Ab.hdl
      omega
    clear h hC hk hnp hH hnum hgen hpl2
    generalize A.gen p k = gn at *
    generalize A.own p = op at *
    generalize A.tkn p k = tk at *
    cases tk
    · clear hne
      go_enter Tryz.func155, Tryz.ntmps155
      go_wp2_with (first | (go_at_call 134; go_must (refine (hpl _).mono ?_); rintro y w' ⟨rfl, rfl⟩) | (go_at_call 135; go_must (refine hfd.mono ?_); rintro y w1 ⟨rfl, hf, d0, d1⟩) | fail)
      go_ret3
      exact ⟨rfl, hf⟩
    · have hne' := hne rfl
      have hd : decide ((gn : Int) = gen) = false := by simp; omega
      have hd2 : decide (gn = gen) = false := by simpa using hne'
      have hd3 : ((gn : Int) == gen) = false := by simp; omega
      clear hne
      go_enter Tryz.func155, Tryz.ntmps155
      go_wp2_with (first | (go_at_call 134; go_must (refine (hpl _).mono ?_); rintro y w' ⟨rfl, rfl⟩) | (go_at_call 135; go_must (refine hfd.mono ?_); rintro y w1 ⟨rfl, hf, d0, d1⟩) | fail)
      go_ret3
      exact ⟨rfl, hf⟩
  · have hfd := find_no h hA.toFit1 (x := pl) (by omega) (fun p k hc => hC ⟨p, k, hc⟩)
    clear h hC hH hnum hgen hpl2
    go_enter Tryz.func155, Tryz.ntmps155
    go_wp2_with (first | (go_at_call 134; go_must (refine (hpl _).mono ?_); rintro y w' ⟨rfl, rfl⟩) | (go_at_call 135; go_must (refine hfd.mono ?_); rintro y w1 ⟨rfl, hf⟩) | fail)
    go_ret3
    exact ⟨rfl, hf⟩

theorem at_yes (h : IsS w sb F B b c d e f g A zs) (hA : Fit2 A) {H p k : Nat} (hH : IsH A H p k) :
    Calls Tryz.prog 82 #[.pointer (some ⟨sb, 0, none⟩), .int .u64 H] w fun y w' => y = .returned (.tuple #[.int .i64 (A.place p k), .int .i64 (A.own p), .int .i64 0]) ∧ w.grownBy w' none := by
  have hg := good_yes h hA hH
  go_enter Tryz.func82, Tryz.ntmps82
  go_wp2_with (first | (go_at_call 155; go_must (refine hg.mono ?_); rintro y w1 ⟨rfl, hf⟩) | fail)
  go_ret3
  exact ⟨rfl, hf⟩
theorem at_no (h : IsS w sb F B b c d e f g A zs) (hA : Fit2 A) {H : Nat} (h64 : H < 18446744073709551616) (hH : ∀ p k, ¬ IsH A H p k) :
    Calls Tryz.prog 82 #[.pointer (some ⟨sb, 0, none⟩), .int .u64 H] w fun y w' => y = .returned (.tuple #[.int .i64 0, .int .i64 0, .int .i64 20]) ∧ w.grownBy w' none := by
  have hg := good_no h hA h64 hH
  clear hH
  go_enter Tryz.func82, Tryz.ntmps82
  go_wp2_with (first | (go_at_call 155; go_must (refine hg.mono ?_); rintro y w1 ⟨rfl, hf⟩) | fail)
  go_ret3
  exact ⟨rfl, hf⟩

theorem of_yes (h : IsS w sb F B b c d e f g A zs) (hA : Fit2 A) {x : Int} {p k : Nat} (hC : IsC A x p k) (ht : A.tkn p k = true) :
    Calls Tryz.prog 183 #[.pointer (some ⟨sb, 0, none⟩), .int .i64 x] w fun y w' => y = .returned (.tuple #[.int .u64 (A.hdl p k), .bool true]) ∧ w.grownBy w' none := by
  have hp := hC.hp
  have hk := hC.hk
  have l1 := (place_le hA.toFit1 hp hk).1
  have hgn := hA.gn p k
  have hfd := (find_yes h hA.toFit1 hC).mono (R' := fun y w' => y = .returned (.tuple #[.pointer (some ⟨B.cb p, k * 2, none⟩), .int .i64 (A.own p)]) ∧ w.grownBy w' none ∧ w'.cell? ⟨B.cb p, k * 2, none⟩ = some (.int .u32 (A.gen p k)) ∧ w'.cell? ⟨B.cb p, k * 2 + 1, none⟩ = some (.bool true)) (by
    rintro y w' ⟨rfl, hf⟩
    have := ccell (h.kept0 hf) hp hk
    rw [ht] at this
    exact ⟨rfl, hf, this.1, this.2⟩)
  obtain ⟨_, _, rfl⟩ := hC
  have hh := handleOf_55 (A.place p k) (A.gen p k) (by omega) hgn
  rw [show A.gen p k * 4294967296 + (A.place p k / 8 + 1) = A.hdl p k from rfl] at hh
  clear h hk
  generalize A.hdl p k = hd at *
  generalize A.gen p k = gn at *
  generalize A.own p = op at *
  generalize A.place p k = pl at *
  go_enter Tryz.func183, Tryz.ntmps183
  go_wp2_with (first | (go_at_call 135; go_must (refine hfd.mono ?_); rintro y w1 ⟨rfl, hf, d0, d1⟩) | (go_at_call 137; go_must (refine (hh _).mono ?_); rintro y w' ⟨rfl, rfl⟩) | fail)
  go_ret2
  exact ⟨rfl, hf⟩
theorem of_no (h : IsS w sb F B b c d e f g A zs) (hA : Fit2 A) {x : Int} (hx9 : x ≤ 9223372036854775807) (hC : ∀ p k, IsC A x p k → A.tkn p k = false) :
    Calls Tryz.prog 183 #[.pointer (some ⟨sb, 0, none⟩), .int .i64 x] w fun y w' => y = .returned (.tuple #[.int .u64 0, .bool false]) ∧ w.grownBy w' none := by
  by_cases hex : ∃ p k, IsC A x p k
  · obtain ⟨p, k, hc⟩ := hex
    have hp := hc.hp
    have hk := hc.hk
    have ht := hC p k hc
    have hfd := (find_yes h hA.toFit1 hc).mono (R' := fun y w' => y = .returned (.tuple #[.pointer (some ⟨B.cb p, k * 2, none⟩), .int .i64 (A.own p)]) ∧ w.grownBy w' none ∧ w'.cell? ⟨B.cb p, k * 2, none⟩ = some (.int .u32 (A.gen p k)) ∧ w'.cell? ⟨B.cb p, k * 2 + 1, none⟩ = some (.bool false)) (by
      rintro y w' ⟨rfl, hf⟩
      have := ccell (h.kept0 hf) hp hk
      rw [ht] at this
      exact ⟨rfl, hf, this.1, this.2⟩)
    clear h hk hC hc ht
    generalize A.gen p k = gn at *
    generalize A.own p = op at *
    go_enter Tryz.func183, Tryz.ntmps183
    go_wp2_with (first | (go_at_call 135; go_must (refine hfd.mono ?_); rintro y w1 ⟨rfl, hf, d0, d1⟩) | fail)
    go_ret2
    exact ⟨rfl, hf⟩
  · have hfd := find_no h hA.toFit1 hx9 (fun p k hc => hex ⟨p, k, hc⟩)
    clear h hC hex
    go_enter Tryz.func183, Tryz.ntmps183
    go_wp2_with (first | (go_at_call 135; go_must (refine hfd.mono ?_); rintro y w1 ⟨rfl, hf⟩) | fail)
    go_ret2
    exact ⟨rfl, hf⟩
end

end Go.Proofs.YtjkdflnnpdionaaGreat
