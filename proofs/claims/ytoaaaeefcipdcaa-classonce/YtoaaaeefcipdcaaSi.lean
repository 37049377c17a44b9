import Derived.Test.YtoaaaeefcipdcaaSh
import Derived.Deep.RegionLaw
/-
  class.New makes a Set.
-/
namespace Go.Proofs.Ytoaaaeefcipdcaa
open Go.RowKit
set_option linter.unusedVariables false

/-- A new Set. -/
def A0 (ps m n : Nat) (sz : Nat → Nat) : Ab := { ps := ps, m := m, n := n, sz := sz, np := 0, own := fun _ => 0, gen := fun _ _ => 0, tkn := fun _ _ => false, row := fun _ => [], tk := fun _ => 0 }

theorem Try.info112 : (Try.prog.info? 112).map (fun i => (i.zero, i.size, i.bytes)) = some (some (.agg #[.int .i64 0, .int .i64 0, .slice none 0 0, .int .i64 0]), 4, 48) := by kernel_rfl

def set0 (a b c d e f g : Int) (ab : Nat) (kv : Value) : Array Value := #[.int .i64 a, .int .i64 b, .int .i64 c, .int .i64 d, .int .i64 e, .int .i64 f, .int .i64 g, .pointer (some ⟨ab, 0, none⟩), kv, .slice none 0 0]

set_option maxRecDepth 100000 in
set_option maxHeartbeats 4000000 in
theorem new_ok {ps m F s0 il n : Nat} (h : Cfg ps m F s0 il) (f g : Int) (hn : n ≤ 62) (hc : Cls F (limOf il) s0 n) (hmn : n ≤ m) (w : World) : Calls Try.prog 12 #[cfgV ps m F s0 il f g] w fun x w' => ∃ sb G B, x = .returned (.tuple #[.pointer (some ⟨sb, 0, none⟩), .int .i64 0]) ∧ w.grownBy w' none ∧
    IsS w' sb G B m F s0 il f g (A0 ps m n (chain F (limOf il) s0)) (List.replicate (ps * m) 0) ∧ ∀ k, G k → w.heap.size ≤ k := by
  obtain ⟨bp0, bp1, bp2, bp3⟩ := h.bounds
  have hil := h.il1
  have hcf := chain_facts h.good
  have hs64 := h.good.s64
  have hn1 := hc.1
  have hin := fun W => inB_yes ps m F s0 il f g h.inB W
  have h7 := C7.box w ps m F s0 il f g
  have hF0 : w.grownBy (w.alloc (.cells #[.int .i64 ps, .int .i64 m, .int .i64 F, .int .i64 s0, .int .i64 il, .int .i64 f, .int .i64 g] 23)) none := World.grownBy_alloc _ _ _
  have hsz0 : w.heap.size < (w.alloc (.cells #[.int .i64 ps, .int .i64 m, .int .i64 F, .int .i64 s0, .int .i64 il, .int .i64 f, .int .i64 g] 23)).heap.size := by simp
  obtain ⟨kk, hkk⟩ := h.pw
  have hpo : PageOk (ps : Int) := ⟨kk, by rw [hkk.1], hkk.2⟩
  have hyes := fun W => new_yes ps m W ⟨kk, hkk⟩ (page_of hpo) ⟨h.m1, h.m2⟩
  have hsz := fun W => (sizes_any h.good rfl (by omega) ps m f g W).mono (R' := fun e w' => ∃ ga cp, e = .returned (.tuple #[.slice (some ⟨ga, 0, none⟩) n cp, .bool true]) ∧ W.grownBy w' none ∧ w'.ownsRow W.heap.size 3 1 (.slice (some ⟨ga, 0, none⟩) n cp) n (ints (szL F (limOf il) s0 n))) (by
    rintro x w' ⟨hf, ⟨n', v, h1, h2, rfl, h3⟩ | ⟨h1, _⟩⟩
    · have := cls_uniq hc h2
      subst this
      obtain ⟨ao, cp, rfl, _, _, _, h4⟩ := row_shape h3
      obtain ⟨ga, rfl⟩ := h4 (by omega)
      exact ⟨ga, cp, rfl, hf, h3⟩
    · have := h1 (n - 1) (by omega)
      have := hc.2.1
      omega)
  have hd1 : decide (m < n) = false := by simp; omega
  have hd2 : decide ((m : Int) < n) = false := by simp; omega
  clear hkk hc hpo h
  unfold cfgV at hin hsz ⊢
  go_enter Try.func12, Try.ntmps12
  go_wp2_with (first | (go_at_call 43; go_must (refine (hin _).mono ?_); rintro x w1 ⟨rfl, hf1⟩; have h71 := h7.kept hf1; have h71' := h71; obtain ⟨k0, k1, k2, k3, k4, k5, k6⟩ := h71') | (go_at_call 44; go_must (refine (hyes _).mono ?_); rintro x w2 ⟨rfl, hf2, hA⟩; have h72 := h71.kept hf2; have h72' := h72; obtain ⟨j0, j1, j2, j3, j4, j5, j6⟩ := h72') | (go_at_call 45; go_must (refine (hsz _).mono ?_); rintro x w3 ⟨ga, cp, rfl, hf3, hall⟩; have h73 := h72.kept hf3; have h73' := h73; obtain ⟨i0, i1, i2, i3, i4, i5, i6⟩ := h73') | fail)
  have hF3 : w.grownBy w3 none := gb_trans (gb_trans (gb_trans hF0 hf1) hf2) hf3
  have s1 := hf1.size
  have s2 := hf2.size
  have s3 := hf3.size
  have hA3 : IsA w3 (w1.heap.size + 1) w1.heap.size ps m (List.replicate (ps * m) 0) := hA.kept hf3 (by simp) (by simp)
  have hb4 : Box (w3.alloc (.cells (set0 ps m F s0 il f g (w1.heap.size + 1) (.slice none 0 0)) 109)) 109 w3.heap.size (set0 ps m F s0 il f g (w1.heap.size + 1) (.slice none 0 0)) := Box.new _ _ _
  have hF4 : w3.grownBy (w3.alloc (.cells (set0 ps m F s0 il f g (w1.heap.size + 1) (.slice none 0 0)) 109)) none := World.grownBy_alloc _ _ _
  have hs4 : (w3.alloc (.cells (set0 ps m F s0 il f g (w1.heap.size + 1) (.slice none 0 0)) 109)).heap.size = w3.heap.size + 1 := by simp
  have hal4 : w3.heap.size ≤ (w3.alloc (.cells (set0 ps m F s0 il f g (w1.heap.size + 1) (.slice none 0 0)) 109)).heap.size := by omega
  change Code.wp _ _ _ _ (w3.alloc (.cells (set0 ps m F s0 il f g (w1.heap.size + 1) (.slice none 0 0)) 109))
  generalize w3.alloc (.cells (set0 ps m F s0 il f g (w1.heap.size + 1) (.slice none 0 0)) 109) = w4 at *
  have hgal := (hall.lt ga rfl)
  have hall4 := row_kept hall hF4 (by simp)
  have h74 := h73.kept hF4
  have hA4 : IsA w4 (w1.heap.size + 1) w1.heap.size ps m (List.replicate (ps * m) 0) := hA3.kept hF4 (by simp) (by simp)
  have hab := (lt_of_block hA3.hb)
  have hag := (lt_of_block hA3.hg)
  have hFF : w.grownBy w4 none := gb_trans hF3 hF4
  clear hin hsz hyes h7 hF0 h71 k0 k1 k2 k3 k4 k5 k6 h72 j0 j1 j2 j3 j4 j5 j6 h73 i0 i1 i2 i3 i4 i5 i6 hA hall hA3 hF3 hF4 hf1 hf2 hf3
  generalize hab' : w1.heap.size + 1 = ab at *
  generalize hag' : w1.heap.size = ag at *
  generalize hsb : w3.heap.size = sb at *
  have hR : Hid (w.heap.size < ag ∨ w.heap.size ≤ ag) := .inr (by omega)
  have hL1 : w.heap.size ≤ ag := by omega
  clear hal4 s1 s2 s3 hsz0
  go_loopw [42] (fun iv wr => ∃ (k : Nat) (kv : Value), iv = .int .i64 k ∧ k ≤ n ∧ Box wr 109 sb (set0 ps m F s0 il f g ab kv) ∧ wr.ownsRow (sb + 1) 112 4 kv k (rng k (kindC (A0 ps m n (chain F (limOf il) s0)) (fun _ => .slice none 0 0))) ∧ Kp (fun k => k = sb) w4 wr) (fun iv _ => n - (intOf iv).toNat)
  case atStart => exact ⟨0, .slice none 0 0, rfl, by omega, hb4, World.ownsRow_nil _ _ _ _, Kp.refl _ _⟩
  case round =>
    obtain ⟨k, kv, rfl, hk, hbx, hrow, hK⟩ := hrel
    have hall5 := row_same (w' := wr) hall4 (fun b hb => hK.block b (by simp [Value.ownBlock] at hb; omega) (by simp [Value.ownBlock] at hb; omega))
    by_cases hlt : k < n
    · have hc0 := row_cell hall5 k (.int .i64 (chain F (limOf il) s0 k)) (ints_get _ _ _ (szL_get _ _ _ _ _ hlt))
      obtain ⟨h8, h0, hl⟩ := hcf k
      obtain ⟨s, hs⟩ : ∃ s, s = chain F (limOf il) s0 k := ⟨_, rfl⟩
      rw [← hs] at hc0 h8 h0 hl
      have HS : Hid (s = chain F (limOf il) s0 k) := hs
      have q0 : wr.cell? ⟨w.heap.size, 0, none⟩ = some (.int .i64 ps) := by
        have := h74.1
        have hlt2 := World.block_lt_of_cell? _ _ this
        have hb := hK.block w.heap.size hlt2 (by omega)
        simpa [World.cell?, hb] using this
      have c8 := hbx.cell 8
      have z8 := hbx.fz 8
      simp [set0] at c8
      obtain ⟨q, hq⟩ : ∃ q, q = ps / s := ⟨_, rfl⟩
      have HQ : Hid (q = ps / s) := hq
      have hdv : (ps : Int).tdiv s = q := by rw [Int.tdiv_eq_ediv_of_nonneg (by omega), hq]; exact (Int.natCast_ediv _ _).symm
      have hq1 : q ≤ ps := by rw [hq]; exact Nat.div_le_self _ _
      have hs0 : (s : Int) ≠ 0 := by omega
      have hs0n : ¬ s = 0 := by omega
      have hwq : IntKind.i64.wrap (q : Int) = q := by rw [IntKind.wrap_i64]; omega
      have hne : ∀ b, kv.ownBlock = some b → b ≠ sb := fun b hb => by have := (hrow.lt b hb).1; omega
      have hne8 : some sb ≠ kv.ownBlock := fun e => hne sb e.symm rfl
      obtain ⟨io, hi0, hz0, hz1, hz2⟩ := info_parts Try.info112
      have ka : ∀ o, (wr.alloc o).cell? ⟨sb, 8, none⟩ = some kv := fun o => gb_cellN (World.grownBy_alloc wr o none) c8
      have kb : ∀ o, (wr.drew.alloc o).cell? ⟨sb, 8, none⟩ = some kv := fun o => gb_cellN (World.grownBy_alloc wr.drew o none) c8
      clear hs hq hcf
      go_wp2
      go_region_law ((refine step_append_lies _ (by rfl) _ _ _ (by rfl) (sb + 1) 112 io _ 4 48 Try.underlying106 hi0 hz0 hz1 hz2 rfl (by omega) kv k _ (by rfl) (World.ownsRow.alloc (w := wr.drew) hrow _) ⟨wr.heap.size, 0, none⟩ 1 1 [.int .i64 s, .int .i64 q, .slice none 0 0, .int .i64 0] (by rfl) (by rfl) (World.news_of_block (cs := #[.int .i64 s, .int .i64 q, .slice none 0 0, .int .i64 0]) (t := 112) (fr := (0, 0)) (heap_alloc_new wr.drew _)) (by simp [Value.oneCell']) (by omega) (by unfold maxLen; omega) (by omega) (by simp; have := hK.size; omega) (wr.heap.size + 1) (by simp) ?_; intro g2 cap2 w5 hown5 hgrow5 hat5 hlt5; have b3 := ((hbx.kept (gb_drew (gb_refl _ none)) (by simp)).kept (World.grownBy_alloc wr.drew _ none) (by simp)).kept hgrow5 hne8; have b4 : w5.cell? ⟨sb, 8, none⟩ = some kv := (by rw [b3.cell 8]; rfl); have b5 : w5.frozen? ⟨sb, 8, none⟩ = false := b3.fz 8; have hg5 : wr.grownBy w5 kv.ownBlock := gb_trans (by first | exact gb_alloc (gb_drew (gb_refl _ _)) _ | exact gb_drew (gb_alloc (gb_refl _ _) _)) hgrow5))
      all_goals
        have hK5 : Kp (fun k => k = sb) w4 (w5.setCell ⟨sb, 8, none⟩ (.slice (some ⟨g2, 0, none⟩) (k + 1) cap2)) := by
          refine (hK.step hg5 (fun b hb => .inr ?_)).step (gb_setCell (gb_refl _ _) _) (fun b hb => .inl (by simpa using hb.symm))
          have := (hrow.lt b hb).1
          omega
        have hB5 : Box (w5.setCell ⟨sb, 8, none⟩ (.slice (some ⟨g2, 0, none⟩) (k + 1) cap2)) 109 sb (set0 ps m F s0 il f g ab (.slice (some ⟨g2, 0, none⟩) (k + 1) cap2)) := b3.set 8 _
        have hg2 := hown5.lt g2 rfl
        have hR5 : (w5.setCell ⟨sb, 8, none⟩ (.slice (some ⟨g2, 0, none⟩) (k + 1) cap2)).ownsRow (sb + 1) 112 4 (.slice (some ⟨g2, 0, none⟩) (k + 1) cap2) (k + 1) (rng (k + 1) (kindC (A0 ps m n (chain F (limOf il) s0)) (fun _ => .slice none 0 0))) := by
          rw [rng_succ]
          refine row_same ?_ (fun b hb => heap_setCell_other _ _ _ _ (by simp [Value.ownBlock] at hb; simp; omega))
          have e : kindC (A0 ps m n (chain F (limOf il) s0)) (fun _ => .slice none 0 0) k = [.int .i64 s, .int .i64 q, .slice none 0 0, .int .i64 0] := by
            simp only [kindC, A0, Ab.each]
            rw [← HS.out, ← HQ.out]; rfl
          rw [e]
          exact hown5
        have HH : Hid (_ ∧ _ ∧ _) := ⟨hK5, hB5, hR5⟩
        clear hK5 hB5 hR5
        go_wp2
        go_roundw
        case rel => exact ⟨k + 1, _, by go_num, by omega, HH.out.2.1, HH.out.2.2, HH.out.1⟩
        case measure => simp [intOf]; omega
    · obtain rfl : k = n := by omega
      obtain ⟨ao, cc, rfl, _, _, _, hh⟩ := row_shape hrow
      obtain ⟨kb, rfl⟩ := hh (by omega)
      have hkb := hrow.lt kb rfl
      have hFw : w.grownBy wr none := ((Kp.of (F := fun _ => False) hFF).trans hK (H := fun _ => False) (fun i h => h) (fun i hi => .inr (by omega))).grown (fun i hi => hi.elim)
      have hA5 : IsA wr ab ag ps m (List.replicate (ps * m) 0) := hA4.same (hK.block ab (by omega) (by omega)) (hK.block ag (by omega) (by omega))
      have HH : Hid (_ ∧ _ ∧ _ ∧ _) := ⟨hFw, hA5, hrow, hbx⟩
      have hws := hFw.size
      have hwr := hK.size
      clear hcf hFw hA5 hrow hbx
      go_wp2
      go_ret2
      obtain ⟨hFw, hA5, hrow, hbx⟩ := HH.out
      refine ⟨sb, fun b => b = sb ∨ b = kb ∨ b = ab ∨ b = ag, ⟨ab, ag, kb, cc, .slice none 0 0, fun _ => .slice none 0 0, fun _ => 0⟩, rfl, hFw, ?_, ?_⟩
      · refine ⟨hbx, row_base hrow (Nat.zero_le _), World.ownsRow_nil _ _ _ _, fun p hp => absurd hp (Nat.not_lt_zero _), fun i hi => World.ownsRow_nil _ _ _ _, hA5, .inl rfl, .inr (.inl rfl), fun b hb => by simp [Value.ownBlock] at hb, fun p hp => absurd hp (Nat.not_lt_zero _), fun i b hi hb => by simp [Value.ownBlock] at hb, ⟨.inr (.inr (.inl rfl)), .inr (.inr (.inr rfl))⟩, ?_, fun p q hp => absurd hp (Nat.not_lt_zero _), fun i j b hi hj hb => by simp [Value.ownBlock] at hb, rfl⟩
        rintro b (h | h | h | h) <;> omega
      · rintro b (h | h | h | h) <;> omega

end Go.Proofs.Ytoaaaeefcipdcaa
