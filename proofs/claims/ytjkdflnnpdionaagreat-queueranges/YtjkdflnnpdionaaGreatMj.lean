import Derived.Test.YtjkdflnnpdionaaGreatMd
import Derived.Test.YtjkdflnnpdionaaGreatMi
/-
  The document's New.
-/
namespace Go.Proofs.YtjkdflnnpdionaaGreat
open Go.RowKit
set_option linter.unusedVariables false

theorem Tryz.info55 : (Tryz.prog.info? 55).map (fun i => (i.zero, i.size, i.bytes)) = some (some (.slice none 0 0), 1, 24) := by kernel_rfl
section
variable {w : World} {ops : Array Oper} {rest : List Oper} {o : Oper} {a : Act} {Q : Exit → Act → World → Prop}
theorem push48 (hgd : o.guard = none) (s x : Operand) (ho : o.op = .call { callee := .builtin .append, args := #[s, x], argTypes := #[194, 194] })
    (B : Nat) (v : Value) (n : Nat) (xs : List Value) (hs : a.eval s = v) (hown : w.ownsRow B 55 1 v n xs) (u : Value) (hu : u.oneCell' = true) (hx : a.eval x = .slice (some ⟨w.heap.size, 0, none⟩) 1 1) (hn : n ≤ 100000000000) (hB : B ≤ w.heap.size)
    (h : ∀ g cap w', w'.ownsRow B 55 1 (.slice (some ⟨g, 0, none⟩) (n + 1) cap) (n + 1) (xs ++ [u]) → w.grownBy w' v.ownBlock → (v.ownBlock = some g ∨ w.heap.size ≤ g) → wpList Tryz.prog ops Q rest (a.put o.dst (.slice (some ⟨g, 0, none⟩) (n + 1) cap)) w') : wpList Tryz.prog ops Q (o :: rest) a (w.alloc (.cells #[u] 55)) := by
  obtain ⟨i0, hi, hz0, hz1, hz2⟩ := info_parts Tryz.info55
  exact wpList_pushN hgd s x 194 ho 55 i0 _ 1 24 Tryz.underlying194 hi hz0 hz1 hz2 rfl (by omega) (by omega) B v n xs hs hown [u] rfl (by simpa using hu) hx hn hB h
end

def rset (a b c d e : Int) (sv ov cv rv : Value) : Array Value := #[.int .i64 a, .int .i64 b, .int .i64 c, .int .i64 d, .int .i64 e, sv, ov, cv, rv]
theorem rnew_err {a b c d e r : Int} (h : Refd a b c d e r) (h0 : r ≠ 0) (w : World) : Calls Tryz.prog 57 #[refV a b c d e] w fun x w' => x = .returned (.tuple #[.pointer none, .int .i64 r]) ∧ w.grownBy w' none := by
  have hr := fun W => refused_is h W
  have h1 := refd_range h
  unfold refV at hr ⊢
  have hF0 : w.grownBy (w.alloc (.cells #[.int .i64 a, .int .i64 b, .int .i64 c, .int .i64 d, .int .i64 e] 107)) none := World.grownBy_alloc _ _ _
  rcases (show r = 1 ∨ r = 2 ∨ r = 3 by omega) with rfl | rfl | rfl
  all_goals
    clear h h0 h1
    go_enter Tryz.func57, Tryz.ntmps57
    go_wp2_with (first | (go_at_call 120; go_must (refine (hr _).mono ?_); rintro x w1 ⟨rfl, hf1⟩) | fail)
    go_ret2
    exact ⟨rfl, gb_trans hF0 hf1⟩

def C5 (w : World) (k : Nat) (a b c d e : Int) : Prop := w.cell? ⟨k, 0, none⟩ = some (.int .i64 a) ∧ w.cell? ⟨k, 1, none⟩ = some (.int .i64 b) ∧ w.cell? ⟨k, 2, none⟩ = some (.int .i64 c) ∧ w.cell? ⟨k, 3, none⟩ = some (.int .i64 d) ∧ w.cell? ⟨k, 4, none⟩ = some (.int .i64 e)
theorem C5.kept {w w' : World} {k : Nat} {a b c d e : Int} (h : C5 w k a b c d e) (hf : w.grownBy w' none) : C5 w' k a b c d e := by
  obtain ⟨h0, h1, h2, h3, h4⟩ := h
  exact ⟨gb_cellN hf h0, gb_cellN hf h1, gb_cellN hf h2, gb_cellN hf h3, gb_cellN hf h4⟩
theorem C5.box (w : World) (a b c d e : Int) : C5 (w.alloc (.cells #[.int .i64 a, .int .i64 b, .int .i64 c, .int .i64 d, .int .i64 e] 107)) w.heap.size a b c d e := by
  have hb := Box.new w 107 #[.int .i64 a, .int .i64 b, .int .i64 c, .int .i64 d, .int .i64 e]
  exact ⟨hb.cell 0, hb.cell 1, hb.cell 2, hb.cell 3, hb.cell 4⟩

set_option maxRecDepth 100000 in
set_option maxHeartbeats 4000000 in
theorem rnew_ok {ps m F s0 il n : Nat} (h : Cfg ps m F s0 il) (hn : n ≤ 62) (hc : Cls F (limOf il) s0 n) (hR : Refd ps m F s0 il 0) (w : World) : Calls Tryz.prog 57 #[refV ps m F s0 il] w fun x w' => ∃ rb sv ov rv, x = .returned (.tuple #[.pointer (some ⟨rb, 0, none⟩), .int .i64 0]) ∧ w.grownBy w' none ∧ w.heap.size ≤ rb ∧
    Box w' 196 rb (rset ps m F s0 il sv ov (.slice none 0 0) rv) ∧ w'.ownsRow w.heap.size 3 1 sv n (ints (szL F (limOf il) s0 n)) ∧ w'.ownsRow w.heap.size 3 1 ov m (List.replicate m (.int .i64 (-1))) ∧ w'.ownsRow w.heap.size 55 1 rv n (List.replicate n (.slice none 0 0)) ∧ sv.ownBlock ≠ ov.ownBlock := by
  obtain ⟨bp0, bp1, bp2, bp3⟩ := h.bounds
  have hil := h.il1
  have hm1 := h.m1
  have hm2 := h.m2
  have hn1 := hc.1
  have hr := fun W => refused_is hR W
  have h5 := C5.box w ps m F s0 il
  have hF0 : w.grownBy (w.alloc (.cells #[.int .i64 ps, .int .i64 m, .int .i64 F, .int .i64 s0, .int .i64 il] 107)) none := World.grownBy_alloc _ _ _
  have hs0 : w.heap.size < (w.alloc (.cells #[.int .i64 ps, .int .i64 m, .int .i64 F, .int .i64 s0, .int .i64 il] 107)).heap.size := by simp
  have hsz := fun W => (rsizes_any h.good rfl (by omega) ps m W).mono (R' := fun e w' => ∃ ga cp, e = .returned (.slice (some ⟨ga, 0, none⟩) n cp) ∧ W.grownBy w' none ∧ w'.ownsRow W.heap.size 3 1 (.slice (some ⟨ga, 0, none⟩) n cp) n (ints (szL F (limOf il) s0 n))) (by
    rintro x w' ⟨hf, n', v, h1, rfl, h3, ⟨h4, h2⟩ | ⟨_, h2⟩⟩
    · have := cls_uniq hc h2
      subst this
      obtain ⟨ao, cp, rfl, _, _, _, h4⟩ := row_shape h3
      obtain ⟨ga, rfl⟩ := h4 (by omega)
      exact ⟨ga, cp, rfl, hf, h3⟩
    · have := h2 (n - 1) (by omega)
      have := hc.2.1
      omega)
  clear hc h hR
  unfold refV at hr hsz ⊢
  go_enter Tryz.func57, Tryz.ntmps57
  go_wp2_with (first | (go_at_call 120; go_must (refine (hr _).mono ?_); rintro x w1 ⟨rfl, hf1⟩; have h51 := h5.kept hf1; have h51' := h51; obtain ⟨k0, k1, k2, k3, k4⟩ := h51') | fail)
  have hF1 := gb_trans hF0 hf1
  have hs1 := hf1.size
  have hsz1 := (hsz w1.drew).mono (R' := fun e w' => ∃ ga cp, e = .returned (.slice (some ⟨ga, 0, none⟩) n cp) ∧ C5 w' w.heap.size ps m F s0 il ∧ w.grownBy w' none ∧ w1.heap.size ≤ w'.heap.size ∧ w'.ownsRow w1.heap.size 3 1 (.slice (some ⟨ga, 0, none⟩) n cp) n (ints (szL F (limOf il) s0 n))) (by
    rintro x w' ⟨ga, cp, rfl, hf, hrow⟩
    have hf' := gb_trans (gb_drew (gb_refl w1 none)) hf
    exact ⟨ga, cp, rfl, h51.kept hf', gb_trans hF1 hf', hf'.size, hrow⟩)
  clear hsz hr h5 hF0 hf1
  go_region_held3 (fun w' => w'.cell? ⟨w.heap.size, 0, none⟩ = some (.int .i64 ps) ∧ w'.cell? ⟨w.heap.size, 1, none⟩ = some (.int .i64 m) ∧ w'.cell? ⟨w.heap.size, 2, none⟩ = some (.int .i64 F) ∧ w'.cell? ⟨w.heap.size, 3, none⟩ = some (.int .i64 s0) ∧ w'.cell? ⟨w.heap.size, 4, none⟩ = some (.int .i64 il)) ((first | exact hS2 | go_keep)) ((go_at_call 121; refine hsz1.mono ?_; rintro x w2 ⟨ga, cp, rfl, hS2, hF2, hs2, hrow2⟩))
  have hF3 : w.grownBy (w2.alloc (.cells (rset ps m F s0 il (.slice (some ⟨ga, 0, none⟩) n cp) (.slice none 0 0) (.slice none 0 0) (.slice none 0 0)) 196)) none := gb_alloc hF2 _
  have hF23 : w2.grownBy (w2.alloc (.cells (rset ps m F s0 il (.slice (some ⟨ga, 0, none⟩) n cp) (.slice none 0 0) (.slice none 0 0) (.slice none 0 0)) 196)) none := World.grownBy_alloc _ _ _
  have hb3 : Box (w2.alloc (.cells (rset ps m F s0 il (.slice (some ⟨ga, 0, none⟩) n cp) (.slice none 0 0) (.slice none 0 0) (.slice none 0 0)) 196)) 196 w2.heap.size (rset ps m F s0 il (.slice (some ⟨ga, 0, none⟩) n cp) (.slice none 0 0) (.slice none 0 0) (.slice none 0 0)) := Box.new _ _ _
  have hs3 : (w2.alloc (.cells (rset ps m F s0 il (.slice (some ⟨ga, 0, none⟩) n cp) (.slice none 0 0) (.slice none 0 0) (.slice none 0 0)) 196)).heap.size = w2.heap.size + 1 := by simp
  change (Exit.then _ _ : Exit → Act → World → Prop) _ _ (w2.alloc (.cells (rset ps m F s0 il (.slice (some ⟨ga, 0, none⟩) n cp) (.slice none 0 0) (.slice none 0 0) (.slice none 0 0)) 196))
  generalize w2.alloc (.cells (rset ps m F s0 il (.slice (some ⟨ga, 0, none⟩) n cp) (.slice none 0 0) (.slice none 0 0) (.slice none 0 0)) 196) = W at *
  have hrow3 := row_kept hrow2 hF23 (by simp)
  have hga := hrow2.lt ga rfl
  have hC3 := hS2.kept hF23
  have HWs : Hid (W.heap.size = w2.heap.size + 1) := hs3
  have hrb0 : w.heap.size < w2.heap.size := by omega
  clear h51 k0 k1 k2 k3 k4 hF1 hsz1 hS2 hF2 hrow2 hF23 hs3
  generalize w2.heap.size = rb at *
  go_wp2
  go_loopw [6] (fun iv wr => ∃ (k : Nat) (ov : Value), iv = .int .i64 k ∧ k ≤ m ∧ Box wr 196 rb (rset ps m F s0 il (.slice (some ⟨ga, 0, none⟩) n cp) ov (.slice none 0 0) (.slice none 0 0)) ∧ wr.ownsRow (rb + 1) 3 1 ov k (List.replicate k (.int .i64 (-1))) ∧ Kp (fun k => k = rb) W wr) (fun iv _ => m - (intOf iv).toNat)
  case atStart => exact ⟨0, .slice none 0 0, rfl, by omega, hb3, World.ownsRow_nil _ _ _ _, Kp.refl _ _⟩
  case round =>
    obtain ⟨k, ov, rfl, hk, hbx, hrow, hK⟩ := hrel
    have hsW := HWs.out
    have q1 : wr.cell? ⟨w.heap.size, 1, none⟩ = some (.int .i64 m) := by
      have := hC3.2.1
      have hlt2 := World.block_lt_of_cell? _ _ this
      have hb := hK.block w.heap.size hlt2 (by omega)
      simpa [World.cell?, hb] using this
    have c6 := hbx.cell 6
    have z6 := hbx.fz 6
    simp [rset] at c6
    by_cases hlt : k < m
    · have hne : ∀ b, ov.ownBlock = some b → b ≠ rb := fun b hb => by have := (hrow.lt b hb).1; omega
      have hKs := hK.size
      have ca : ∀ o, (wr.alloc o).cell? ⟨rb, 6, none⟩ = some ov := fun o => gb_cellN (World.grownBy_alloc wr o none) c6
      clear hsW
      go_wp2_with (at_builtin; go_must (refine push3 rfl _ _ rfl (rb + 1) ov k _ (by rfl) hrow (-1) (by rfl) (by omega) (by have := HWs.out; omega) ?_))
      intro g1 cap1 w4 ho4 hg4 hat4
      have b3 := hbx.kept hg4 (fun e => hne rb e.symm rfl)
      have b4 : w4.cell? ⟨rb, 6, none⟩ = some ov := by rw [b3.cell 6]; rfl
      have b5 : w4.frozen? ⟨rb, 6, none⟩ = false := b3.fz 6
      have hg1 := ho4.lt g1 rfl
      have hE : Hid (Box (w4.setCell ⟨rb, 6, none⟩ (.slice (some ⟨g1, 0, none⟩) (k + 1) cap1)) 196 rb (rset ps m F s0 il (.slice (some ⟨ga, 0, none⟩) n cp) (.slice (some ⟨g1, 0, none⟩) (k + 1) cap1) (.slice none 0 0) (.slice none 0 0)) ∧ (w4.setCell ⟨rb, 6, none⟩ (.slice (some ⟨g1, 0, none⟩) (k + 1) cap1)).ownsRow (rb + 1) 3 1 (.slice (some ⟨g1, 0, none⟩) (k + 1) cap1) (k + 1) (List.replicate (k + 1) (.int .i64 (-1))) ∧ Kp (fun k => k = rb) W (w4.setCell ⟨rb, 6, none⟩ (.slice (some ⟨g1, 0, none⟩) (k + 1) cap1))) := by
        refine ⟨b3.set 6 _, ?_, ?_⟩
        · rw [List.replicate_succ']
          refine row_same ho4 (fun b hb => heap_setCell_other _ _ _ _ (by simp [Value.ownBlock] at hb; simp; omega))
        · refine (hK.step hg4 (fun b hb => .inr ?_)).step (gb_setCell (gb_refl _ _) _) (fun b hb => .inl (by simpa using hb.symm))
          have := (hrow.lt b hb).1
          have := HWs.out
          omega
      clear hbx hrow hK ho4 hg4 hat4 b3
      go_wp2
      go_roundw
      case rel => exact ⟨k + 1, _, by go_num, by omega, hE.out.1, hE.out.2.1, hE.out.2.2⟩
      case measure => simp [intOf]; omega
    · obtain rfl : k = m := by omega
      have HR : Hid (wr.ownsRow (rb + 1) 3 1 ov k (List.replicate k (.int .i64 (-1)))) := hrow
      have HR3 : Hid (wr.ownsRow w1.heap.size 3 1 (.slice (some ⟨ga, 0, none⟩) n cp) n (ints (szL F (limOf il) s0 n))) := row_same hrow3 (fun b hb => hK.block b (by simp [Value.ownBlock] at hb; omega) (by simp [Value.ownBlock] at hb; omega))
      have HFw : Hid (w.grownBy wr none) := ((Kp.of (F := fun _ => False) hF3).trans hK (H := fun _ => False) (fun i h => h) (fun i hi => .inr (by omega))).grown (fun i hi => hi.elim)
      have HSW : Hid (rb + 1 ≤ wr.heap.size) := by have := hK.size; show _ ≤ _; omega
      have hblt := hbx.lt
      obtain ⟨W2, rfl⟩ : ∃ W2, W2 = wr := ⟨wr, rfl⟩
      clear hrow hK hsW hrow3 hF3 hb3 hC3 c6 z6 HWs
      go_wp2
      go_loopw [7] (fun iv wq => ∃ (j : Nat) (rv : Value), iv = .int .i64 j ∧ j ≤ n ∧ Box wq 196 rb (rset ps k F s0 il (.slice (some ⟨ga, 0, none⟩) n cp) ov (.slice none 0 0) rv) ∧ wq.ownsRow W2.heap.size 55 1 rv j (List.replicate j (.slice none 0 0)) ∧ Kp (fun k => k = rb) W2 wq) (fun iv _ => n - (intOf iv).toNat)
      case atStart => exact ⟨0, .slice none 0 0, rfl, by omega, hbx, World.ownsRow_nil _ _ _ _, Kp.refl _ _⟩
      case round =>
        obtain ⟨j, rv, rfl, hj, hbq, hrq, hKq⟩ := hrel
        have c5 := hbq.cell 5
        have c8 := hbq.cell 8
        have z8 := hbq.fz 8
        simp [rset] at c5 c8
        by_cases hlt2 : j < n
        · have hne : ∀ b, rv.ownBlock = some b → b ≠ rb := fun b hb => by have := (hrq.lt b hb).1; omega
          have hKs := hKq.size
          have ca : ∀ o, (wr.alloc o).cell? ⟨rb, 8, none⟩ = some rv := fun o => gb_cellN (World.grownBy_alloc wr o none) c8
          go_wp2_with (at_builtin; go_must (refine push48 rfl _ _ rfl W2.heap.size rv j _ (by rfl) hrq (.slice none 0 0) rfl (by rfl) (by omega) (by omega) ?_))
          intro g1 cap1 w4 ho4 hg4 hat4
          have b3 := hbq.kept hg4 (fun e => hne rb e.symm rfl)
          have b4 : w4.cell? ⟨rb, 8, none⟩ = some rv := by rw [b3.cell 8]; rfl
          have b5 : w4.frozen? ⟨rb, 8, none⟩ = false := b3.fz 8
          have hg1 := ho4.lt g1 rfl
          have hE : Hid (Box (w4.setCell ⟨rb, 8, none⟩ (.slice (some ⟨g1, 0, none⟩) (j + 1) cap1)) 196 rb (rset ps k F s0 il (.slice (some ⟨ga, 0, none⟩) n cp) ov (.slice none 0 0) (.slice (some ⟨g1, 0, none⟩) (j + 1) cap1)) ∧ (w4.setCell ⟨rb, 8, none⟩ (.slice (some ⟨g1, 0, none⟩) (j + 1) cap1)).ownsRow W2.heap.size 55 1 (.slice (some ⟨g1, 0, none⟩) (j + 1) cap1) (j + 1) (List.replicate (j + 1) (.slice none 0 0)) ∧ Kp (fun k => k = rb) W2 (w4.setCell ⟨rb, 8, none⟩ (.slice (some ⟨g1, 0, none⟩) (j + 1) cap1))) := by
            refine ⟨b3.set 8 _, ?_, ?_⟩
            · rw [List.replicate_succ']
              refine row_same ho4 (fun b hb => heap_setCell_other _ _ _ _ (by simp [Value.ownBlock] at hb; simp; omega))
            · refine (hKq.step hg4 (fun b hb => .inr ?_)).step (gb_setCell (gb_refl _ _) _) (fun b hb => .inl (by simpa using hb.symm))
              exact (hrq.lt b hb).1
          clear hbq hrq hKq ho4 hg4 hat4 b3
          go_wp2
          go_roundw
          case rel => exact ⟨j + 1, _, by go_num, by omega, hE.out.1, hE.out.2.1, hE.out.2.2⟩
          case measure => simp [intOf]; omega
        · obtain rfl : j = n := by omega
          have HH : Hid (_ ∧ _ ∧ _) := ⟨hbq, hrq, hKq⟩
          have hkq := hKq.size
          clear hbq hrq hKq c8 z8 hbx
          go_wp2
          go_ret2
          obtain ⟨hbq, hrq, hKq⟩ := HH.out
          have hov : ∀ b, ov.ownBlock = some b → W2.heap.size ≤ b → False := fun b hb hle => by
            have := (HR.out.lt b hb).2; omega
          have hwr := HFw.out.size
          refine ⟨rb, _, ov, rv, rfl, ((Kp.of (F := fun _ => False) HFw.out).trans hKq (H := fun _ => False) (fun i h => h) (fun i hi => .inr (by omega))).grown (fun i hi => hi.elim), by omega, hbq, ?_, ?_, ?_, ?_⟩
          · exact row_base (row_same HR3.out (fun b hb => hKq.block b (by simp [Value.ownBlock] at hb; omega) (by simp [Value.ownBlock] at hb; omega))) (by omega)
          · exact row_base (row_same HR.out (fun b hb => hKq.block b (HR.out.lt b hb).2 (by have := (HR.out.lt b hb).1; omega))) (by omega)
          · exact row_base hrq (by omega)
          · intro e
            have := (HR.out.lt ga e.symm).1
            omega

end Go.Proofs.YtjkdflnnpdionaaGreat
/-
  begun, wakes.
-/
namespace Go.Proofs.YtjkdflnnpdionaaGreat
open Go.RowKit
set_option linter.unusedVariables false

theorem inv_new {ps m F s0 il n : Nat} (h : Cfg ps m F s0 il) (hn : n ≤ 62) (hc : Cls F (limOf il) s0 n) : Inv (A0 ps m n (chain F (limOf il) s0)) := by
  obtain ⟨bp0, bp1, bp2, bp3⟩ := h.bounds
  have hcf := chain_facts h.good
  have hs := h.good.s64
  refine ⟨⟨hc.1, hn, fun i _ => ?_, fun i _ => ?_, fun i _ => (hcf i).1, fun i j hij hj => chain_lt h.good hc hij hj, h.pw, ⟨h.m1, h.m2⟩⟩, Nat.zero_le _, fun p hp => absurd hp (Nat.not_lt_zero _), fun _ _ => by show 0 < 4294967296; omega, fun c _ x hx => ?_, fun p k hp => absurd hp (Nat.not_lt_zero _), fun c _ => List.nodup_nil, fun c _ => rfl, fun c _ => ?_⟩
  · have := (hcf i).2.1; show 64 ≤ chain F (limOf il) s0 i; omega
  · have := (hcf i).2.2; show chain F (limOf il) s0 i ≤ ps; omega
  · exact absurd hx (by show x ∉ ([] : List Nat); simp)
  · show ([] : List Nat).length + 0 = _ * _
    simp [A0]

/-- What the document's Set is at first. -/
structure IsR0 (w : World) (rb : Nat) (ps m F s0 il n : Nat) (base : Nat) (sv ov rv : Value) : Prop where
  lo : base ≤ rb
  box : Box w 196 rb (rset ps m F s0 il sv ov (.slice none 0 0) rv)
  sz : w.ownsRow base 3 1 sv n (ints (szL F (limOf il) s0 n))
  ow : w.ownsRow base 3 1 ov m (List.replicate m (.int .i64 (-1)))
  rw : w.ownsRow base 55 1 rv n (List.replicate n (.slice none 0 0))
  ne : sv.ownBlock ≠ ov.ownBlock
theorem IsR0.kept {w w' : World} {rb ps m F s0 il n base : Nat} {sv ov rv : Value} (h : IsR0 w rb ps m F s0 il n base sv ov rv) (hf : w.grownBy w' none) : IsR0 w' rb ps m F s0 il n base sv ov rv :=
  ⟨h.lo, h.box.kept hf (by simp), row_kept h.sz hf (by simp), row_kept h.ow hf (by simp), row_kept h.rw hf (by simp), h.ne⟩

end Go.Proofs.YtjkdflnnpdionaaGreat
