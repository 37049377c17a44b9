import Derived.Test.YtndjimdegkdljaaZm
import Derived.Lib.SlBytesConst
import Derived.Lib.SmallJoins
/-
  A disk does something: the law's walk.
-/
namespace Go.Proofs.Ytndjimdegkdljaa
open Go.RowKit Go.MapKept
set_option linter.unusedVariables false
set_option linter.unusedSimpArgs false
attribute [local go_sem] Oper.semAt_some

set_option maxRecDepth 100000 in
set_option maxHeartbeats 4000000 in
theorem stirs_5 (w : World) : Calls Try.prog 5 #[] w fun e w' => e = .returned (.bool true) ∧ w.grownBy w' none := by
  have h6 := st_6 w
  go_enter Try.func5, Try.ntmps5
  go_upto_region 4 with (first
    | (go_at_call 6; go_must (refine h6.mono ?_); rintro e w1 ⟨d, rfl, H1⟩; (have h22 := st_22 H1 rfl); (have h13 := st_13 H1); clear H1 h6)
    | (go_at_call 22; go_must (refine h22.mono ?_); rintro e wq ⟨rfl, hwq⟩; have hwr := hwq.symm; subst hwr)
    | (go_at_call 13; go_must (refine h13.mono ?_); rintro e w2 ⟨rfl, H2⟩; (have h23 := st_23 H2); clear H2 h13 h22)
    | (go_at_call 23; go_must (refine h23.mono ?_); rintro e w3 ⟨rfl, H3⟩; (have h24 := st_24 H3); clear H3 h23)
    | (go_at_call 24; go_must (refine h24.mono ?_); rintro e w4 ⟨rfl, H4⟩; clear h24))
  have hcv := Lib.run_convert_bytes_const (P := Try.prog) w4 38 5 #[.int .u8 97, .int .u8 98, .int .u8 99, .int .u8 100] 4 4 Try.underlying38 Try.underlying5
  have gW : w4.grownBy (w4.alloc (.cells #[.int .u8 97, .int .u8 98, .int .u8 99, .int .u8 100] 5 (4, 5))) none := gb_alloc (gb_refl w4 none) _
  have h26 := st_26 (g := w4.heap.size) (cp := 4) (H4.more gW) (by have := H4.lt; omega) ⟨rfl, by decide, by decide, _, _, heap_alloc_new w4 _, rfl⟩
  simp only [List.size_toArray, List.length_cons, List.length_nil, Nat.reduceAdd] at hcv
  obtain ⟨W4, hW4⟩ : ∃ W, w4.alloc (.cells #[.int .u8 97, .int .u8 98, .int .u8 99, .int .u8 100] 5 (4, 5)) = W := ⟨_, rfl⟩
  rw [hW4] at hcv h26
  clear H4 gW
  go_upto_region 5 with (first
    | (go_at_call 26; go_must (refine h26.mono ?_); rintro e w5 ⟨v5, rfl, hv5, H5⟩; (have h25 := refusal_25 hv5); (have hflt : fltO [97, 112, 112, 101, 110, 100] [97] 181 = .agg #[sv [97, 112, 112, 101, 110, 100], sv [97], .int .i64 181] := by rfl); rw [hflt] at h25; clear hv5 h26 hcv hflt)
    | (go_at_call 25; go_must (refine h25.mono ?_); rintro e w6 ⟨rfl, g6⟩; (have H6 := H5.more g6); clear H5 h25 g6))
  have g6' := gb_alloc (gb_refl w6 none) (.cells #[.string ⟨#[97, 112, 112, 101, 110, 100]⟩, .string ⟨#[97]⟩, .int .i64 181] 34)
  have B6 := Box.new w6 34 #[.string ⟨#[97, 112, 112, 101, 110, 100]⟩, .string ⟨#[97]⟩, .int .i64 181]
  have HZ := H6.more g6'
  obtain ⟨s6, hs6⟩ : ∃ s, w6.heap.size = s := ⟨_, rfl⟩
  obtain ⟨W6, hW6⟩ : ∃ W, w6.alloc (.cells #[.string ⟨#[97, 112, 112, 101, 110, 100]⟩, .string ⟨#[97]⟩, .int .i64 181] 34) = W := ⟨_, rfl⟩
  rw [hW6] at B6 HZ ⊢
  rw [hs6] at B6 ⊢
  clear H6 g6' hW6 hs6 hW4
  have h27 := st_27 (l := [97, 98, 99]) HZ rfl (by decide)
  go_upto_region 6 with (go_at_call 27; go_must (refine h27.mono ?_); rintro e w7 ⟨b7, rfl, hb7, g7⟩)
  have H7 := HZ.more g7
  have B7 := B6.kept g7 (by simp)
  have q0 : w7.cell? ⟨s6, 0, none⟩ = some (.string ⟨#[97, 112, 112, 101, 110, 100]⟩) := B7.cell 0
  have q1 : w7.cell? ⟨s6, 1, none⟩ = some (.string ⟨#[97]⟩) := B7.cell 1
  have q2 : w7.cell? ⟨s6, 2, none⟩ = some (.int .i64 181) := B7.cell 2
  have h28 := st_28 H7
  have hcv := hb7 w7 (gb_refl _ _)
  clear B6 B7 g7 hb7 HZ h27
  go_upto_region 8 with (go_at_call 28; go_must (refine h28.mono ?_); rintro e wq ⟨rfl, hwq⟩; have hwr := hwq.symm; subst hwr)
  have g8 := gb_alloc (gb_refl w7 none) (.cells #[.int .i64 1] 3)
  have hrow : (w7.alloc (.cells #[.int .i64 1] 3)).ownsRow w.heap.size 3 1 (.slice (some ⟨w7.heap.size, 0, none⟩) 1 1) 1 [.int .i64 1] := ⟨rfl, .inr ⟨w7.heap.size, 1, #[.int .i64 1], rfl, by obtain ⟨p, -, hp⟩ := H7; exact hp.gb.size, heap_alloc_new w7 _, Nat.le_refl _, by decide, rfl, rfl⟩⟩
  have hcol : ∀ p, p.d = d → At w (w7.alloc (.cells #[.int .i64 1] 3)) p t3 → (∀ b, p.col b ≠ 0 → b < w7.heap.size) → p.col w7.heap.size = 0 := fun p _ _ hl => by
    by_cases hc : p.col w7.heap.size = 0
    · exact hc
    · exact absurd (hl _ hc) (Nat.lt_irrefl _)
  have h11 : Calls Try.prog 11 #[pv d, .agg #[.slice (some ⟨w7.heap.size, 0, none⟩) 1 1, .int .i64 0]] (w7.alloc (.cells #[.int .i64 1] 3)) fun e w' => e = .returned (.tuple #[]) ∧ Dk w w' d t4 := by
    obtain ⟨p, h1, h2⟩ := H7
    exact st_11 p h1 (h2.more g8) hrow (hcol p h1 (h2.more g8) h2.rp.lt)
  clear g8 hrow hcol H7
  go_upto_region 9 with (go_at_call 11; go_must (refine h11.mono ?_); rintro e w8 ⟨rfl, H8⟩)
  have h27 := st_27 (l := [97]) H8 rfl (by decide)
  clear h11 q0 q1 q2 h28 hcv
  go_upto_region 10 with (go_at_call 27; go_must (refine h27.mono ?_); rintro e w9 ⟨b9, rfl, hb9, g9⟩)
  have H9 := H8.more g9
  have h29 := st_29 H9
  clear h27 H8 g9
  go_upto_region 11 with (go_at_call 29; go_must (refine h29.mono ?_); rintro e wA ⟨gA, cA, rfl, qA, hgA, gA2⟩)
  have HA := H9.more gA2
  have h23 := st_23' HA
  clear h29
  have hcv := hb9 wA gA2
  have HG := Lib.hid (show w.grownBy wA none by obtain ⟨p, -, hp⟩ := HA; exact hp.gb)
  clear HA H9 hb9 gA2
  go_wp2_with (go_at_call 23; go_must (refine h23.mono ?_); rintro e wB ⟨rfl, gB⟩; (have qB := gb_cellN gB qA))
  go_ret
  exact ⟨rfl, gb_trans HG.out gB⟩
end Go.Proofs.Ytndjimdegkdljaa
