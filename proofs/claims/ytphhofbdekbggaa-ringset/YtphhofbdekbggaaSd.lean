/-
  lives.
-/
import Derived.Test.YtphhofbdekbggaaSc
import Derived.Lib.SlBytesConst
namespace Go.Proofs.Ytphhofbdekbggaa
open Go.RowKit
set_option linter.unusedVariables false
set_option linter.unusedSimpArgs false

set_option maxRecDepth 100000 in
set_option maxHeartbeats 4000000 in
theorem lives_9 (w : World) : Calls Try.prog 9 #[] w fun e w' => e = .returned (.bool true) ∧ w.grownBy w' none := by
  have hrow : (w.alloc (.cells #[.string bB, .int .i64 1, .string bA, .int .i64 2] 26)).ownsRow w.heap.size 26 2 (.slice (some ⟨w.heap.size, 0, none⟩) 2 2) 2 (flatS [(bB, 1), (bA, 2)]) := ⟨rfl, .inr ⟨w.heap.size, 2, #[.string bB, .int .i64 1, .string bA, .int .i64 2], rfl, Nat.le_refl _, heap_alloc_new w _, Nat.le_refl _, by unfold maxLen; omega, rfl, rfl⟩⟩
  have hg0 : w.grownBy (w.alloc (.cells #[.string bB, .int .i64 1, .string bA, .int .i64 2] 26)) none := gb_alloc (gb_refl _ _) _
  have h7 := of_7 hrow rfl (by omega) (by intro p hp; simp only [List.mem_cons, List.not_mem_nil, or_false] at hp; rcases hp with rfl | rfl <;> rfl) (by
    have hB : bB.toList = [98] := by rw [ByteArray.toList_eq]; rfl
    have hA : bA.toList = [97] := by rw [ByteArray.toList_eq]; rfl
    simp [Dst, hA, hB])
  have h7b : Calls Try.prog 7 #[.slice (some ⟨w.heap.size, 0, none⟩) 2 2] (w.alloc (.cells #[.string bB, .int .i64 1, .string bA, .int .i64 2] 26)) fun e w' => (∃ (a : Option Addr) (c gp cp : Nat) (ps : List Pt), e = .returned (.tuple #[.agg #[.slice a 2 c, .slice (some ⟨gp, 0, none⟩) ps.length cp], .int .i64 0]) ∧ Rg w' (.agg #[.slice a 2 c, .slice (some ⟨gp, 0, none⟩) ps.length cp]) ab ps ∧ w.grownBy w' none) := by
    refine h7.mono ?_
    rintro e w' ⟨⟨rv, L, ps, rfl, hR, hp⟩, hg⟩
    have := ab_list hp hR.asc
    subst this
    obtain ⟨a, g, c, gp, cp, rfl, _, _, _⟩ := hR.ex
    exact ⟨a, c, gp, cp, ps, rfl, hR, gb_trans hg0 hg⟩
  clear h7 hrow hg0
  have hBA : (⟨#[98]⟩ : ByteArray) = bB ∧ (⟨#[97]⟩ : ByteArray) = bA := ⟨rfl, rfl⟩
  go_enter Try.func9, Try.ntmps9
  have h10 := fun (e : Int) W => num_10 e W
  have hcv := fun (w : World) (C : Array Value) (n c : Nat) => Lib.run_convert_bytes_const (P := Try.prog) w 45 5 C n c Try.underlying45 Try.underlying5
  have hk : isBytes [107] := fun z hz => by simp only [List.mem_cons, List.not_mem_nil, or_false] at hz; omega
  go_wp2_with (first
    | (go_at_call 7; go_must (refine h7b.mono ?_); rintro y w1 ⟨a, c, gp, cp, ps, rfl, hR, hg1⟩;
        (have hbx : Box (w1.alloc (.cells #[.slice a 2 c, .slice (some ⟨gp, 0, none⟩) ps.length cp] 32)) 32 w1.heap.size #[.slice a 2 c, .slice (some ⟨gp, 0, none⟩) ps.length cp] := Box.new _ _ _);
        (have hR1 := hR.grown (gb_alloc (gb_refl w1 none) (.cells #[.slice a 2 c, .slice (some ⟨gp, 0, none⟩) ps.length cp] 32)));
        (have hgx : w.grownBy (w1.alloc (.cells #[.slice a 2 c, .slice (some ⟨gp, 0, none⟩) ps.length cp] 32)) none := gb_alloc hg1 _);
        (have h11 := servers_11 hR1))
    | (go_at_call 11; go_must (refine h11.mono ?_); rintro y w2 ⟨⟨a2, g2, c2, rfl, q1, q2⟩, hg2⟩;
        (have hb2 := hbx.kept hg2 (by simp)); (have d0 := hb2.cell 0); (have d1 := hb2.cell 1); simp only [List.getElem?_toArray, List.getElem?_cons_succ, List.getElem?_cons_zero] at d0 d1;
        (have hR2 := (hR1.grown hg2).grown (gb_alloc (gb_refl w2 none) (.cells #[.int .u8 107] 5 (1, 2))));
        (have h25 := owner_rg hR2 (by have := ab_many hR.ci; omega) (has_one w2 107 (1, 2)) hk 1 (by omega));
        (have hlen2 : ab.length = 2 := rfl); rw [hlen2])
    | (go_at_call 25; go_must (refine h25.mono ?_); rintro y w3 ⟨⟨i, hlb, rfl⟩, hg3⟩;
        (have hb3 := hb2.kept (gb_trans (gb_alloc (gb_refl w2 none) _) hg3) (by simp)); (have k0 := hb3.cell 0); (have k1 := hb3.cell 1); simp only [List.getElem?_toArray, List.getElem?_cons_succ, List.getElem?_cons_zero] at k0 k1;
        (have hR3 := hR2.grown hg3); (have hgy := gb_trans hgx (gb_trans hg2 (gb_trans (gb_alloc (gb_refl w2 none) _) hg3)));
        (have l0 := gb_cellN (gb_trans (gb_alloc (gb_refl w2 none) _) hg3) (q2 0 (by simp)).1);
        (have hnv := hR3.ci.sv (firstN ps.length i) (by have := ab_many hR3.ci; have := hlb.le; unfold firstN; split <;> omega));
        (have h14 := points_rg hR3); (have h128 := ab_many hR3.ci))
    | (go_at_call 10; go_must (refine (h10 _ _).mono ?_); rintro y w' ⟨rfl, rfl⟩)
    | (go_at_call 14; go_must (refine h14.mono ?_); rintro y w4 ⟨⟨a4, g4, c4, rfl, _, _⟩, hg4⟩;
        (have hb4 := hb3.kept hg4 (by simp)); (have m0 := hb4.cell 0); (have m1 := hb4.cell 1); simp only [List.getElem?_toArray, List.getElem?_cons_succ, List.getElem?_cons_zero] at m0 m1;
        (have hR4 := (hR3.grown hg4).grown (gb_alloc (gb_refl w4 none) (.cells #[.int .u8 107] 5 (1, 2))));
        (have hgz := gb_trans (gb_trans hgy hg4) (gb_alloc (gb_refl w4 none) (.cells #[.int .u8 107] 5 (1, 2))));
        (have h20 := prefer_rg hR4 (has_one w4 107 (1, 2)) hk 1 (by omega) 2))
    | (go_at_call 20; go_must (refine h20.mono ?_); rintro y w5 ⟨⟨i5, v5, _, rfl, hr5⟩, hg5⟩;
        (have h2 := ab_two hR4.ci (firstN ps.length i5)); (obtain ⟨ao5, c5, rfl, _, _⟩ := row_shape hr5);
        (have hl5 : (List.take (min (2 : Int) (ab.length : Int)).toNat (pre ps (firstN ps.length i5) ps.length)).length = 2 := by rw [List.length_take]; show min 2 _ = 2; omega); rw [hl5]) | fail)
  go_ret
  exact ⟨rfl, gb_trans hgz hg5⟩
end Go.Proofs.Ytphhofbdekbggaa
