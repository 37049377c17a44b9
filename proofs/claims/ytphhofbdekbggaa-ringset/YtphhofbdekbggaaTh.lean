/-
  Add.
-/
import Derived.Test.YtphhofbdekbggaaTg
import Derived.Deep.RegionWith
namespace Go.Proofs.Ytphhofbdekbggaa
open Go.RowKit
set_option linter.unusedVariables false
set_option linter.unusedSimpArgs false

theorem row_own {w : World} {B e s n b : Nat} {v : Value} {xs : List Value} (h : w.ownsRow B e s v n xs) (hb : v.ownBlock = some b) : B ≤ b ∧ b < w.heap.size := by
  obtain ⟨_, h | ⟨a, cap, cells, hv, hB, hh, _⟩⟩ := h
  · rw [h.1] at hb
    simp [Value.ownBlock] at hb
  · rw [hv] at hb
    simp only [Value.ownBlock, Option.some.injEq] at hb
    subst hb
    exact ⟨hB, (Array.getElem?_eq_some_iff.1 hh).1⟩
theorem insert_A {W2 w3 : World} {n c' i : Nat} {a' : Option Addr} {L : List Sv} {p : Sv} (hg : W2.grownBy w3 none) (hr : w3.ownsRow W2.heap.size 26 2 (.slice a' n c') n (flatS L)) (hn : L.length = n) (hi : i ≤ n) (hn2 : n ≤ 1000) :
    Calls Try.prog 36 #[.slice a' n c', .int .i64 i, .slice (some ⟨w3.heap.size, 0, none⟩) 1 1] (w3.alloc (.cells #[.string p.1, .int .i64 p.2] 26)) fun e w' => (∃ g' c', e = .returned (.slice (some ⟨g', 0, none⟩) (n + 1) c') ∧ SvAt w' g' (insL L i p)) ∧ W2.grownBy w' none := by
  have hsz := hg.size
  refine (insert_36 (World.ownsRow.alloc hr _) hn hi hn2 (by simp; omega) (heap_alloc_new _ _) (fun b hb => by have := row_own hr hb; omega)).mono ?_
  rintro e w' ⟨h1, h2⟩
  exact ⟨h1, gb_far (gb_trans hg (gb_alloc (gb_refl _ _) _)) h2 (B := W2.heap.size) (fun b hb => (row_own hr hb).1) (Nat.le_refl _)⟩
theorem insert_B {W2 w3 : World} {n c' i : Nat} {a' : Option Addr} {L : List Sv} {p : Sv} (hg : (W2.alloc (.cells #[.string p.1, .int .i64 p.2] 26)).drew.grownBy w3 none) (hr : w3.ownsRow (W2.alloc (.cells #[.string p.1, .int .i64 p.2] 26)).drew.heap.size 26 2 (.slice a' n c') n (flatS L)) (hn : L.length = n) (hi : i ≤ n) (hn2 : n ≤ 1000) :
    Calls Try.prog 36 #[.slice a' n c', .int .i64 i, .slice (some ⟨W2.heap.size, 0, none⟩) 1 1] w3 fun e w' => (∃ g' c', e = .returned (.slice (some ⟨g', 0, none⟩) (n + 1) c') ∧ SvAt w' g' (insL L i p)) ∧ W2.drew.grownBy w' none := by
  have hsz := hg.size
  have hz : (W2.alloc (.cells #[.string p.1, .int .i64 p.2] 26)).drew.heap.size = W2.heap.size + 1 := by
    show (W2.alloc (.cells #[.string p.1, .int .i64 p.2] 26)).heap.size = _
    simp
  refine (insert_36 hr hn hi hn2 hsz ((hg.block _ (by omega) (by simp)).trans (heap_alloc_new W2 _)) (fun b hb => by have := (row_own hr hb).1; omega)).mono ?_
  rintro e w' ⟨h1, h2⟩
  have hg0 : W2.grownBy w' none := gb_far (gb_trans (gb_drew (gb_alloc (gb_refl _ _) _)) hg) h2 (B := (W2.alloc (.cells #[.string p.1, .int .i64 p.2] 26)).drew.heap.size) (fun b hb => (row_own hr hb).1) (by omega)
  exact ⟨h1, ⟨hg0.os, hg0.tape, hg0.output, hg0.size, hg0.block⟩⟩
set_option maxRecDepth 100000 in
set_option maxHeartbeats 4000000 in
theorem add_13 {w : World} {v : Value} {L : List Sv} {ps : List Pt} (h : RZ w v L ps) (p : Sv) (hp : svOk p = true) (hne : ∀ q ∈ L, q.1.toList ≠ p.1.toList) (hlt : L.length < 256) :
    Calls Try.prog 13 #[v, .agg #[.string p.1, .int .i64 p.2]] w fun e w' => (∃ rv L' ps', e = .returned (.tuple #[rv, .int .i64 0]) ∧ Rg w' rv L' ps' ∧ L'.Perm (p :: L)) ∧ w.grownBy w' none := by
  obtain ⟨a, g, c, x2, px, pc, gp, rfl, ha, hS, hA, hO, hl, hpl, rfl, hx, hP⟩ := h.parts
  obtain ⟨hok1, hok2, _⟩ := svOk_wt hp
  have hf1 : w.grownBy (((w.alloc (.cells #[.slice a L.length c, .slice x2 px.length pc] 32)).alloc (.cells #[.string p.1, .int .i64 p.2] 26)).alloc (.cells #[.slice none 0 0, .slice none 0 0] 32)) none := gb_alloc (gb_alloc (gb_alloc (gb_refl _ _) _) _) _
  have hbr0 : Box (w.alloc (.cells #[.slice a L.length c, .slice x2 px.length pc] 32)) 32 w.heap.size #[.slice a L.length c, .slice x2 px.length pc] := Box.new _ _ _
  have hbr := hbr0.kept (gb_alloc (gb_alloc (gb_refl _ none) (.cells #[.string p.1, .int .i64 p.2] 26)) (.cells #[.slice none 0 0, .slice none 0 0] 32)) (by simp)
  have hbs0 : Box ((w.alloc (.cells #[.slice a L.length c, .slice x2 px.length pc] 32)).alloc (.cells #[.string p.1, .int .i64 p.2] 26)) 26 (w.heap.size + 1) #[.string p.1, .int .i64 p.2] := by
    have := Box.new (w.alloc (.cells #[.slice a L.length c, .slice x2 px.length pc] 32)) 26 #[.string p.1, .int .i64 p.2]
    simpa using this
  have hbs := hbs0.kept (gb_alloc (gb_refl _ none) (.cells #[.slice none 0 0, .slice none 0 0] 32)) (by simp)
  have hb : Box (((w.alloc (.cells #[.slice a L.length c, .slice x2 px.length pc] 32)).alloc (.cells #[.string p.1, .int .i64 p.2] 26)).alloc (.cells #[.slice none 0 0, .slice none 0 0] 32)) 32 (w.heap.size + 1 + 1) #[.slice none 0 0, .slice none 0 0] := by
    have := Box.new ((w.alloc (.cells #[.slice a L.length c, .slice x2 px.length pc] 32)).alloc (.cells #[.string p.1, .int .i64 p.2] 26)) 32 #[.slice none 0 0, .slice none 0 0]
    simpa using this
  have hS1 := hS.grown hf1
  clear hbr0 hbs0
  have hz : (((w.alloc (.cells #[.slice a L.length c, .slice x2 px.length pc] 32)).alloc (.cells #[.string p.1, .int .i64 p.2] 26)).alloc (.cells #[.slice none 0 0, .slice none 0 0] 32)).heap.size = w.heap.size + 3 := by simp
  generalize hW : (((w.alloc (.cells #[.slice a L.length c, .slice x2 px.length pc] 32)).alloc (.cells #[.string p.1, .int .i64 p.2] 26)).alloc (.cells #[.slice none 0 0, .slice none 0 0] 32)) = W at *
  have h33 : ∀ W', W.grownBy W' none → Calls Try.prog 33 #[.agg #[.slice a L.length c, .slice x2 px.length pc], .string p.1] W' fun e w' => (∃ i : Nat, e = .returned (.tuple #[.int .i64 i, .bool false]) ∧ i ≤ L.length ∧ Asc (insL L i p)) ∧ W'.grownBy w' none := fun W' hW' => by
    refine (find_33 (c := c) (x2 := x2) (x3 := px.length) (x4 := pc) (t := p.1) rfl (by omega) ha (hS1.grown hW') hA).mono ?_
    rintro e w' ⟨⟨j, rfl, hj⟩, hg⟩
    have hf : isAt L p.1.toList j = false := by
      unfold isAt
      by_cases hjl : j < L.length
      · simp [hjl, hne _ (sat_mem L j hjl)]
      · simp [hjl]
    exact ⟨⟨j, by rw [hf], hj.le, asc_ins hA hj hf⟩, hg⟩
  have h32 : ∀ W', W.grownBy W' none → Calls Try.prog 32 #[.slice a L.length c] W' fun e w' => (∃ a' c', e = .returned (.slice a' L.length c') ∧ w'.ownsRow W'.heap.size 26 2 (.slice a' L.length c') L.length (flatS L)) ∧ W'.grownBy w' none := fun W' hW' => clone_32o (c := c) (hS1.grown hW') rfl ha (by omega)
  have h36A : ∀ (W2 w3 : World) (a' : Option Addr) (c' i : Nat), W2.grownBy w3 none → w3.ownsRow W2.heap.size 26 2 (.slice a' L.length c') L.length (flatS L) → i ≤ L.length → Calls Try.prog 36 #[.slice a' L.length c', .int .i64 i, .slice (some ⟨w3.heap.size, 0, none⟩) 1 1] (w3.alloc (.cells #[.string p.1, .int .i64 p.2] 26)) fun e w' => (∃ g' c', e = .returned (.slice (some ⟨g', 0, none⟩) (L.length + 1) c') ∧ SvAt w' g' (insL L i p)) ∧ W2.grownBy w' none := fun W2 w3 a' c' i hg hr hi => insert_A hg hr rfl hi (by omega)
  have h36B : ∀ (W2 w3 : World) (a' : Option Addr) (c' i : Nat), (W2.alloc (.cells #[.string p.1, .int .i64 p.2] 26)).drew.grownBy w3 none → w3.ownsRow (W2.alloc (.cells #[.string p.1, .int .i64 p.2] 26)).drew.heap.size 26 2 (.slice a' L.length c') L.length (flatS L) → i ≤ L.length → Calls Try.prog 36 #[.slice a' L.length c', .int .i64 i, .slice (some ⟨W2.heap.size, 0, none⟩) 1 1] w3 fun e w' => (∃ g' c', e = .returned (.slice (some ⟨g', 0, none⟩) (L.length + 1) c') ∧ SvAt w' g' (insL L i p)) ∧ W2.drew.grownBy w' none := fun W2 w3 a' c' i hg hr hi => insert_B hg hr rfl hi (by omega)
  have h34 : ∀ (W' : World) (g' c' i : Nat), i ≤ L.length → SvAt W' g' (insL L i p) → Asc (insL L i p) → Calls Try.prog 34 #[.slice (some ⟨g', 0, none⟩) (L.length + 1) c'] W' fun e w' => (∃ gp cp ps, e = .returned (.agg #[.slice (some ⟨g', 0, none⟩) (L.length + 1) c', .slice (some ⟨gp, 0, none⟩) ps.length cp]) ∧ Rg w' (.agg #[.slice (some ⟨g', 0, none⟩) (L.length + 1) c', .slice (some ⟨gp, 0, none⟩) ps.length cp]) (insL L i p) ps) ∧ W'.grownBy w' none := fun W' g' c' i hi hs' has =>
    laid_rg hs' (insL_len L i p hi) (fun _ => rfl) (by omega) (fun q hq => by
      rcases List.mem_cons.1 ((ins_perm L i p).subset hq) with rfl | hq
      · exact hp
      · exact hO q hq) has
  have h29 := fun W => isNone_29 p.1 p.2 W (by unfold maxLen; omega)
  simp only [show svOk (p.1, p.2) = true from hp, Bool.not_true] at h29
  have d0 := hbr.cell 0
  have d1 := hbr.cell 1
  have s0 := hbs.cell 0
  have s1 := hbs.cell 1
  simp only [List.getElem?_toArray, List.getElem?_cons_succ, List.getElem?_cons_zero] at d0 d1 s0 s1
  have HPM : Hid (∀ i, (insL L i p).Perm (p :: L)) := fun i => ins_perm L i p
  clear hS hS1 hP h hx hO hA ha hpl hne hok1 hok2
  generalize L.length = n at *
  go_enter Try.func13, Try.ntmps13
  go_wp2_with (first
    | (go_at_call 29; go_must (refine (h29 _).mono ?_); rintro y _ ⟨rfl, q, os, rfl⟩; (have hg1 := gb_grow W q os); generalize Sort.grow (World.drewN W q) os = w1 at *; (have hbr1 := hbr.kept hg1 (by simp)); (have hbs1 := hbs.kept hg1 (by simp)); (have d0 := hbr1.cell 0); (have d1 := hbr1.cell 1); (have s0 := hbs1.cell 0); (have s1 := hbs1.cell 1); simp only [List.getElem?_toArray, List.getElem?_cons_succ, List.getElem?_cons_zero] at d0 d1 s0 s1)
    | (go_at_call 33; go_must (refine (h33 _ hg1).mono ?_); rintro y w2 ⟨⟨i, rfl, hi, hAi⟩, hg2⟩; (have hbr2 := hbr1.kept hg2 (by simp)); (have hbs2 := hbs1.kept hg2 (by simp)); (have d0 := hbr2.cell 0); (have d1 := hbr2.cell 1); (have s0 := hbs2.cell 0); (have s1 := hbs2.cell 1); simp only [List.getElem?_toArray, List.getElem?_cons_succ, List.getElem?_cons_zero] at d0 d1 s0 s1) | fail)
  have hf2 : W.grownBy w2.drew none := gb_drew (gb_trans hg1 hg2)
  have hbx2 := hb.kept hf2 (by simp)
  have hbr3 : Box w2.drew 32 w.heap.size #[.slice a n c, .slice x2 px.length pc] := hbr.kept hf2 (by simp)
  have hbs3 : Box w2.drew 26 (w.heap.size + 1) #[.string p.1, .int .i64 p.2] := hbs.kept hf2 (by simp)
  have d0 := hbr3.cell 0
  have s0 := hbs3.cell 0
  have s1 := hbs3.cell 1
  have hgo : w2.drew.grownBy (w2.alloc (.cells #[.string p.1, .int .i64 p.2] 26)).drew none := by
    have := gb_drew (gb_alloc (gb_refl w2 none) (.cells #[.string p.1, .int .i64 p.2] 26))
    exact ⟨this.os, this.tape, this.output, this.size, this.block⟩
  have hgo2 : W.grownBy (w2.alloc (.cells #[.string p.1, .int .i64 p.2] 26)).drew none := gb_trans hf2 hgo
  have e0 := (hbr3.kept hgo (by simp)).cell 0
  simp only [List.getElem?_toArray, List.getElem?_cons_succ, List.getElem?_cons_zero] at d0 s0 s1 e0
  go_region_with (first
    | (go_at_call 32; refine (h32 _ (by first | with_reducible exact hf2 | with_reducible exact hgo2)).mono ?_; rintro z w3 ⟨⟨a3, c3, rfl, hr3⟩, hg3⟩; (first | (have s0 := (hbs3.kept hg3 (by simp)).cell 0; have s1 := (hbs3.kept hg3 (by simp)).cell 1; simp only [List.getElem?_toArray, List.getElem?_cons_succ, List.getElem?_cons_zero] at s0 s1) | skip))
    | (go_at_call 36; refine (Calls.mono (by first | with_reducible exact h36A _ _ _ _ _ hg3 hr3 hi | with_reducible exact h36B w2 _ _ _ _ hg3 hr3 hi) ?_); rintro z w4 ⟨⟨g4, c4, rfl, hS4⟩, hg4⟩)
    | (go_at_call 34; refine (h34 _ _ _ _ hi hS4 hAi).mono ?_; rintro z w5 ⟨⟨gp5, cp5, ps5, rfl, hR5⟩, hg5⟩; (have hgx := gb_trans hg4 hg5); (have hb2 := hbx2.kept hgx (by simp)); (have d0 := hb2.cell 0); (have d1 := hb2.cell 1); (have z0 := hb2.fz 0); (have z1 := hb2.fz 1); simp only [List.getElem?_toArray, List.getElem?_cons_succ, List.getElem?_cons_zero] at d0 d1))
  all_goals go_wp2_with fail
  all_goals (
    have e1 := ((hb2.set 0 (.slice (some ⟨g4, 0, none⟩) (n + 1) c4)).set 1 (.slice (some ⟨gp5, 0, none⟩) ps5.length cp5)).cell 1
    have e0 := ((hb2.set 0 (.slice (some ⟨g4, 0, none⟩) (n + 1) c4)).set 1 (.slice (some ⟨gp5, 0, none⟩) ps5.length cp5)).cell 0
    have f1 := (hb2.set 0 (.slice (some ⟨g4, 0, none⟩) (n + 1) c4)).cell 1
    simp at e0 e1 f1
    have hgy : w.grownBy ((w5.setCell ⟨w.heap.size + 1 + 1, 0, none⟩ (.slice (some ⟨g4, 0, none⟩) (n + 1) c4)).setCell ⟨w.heap.size + 1 + 1, 1, none⟩ (.slice (some ⟨gp5, 0, none⟩) ps5.length cp5)) none := gb_far (gb_trans hf1 (gb_trans hf2 hgx)) (gb_setCell (gb_setCell (gb_refl w5 (some (w.heap.size + 1 + 1))) _) _) (B := w.heap.size) (fun i e => by cases e; omega) (Nat.le_refl _)
    exact bodyPost_ret (v := .tuple #[.agg #[.slice (some ⟨g4, 0, none⟩) (n + 1) c4, .slice (some ⟨gp5, 0, none⟩) ps5.length cp5], .int .i64 0]) (by simp [results, Try.results13, go_sem, e0, e1]) rfl ⟨⟨_, _, ps5, rfl, (hR5.setS d0 _).setS f1 _, HPM.out i⟩, hgy⟩)
end Go.Proofs.Ytphhofbdekbggaa
