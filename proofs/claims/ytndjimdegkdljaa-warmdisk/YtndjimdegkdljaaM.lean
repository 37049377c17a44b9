import Derived.Test.YtndjimdegkdljaaE
import Derived.Great.Walk
import Derived.Deep.CutRange
import Derived.Deep.RegionLaw
import Derived.BigRegion
/-
  The document's lists of names.
-/
namespace Go.Proofs.Ytndjimdegkdljaa
open Go.RowKit Go.MapKept
set_option linter.unusedVariables false
set_option linter.unusedSimpArgs false
attribute [local go_sem] Oper.semAt_some

abbrev nmL (p : Bs × Nat) : List Value := [sv p.1, .int .i64 (p.2 : Int)]
theorem nm_get : ∀ {L : List (Bs × Nat)} {i : Nat} {p : Bs × Nat} (j : Nat), L[i]? = some p → j < 2 → (L.flatMap nmL)[i * 2 + j]? = (nmL p)[j]?
  | [], i, p, j, h, _ => by simp at h
  | q :: L, 0, p, j, h, hj => by
    simp at h
    subst h
    rw [List.flatMap_cons, List.getElem?_append_left (by simpa using hj)]
    congr 1
    omega
  | q :: L, i + 1, p, j, h, hj => by
    have h' : L[i]? = some p := by simpa using h
    rw [List.flatMap_cons, List.getElem?_append_right (by simp; omega), ← nm_get j h' hj]
    congr 1
    simp
    omega
theorem ty77 : ∃ ti, Ty 77 133 ti (.agg #[sv [], .int .i64 0]) 2 24 := by
  obtain ⟨ti, hi, he⟩ := Option.map_eq_some_iff.1 (show (Try.prog.info? 133).map (fun i => (i.zero, i.size, i.bytes)) = some (some (.agg #[sv [], .int .i64 0]), 2, 24) by kernel_rfl)
  simp only [Prod.mk.injEq] at he
  exact ⟨ti, Try.underlying77, hi, he.1, he.2.1, he.2.2, rfl, by decide, by decide⟩
/-- A row of names. -/
abbrev NmV (w : World) (B : Nat) (v : Value) (L : List (Bs × Nat)) : Prop := w.ownsRow B 133 2 v L.length (L.flatMap nmL)
theorem filter_take {α : Type} (f : α → Bool) {L : List α} {i : Nat} {x : α} (h : L[i]? = some x) : (L.take (i + 1)).filter f = (L.take i).filter f ++ (if f x then [x] else []) := by
  rw [List.take_add_one, h, List.filter_append]
  simp only [Option.toList_some, List.filter_cons, List.filter_nil]
set_option maxRecDepth 100000 in
set_option maxHeartbeats 4000000 in
theorem without_78 {w : World} {v : Value} {L : List (Bs × Nat)} {B : Nat} (hL : NmV w B v L) (hn : L.length ≤ 1000000) (s : Bs) :
    Calls Try.prog 78 #[v, sv s] w fun e w' => ∃ v', e = .returned v' ∧ NmV w' w.heap.size v' (L.filter (fun p => p.1 ≠ s)) ∧ w.grownBy w' none := by
  obtain ⟨ao, cp, e0, -, -, hcp, hpos⟩ := row_shape hL
  subst e0
  obtain ⟨t77, T77⟩ := ty77
  obtain ⟨n, hN⟩ : ∃ n, L.length = n := ⟨_, rfl⟩
  have HN := Lib.hid hN
  have HL := Lib.hid hL
  rw [hN] at hpos hn
  rw [hN]
  clear hN hL
  go_enter Try.func78, Try.ntmps78
  go_wp2_with fail
  go_loopw [5, 6] (fun x5 x6 wr => ∃ i : Nat, i ≤ n ∧ x6 = .int .i64 (i : Int) ∧ NmV wr w.heap.size x5 ((L.take i).filter (fun p => p.1 ≠ s)) ∧ w.grownBy wr none) (fun _ x6 _ => n - (intOf x6).toNat)
  case atStart => exact ⟨0, by omega, rfl, by rw [List.take_zero]; exact World.ownsRow_nil _ _ _ _, gb_refl _ _⟩
  case round =>
    obtain ⟨i, hi, rfl, hV, hg⟩ := hrel
    by_cases hlt : i < n
    · obtain ⟨⟨x, k⟩, hx⟩ : ∃ x, L[i]? = some x := ⟨_, List.getElem?_eq_getElem (by rw [HN.out]; exact hlt)⟩
      obtain ⟨g, rfl⟩ := hpos (by omega)
      have hrow : w.ownsRow B 133 2 (.slice (some ⟨g, 0, none⟩) n cp) n (L.flatMap nmL) := by
        have := HL.out
        rw [HN.out] at this
        unfold NmV at this
        rw [HN.out] at this
        exact this
      have q0 : wr.cell? ⟨g, i * 2, none⟩ = some (sv x) := gb_cellN hg (row_cell hrow (i * 2 + 0) _ (by rw [nm_get 0 hx (by omega)]; rfl))
      have q1 : wr.cell? ⟨g, i * 2 + 1, none⟩ = some (.int .i64 (k : Int)) := gb_cellN hg (row_cell hrow (i * 2 + 1) _ (by rw [nm_get 1 hx (by omega)]; rfl))
      have d1 : decide ((i : Int) < (n : Int)) = true := by simp; omega
      have hib : (i : Int) < (n : Int) := by omega
      have hw1 : IntKind.i64.wrap ((i : Int) + 1) = (i : Int) + 1 := by rw [IntKind.wrap_i64]; omega
      have hnx := filter_take (fun p : Bs × Nat => decide (p.1 ≠ s)) hx
      by_cases hxs : x = s
      · subst hxs
        have hnx' : (L.take (i + 1)).filter (fun p => p.1 ≠ x) = (L.take i).filter (fun p => p.1 ≠ x) := by
          rw [hnx]; simp
        have HV := Lib.hid hV
        have HX := Lib.hid hnx'
        clear hV hnx hnx' hrow HL
        go_wp2_with fail
        exact ⟨⟨i + 1, by omega, by first | rfl | simp, by rw [HX.out]; exact HV.out, hg⟩, by simp [intOf]; omega⟩
      · have hnx' : (L.take (i + 1)).filter (fun p => p.1 ≠ s) = (L.take i).filter (fun p => p.1 ≠ s) ++ [(x, k)] := by
          rw [hnx]; simp [hxs]
        obtain ⟨m, hm⟩ : ∃ m, ((L.take i).filter (fun p => p.1 ≠ s)).length = m := ⟨_, rfl⟩
        have hml : m ≤ i := by rw [← hm]; exact Nat.le_trans (List.length_filter_le _ _) (by rw [List.length_take]; omega)
        unfold NmV at hV
        rw [hm] at hV
        obtain ⟨a5, c5, e5, -⟩ := row_shape hV
        subst e5
        have hB := hg.size
        have HX := Lib.hid (And.intro hnx' hm)
        have hxs' : (x == s) = false := by simpa using hxs
        clear hnx hnx' hrow HL hm
        go_wp2_with (at_builtin; go_must (refine pushB T77 rfl _ _ rfl w.heap.size _ m _ (by rfl) hV [sv x, .int .i64 (k : Int)] rfl (by simp [Value.oneCell']) (by rfl) (by omega) hB ?_); intro g7 c7 w7 hown7 hg7 hat7)
        refine ⟨⟨i + 1, by omega, by first | rfl | simp, ?_, gb_far hg hg7 (fun j hj => (row_ge hV hj).1) (Nat.le_refl _)⟩, by simp [intOf]; omega⟩
        unfold NmV
        rw [HX.out.1, List.length_append, HX.out.2, List.flatMap_append, List.flatMap_singleton]
        exact hown7
    · obtain rfl : i = n := by omega
      have d1 : decide ((i : Int) < (i : Int)) = false := by simp
      have hfin : NmV wr w.heap.size u5 (L.filter (fun p => p.1 ≠ s)) := by
        rw [List.take_of_length_le (by rw [HN.out]; exact Nat.le_refl _)] at hV
        exact hV
      clear hV HL
      go_wp2_with fail
      go_ret
      exact ⟨_, rfl, hfin, hg⟩
end Go.Proofs.Ytndjimdegkdljaa
