/-
  Of.
-/
import Derived.Test.YtphhofbdekbggaaRy
import Derived.Test.YtphhofbdekbggaaRz
namespace Go.Proofs.Ytphhofbdekbggaa
open Go.RowKit
set_option linter.unusedVariables false
set_option linter.unusedSimpArgs false

/-- No name stands twice. -/
def Dst (K : List Sv) : Prop := (K.map fun p => p.1.toList).Nodup
/-- Names rise. -/
def Asc (L : List Sv) : Prop := ∀ i j, i < j → j < L.length → (sat L i).1.toList < (sat L j).1.toList
theorem sat_mem (L : List Sv) (i : Nat) (h : i < L.length) : sat L i ∈ L := by
  unfold sat
  rw [List.getD_eq_getElem?_getD, List.getElem?_eq_getElem h]
  exact List.getElem_mem _
theorem sat_eq (L : List Sv) (i : Nat) (h : i < L.length) : sat L i = L[i] := by
  unfold sat
  rw [List.getD_eq_getElem?_getD, List.getElem?_eq_getElem h]
  rfl
theorem Dst.ne {L : List Sv} (h : Dst L) {i j : Nat} (hij : i < j) (hj : j < L.length) : (sat L i).1.toList ≠ (sat L j).1.toList := by
  rw [sat_eq L i (by omega), sat_eq L j hj]
  have := List.pairwise_iff_getElem.1 h i j (by simp; omega) (by simpa using hj) hij
  simpa using this
theorem Asc.of {L : List Sv} (hd : Dst L) (hs : ∀ i j, i < j → j < L.length → ¬ (sat L j).1.toList < (sat L i).1.toList) : Asc L := fun i j hij hj => by
  have h1 := hs i j hij hj
  have h2 := hd.ne hij hj
  rw [List.not_lt] at h1
  exact Std.lt_of_le_of_ne h1 h2
/-- A ring in memory. -/
structure Rg (w : World) (v : Value) (L : List Sv) (ps : List Pt) : Prop where
  ex : ∃ a g c gp cp, v = .agg #[.slice a L.length c, .slice (some ⟨gp, 0, none⟩) ps.length cp] ∧ (0 < L.length → a = some ⟨g, 0, none⟩) ∧ SvAt w g L ∧ PtAt w gp ps
  ci : Circle L ps
  len : L.length ≤ 256
  pl : ps.length ≤ 512 * L.length
  ok : ∀ p ∈ L, svOk p = true
  asc : Asc L
theorem Rg.grown {w w' : World} {v : Value} {L : List Sv} {ps : List Pt} (h : Rg w v L ps) (hf : w.grownBy w' none) : Rg w' v L ps := by
  obtain ⟨a, g, c, gp, cp, h1, h2, h3, h4⟩ := h.ex
  exact ⟨⟨a, g, c, gp, cp, h1, h2, h3.grown hf, h4.grown hf⟩, h.ci, h.len, h.pl, h.ok, h.asc⟩
theorem cell_ne {w : World} {x y : Addr} {u v : Value} (h : w.cell? x = some u) (k : w.cell? y = some v) (hne : u ≠ v) (z : Value) : (w.setCell y z).cell? x = some u := by
  rw [World.cell?_setCell_other _ _ _ _ (fun e => hne (by rw [e] at k; rw [h] at k; exact Option.some.inj k))]
  exact h
/-- A slice of another's turns. -/
theorem Rg.setS {w : World} {v : Value} {L : List Sv} {ps : List Pt} (h : Rg w v L ps) {y : Addr} {s1 : Option Addr} {s2 s3 : Nat} (hc : w.cell? y = some (.slice s1 s2 s3)) (z : Value) : Rg (w.setCell y z) v L ps := by
  obtain ⟨a, g, c, gp, cp, h1, h2, h3, h4⟩ := h.ex
  exact ⟨⟨a, g, c, gp, cp, h1, h2, fun i hi => ⟨cell_ne (h3 i hi).1 hc (by simp) z, cell_ne (h3 i hi).2 hc (by simp) z⟩, fun i hi => ⟨cell_ne (h4 i hi).1 hc (by simp) z, cell_ne (h4 i hi).2.1 hc (by simp) z, cell_ne (h4 i hi).2.2 hc (by simp) z⟩⟩, h.ci, h.len, h.pl, h.ok, h.asc⟩
theorem byName_any {w : World} {C n : Nat} {v : Value} {ps : List Sv} (h : w.ownsRow C 26 2 v n (flatS ps)) (hn : ps.length = n) (hn2 : n ≤ 1000000) :
    Calls Try.prog 31 #[v] w fun e w' => (∃ a' g' c' qs, e = .returned (.slice a' n c') ∧ (0 < n → a' = some ⟨g', 0, none⟩) ∧ qs.Perm ps ∧ (∀ i j, i < j → j < n → ¬ (sat qs j).1.toList < (sat qs i).1.toList) ∧ SvAt w' g' qs) ∧ w.grownBy w' none := by
  obtain ⟨a, c, rfl, h1, h2, h3, h4⟩ := row_shape h
  by_cases h0 : 0 < n
  · obtain ⟨g, rfl⟩ := h4 h0
    refine (byName_31 h hn h0 hn2).mono ?_
    rintro e w' ⟨⟨g', c', qs, rfl, p1, p2, p3⟩, hg⟩
    exact ⟨⟨_, g', c', qs, rfl, fun _ => rfl, p1, p2, p3⟩, hg⟩
  · obtain rfl : n = 0 := by omega
    refine byName_31_no.mono ?_
    rintro e w' ⟨⟨a', c', rfl⟩, hg⟩
    exact ⟨⟨a', 0, c', ps, rfl, by omega, List.Perm.refl _, by omega, fun i hi => by omega⟩, hg⟩
set_option maxRecDepth 100000 in
set_option maxHeartbeats 4000000 in
theorem of_7 {w : World} {C n : Nat} {v : Value} {K : List Sv} (h : w.ownsRow C 26 2 v n (flatS K)) (hn : K.length = n) (hn2 : n ≤ 256) (hok : ∀ p ∈ K, svOk p = true) (hd : Dst K) :
    Calls Try.prog 7 #[v] w fun e w' => (∃ rv L ps, e = .returned (.tuple #[rv, .int .i64 0]) ∧ Rg w' rv L ps ∧ L.Perm K) ∧ w.grownBy w' none := by
  have hf1 : w.grownBy (w.alloc (.cells #[.slice none 0 0, .slice none 0 0] 32)) none := gb_alloc (gb_refl _ _) _
  have hb : Box (w.alloc (.cells #[.slice none 0 0, .slice none 0 0] 32)) 32 w.heap.size #[.slice none 0 0, .slice none 0 0] := Box.new _ _ _
  have hrow : (w.alloc (.cells #[.slice none 0 0, .slice none 0 0] 32)).ownsRow C 26 2 v n (flatS K) := World.ownsRow.alloc h _
  generalize hW : w.alloc (.cells #[.slice none 0 0, .slice none 0 0] 32) = W at *
  obtain ⟨a, c, rfl, h1, h2, h3, h4⟩ := row_shape h
  have hsv : ∃ g, (0 < n → a = some ⟨g, 0, none⟩) ∧ SvAt W g K := by
    by_cases h0 : 0 < n
    · obtain ⟨g, rfl⟩ := h4 h0
      exact ⟨g, fun _ => rfl, fun i hi => serv_cell hrow hn i (by omega)⟩
    · exact ⟨0, fun hx => absurd hx h0, fun i hi => by omega⟩
  obtain ⟨g, ha, hS⟩ := hsv
  have h28 := contains_28 (c := c) hS hn ha (by omega) (fun i hi => hok _ (sat_mem K i (by omega))) (fun i hi => by have := (svOk_wt (hok _ (sat_mem K i (by omega)))).2.1; unfold maxLen; omega)
  have h31 : ∀ W', W.grownBy W' none → Calls Try.prog 31 #[.slice a n c] W' fun e w' => (∃ a' g' c' qs, e = .returned (.slice a' n c') ∧ (0 < n → a' = some ⟨g', 0, none⟩) ∧ qs.Perm K ∧ (∀ i j, i < j → j < n → ¬ (sat qs j).1.toList < (sat qs i).1.toList) ∧ SvAt w' g' qs) ∧ W'.grownBy w' none := fun W' hW' => byName_any (row_kept hrow hW' (by simp)) hn (by omega)
  have h30 : ∀ (W' : World) (a' : Option Addr) (g' c' : Nat) (qs : List Sv), (0 < n → a' = some ⟨g', 0, none⟩) → qs.Perm K → (∀ i j, i < j → j < n → ¬ (sat qs j).1.toList < (sat qs i).1.toList) → SvAt W' g' qs →
      Calls Try.prog 30 #[.slice a' n c'] W' fun e w' => (∃ gp cp ps, e = .returned (.tuple #[.agg #[.slice a' n c', .slice (some ⟨gp, 0, none⟩) ps.length cp], .int .i64 0]) ∧ W'.heap.size ≤ gp ∧ Rg w' (.agg #[.slice a' n c', .slice (some ⟨gp, 0, none⟩) ps.length cp]) qs ps ∧ qs.Perm K) ∧ W'.grownBy w' none := by
    intro W' a' g' c' qs q1 q2 q3 q4
    have hqn : qs.length = n := by rw [q2.length_eq, hn]
    have hqd : Dst qs := (q2.map _).nodup_iff.2 hd
    have hqo : ∀ p ∈ qs, svOk p = true := fun p hp => hok p (q2.subset hp)
    refine (distinct_30 (c := c') q4 hqn q1 hn2 (fun i hi => hqo _ (sat_mem qs i (by omega))) (fun i hi => (hqd.ne (Nat.lt_succ_self i) (by omega)).symm)).mono ?_
    rintro e w' ⟨⟨gp, cp, ps, rfl, p1, p2, p3, p4⟩, hg⟩
    subst hqn
    exact ⟨⟨gp, cp, ps, rfl, p1, ⟨⟨a', g', c', gp, cp, rfl, q1, q4.grown hg, p3⟩, p2, hn2, p4, hqo, Asc.of hqd q3⟩, q2⟩, hg⟩
  clear h h1 h2 h3 h4 ha hS hrow hok hd
  go_enter Try.func7, Try.ntmps7
  go_wp2_with (first
    | (go_at_call 28; go_must (refine h28.mono ?_); rintro y w2 ⟨rfl, hg2⟩)
    | (go_at_call 31; go_must (refine (h31 _ hg2).mono ?_); rintro y w3 ⟨⟨a', g', c', qs, rfl, q1, q2, q3, q4⟩, hg3⟩)
    | (go_at_call 30; go_must (refine (h30 _ a' g' c' qs q1 q2 q3 q4).mono ?_); rintro y w4 ⟨⟨gp, cp, ps, rfl, p1, p2, p3⟩, hg4⟩; (have hb2 := ((hb.kept hg2 (by simp)).kept hg3 (by simp)).kept hg4 (by simp)); (have d0 := hb2.cell 0); (have d1 := hb2.cell 1); (have z0 := hb2.fz 0); (have z1 := hb2.fz 1); simp only [List.getElem?_toArray, List.getElem?_cons_succ, List.getElem?_cons_zero] at d0 d1) | fail)
  have e1 := ((hb2.set 0 (.slice a' n c')).set 1 (.slice (some ⟨gp, 0, none⟩) ps.length cp)).cell 1
  have e0 := ((hb2.set 0 (.slice a' n c')).set 1 (.slice (some ⟨gp, 0, none⟩) ps.length cp)).cell 0
  have f1 := (hb2.set 0 (.slice a' n c')).cell 1
  simp at e0 e1 f1
  have hgx : w.grownBy ((w4.setCell ⟨w.heap.size, 0, none⟩ (.slice a' n c')).setCell ⟨w.heap.size, 1, none⟩ (.slice (some ⟨gp, 0, none⟩) ps.length cp)) none := gb_far (gb_trans (gb_trans (gb_trans hf1 hg2) hg3) hg4) (gb_setCell (gb_setCell (gb_refl w4 (some w.heap.size)) _) _) (B := w.heap.size) (fun i e => by cases e; exact Nat.le_refl _) (Nat.le_refl _)
  refine bodyPost_ret (v := .tuple #[.agg #[.slice a' n c', .slice (some ⟨gp, 0, none⟩) ps.length cp], .int .i64 0]) (by simp [results, Try.results7, go_sem, e0, e1]) rfl ⟨⟨_, qs, ps, rfl, (p2.setS d0 _).setS f1 _, p3⟩, hgx⟩
end Go.Proofs.Ytphhofbdekbggaa
