import Derived.Recover
import Derived.Test.YtobegepebochkaaGreatDoorM
/-
  Wrong lines.
-/
namespace Go.Proofs.YtobegepebochkaaGreatDoor
open Go.RowKit Go.Maps
set_option linter.unusedVariables false
set_option linter.unusedSimpArgs false

theorem assert59 (s : ByteArray) (w : World) : (Instr.typeAssert (.iface 187 (.string s)) 20 187 true).run Tryz.prog w = .ok (.tuple #[.string s, .bool true]) w := by
  simp [Instr.typeAssert, go_sem, Tryz.underlying187, Tryz.underlying20]
/-- What is told of a line that was given up. -/
abbrev wrv (t : Bs) (p : Int) : Value := .agg #[.int .i64 (if t = [] then 1 else 2), sv t, .int .i64 p]
set_option maxRecDepth 100000 in
set_option maxHeartbeats 4000000 in
theorem wrong_15 (t : Bs) (p : Int) (w : World) :
    Calls Tryz.prog 100 #[.iface 187 (sv t), .int .i64 p] w fun e w' => e = .returned (wrv t p) ∧ w.grownBy w' none := by
  have hb := Box.new w 43 #[.int .i64 0, .string ⟨#[]⟩, .int .i64 0]
  have hta := assert59
  by_cases ht : t = []
  · subst ht
    go_enter Tryz.func100, Tryz.ntmps100
    go_wp2
    exact ⟨rfl, _, res15 (Box.new w 43 _) _ rfl, by simp, gb_alloc (gb_refl _ _) _⟩
  · have d1 : (t == []) = false := beq_eq_false_iff_ne.2 ht
    have d2 : t.isEmpty = false := by simpa using ht
    go_enter Tryz.func100, Tryz.ntmps100
    go_wp2
    exact ⟨rfl, _, res15 (Box.new w 43 _) _ rfl, by simp [ht], gb_alloc (gb_refl _ _) _⟩
set_option maxRecDepth 100000 in
set_option maxHeartbeats 4000000 in
theorem catch_14 {w : World} {pb cb bb wb : Nat} (t : Bs) (p : Int) (older : List PanicEntry) (a1 a2 a3 a4 a5 a6 a7 a8 a9 a10 a11 d e0 e1 e2 : Value) (hp : Box w 3 pb #[.int .i64 p]) (hc : Box w 41 cb #[a1, a2, a3, a4, a5, a6, a7, a8, a9, a10, a11]) (hb : Box w 3 bb #[d]) (hw : Box w 43 wb #[e0, e1, e2]) (hne : bb ≠ pb) :
    CallsD Tryz.prog 99 #[.pointer (some ⟨pb, 0, none⟩), .pointer (some ⟨cb, 0, none⟩), .pointer (some ⟨bb, 0, none⟩), .pointer (some ⟨wb, 0, none⟩)] (.panicking ({ v := .iface 187 (sv t), recovered := false } :: older)) w fun e u' w' =>
      e = .returned (.tuple #[]) ∧ u' = .panicking ({ v := .iface 187 (sv t), recovered := true } :: older) ∧ Box w' 41 cb (Z31 0 false) ∧ Box w' 3 bb #[.int .i64 (-1)] ∧ Box w' 43 wb #[.int .i64 (if t = [] then 1 else 2), sv t, .int .i64 p] ∧ Kp (fun k => k = cb ∨ k = bb ∨ k = wb) w w' := by
  have h15 : ∀ W, Calls Tryz.prog 100 #[.iface 187 (sv t), .int .i64 p] W fun e w' => e = .returned (.agg #[.int .i64 (if t = [] then 1 else 2), sv t, .int .i64 p]) ∧ W.grownBy w' none := fun W => wrong_15 t p W
  obtain ⟨kd, hkd⟩ : ∃ kd : Int, (if t = [] then (1 : Int) else 2) = kd := ⟨_, rfl⟩
  rw [hkd] at h15 ⊢
  clear hkd
  refine callsD_of_wpS Tryz.func99 rfl fun c₀ cs hu => ?_
  apply wpS_seq
  apply wpS_region
  simp [wpOpsS, go_sem, recoverD, hu, Tryz.ntmps99, Exit.thenS]
  refine wpS_of_wp ?_
  simp only [Array.replicate_succ, Array.replicate_zero, List.push_toArray, List.append_toArray, List.setIfInBounds_toArray, List.set_cons_zero, List.set_cons_succ, List.nil_append, List.cons_append]
  have hp0 : w.cell? ⟨pb, 0, none⟩ = some (.int .i64 p) := hp.cell 0
  have n1 : ¬ cb = bb := ne_of_type hc hb (by decide)
  have n2 : ¬ cb = wb := ne_of_type hc hw (by decide)
  have n3 : ¬ bb = wb := ne_of_type hb hw (by decide)
  have m1 : ¬ bb = cb := fun e => n1 e.symm
  have m2 : ¬ wb = cb := fun e => n2 e.symm
  have m3 : ¬ wb = bb := fun e => n3 e.symm
  go_wp2_with (go_at_call 100; go_must ((with_reducible refine (h15 _).mono ?_); rintro e w2 ⟨rfl, hg2⟩; (have hc1 := hc.kept hg2 (by simp)); (have hb1 := hb.kept hg2 (by simp)); (have hw1 := hw.kept hg2 (by simp)); (have cbz0 := hc1.fz 0); (have cbz1 := hc1.fz 1); (have cbz2 := hc1.fz 2); (have cbz3 := hc1.fz 3); (have cbz4 := hc1.fz 4); (have cbz5 := hc1.fz 5); (have cbz6 := hc1.fz 6); (have cbz7 := hc1.fz 7); (have cbz8 := hc1.fz 8); (have cbz9 := hc1.fz 9); (have cbz10 := hc1.fz 10); (have cbc0 : w2.cell? ⟨cb, 0, none⟩ = some a1 := hc1.cell 0); (have cbc1 : w2.cell? ⟨cb, 1, none⟩ = some a2 := hc1.cell 1); (have cbc2 : w2.cell? ⟨cb, 2, none⟩ = some a3 := hc1.cell 2); (have cbc3 : w2.cell? ⟨cb, 3, none⟩ = some a4 := hc1.cell 3); (have cbc4 : w2.cell? ⟨cb, 4, none⟩ = some a5 := hc1.cell 4); (have cbc5 : w2.cell? ⟨cb, 5, none⟩ = some a6 := hc1.cell 5); (have cbc6 : w2.cell? ⟨cb, 6, none⟩ = some a7 := hc1.cell 6); (have cbc7 : w2.cell? ⟨cb, 7, none⟩ = some a8 := hc1.cell 7); (have cbc8 : w2.cell? ⟨cb, 8, none⟩ = some a9 := hc1.cell 8); (have cbc9 : w2.cell? ⟨cb, 9, none⟩ = some a10 := hc1.cell 9); (have cbc10 : w2.cell? ⟨cb, 10, none⟩ = some a11 := hc1.cell 10); (have bbz0 := hb1.fz 0); (have bbc0 : w2.cell? ⟨bb, 0, none⟩ = some d := hb1.cell 0); (have wbz0 := hw1.fz 0); (have wbz1 := hw1.fz 1); (have wbz2 := hw1.fz 2); (have wbc0 : w2.cell? ⟨wb, 0, none⟩ = some e0 := hw1.cell 0); (have wbc1 : w2.cell? ⟨wb, 1, none⟩ = some e1 := hw1.cell 1); (have wbc2 : w2.cell? ⟨wb, 2, none⟩ = some e2 := hw1.cell 2)))
  obtain ⟨hx1, gx1⟩ := box11 (v0 := (.int .i64 0)) (v1 := (.slice none 0 0)) (v2 := (.int .u64 0)) (v3 := (.int .i64 0)) (v4 := (.int .u64 0)) (v5 := (.int .u64 0)) (v6 := (.slice none 0 0)) (v7 := (.bool false)) (v8 := (.bool false)) (v9 := (.slice none 0 0)) (v10 := (.string ⟨#[]⟩)) hc1
  generalize (((((((((((w2.setCell ⟨cb, 0, none⟩ (.int .i64 0)).setCell ⟨cb, 1, none⟩ (.slice none 0 0)).setCell ⟨cb, 2, none⟩ (.int .u64 0)).setCell ⟨cb, 3, none⟩ (.int .i64 0)).setCell ⟨cb, 4, none⟩ (.int .u64 0)).setCell ⟨cb, 5, none⟩ (.int .u64 0)).setCell ⟨cb, 6, none⟩ (.slice none 0 0)).setCell ⟨cb, 7, none⟩ (.bool false)).setCell ⟨cb, 8, none⟩ (.bool false)).setCell ⟨cb, 9, none⟩ (.slice none 0 0)).setCell ⟨cb, 10, none⟩ (.string ⟨#[]⟩)) = S1 at hx1 gx1 ⊢
  have hb2 := hb1.kept gx1 (by simp [m1])
  have hw2 := hw1.kept gx1 (by simp [m2])
  have hb3 := hb2.set 0 (.int .i64 (-1))
  have gx2 : S1.grownBy (S1.setCell ⟨bb, 0, none⟩ (.int .i64 (-1))) (some bb) := gb_setCell (gb_refl _ _) _
  have hx2 := hx1.kept gx2 (by simp [n1])
  have hw3 := hw2.kept gx2 (by simp [m3])
  simp only [List.setIfInBounds_toArray, List.set_cons_zero] at hb3
  generalize S1.setCell ⟨bb, 0, none⟩ (.int .i64 (-1)) = S2 at hb3 gx2 hx2 hw3 ⊢
  obtain ⟨hw4, gx3⟩ := box3 (v0 := .int .i64 kd) (v1 := .string ⟨t.toArray⟩) (v2 := .int .i64 p) hw3
  have hx3 := hx2.kept gx3 (by simp [n2])
  have hb4 := hb3.kept gx3 (by simp [n3])
  generalize ((S2.setCell ⟨wb, 0, none⟩ (.int .i64 kd)).setCell ⟨wb, 1, none⟩ (.string ⟨t.toArray⟩)).setCell ⟨wb, 2, none⟩ (.int .i64 p) = S3 at hw4 gx3 hx3 hb4 ⊢
  have hkp : Kp (fun k => k = cb ∨ k = bb ∨ k = wb) w S3 := (((Kp.of hg2).step gx1 (fun i e => by cases e; exact .inl (.inl rfl))).step gx2 (fun i e => by cases e; exact .inl (.inr (.inl rfl)))).step gx3 (fun i e => by cases e; exact .inl (.inr (.inr rfl)))
  simp [bodyPostS, results, Tryz.results99]
  exact ⟨hx3, hb4, hw4, hkp⟩

theorem idle_14 (p1 p2 p3 p4 : Addr) (w : World) :
    CallsD Tryz.prog 99 #[.pointer (some p1), .pointer (some p2), .pointer (some p3), .pointer (some p4)] .returning w fun e u' w' => e = .returned (.tuple #[]) ∧ u' = .returning ∧ w' = w := by
  refine callsD_of_wpS Tryz.func99 rfl fun c₀ cs hu => ?_
  apply wpS_seq
  apply wpS_region
  simp [wpOpsS, go_sem, recoverD, hu, Tryz.ntmps99, Exit.thenS]
  refine wpS_of_wp ?_
  simp only [Array.replicate_succ, Array.replicate_zero, List.push_toArray, List.append_toArray, List.setIfInBounds_toArray, List.set_cons_zero, List.set_cons_succ, List.nil_append, List.cons_append]
  go_wp2
  cases c₀
  simp_all [bodyPostS, results, Tryz.results99]
end Go.Proofs.YtobegepebochkaaGreatDoor
