import Derived.Recover
import Derived.Test.YtbbocbdoiealoaaGreatDoorRPaq
set_option linter.unusedVariables false
set_option linter.unusedSimpArgs false
namespace Go.Proofs.YtbbocbdoiealoaaGreatDoor
open Go.RowKit Go.Maps
theorem assert59 (s : ByteArray) (w : World) : (Instr.typeAssert (.iface 190 (.string s)) 20 190 true).run Tryz.prog w = .ok (.tuple #[.string s, .bool true]) w := by
  simp [Instr.typeAssert, go_sem, Tryz.underlying190, Tryz.underlying20]
abbrev wrv (t : Bs) (p : Int) : Value := .agg #[.int .i64 (if t = [] then 1 else 2), sv t, .int .i64 p]
set_option maxRecDepth 100000 in
set_option maxHeartbeats 4000000 in
theorem wrong_15 (t : Bs) (p : Int) (w : World) :
    Calls Tryz.prog 105 #[.iface 190 (sv t), .int .i64 p] w fun e w' => e = .returned (wrv t p) ∧ w.grownBy w' none := by
  have hb := Box.new w 43 #[.int .i64 0, .string ⟨#[]⟩, .int .i64 0]
  have hta := assert59
  by_cases ht : t = []
  · subst ht
    go_enter Tryz.func105, Tryz.ntmps105
    go_wp2
    exact ⟨rfl, _, res15 (Box.new w 43 _) _ rfl, by simp, gb_alloc (gb_refl _ _) _⟩
  · have d1 : (t == []) = false := beq_eq_false_iff_ne.2 ht
    have d2 : t.isEmpty = false := by simpa using ht
    go_enter Tryz.func105, Tryz.ntmps105
    go_wp2
    exact ⟨rfl, _, res15 (Box.new w 43 _) _ rfl, by simp [ht], gb_alloc (gb_refl _ _) _⟩
set_option maxRecDepth 100000 in
set_option maxHeartbeats 4000000 in
theorem catch_14 {w : World} {pb cb bb wb : Nat} (t : Bs) (p : Int) (older : List PanicEntry) (a1 a2 a3 a4 a5 a6 a7 a8 a9 a10 a11 d e0 e1 e2 : Value) (hp : Box w 3 pb #[.int .i64 p]) (hc : Box w 41 cb #[a1, a2, a3, a4, a5, a6, a7, a8, a9, a10, a11]) (hb : Box w 3 bb #[d]) (hw : Box w 43 wb #[e0, e1, e2]) (hne : bb ≠ pb) :
    CallsD Tryz.prog 104 #[.pointer (some ⟨pb, 0, none⟩), .pointer (some ⟨cb, 0, none⟩), .pointer (some ⟨bb, 0, none⟩), .pointer (some ⟨wb, 0, none⟩)] (.panicking ({ v := .iface 190 (sv t), recovered := false } :: older)) w fun e u' w' =>
      e = .returned (.tuple #[]) ∧ u' = .panicking ({ v := .iface 190 (sv t), recovered := true } :: older) ∧ Box w' 41 cb (Z31 0 false) ∧ Box w' 3 bb #[.int .i64 (-1)] ∧ Box w' 43 wb #[.int .i64 (if t = [] then 1 else 2), sv t, .int .i64 p] ∧ Kp (fun k => k = cb ∨ k = bb ∨ k = wb) w w' := by
  have h15 : ∀ W, Calls Tryz.prog 105 #[.iface 190 (sv t), .int .i64 p] W fun e w' => e = .returned (.agg #[.int .i64 (if t = [] then 1 else 2), sv t, .int .i64 p]) ∧ W.grownBy w' none := fun W => wrong_15 t p W
  obtain ⟨kd, hkd⟩ : ∃ kd : Int, (if t = [] then (1 : Int) else 2) = kd := ⟨_, rfl⟩
  rw [hkd] at h15 ⊢
  clear hkd
  refine callsD_of_wpS Tryz.func104 rfl fun c₀ cs hu => ?_
  apply wpS_seq
  apply wpS_region
  simp [wpOpsS, go_sem, recoverD, hu, Tryz.ntmps104, Exit.thenS]
  refine wpS_of_wp ?_
  simp only [Array.replicate_succ, Array.replicate_zero, List.push_toArray, List.append_toArray, List.setIfInBounds_toArray, List.set_cons_zero, List.set_cons_succ, List.nil_append, List.cons_append]
  have hp0 : w.cell? ⟨pb, 0, none⟩ = some (.int .i64 p) := hp.cell 0
  have n1 : ¬ cb = bb := ne_of_type hc hb (by decide)
  have n2 : ¬ cb = wb := ne_of_type hc hw (by decide)
  have n3 : ¬ bb = wb := ne_of_type hb hw (by decide)
  have m1 : ¬ bb = cb := fun e => n1 e.symm
  have m2 : ¬ wb = cb := fun e => n2 e.symm
  have m3 : ¬ wb = bb := fun e => n3 e.symm
  go_wp2_with (go_at_call 105; go_must ((with_reducible refine (h15 _).mono ?_); rintro e w2 ⟨rfl, hg2⟩; (have hc1 := hc.kept hg2 (by simp)); (have hb1 := hb.kept hg2 (by simp)); (have hw1 := hw.kept hg2 (by simp)); (have cbz0 := hc1.fz 0); (have cbz1 := hc1.fz 1); (have cbz2 := hc1.fz 2); (have cbz3 := hc1.fz 3); (have cbz4 := hc1.fz 4); (have cbz5 := hc1.fz 5); (have cbz6 := hc1.fz 6); (have cbz7 := hc1.fz 7); (have cbz8 := hc1.fz 8); (have cbz9 := hc1.fz 9); (have cbz10 := hc1.fz 10); (have cbc0 : w2.cell? ⟨cb, 0, none⟩ = some a1 := hc1.cell 0); (have cbc1 : w2.cell? ⟨cb, 1, none⟩ = some a2 := hc1.cell 1); (have cbc2 : w2.cell? ⟨cb, 2, none⟩ = some a3 := hc1.cell 2); (have cbc3 : w2.cell? ⟨cb, 3, none⟩ = some a4 := hc1.cell 3); (have cbc4 : w2.cell? ⟨cb, 4, none⟩ = some a5 := hc1.cell 4); (have cbc5 : w2.cell? ⟨cb, 5, none⟩ = some a6 := hc1.cell 5); (have cbc6 : w2.cell? ⟨cb, 6, none⟩ = some a7 := hc1.cell 6); (have cbc7 : w2.cell? ⟨cb, 7, none⟩ = some a8 := hc1.cell 7); (have cbc8 : w2.cell? ⟨cb, 8, none⟩ = some a9 := hc1.cell 8); (have cbc9 : w2.cell? ⟨cb, 9, none⟩ = some a10 := hc1.cell 9); (have cbc10 : w2.cell? ⟨cb, 10, none⟩ = some a11 := hc1.cell 10); (have bbz0 := hb1.fz 0); (have bbc0 : w2.cell? ⟨bb, 0, none⟩ = some d := hb1.cell 0); (have wbz0 := hw1.fz 0); (have wbz1 := hw1.fz 1); (have wbz2 := hw1.fz 2); (have wbc0 : w2.cell? ⟨wb, 0, none⟩ = some e0 := hw1.cell 0); (have wbc1 : w2.cell? ⟨wb, 1, none⟩ = some e1 := hw1.cell 1); (have wbc2 : w2.cell? ⟨wb, 2, none⟩ = some e2 := hw1.cell 2)))
  obtain ⟨hx1, gx1⟩ := box11 (v0 := (.int .i64 0)) (v1 := (.slice none 0 0)) (v2 := (.int .u64 0)) (v3 := (.int .i64 0)) (v4 := (.int .u64 0)) (v5 := (.int .u64 0)) (v6 := (.slice none 0 0)) (v7 := (.bool false)) (v8 := (.bool false)) (v9 := (.slice none 0 0)) (v10 := (.string ⟨#[]⟩)) hc1
  generalize (((((((((((w2.setCell ⟨cb, 0, none⟩ (.int .i64 0)).setCell ⟨cb, 1, none⟩ (.slice none 0 0)).setCell ⟨cb, 2, none⟩ (.int .u64 0)).setCell ⟨cb, 3, none⟩ (.int .i64 0)).setCell ⟨cb, 4, none⟩ (.int .u64 0)).setCell ⟨cb, 5, none⟩ (.int .u64 0)).setCell ⟨cb, 6, none⟩ (.slice none 0 0)).setCell ⟨cb, 7, none⟩ (.bool false)).setCell ⟨cb, 8, none⟩ (.bool false)).setCell ⟨cb, 9, none⟩ (.slice none 0 0)).setCell ⟨cb, 10, none⟩ (.string ⟨#[]⟩)) = S1 at hx1 gx1 ⊢
  have hb2 := hb1.kept gx1 (by simp [m1])
  have hw2 := hw1.kept gx1 (by simp [m2])
  have hb3 := hb2.set 0 (.int .i64 (-1))
  have gx2 : S1.grownBy (S1.setCell ⟨bb, 0, none⟩ (.int .i64 (-1))) (some bb) := gb_setCell (gb_refl _ _) _
  have hx2 := hx1.kept gx2 (by simp [n1])
  have hw3 := hw2.kept gx2 (by simp [m3])
  simp only [List.setIfInBounds_toArray, List.set_cons_zero] at hb3
  generalize S1.setCell ⟨bb, 0, none⟩ (.int .i64 (-1)) = S2 at hb3 gx2 hx2 hw3 ⊢
  obtain ⟨hw4, gx3⟩ := box3 (v0 := .int .i64 kd) (v1 := .string ⟨t.toArray⟩) (v2 := .int .i64 p) hw3
  have hx3 := hx2.kept gx3 (by simp [n2])
  have hb4 := hb3.kept gx3 (by simp [n3])
  generalize ((S2.setCell ⟨wb, 0, none⟩ (.int .i64 kd)).setCell ⟨wb, 1, none⟩ (.string ⟨t.toArray⟩)).setCell ⟨wb, 2, none⟩ (.int .i64 p) = S3 at hw4 gx3 hx3 hb4 ⊢
  have hkp : Kp (fun k => k = cb ∨ k = bb ∨ k = wb) w S3 := (((Kp.of hg2).step gx1 (fun i e => by cases e; exact .inl (.inl rfl))).step gx2 (fun i e => by cases e; exact .inl (.inr (.inl rfl)))).step gx3 (fun i e => by cases e; exact .inl (.inr (.inr rfl)))
  simp [bodyPostS, results, Tryz.results104]
  exact ⟨hx3, hb4, hw4, hkp⟩
theorem idle_14 (p1 p2 p3 p4 : Addr) (w : World) :
    CallsD Tryz.prog 104 #[.pointer (some p1), .pointer (some p2), .pointer (some p3), .pointer (some p4)] .returning w fun e u' w' => e = .returned (.tuple #[]) ∧ u' = .returning ∧ w' = w := by
  refine callsD_of_wpS Tryz.func104 rfl fun c₀ cs hu => ?_
  apply wpS_seq
  apply wpS_region
  simp [wpOpsS, go_sem, recoverD, hu, Tryz.ntmps104, Exit.thenS]
  refine wpS_of_wp ?_
  simp only [Array.replicate_succ, Array.replicate_zero, List.push_toArray, List.append_toArray, List.setIfInBounds_toArray, List.set_cons_zero, List.set_cons_succ, List.nil_append, List.cons_append]
  go_wp2
  cases c₀
  simp_all [bodyPostS, results, Tryz.results104]
end Go.Proofs.YtbbocbdoiealoaaGreatDoor
namespace Go.Proofs.YtbbocbdoiealoaaGreatDoor
open Go.RowKit Go.Maps
def LnP (l : Bs) (w : World) (e : Ending) (w' : World) : Prop :=
  ((∃ c n kv mv, lineS l = .inl (c, n) ∧ e = .returned (.tuple #[.agg (cmA c kv mv), .int .i64 n, .agg #[.int .i64 0, sv [], .int .i64 0]]) ∧ w'.ownsRow w.heap.size 9 1 kv c.keys.length (c.keys.map sv) ∧ w'.ownsRow w.heap.size 79 3 mv c.mt.length (fcs c.mt)) ∨
    ∃ k t p, lineS l = .inr (k, t, p) ∧ e = .returned (.tuple #[.agg (Z31 0 false), .int .i64 (-1), .agg #[.int .i64 k, sv t, .int .i64 p]])) ∧ w.grownBy w' none
theorem door_up {w5 : World} {pb cb bb wb : Nat} (t : Bs) (p : Int) (a1 a2 a3 a4 a5 a6 a7 a8 a9 a10 a11 d e0 e1 e2 : Value) (hp : Box w5 3 pb #[.int .i64 p]) (hc : Box w5 41 cb #[a1, a2, a3, a4, a5, a6, a7, a8, a9, a10, a11]) (hb : Box w5 3 bb #[d]) (hw : Box w5 43 wb #[e0, e1, e2]) (hne : bb ≠ pb)
    (T : Array Value) (h4 : T[4]?.getD undef = .pointer (some ⟨cb, 0, none⟩)) (h5 : T[5]?.getD undef = .pointer (some ⟨bb, 0, none⟩)) (h6 : T[6]?.getD undef = .pointer (some ⟨wb, 0, none⟩)) (R : Ending → World → Prop)
    (hR : ∀ w', Kp (fun k => k = cb ∨ k = bb ∨ k = wb) w5 w' → R (.returned (.tuple #[.agg (Z31 0 false), .int .i64 (-1), .agg #[.int .i64 (if t = [] then 1 else 2), sv t, .int .i64 p]])) w') :
    bodyPostD Tryz.prog Tryz.f68 R (Exit.panic [{ v := .iface 190 (sv t), recovered := false }]) { tmps := T, defers := [{ target := .fn (.func 104) #[.pointer (some ⟨pb, 0, none⟩), .pointer (some ⟨cb, 0, none⟩), .pointer (some ⟨bb, 0, none⟩), .pointer (some ⟨wb, 0, none⟩)], args := #[] }] } w5 := by
  refine leaves_cons (f := 104) (args := #[.pointer (some ⟨pb, 0, none⟩), .pointer (some ⟨cb, 0, none⟩), .pointer (some ⟨bb, 0, none⟩), .pointer (some ⟨wb, 0, none⟩)]) (by simp) (by simp [go_sem]) ?_
  refine (catch_14 t p [] a1 a2 a3 a4 a5 a6 a7 a8 a9 a10 a11 d e0 e1 e2 hp hc hb hw hne).mono ?_
  rintro e u' w' ⟨rfl, rfl, q1, q2, q3, q4⟩
  have hr := res10 q1 q2 q3 T h4 h5 h6
  simp [Leaves, settle]
  exact ⟨_, hr, hR _ q4⟩
theorem door_ok {w5 : World} {cb bb wb : Nat} (p1 p2 p3 p4 : Addr) (a1 a2 a3 a4 a5 a6 a7 a8 a9 a10 a11 d e0 e1 e2 : Value) (hc : Box w5 41 cb #[a1, a2, a3, a4, a5, a6, a7, a8, a9, a10, a11]) (hb : Box w5 3 bb #[d]) (hw : Box w5 43 wb #[e0, e1, e2])
    (T : Array Value) (h4 : T[4]?.getD undef = .pointer (some ⟨cb, 0, none⟩)) (h5 : T[5]?.getD undef = .pointer (some ⟨bb, 0, none⟩)) (h6 : T[6]?.getD undef = .pointer (some ⟨wb, 0, none⟩)) (R : Ending → World → Prop)
    (hR : R (.returned (.tuple #[.agg #[a1, a2, a3, a4, a5, a6, a7, a8, a9, a10, a11], d, .agg #[e0, e1, e2]])) w5) :
    bodyPostD Tryz.prog Tryz.f68 R Exit.ret { tmps := T, defers := [{ target := .fn (.func 104) #[.pointer (some p1), .pointer (some p2), .pointer (some p3), .pointer (some p4)], args := #[] }] } w5 := by
  refine leaves_cons (f := 104) (args := #[.pointer (some p1), .pointer (some p2), .pointer (some p3), .pointer (some p4)]) (by simp) (by simp [go_sem]) ?_
  refine (idle_14 p1 p2 p3 p4 w5).mono ?_
  rintro e u' w' ⟨rfl, rfl, rfl⟩
  have hr := res10 hc hb hw T h4 h5 h6
  simp [Leaves, settle]
  exact ⟨_, hr, hR⟩
theorem ln0 (w : World) (W4 : World) (hW : (((w.alloc (.cells (Z31 0 false) 41)).alloc (.cells #[.int .i64 0] 3)).alloc (.cells #[.int .i64 0, .string ⟨#[]⟩, .int .i64 0] 43)).alloc (.cells #[.int .i64 (-1)] 3) = W4) :
    Box W4 41 w.heap.size (Z31 0 false) ∧ Box W4 3 (w.heap.size + 1) #[.int .i64 0] ∧ Box W4 43 (w.heap.size + 1 + 1) #[.int .i64 0, .string ⟨#[]⟩, .int .i64 0] ∧ Box W4 3 (w.heap.size + 1 + 1 + 1) #[.int .i64 (-1)] ∧ w.grownBy W4 none := by
  subst hW
  have b1 := Box.new (w.alloc (.cells (Z31 0 false) 41)) 3 #[.int .i64 0]
  have b2 := Box.new ((w.alloc (.cells (Z31 0 false) 41)).alloc (.cells #[.int .i64 0] 3)) 43 #[.int .i64 0, .string ⟨#[]⟩, .int .i64 0]
  have b3 := Box.new (((w.alloc (.cells (Z31 0 false) 41)).alloc (.cells #[.int .i64 0] 3)).alloc (.cells #[.int .i64 0, .string ⟨#[]⟩, .int .i64 0] 43)) 3 #[.int .i64 (-1)]
  simp only [World.size_alloc] at b1 b2 b3
  exact ⟨(Box.new w 41 _).kept (gb_alloc (gb_alloc (gb_alloc (gb_refl _ none) _) _) _) (by simp), b1.kept (gb_alloc (gb_alloc (gb_refl _ none) _) _) (by simp), b2.kept (gb_alloc (gb_refl _ none) _) (by simp), b3, gb_alloc (gb_alloc (gb_alloc (gb_alloc (gb_refl w none) _) _) _) _⟩
set_option maxRecDepth 100000 in
set_option maxHeartbeats 4000000 in
theorem line_up {w : World} (gb : Nat) (v : Value) (l : Bs) (hB : By w v l) (t : Bs) (ht : lineS l = .inr (if t = [] then 1 else 2, t, -1)) (h16 : ∀ W, w.grownBy W none → Calls Tryz.prog 106 #[.map (some gb), v] W fun e w' => e = up ⟨t.toArray⟩ ∧ W.grownBy w' none) :
    Calls Tryz.prog 68 #[.map (some gb), v] w fun e w' => LnP l w e w' := by
  have hmf : ∀ (fn : Fn) (first cap : Array Value) (w : World), (Instr.makeFunc fn first cap).run Tryz.prog w = .ok (.func fn first cap) w := fun _ _ _ _ => rfl
  obtain ⟨a, c, rfl⟩ := hB.shape
  obtain ⟨q1, q2, q3, q4, q5⟩ := ln0 w _ rfl
  have h16' := h16 _ q5
  clear h16
  go_enter_defers Tryz.func68, Tryz.ntmps68
  go_wp2_with (go_at_call 106; go_must ((with_reducible refine h16'.mono ?_); rintro e w5 ⟨rfl, hg5⟩))
  refine door_up t (-1) _ _ _ _ _ _ _ _ _ _ _ _ _ _ _ (q4.kept hg5 (by simp)) (q1.kept hg5 (by simp)) (q2.kept hg5 (by simp)) (q3.kept hg5 (by simp)) (by omega) _ rfl rfl rfl _ ?_
  intro w' hk
  refine ⟨.inr ⟨_, _, _, ht, rfl⟩, ?_⟩
  refine Kp.grown (F := fun k => k = w.heap.size ∨ k = w.heap.size + 1 ∨ k = w.heap.size + 1 + 1) ?_ (fun i hi => by omega)
  exact Kp.trans (Kp.of (F := fun _ => False) (gb_trans q5 hg5)) hk (fun i h => h.elim) (fun i h => .inl h)
end Go.Proofs.YtbbocbdoiealoaaGreatDoor
