import Derived.Test.YtobegepebochkaaGreatDoorVPat
set_option linter.unusedVariables false
set_option linter.unusedSimpArgs false
namespace Go.Proofs.YtobegepebochkaaGreatDoor
open Go.RowKit Go.Maps
def LnP (l : Bs) (w : World) (e : Ending) (w' : World) : Prop :=
  ((∃ c n kv mv, lineS l = .inl (c, n) ∧ e = .returned (.tuple #[.agg (cmA c kv mv), .int .i64 n, .agg #[.int .i64 0, sv [], .int .i64 0]]) ∧ w'.ownsRow w.heap.size 9 1 kv c.keys.length (c.keys.map sv) ∧ w'.ownsRow w.heap.size 79 3 mv c.mt.length (fcs c.mt)) ∨
    ∃ k t p, lineS l = .inr (k, t, p) ∧ e = .returned (.tuple #[.agg (Z31 0 false), .int .i64 (-1), .agg #[.int .i64 k, sv t, .int .i64 p]])) ∧ w.grownBy w' none
theorem door_up {w5 : World} {pb cb bb wb : Nat} (t : Bs) (p : Int) (a1 a2 a3 a4 a5 a6 a7 a8 a9 a10 a11 d e0 e1 e2 : Value) (hp : Box w5 3 pb #[.int .i64 p]) (hc : Box w5 41 cb #[a1, a2, a3, a4, a5, a6, a7, a8, a9, a10, a11]) (hb : Box w5 3 bb #[d]) (hw : Box w5 43 wb #[e0, e1, e2]) (hne : bb ≠ pb)
    (T : Array Value) (h4 : T[4]?.getD undef = .pointer (some ⟨cb, 0, none⟩)) (h5 : T[5]?.getD undef = .pointer (some ⟨bb, 0, none⟩)) (h6 : T[6]?.getD undef = .pointer (some ⟨wb, 0, none⟩)) (R : Ending → World → Prop)
    (hR : ∀ w', Kp (fun k => k = cb ∨ k = bb ∨ k = wb) w5 w' → R (.returned (.tuple #[.agg (Z31 0 false), .int .i64 (-1), .agg #[.int .i64 (if t = [] then 1 else 2), sv t, .int .i64 p]])) w') :
    bodyPostD Tryz.prog Tryz.f63 R (Exit.panic [{ v := .iface 187 (sv t), recovered := false }]) { tmps := T, defers := [{ target := .fn (.func 99) #[.pointer (some ⟨pb, 0, none⟩), .pointer (some ⟨cb, 0, none⟩), .pointer (some ⟨bb, 0, none⟩), .pointer (some ⟨wb, 0, none⟩)], args := #[] }] } w5 := by
  refine leaves_cons (f := 99) (args := #[.pointer (some ⟨pb, 0, none⟩), .pointer (some ⟨cb, 0, none⟩), .pointer (some ⟨bb, 0, none⟩), .pointer (some ⟨wb, 0, none⟩)]) (by simp) (by simp [go_sem]) ?_
  refine (catch_14 t p [] a1 a2 a3 a4 a5 a6 a7 a8 a9 a10 a11 d e0 e1 e2 hp hc hb hw hne).mono ?_
  rintro e u' w' ⟨rfl, rfl, q1, q2, q3, q4⟩
  have hr := res10 q1 q2 q3 T h4 h5 h6
  simp [Leaves, settle]
  exact ⟨_, hr, hR _ q4⟩
theorem door_ok {w5 : World} {cb bb wb : Nat} (p1 p2 p3 p4 : Addr) (a1 a2 a3 a4 a5 a6 a7 a8 a9 a10 a11 d e0 e1 e2 : Value) (hc : Box w5 41 cb #[a1, a2, a3, a4, a5, a6, a7, a8, a9, a10, a11]) (hb : Box w5 3 bb #[d]) (hw : Box w5 43 wb #[e0, e1, e2])
    (T : Array Value) (h4 : T[4]?.getD undef = .pointer (some ⟨cb, 0, none⟩)) (h5 : T[5]?.getD undef = .pointer (some ⟨bb, 0, none⟩)) (h6 : T[6]?.getD undef = .pointer (some ⟨wb, 0, none⟩)) (R : Ending → World → Prop)
    (hR : R (.returned (.tuple #[.agg #[a1, a2, a3, a4, a5, a6, a7, a8, a9, a10, a11], d, .agg #[e0, e1, e2]])) w5) :
    bodyPostD Tryz.prog Tryz.f63 R Exit.ret { tmps := T, defers := [{ target := .fn (.func 99) #[.pointer (some p1), .pointer (some p2), .pointer (some p3), .pointer (some p4)], args := #[] }] } w5 := by
  refine leaves_cons (f := 99) (args := #[.pointer (some p1), .pointer (some p2), .pointer (some p3), .pointer (some p4)]) (by simp) (by simp [go_sem]) ?_
  refine (idle_14 p1 p2 p3 p4 w5).mono ?_
  rintro e u' w' ⟨rfl, rfl, rfl⟩
  have hr := res10 hc hb hw T h4 h5 h6
  simp [Leaves, settle]
  exact ⟨_, hr, hR⟩
theorem ln0 (w : World) (W4 : World) (hW : (((w.alloc (.cells (Z31 0 false) 41)).alloc (.cells #[.int .i64 0] 3)).alloc (.cells #[.int .i64 0, .string ⟨#[]⟩, .int .i64 0] 43)).alloc (.cells #[.int .i64 (-1)] 3) = W4) :
    Box W4 41 w.heap.size (Z31 0 false) ∧ Box W4 3 (w.heap.size + 1) #[.int .i64 0] ∧ Box W4 43 (w.heap.size + 1 + 1) #[.int .i64 0, .string ⟨#[]⟩, .int .i64 0] ∧ Box W4 3 (w.heap.size + 1 + 1 + 1) #[.int .i64 (-1)] ∧ w.grownBy W4 none := by
  subst hW
  have b1 := Box.new (w.alloc (.cells (Z31 0 false) 41)) 3 #[.int .i64 0]
  have b2 := Box.new ((w.alloc (.cells (Z31 0 false) 41)).alloc (.cells #[.int .i64 0] 3)) 43 #[.int .i64 0, .string ⟨#[]⟩, .int .i64 0]
  have b3 := Box.new (((w.alloc (.cells (Z31 0 false) 41)).alloc (.cells #[.int .i64 0] 3)).alloc (.cells #[.int .i64 0, .string ⟨#[]⟩, .int .i64 0] 43)) 3 #[.int .i64 (-1)]
  simp only [World.size_alloc] at b1 b2 b3
  exact ⟨(Box.new w 41 _).kept (gb_alloc (gb_alloc (gb_alloc (gb_refl _ none) _) _) _) (by simp), b1.kept (gb_alloc (gb_alloc (gb_refl _ none) _) _) (by simp), b2.kept (gb_alloc (gb_refl _ none) _) (by simp), b3, gb_alloc (gb_alloc (gb_alloc (gb_alloc (gb_refl w none) _) _) _) _⟩
set_option maxRecDepth 100000 in
set_option maxHeartbeats 4000000 in
theorem line_up {w : World} (gb : Nat) (v : Value) (l : Bs) (hB : By w v l) (t : Bs) (ht : lineS l = .inr (if t = [] then 1 else 2, t, -1)) (h16 : ∀ W, w.grownBy W none → Calls Tryz.prog 101 #[.map (some gb), v] W fun e w' => e = up ⟨t.toArray⟩ ∧ W.grownBy w' none) :
    Calls Tryz.prog 63 #[.map (some gb), v] w fun e w' => LnP l w e w' := by
  have hmf : ∀ (fn : Fn) (first cap : Array Value) (w : World), (Instr.makeFunc fn first cap).run Tryz.prog w = .ok (.func fn first cap) w := fun _ _ _ _ => rfl
  obtain ⟨a, c, rfl⟩ := hB.shape
  obtain ⟨q1, q2, q3, q4, q5⟩ := ln0 w _ rfl
  have h16' := h16 _ q5
  clear h16
  go_enter_defers Tryz.func63, Tryz.ntmps63
  go_wp2_with (go_at_call 101; go_must ((with_reducible refine h16'.mono ?_); rintro e w5 ⟨rfl, hg5⟩))
  refine door_up t (-1) _ _ _ _ _ _ _ _ _ _ _ _ _ _ _ (q4.kept hg5 (by simp)) (q1.kept hg5 (by simp)) (q2.kept hg5 (by simp)) (q3.kept hg5 (by simp)) (by omega) _ rfl rfl rfl _ ?_
  intro w' hk
  refine ⟨.inr ⟨_, _, _, ht, rfl⟩, ?_⟩
  refine Kp.grown (F := fun k => k = w.heap.size ∨ k = w.heap.size + 1 ∨ k = w.heap.size + 1 + 1) ?_ (fun i hi => by omega)
  exact Kp.trans (Kp.of (F := fun _ => False) (gb_trans q5 hg5)) hk (fun i h => h.elim) (fun i h => .inl h)
end Go.Proofs.YtobegepebochkaaGreatDoor
