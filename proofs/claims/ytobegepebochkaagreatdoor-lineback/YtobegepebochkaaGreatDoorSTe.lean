import Derived.Test.YtobegepebochkaaGreatDoorSTd
set_option linter.unusedVariables false
set_option linter.unusedSimpArgs false
namespace Go.Proofs.YtobegepebochkaaGreatDoor
open Go.RowKit
section
variable {w : World} {ops : Array Oper} {rest : List Oper} {op : Oper} {a : Act} {Q : Exit → Act → World → Prop}
theorem atS86 {x y : Operand} (b o : Nat) (ho : op.op = .store 86 x y) (hx : a.eval x = .pointer (some ⟨b, o, none⟩)) (h : wpList Tryz.prog ops Q (op :: rest) a w) : wpList Tryz.prog ops Q (op :: rest) a w := h
theorem atL86 {x : Operand} (b o : Nat) (ho : op.op = .load 86 x) (hx : a.eval x = .pointer (some ⟨b, o, none⟩)) (h : wpList Tryz.prog ops Q (op :: rest) a w) : wpList Tryz.prog ops Q (op :: rest) a w := h
end
abbrev Z86 : Array Value := #[.int .i64 0, .slice none 0 0, .int .u64 0, .int .i64 0, .int .u64 0, .int .u64 0, .slice none 0 0, .bool false, .bool false, .slice none 0 0, .string ⟨#[]⟩, .int .i64 0, .string ⟨#[]⟩, .int .i64 0, .int .i64 0, .int .i64 0]
theorem gb_mine2 {a b c : World} {row : Option Nat} {g : Nat} (h : a.grownBy b row) (k : b.grownBy c (some g)) (hg : a.heap.size ≤ g) : a.grownBy c row :=
  ⟨k.os.trans h.os, k.tape.trans h.tape, k.output.trans h.output, Nat.le_trans h.size k.size, fun i hi hn => (k.block i (Nat.lt_of_lt_of_le hi h.size) (by simp; omega)).trans (h.block i hi hn)⟩
theorem res93 {w : World} {b : Nat} {c0 c1 c2 c3 c4 c5 c6 c7 c8 c9 c10 c11 c12 c13 c14 c15 : Value} (h : Box w 86 b #[c0, c1, c2, c3, c4, c5, c6, c7, c8, c9, c10, c11, c12, c13, c14, c15]) (tmps : Array Value) (ht : tmps[2]?.getD undef = .pointer (some ⟨b, 0, none⟩)) : (results Tryz.f93 tmps).run Tryz.prog w = .ok (.agg #[c0, c1, c2, c3, c4, c5, c6, c7, c8, c9, c10, c11, c12, c13, c14, c15]) w := by
  have hr : Tryz.f93.results = #[.cell 2 86] := rfl
  have h0 := h.cell 0
  have h1 := h.cell 1
  have h2 := h.cell 2
  have h3 := h.cell 3
  have h4 := h.cell 4
  have h5 := h.cell 5
  have h6 := h.cell 6
  have h7 := h.cell 7
  have h8 := h.cell 8
  have h9 := h.cell 9
  have h10 := h.cell 10
  have h11 := h.cell 11
  have h12 := h.cell 12
  have h13 := h.cell 13
  have h14 := h.cell 14
  have h15 := h.cell 15
  simp at h0 h1 h2 h3 h4 h5 h6 h7 h8 h9 h10 h11 h12 h13 h14 h15
  unfold results
  simp [hr, ht, go_sem, h0, h1, h2, h3, h4, h5, h6, h7, h8, h9, h10, h11, h12, h13, h14, h15]
set_option maxRecDepth 100000 in
set_option maxHeartbeats 4000000 in
theorem tell_93 {w : World} {fb : Nat} {F : Fd} {kv : Value} {hd lf : Int} {ka da ma : Option Addr} {kn kc dn dc mn mc : Nat} (h : Box w 136 fb (fdA fb F kv hd lf (.slice ka kn kc) (.slice da dn dc) (.slice ma mn mc))) :
    Calls Tryz.prog 93 #[.pointer (some ⟨fb, 0, none⟩)] w fun e w' => e = .returned (.agg (stpA { F.s with frm := F.frm, to := F.taken } (.slice ka kn kc) (.slice da dn dc) (.slice ma mn mc))) ∧ Box w' 136 fb (fdA fb F.tell.1 (.slice none 0 0) hd lf (.slice none 0 0) (.slice none 0 0) (.slice none 0 0)) ∧ w.grownBy w' (some fb) := by
  have hmf : ∀ (fn : Fn) (first cap : Array Value) (w : World), (Instr.makeFunc fn first cap).run Tryz.prog w = .ok (.func fn first cap) w := fun _ _ _ _ => rfl
  have hlt := h.lt
  have hf1 : Box (w.alloc (.cells Z86 86)) 136 fb (fdA fb F kv hd lf (.slice ka kn kc) (.slice da dn dc) (.slice ma mn mc)) := h.kept (gb_alloc (gb_refl _ none) _) (by simp)
  have hf2 : Box ((w.alloc (.cells Z86 86)).alloc (.cells Z86 86)) 136 fb (fdA fb F kv hd lf (.slice ka kn kc) (.slice da dn dc) (.slice ma mn mc)) := hf1.kept (gb_alloc (gb_refl _ none) _) (by simp)
  have hr2 : Box ((w.alloc (.cells Z86 86)).alloc (.cells Z86 86)) 86 w.heap.size Z86 := (Box.new w 86 Z86).kept (gb_alloc (gb_refl _ none) _) (by simp)
  have hs2 : Box ((w.alloc (.cells Z86 86)).alloc (.cells Z86 86)) 86 (w.heap.size + 1) Z86 := by
    have := Box.new (w.alloc (.cells Z86 86)) 86 Z86
    simp only [World.size_alloc] at this
    exact this
  have hn1 : fb ≠ w.heap.size := by omega
  have hn2 : fb ≠ w.heap.size + 1 := by omega
  have g2 : w.grownBy ((w.alloc (.cells Z86 86)).alloc (.cells Z86 86)) none := gb_alloc (gb_alloc (gb_refl w none) _) _
  by_cases hv : F.s.cmd.verb = 18
  · have hvd : decide (F.s.cmd.verb = 18) = true := by simp [hv]
    clear h
    go_enter Tryz.func93, Tryz.ntmps93
    go_wp2_with (first | (refine atL86 fb 7 rfl rfl ?_; go_must (refine load86 rfl _ rfl 136 fb 7 _ hf1 rfl (stpL F.s (.slice ka kn kc) (.slice da dn dc) (.slice ma mn mc)) rfl (fun j v hv => by rcases j with _ | _ | _ | _ | _ | _ | _ | _ | _ | _ | _ | _ | _ | _ | _ | _ | j <;> simp at hv ⊢ <;> exact hv) ?_)) | (refine atS86 (w.heap.size + 1) 0 rfl rfl ?_; go_must (refine store86 rfl _ _ rfl 86 (w.heap.size + 1) 0 _ hs2 (by simp) rfl _ rfl rfl (by simp [Value.oneCell']) ?_); intro W3 hs3 hg3; (simp only [sets_0] at hs3); (have hf3 := hf2.kept hg3 (by simp; omega)); (have hr3 := hr2.kept hg3 (by simp)); (have d3 : W3.cell? ⟨fb, 3, none⟩ = some (.int .i64 F.frm) := hf3.cell 3); (have d1 : W3.cell? ⟨fb, 1, none⟩ = some (.int .i64 F.taken) := hf3.cell 1); (obtain ⟨e14, d14⟩ : ∃ u, W3.cell? ⟨w.heap.size + 1, 14, none⟩ = some u := ⟨_, hs3.cell 14⟩); (obtain ⟨e15, d15⟩ : ∃ u, W3.cell? ⟨w.heap.size + 1, 15, none⟩ = some u := ⟨_, hs3.cell 15⟩); (have y14 := hs3.fz 14); (have y15 := hs3.fz 15); (have hg4 : W3.grownBy (((W3.setCell ⟨w.heap.size + 1, 14, none⟩ (.int .i64 F.frm)).setCell ⟨w.heap.size + 1, 15, none⟩ (.int .i64 F.taken)).drew) (some (w.heap.size + 1)) := gb_drew (gb_setCell (gb_setCell (gb_refl _ _) _) _)); (have hf4 := hf3.kept hg4 (by simp; omega)); (have hr4 := hr3.kept hg4 (by simp)); (have hs4 : Box (((W3.setCell ⟨w.heap.size + 1, 14, none⟩ (.int .i64 F.frm)).setCell ⟨w.heap.size + 1, 15, none⟩ (.int .i64 F.taken)).drew) 86 (w.heap.size + 1) (stpA { F.s with frm := F.frm, to := F.taken } (.slice ka kn kc) (.slice da dn dc) (.slice ma mn mc)) := (hs3.set 14 _).set 15 _); (have g4 := gb_mine (gb_mine g2 hg3 (by omega)) hg4 (by omega))))
    rename_i K hK
    have key : K ({ tmps := #[.pointer (some ⟨fb, 0, none⟩), undef, .pointer (some ⟨w.heap.size, 0, none⟩), .pointer (some ⟨w.heap.size + 1, 0, none⟩), .pointer (some ⟨fb, 0, none⟩), .pointer (some ⟨fb, 0, none⟩), .pointer (some ⟨fb, 7, none⟩), .agg (stpL F.s (.slice ka kn kc) (.slice da dn dc) (.slice ma mn mc)).toArray, .pointer (some ⟨fb, 0, none⟩), .pointer (some ⟨fb, 0, none⟩), .pointer (some ⟨fb, 3, none⟩), .int .i64 F.frm, .pointer (some ⟨fb, 0, none⟩), .pointer (some ⟨fb, 0, none⟩), .pointer (some ⟨fb, 1, none⟩), .int .i64 F.taken, .pointer (some ⟨w.heap.size + 1, 14, none⟩), .pointer (some ⟨w.heap.size + 1, 15, none⟩), undef, undef, undef, undef, undef, undef, undef, undef, undef, undef, undef, undef, undef, undef, undef, undef, undef, undef, undef, undef, undef, undef, undef, undef, undef, undef, undef, undef, undef, undef, undef, undef], defers := [] } : Act) (((W3.setCell ⟨w.heap.size + 1, 14, none⟩ (.int .i64 F.frm)).setCell ⟨w.heap.size + 1, 15, none⟩ (.int .i64 F.taken)).drew) := by
      refine hK _ _ ?_
      clear hK hf1 hf2 hr2 hs2 g2 hs3 hg3 hf3 hr3 d3 d14 d15 y14 y15 hg4
      go_wp2_with (first | (refine atS86 fb 7 rfl rfl ?_; go_must (refine store86 rfl _ _ rfl 136 fb 7 _ hf4 (by simp) rfl _ rfl rfl (by simp [Value.oneCell']) ?_); intro W5 hf5 hg5; (simp only [sets_7] at hf5); (have hs5 := hs4.kept hg5 (by simp; omega)); (have hr5 := hr4.kept hg5 (by simp; omega)); (have k1 : W5.cell? ⟨fb, 1, none⟩ = some (.int .i64 F.taken) := hf5.cell 1); (obtain ⟨u4, k4⟩ : ∃ u, W5.cell? ⟨fb, 4, none⟩ = some u := ⟨_, hf5.cell 4⟩); (obtain ⟨u3, k3⟩ : ∃ u, W5.cell? ⟨fb, 3, none⟩ = some u := ⟨_, hf5.cell 3⟩); (obtain ⟨u2, k2⟩ : ∃ u, W5.cell? ⟨fb, 2, none⟩ = some u := ⟨_, hf5.cell 2⟩); (obtain ⟨u23, k23⟩ : ∃ u, W5.cell? ⟨fb, 23, none⟩ = some u := ⟨_, hf5.cell 23⟩); (have x4 := hf5.fz 4); (have x3 := hf5.fz 3); (have x2 := hf5.fz 2); (have x23 := hf5.fz 23); (have kv0 : W5.cell? ⟨w.heap.size + 1, 0, none⟩ = some (.int .i64 F.s.cmd.verb) := hs5.cell 0); (have hg6 : W5.grownBy (((((W5.setCell ⟨fb, 4, none⟩ (.slice none 0 0)).setCell ⟨fb, 3, none⟩ (.int .i64 F.taken)).setCell ⟨fb, 23, none⟩ (stV fb 0)).setCell ⟨fb, 2, none⟩ (.bool true)).setCell ⟨fb, 23, none⟩ (stV fb 5)) (some fb) := (gb_setCell (gb_setCell (gb_setCell (gb_setCell (gb_setCell (gb_refl _ _) _) _) _) _) _)); (have hs6 := hs5.kept hg6 (by simp; omega)); (have hr6 := hr5.kept hg6 (by simp; omega))) | (refine atL86 (w.heap.size + 1) 0 rfl rfl ?_; go_must (refine load86 rfl _ rfl 86 (w.heap.size + 1) 0 _ hs6 rfl (stpA { F.s with frm := F.frm, to := F.taken } (.slice ka kn kc) (.slice da dn dc) (.slice ma mn mc)).toList rfl (fun j v hv => by rw [Nat.zero_add]; simpa using hv) ?_)) | (refine atS86 w.heap.size 0 rfl rfl ?_; go_must (refine store86 rfl _ _ rfl 86 w.heap.size 0 _ hr6 (by simp) rfl _ rfl rfl (by simp [Value.oneCell']) ?_); intro W7 hr7 hg7; (simp only [sets_0] at hr7)))
      refine ⟨rfl, _, res93 hr7 _ rfl, rfl, ?_, ?_⟩
      · have hh := ((((((hf5.set 4 _).set 3 _).set 23 _).set 2 _).set 23 _)).kept hg7 (by simp; omega)
        simp [Fd.tell, hv, stp0, cmd0] at hh ⊢
        exact hh
      · exact gb_mine2 (gb_trans (gb_trans (gb_none (some fb) g4) hg5) hg6) hg7 (by omega)
    go_region_law (fail)
    all_goals exact key
  · have hvd : decide (F.s.cmd.verb = 18) = false := by simp [hv]
    clear h
    go_enter Tryz.func93, Tryz.ntmps93
    go_wp2_with (first | (refine atL86 fb 7 rfl rfl ?_; go_must (refine load86 rfl _ rfl 136 fb 7 _ hf1 rfl (stpL F.s (.slice ka kn kc) (.slice da dn dc) (.slice ma mn mc)) rfl (fun j v hv => by rcases j with _ | _ | _ | _ | _ | _ | _ | _ | _ | _ | _ | _ | _ | _ | _ | _ | j <;> simp at hv ⊢ <;> exact hv) ?_)) | (refine atS86 (w.heap.size + 1) 0 rfl rfl ?_; go_must (refine store86 rfl _ _ rfl 86 (w.heap.size + 1) 0 _ hs2 (by simp) rfl _ rfl rfl (by simp [Value.oneCell']) ?_); intro W3 hs3 hg3; (simp only [sets_0] at hs3); (have hf3 := hf2.kept hg3 (by simp; omega)); (have hr3 := hr2.kept hg3 (by simp)); (have d3 : W3.cell? ⟨fb, 3, none⟩ = some (.int .i64 F.frm) := hf3.cell 3); (have d1 : W3.cell? ⟨fb, 1, none⟩ = some (.int .i64 F.taken) := hf3.cell 1); (obtain ⟨e14, d14⟩ : ∃ u, W3.cell? ⟨w.heap.size + 1, 14, none⟩ = some u := ⟨_, hs3.cell 14⟩); (obtain ⟨e15, d15⟩ : ∃ u, W3.cell? ⟨w.heap.size + 1, 15, none⟩ = some u := ⟨_, hs3.cell 15⟩); (have y14 := hs3.fz 14); (have y15 := hs3.fz 15); (have hg4 : W3.grownBy (((W3.setCell ⟨w.heap.size + 1, 14, none⟩ (.int .i64 F.frm)).setCell ⟨w.heap.size + 1, 15, none⟩ (.int .i64 F.taken)).drew) (some (w.heap.size + 1)) := gb_drew (gb_setCell (gb_setCell (gb_refl _ _) _) _)); (have hf4 := hf3.kept hg4 (by simp; omega)); (have hr4 := hr3.kept hg4 (by simp)); (have hs4 : Box (((W3.setCell ⟨w.heap.size + 1, 14, none⟩ (.int .i64 F.frm)).setCell ⟨w.heap.size + 1, 15, none⟩ (.int .i64 F.taken)).drew) 86 (w.heap.size + 1) (stpA { F.s with frm := F.frm, to := F.taken } (.slice ka kn kc) (.slice da dn dc) (.slice ma mn mc)) := (hs3.set 14 _).set 15 _); (have g4 := gb_mine (gb_mine g2 hg3 (by omega)) hg4 (by omega))))
    rename_i K hK
    have key : K ({ tmps := #[.pointer (some ⟨fb, 0, none⟩), undef, .pointer (some ⟨w.heap.size, 0, none⟩), .pointer (some ⟨w.heap.size + 1, 0, none⟩), .pointer (some ⟨fb, 0, none⟩), .pointer (some ⟨fb, 0, none⟩), .pointer (some ⟨fb, 7, none⟩), .agg (stpL F.s (.slice ka kn kc) (.slice da dn dc) (.slice ma mn mc)).toArray, .pointer (some ⟨fb, 0, none⟩), .pointer (some ⟨fb, 0, none⟩), .pointer (some ⟨fb, 3, none⟩), .int .i64 F.frm, .pointer (some ⟨fb, 0, none⟩), .pointer (some ⟨fb, 0, none⟩), .pointer (some ⟨fb, 1, none⟩), .int .i64 F.taken, .pointer (some ⟨w.heap.size + 1, 14, none⟩), .pointer (some ⟨w.heap.size + 1, 15, none⟩), undef, undef, undef, undef, undef, undef, undef, undef, undef, undef, undef, undef, undef, undef, undef, undef, undef, undef, undef, undef, undef, undef, undef, undef, undef, undef, undef, undef, undef, undef, undef, undef], defers := [] } : Act) (((W3.setCell ⟨w.heap.size + 1, 14, none⟩ (.int .i64 F.frm)).setCell ⟨w.heap.size + 1, 15, none⟩ (.int .i64 F.taken)).drew) := by
      refine hK _ _ ?_
      clear hK hf1 hf2 hr2 hs2 g2 hs3 hg3 hf3 hr3 d3 d14 d15 y14 y15 hg4
      go_wp2_with (first | (refine atS86 fb 7 rfl rfl ?_; go_must (refine store86 rfl _ _ rfl 136 fb 7 _ hf4 (by simp) rfl _ rfl rfl (by simp [Value.oneCell']) ?_); intro W5 hf5 hg5; (simp only [sets_7] at hf5); (have hs5 := hs4.kept hg5 (by simp; omega)); (have hr5 := hr4.kept hg5 (by simp; omega)); (have k1 : W5.cell? ⟨fb, 1, none⟩ = some (.int .i64 F.taken) := hf5.cell 1); (obtain ⟨u4, k4⟩ : ∃ u, W5.cell? ⟨fb, 4, none⟩ = some u := ⟨_, hf5.cell 4⟩); (obtain ⟨u3, k3⟩ : ∃ u, W5.cell? ⟨fb, 3, none⟩ = some u := ⟨_, hf5.cell 3⟩); (obtain ⟨u2, k2⟩ : ∃ u, W5.cell? ⟨fb, 2, none⟩ = some u := ⟨_, hf5.cell 2⟩); (obtain ⟨u23, k23⟩ : ∃ u, W5.cell? ⟨fb, 23, none⟩ = some u := ⟨_, hf5.cell 23⟩); (have x4 := hf5.fz 4); (have x3 := hf5.fz 3); (have x2 := hf5.fz 2); (have x23 := hf5.fz 23); (have kv0 : W5.cell? ⟨w.heap.size + 1, 0, none⟩ = some (.int .i64 F.s.cmd.verb) := hs5.cell 0); (have hg6 : W5.grownBy (((W5.setCell ⟨fb, 4, none⟩ (.slice none 0 0)).setCell ⟨fb, 3, none⟩ (.int .i64 F.taken)).setCell ⟨fb, 23, none⟩ (stV fb 0)) (some fb) := (gb_setCell (gb_setCell (gb_setCell (gb_refl _ _) _) _) _)); (have hs6 := hs5.kept hg6 (by simp; omega)); (have hr6 := hr5.kept hg6 (by simp; omega))) | (refine atL86 (w.heap.size + 1) 0 rfl rfl ?_; go_must (refine load86 rfl _ rfl 86 (w.heap.size + 1) 0 _ hs6 rfl (stpA { F.s with frm := F.frm, to := F.taken } (.slice ka kn kc) (.slice da dn dc) (.slice ma mn mc)).toList rfl (fun j v hv => by rw [Nat.zero_add]; simpa using hv) ?_)) | (refine atS86 w.heap.size 0 rfl rfl ?_; go_must (refine store86 rfl _ _ rfl 86 w.heap.size 0 _ hr6 (by simp) rfl _ rfl rfl (by simp [Value.oneCell']) ?_); intro W7 hr7 hg7; (simp only [sets_0] at hr7)))
      refine ⟨rfl, _, res93 hr7 _ rfl, rfl, ?_, ?_⟩
      · have hh := ((((hf5.set 4 _).set 3 _).set 23 _)).kept hg7 (by simp; omega)
        simp [Fd.tell, hv, stp0, cmd0] at hh ⊢
        exact hh
      · exact gb_mine2 (gb_trans (gb_trans (gb_none (some fb) g4) hg5) hg6) hg7 (by omega)
    go_region_law (fail)
    all_goals exact key
end Go.Proofs.YtobegepebochkaaGreatDoor
