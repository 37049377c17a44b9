import Derived.Test.YtohneboimmcocaaGreatOh
import Derived.OrdersHeld
/-
  wakes.
-/
namespace Go.Proofs.YtohneboimmcocaaGreat
open Go.RowKit
set_option linter.unusedVariables false

def X0 : Nat → Nat → List Nat := fun _ _ => []
theorem li0 : LI (fun _ => 0) (hs 0) (fun _ => 0) (fun _ => 0) (fun _ => 0) L0 X0 :=
  ⟨fun c k H hH => by simp [X0] at hH, fun c k H hH => by simp [X0] at hH, fun _ _ => List.nodup_nil, fun c k U H V e => by simp [X0] at e, fun _ _ => rfl, fun _ _ => rfl, fun _ _ => rfl, fun H hH => by simp [hs] at hH, fun H hH => by simp [hs] at hH, fun H hH => by simp [hs] at hH, by simp [hs]⟩
theorem kp_grown {w w1 w2 : World} (hf : w.grownBy w1 none) (hK : Kp (fun k => w.heap.size ≤ k) w1 w2) : w.grownBy w2 none :=
  ((Kp.of (F := fun _ => False) hf).trans hK (H := fun _ => False) (fun _ h => h) (fun k hk => .inr hk)).grown (fun i hi => hi.elim)
theorem begun_ww8 (x0 x1 : Int) {hot warm : Nat} (hh : (hot : Int) = 1 + x0 % 89) (hw : (warm : Int) = 1 + x1 % (90 - (1 + x0 % 89))) (w : World) : Calls Tryz.prog 10 #[.agg #[.int .i64 x0, .int .i64 x1]] w fun y w' => ∃ wb xb, y = .returned (.pointer (some ⟨wb, 0, none⟩)) ∧ w.grownBy w' none ∧ WW8 w' (fun k => w.heap.size ≤ k) wb xb (.slice none 0 0) 0 ⟨X0, fun _ => 0⟩ hot warm := by
  refine (begun_10 x0 x1 hh hw w).mono ?_
  rintro y w' ⟨wb, sb, qb, gl, gc, F, B, zs, rb, G, Q, lb, lsv, xb, mb, rfl, hf, hz, hM, _⟩
  exact ⟨wb, xb, rfl, hf, by omega, fun _ _ => by simp [X0], _, fun _ => newT8 0, fun _ => 0, fun _ => 0, fun _ => 0, 0, hM, rfl, rfl, rfl, rfl, hz, q_fil, qR_fit, q_rep, fun l hl => absurd hl (Nat.not_lt_zero _), fun H hH => by simp [hs] at hH, li0, fun H hH => by simp [hs] at hH, Nat.le_refl _⟩

section
variable {w : World} {P : Nat → Prop} {wb xb : Nat} {tv : Value} {i : Nat} {S : Lm} {hot warm : Nat}
theorem ww8_enter (h : WW8 w P wb xb tv i S hot warm) {H : Nat} (hH : H ∈ hs i) (hno : ∀ k2, H ∉ S.X 0 k2) (hl : (S.X 0 0).length < 1099511627776) :
    Calls Tryz.prog 32 #[.pointer (some ⟨xb, 0, none⟩), .int .u64 H] w fun y w' => y = .returned (.int .i64 0) ∧ Kp P w w' ∧ WW8 w' P wb xb tv i ⟨upX S.X 0 0 (H :: S.X 0 0), upf S.ma H (S.ma H - S.ma H % 2)⟩ hot warm := by
  obtain ⟨sb, qb, gl, gc, F, B, A, m, hL, hn, hback⟩ := h.le
  obtain ⟨bs, hL1⟩ := hL.ex
  refine (enter_32 hL1 hH hno hl).mono ?_
  rintro y w' ⟨rfl, hK, hL2⟩
  obtain ⟨g1, g2⟩ := hback w' ⟨upX S.X 0 0 (H :: S.X 0 0), upf S.ma H (S.ma H - S.ma H % 2)⟩ ⟨_, hL2⟩ hK
  exact ⟨rfl, g2, g1⟩
theorem ww8_bal (h : WW8 w P wb xb tv i S hot warm) (hsh : hot ≤ 100) (hsw : warm ≤ 100) {ci : Nat} (hc : ci < 3) (ht : tot S.X ci < 1099511627776) {links : Nat} (hl : links < 9223372036854775808) :
    Calls Tryz.prog 18 #[.pointer (some ⟨xb, 0, none⟩), .int .i64 ci, .int .i64 links, Value.nilFunc] w fun y w' => y = .returned (.int .i64 (bal ci hot warm (min links (2 * tot S.X ci)) S).1) ∧ Kp P w w' ∧ WW8 w' P wb xb tv i (bal ci hot warm (min links (2 * tot S.X ci)) S).2 hot warm := by
  obtain ⟨sb, qb, gl, gc, F, B, A, m, hL, hn, hback⟩ := h.le
  refine (balance_18 hL (by omega) hsh hsw ht hl).mono ?_
  rintro y w' ⟨rfl, hK, hL2⟩
  obtain ⟨g1, g2⟩ := hback w' _ hL2 hK
  exact ⟨rfl, g2, g1⟩
theorem ww8_pick (h : WW8 w P wb xb tv i S hot warm) {ci : Nat} (hc : ci < 3) (own : Nat) (looks : Int) :
    Calls Tryz.prog 38 #[.pointer (some ⟨xb, 0, none⟩), .int .i64 ci, .int .u64 own, .int .i64 looks, Value.nilFunc] w fun y w' => y = .returned (.tuple #[.int .u64 (pfold own looks S.ma (rowN S.X ci)).h, .bool false, .int .i64 (pfold own looks S.ma (rowN S.X ci)).lk]) ∧ w.grownBy w' none := by
  obtain ⟨sb, qb, gl, gc, F, B, A, m, hL, hn, hback⟩ := h.le
  obtain ⟨bs, hL1⟩ := hL.ex
  exact pick_38 hL1 (by omega) own looks
theorem ww8_len (h : WW8 w P wb xb tv i S hot warm) {ci : Nat} (hc : ci < 3) :
    Calls Tryz.prog 35 #[.pointer (some ⟨xb, 0, none⟩), .int .i64 ci] w fun y w' => y = .returned (.tuple #[.int .i64 (S.X ci 0).length, .int .i64 (S.X ci 1).length, .int .i64 (S.X ci 2).length]) ∧ w.grownBy w' none := by
  obtain ⟨sb, qb, gl, gc, F, B, A, m, hL, hn, hback⟩ := h.le
  obtain ⟨bs, hL1⟩ := hL.ex
  exact len_35 hL1 (by omega)
end
/-- What is held may grow on the way. -/
theorem wpAnyH_mono {P : Program} {md : Region.Mode} {ops : Array Oper} {Q : Exit → Act → World → Prop} {S S' : World → Prop} (hS : ∀ w, S' w → S w) : ∀ (fuel : Nat) (listed : Array Bool) (a : Act) (w : World), wpAnyH P md ops Q S' fuel listed a w → wpAnyH P md ops Q S fuel listed a w
  | 0, _, _, _, h => h
  | fuel + 1, _, _, _, h => ⟨h.1, fun i hi => wpOp_mono (fun a' w' h' => ⟨hS w' h'.1, wpAnyH_mono hS fuel _ a' w' h'.2⟩) (h.2 i hi)⟩
/-- What wakes has behind j rounds. -/
def Sx : Nat → Lm
  | 0 => ⟨X0, fun _ => 0⟩
  | j + 1 => ⟨upX (Sx j).X 0 0 ((8 * j + 1) :: (Sx j).X 0 0), upf (upf (Sx j).ma (8 * j + 1) (mrk j)) (8 * j + 1) (upf (Sx j).ma (8 * j + 1) (mrk j) (8 * j + 1) - upf (Sx j).ma (8 * j + 1) (mrk j) (8 * j + 1) % 2)⟩
theorem sx_no (j : Nat) (hj : j < 3) : ∀ k2, 8 * j + 1 ∉ (Sx j).X 0 k2 := by
  intro k2
  have hj' : j = 0 ∨ j = 1 ∨ j = 2 := by omega
  rcases hj' with rfl | rfl | rfl
  · simp [Sx, X0]
  · simp only [Sx, upX, X0]; split <;> simp
  · simp only [Sx, upX, X0]; split <;> simp
theorem sx_len (j : Nat) (hj : j < 3) : ((Sx j).X 0 0).length < 1099511627776 := by
  have hj' : j = 0 ∨ j = 1 ∨ j = 2 := by omega
  rcases hj' with rfl | rfl | rfl <;> decide
def Sf : Lm := (bal 0 34 34 (min 9 (2 * tot (Sx 3).X 0)) (Sx 3)).2
theorem sx_bal : (bal 0 34 34 (min 9 (2 * tot (Sx 3).X 0)) (Sx 3)).1 = 2 := by decide
theorem sx_tot : tot (Sx 3).X 0 < 1099511627776 := by decide
theorem sf_pick : (pfold 0 5 Sf.ma (rowN Sf.X 0)).h = 1 ∧ (pfold 0 5 Sf.ma (rowN Sf.X 0)).lk = 3 := by decide
theorem sf_len : (Sf.X 0 0).length = 1 ∧ (Sf.X 0 1).length = 0 ∧ (Sf.X 0 2).length = 2 := by decide

set_option maxRecDepth 100000 in
set_option maxHeartbeats 4000000 in
theorem wakes_17 (w : World) : Calls Tryz.prog 17 #[] w fun y w' => y = .returned (.bool true) ∧ w.grownBy w' none := by
  have hbg := (begun_ww8 33 33 (hot := 34) (warm := 34) (by decide) (by decide) w).mono (R' := fun y w0 => ∃ wb xb : Nat, y = .returned (.pointer (some ⟨wb, 0, none⟩)) ∧ Hid (w.grownBy w0 none ∧ ∃ tv, WW8 w0 (fun k => w.heap.size ≤ k) wb xb tv 0 (Sx 0) 34 34)) (by
    rintro y w0 ⟨wb, xb, rfl, hf, h⟩
    exact ⟨wb, xb, rfl, hf, _, h⟩)
  go_enter Tryz.func17, Tryz.ntmps17
  go_wp2_with (first | (go_at_call 10; go_must (refine hbg.mono ?_); rintro y w0 ⟨wb, xb, rfl, hE0⟩) | fail)
  go_loopw [2] (fun v wr => ∃ j : Nat, j ≤ 3 ∧ v = .int .i64 j ∧ Hid (w.grownBy wr none ∧ ∃ tv, WW8 wr (fun k => w.heap.size ≤ k) wb xb tv j (Sx j) 34 34)) (fun v _ => 3 - (intOf v).toNat)
  case atStart => exact ⟨0, by omega, rfl, hE0⟩
  case round =>
    obtain ⟨j, hj, rfl, hE⟩ := hrel
    clear hE0
    by_cases hlt : j < 3
    · have hd1 : decide ((j : Int) < 3) = true := decide_eq_true (by omega)
      have hj3 : (j : Int) < 3 := by omega
      obtain ⟨H, hH⟩ : ∃ H, 8 * j + 1 = H := ⟨_, rfl⟩
      have hjj : (j : Int) < (j : Int) + 1 := by omega
      have ej : IntKind.i64.wrap ((j : Int) + 1) = (j : Int) + 1 := by rw [IntKind.wrap_i64]; omega
      have hmk := (show Calls Tryz.prog 49 #[.pointer (some ⟨wb, 0, none⟩), opZ] wr.drew (fun y w1 => ∃ g cap, y = .returned (.bool true) ∧ w1.cell? ⟨wb, 2, none⟩ = some (.pointer (some ⟨xb, 0, none⟩)) ∧ w1.cell? ⟨wb, 6, none⟩ = some (.slice (some ⟨g, 0, none⟩) (j + 1) cap) ∧ w1.cell? ⟨g, j, none⟩ = some (.int .u64 H) ∧ Hid (w.grownBy w1 none ∧ WW8 w1 (fun k => w.heap.size ≤ k) wb xb (.slice (some ⟨g, 0, none⟩) (j + 1) cap) (j + 1) ⟨(Sx j).X, upf (Sx j).ma (8 * j + 1) (mrk j)⟩ 34 34)) by
        obtain ⟨hf, tv, hW⟩ := hE.out
        have hdr : wr.grownBy wr.drew none := gb_drew (gb_refl _ _)
        refine (makes_49 (hW.kept0 hdr) (by omega) (fun k hk => Nat.le_trans (gb_trans hf hdr).size hk)).mono ?_
        rintro y w1 ⟨rfl, hK, tv', hW'⟩
        obtain ⟨e1, e2, e3⟩ := hW'.cells
        obtain ⟨ao, cap, rfl, _, _, _, hao⟩ := row_shape e3
        obtain ⟨g, rfl⟩ := hao (by omega)
        exact ⟨g, cap, rfl, e1, e2, by rw [← hH]; exact row_cell e3 j _ (uvs_get (hs_get (by omega))), kp_grown (gb_trans hf hdr) hK, hW'⟩)
      have hen := fun w1 g cap (hE1 : Hid (w.grownBy w1 none ∧ WW8 w1 (fun k => w.heap.size ≤ k) wb xb (.slice (some ⟨g, 0, none⟩) (j + 1) cap) (j + 1) ⟨(Sx j).X, upf (Sx j).ma (8 * j + 1) (mrk j)⟩ 34 34)) => (show Calls Tryz.prog 32 #[.pointer (some ⟨xb, 0, none⟩), .int .u64 H] w1 (fun y w2 => y = .returned (.int .i64 0) ∧ w2.cell? ⟨wb, 2, none⟩ = some (.pointer (some ⟨xb, 0, none⟩)) ∧ w2.cell? ⟨wb, 6, none⟩ = some (.slice (some ⟨g, 0, none⟩) (j + 1) cap) ∧ w2.cell? ⟨g, j, none⟩ = some (.int .u64 H) ∧ Hid (w.grownBy w2 none ∧ ∃ tv, WW8 w2 (fun k => w.heap.size ≤ k) wb xb tv (j + 1) (Sx (j + 1)) 34 34)) by
        obtain ⟨hf, hW⟩ := hE1.out
        rw [← hH]
        refine (ww8_enter hW (H := 8 * j + 1) (hs_mem.2 ⟨j, by omega, rfl⟩) (sx_no j hlt) (sx_len j hlt)).mono ?_
        rintro y w2 ⟨rfl, hK, hW'⟩
        obtain ⟨e1, e2, e3⟩ := hW'.cells
        exact ⟨rfl, e1, e2, row_cell e3 j _ (uvs_get (hs_get (by omega))), kp_grown hf hK, _, hW'⟩)
      unfold opZ at hmk
      clear hE hbg
      go_wp2
      refine wp_region_noPanic ?_
      refine wp_region_held_drew (S := fun _ => True) (by kernel_rfl) trivial (fun hHeld0 => ?_)
      refine wpAnyH_take (i := 0) (oi := { dst := some 18, op := Op.move (Operand.tmp 1), type := 25, pos := _, after := #[], guard := none }) (v := ?_) rfl (by kernel_rfl) (by kernel_rfl) (by kernel_rfl) (fun _ _ _ h => h) (Or.inl ⟨by rfl, ?_⟩) (by assumption) ?_
      rotate_left 1
      · (intro W hSw; go_simp; (try (with_reducible rfl)))
      try simp only [Act.put, List.setIfInBounds_toArray, List.set_cons_zero, List.set_cons_succ]
      refine wpAnyH_take (i := 1) (oi := { dst := some 19, op := Op.build 29 #[], type := 29, pos := _, after := #[], guard := none }) (v := ?_) rfl (by kernel_rfl) (by kernel_rfl) (by kernel_rfl) (fun _ _ _ h => h) (Or.inl ⟨by rfl, ?_⟩) (by assumption) ?_
      rotate_left 1
      · (intro W hSw; go_simp; (try (with_reducible rfl)))
      try simp only [Act.put, List.setIfInBounds_toArray, List.set_cons_zero, List.set_cons_succ]
      refine wpAnyH_ready (rs := [2]) (by kernel_rfl) (by simp) ?_
      refine AllReadyH.cons rfl (fun K hK => ?_) AllReadyH.nil
      go_simp
      go_at_call 49
      refine hmk.mono ?_
      rintro y w1 ⟨g, cap, rfl, q0, q1, q2, hE1⟩
      try simp only []
      refine hK.out _ _ trivial (fun hHeld1 => ?_)
      clear hK K hHeld0 hmk
      try simp only [Act.put, List.setIfInBounds_toArray, List.set_cons_zero, List.set_cons_succ]
      refine wpAnyH_mono (S' := fun W => W.cell? ⟨wb, 2, none⟩ = some (.pointer (some ⟨xb, 0, none⟩)) ∧ W.cell? ⟨wb, 6, none⟩ = some (.slice (some ⟨g, 0, none⟩) (j + 1) cap) ∧ W.cell? ⟨g, j, none⟩ = some (.int .u64 H)) (fun W h => trivial) _ _ _ _ ?_
      have hHeld2 : (fun W : World => W.cell? ⟨wb, 2, none⟩ = some (.pointer (some ⟨xb, 0, none⟩)) ∧ W.cell? ⟨wb, 6, none⟩ = some (.slice (some ⟨g, 0, none⟩) (j + 1) cap) ∧ W.cell? ⟨g, j, none⟩ = some (.int .u64 H)) w1 := ⟨q0, q1, q2⟩
      clear hHeld1
      have hen1 := hen _ _ _ hE1
      clear hen
      refine wpAnyH_take (i := 3) (oi := { dst := some 21, op := Op.unOp UnOp.not 4 (Operand.tmp 20), type := 4, pos := _, after := #[{ on := 2, ground := Ground.data }], guard := none }) (v := ?_) rfl (by kernel_rfl) (by kernel_rfl) (by kernel_rfl) (fun _ _ _ h => h) (Or.inl ⟨by rfl, ?_⟩) (by assumption) ?_
      rotate_left 1
      · (intro W hSw; obtain ⟨s0, s1, s2⟩ := hSw; go_simp; (try (with_reducible rfl)))
      try simp only [Act.put, List.setIfInBounds_toArray, List.set_cons_zero, List.set_cons_succ]
      refine wpAnyH_take (i := 4) (oi := { dst := some 22, op := Op.move (Operand.tmp 21), type := 4, pos := _, after := #[{ on := 3, ground := Ground.data }, { on := 2, ground := Ground.chain }], guard := none }) (v := ?_) rfl (by kernel_rfl) (by kernel_rfl) (by kernel_rfl) (fun _ _ _ h => h) (Or.inl ⟨by rfl, ?_⟩) (by assumption) ?_
      rotate_left 1
      · (intro W hSw; obtain ⟨s0, s1, s2⟩ := hSw; go_simp; (try (with_reducible rfl)))
      try simp only [Act.put, List.setIfInBounds_toArray, List.set_cons_zero, List.set_cons_succ]
      refine wpAnyH_take (i := 5) (oi := { dst := some 23, op := Op.move (Operand.tmp 1), type := 25, pos := _, after := #[{ on := 4, ground := Ground.guard }], guard := some (4, false) }) (v := ?_) rfl (by kernel_rfl) (by kernel_rfl) (by kernel_rfl) (fun _ _ _ h => h) (Or.inl ⟨by rfl, ?_⟩) (by assumption) ?_
      rotate_left 1
      · (intro W hSw; obtain ⟨s0, s1, s2⟩ := hSw; go_simp; (try (with_reducible rfl)))
      try simp only [Act.put, List.setIfInBounds_toArray, List.set_cons_zero, List.set_cons_succ]
      refine wpAnyH_take (i := 6) (oi := { dst := some 24, op := Op.nilCheck (Operand.tmp 23), type := 0, pos := _, after := #[{ on := 5, ground := Ground.data }, { on := 4, ground := Ground.guard }], guard := some (4, false) }) (v := ?_) rfl (by kernel_rfl) (by kernel_rfl) (by kernel_rfl) (fun _ _ _ h => h) (Or.inl ⟨by rfl, ?_⟩) (by assumption) ?_
      rotate_left 1
      · (intro W hSw; obtain ⟨s0, s1, s2⟩ := hSw; go_simp; (try (with_reducible rfl)))
      try simp only [Act.put, List.setIfInBounds_toArray, List.set_cons_zero, List.set_cons_succ]
      refine wpAnyH_take (i := 7) (oi := { dst := some 25, op := Op.fieldAddr 46 (Operand.tmp 24) 6, type := 0, pos := _, after := #[{ on := 6, ground := Ground.data }, { on := 4, ground := Ground.guard }], guard := some (4, false) }) (v := ?_) rfl (by kernel_rfl) (by kernel_rfl) (by kernel_rfl) (fun _ _ _ h => h) (Or.inl ⟨by rfl, ?_⟩) (by assumption) ?_
      rotate_left 1
      · (intro W hSw; obtain ⟨s0, s1, s2⟩ := hSw; go_simp; (try (with_reducible rfl)))
      try simp only [Act.put, List.setIfInBounds_toArray, List.set_cons_zero, List.set_cons_succ]
      refine wpAnyH_take (i := 8) (oi := { dst := some 26, op := Op.load 38 (Operand.tmp 25), type := 38, pos := _, after := #[{ on := 7, ground := Ground.data }, { on := 4, ground := Ground.guard }], guard := some (4, false) }) (v := ?_) rfl (by kernel_rfl) (by kernel_rfl) (by kernel_rfl) (fun _ _ _ h => h) (Or.inl ⟨by rfl, ?_⟩) (by assumption) ?_
      rotate_left 1
      · (intro W hSw; obtain ⟨s0, s1, s2⟩ := hSw; go_simp; (try (with_reducible rfl)))
      try simp only [Act.put, List.setIfInBounds_toArray, List.set_cons_zero, List.set_cons_succ]
      refine wpAnyH_take (i := 9) (oi := { dst := some 27, op := Op.call { callee := Callee.builtin Builtin.len, args := #[Operand.tmp 26], argTypes := #[38] }, type := 3, pos := _, after := #[{ on := 8, ground := Ground.data }, { on := 4, ground := Ground.guard }], guard := some (4, false) }) (v := ?_) rfl (by kernel_rfl) (by kernel_rfl) (by kernel_rfl) (fun _ _ _ h => h) (Or.inl ⟨by rfl, ?_⟩) (by assumption) ?_
      rotate_left 1
      · (intro W hSw; obtain ⟨s0, s1, s2⟩ := hSw; go_simp; (try (with_reducible rfl)))
      try simp only [Act.put, List.setIfInBounds_toArray, List.set_cons_zero, List.set_cons_succ]
      refine wpAnyH_take (i := 10) (oi := { dst := some 28, op := Op.move (Operand.tmp 2), type := 3, pos := _, after := #[{ on := 4, ground := Ground.guard }], guard := some (4, false) }) (v := ?_) rfl (by kernel_rfl) (by kernel_rfl) (by kernel_rfl) (fun _ _ _ h => h) (Or.inl ⟨by rfl, ?_⟩) (by assumption) ?_
      rotate_left 1
      · (intro W hSw; obtain ⟨s0, s1, s2⟩ := hSw; go_simp; (try (with_reducible rfl)))
      try simp only [Act.put, List.setIfInBounds_toArray, List.set_cons_zero, List.set_cons_succ]
      refine wpAnyH_take (i := 11) (oi := { dst := some 29, op := Op.binOp BinOp.add 3 (Operand.tmp 28) (Operand.const (Value.int IntKind.i64 1)) 3, type := 3, pos := _, after := #[{ on := 10, ground := Ground.data }, { on := 4, ground := Ground.guard }], guard := some (4, false) }) (v := ?_) rfl (by kernel_rfl) (by kernel_rfl) (by kernel_rfl) (fun _ _ _ h => h) (Or.inl ⟨by rfl, ?_⟩) (by assumption) ?_
      rotate_left 1
      · (intro W hSw; obtain ⟨s0, s1, s2⟩ := hSw; go_simp; (try (with_reducible rfl)))
      try simp only [Act.put, List.setIfInBounds_toArray, List.set_cons_zero, List.set_cons_succ]
      refine wpAnyH_take (i := 12) (oi := { dst := some 30, op := Op.binOp BinOp.neq 3 (Operand.tmp 27) (Operand.tmp 29) 3, type := 4, pos := _, after := #[{ on := 9, ground := Ground.data }, { on := 11, ground := Ground.data }, { on := 4, ground := Ground.guard }], guard := some (4, false) }) (v := ?_) rfl (by kernel_rfl) (by kernel_rfl) (by kernel_rfl) (fun _ _ _ h => h) (Or.inl ⟨by rfl, ?_⟩) (by assumption) ?_
      rotate_left 1
      · (intro W hSw; obtain ⟨s0, s1, s2⟩ := hSw; go_simp; (try (with_reducible rfl)))
      try simp only [Act.put, List.setIfInBounds_toArray, List.set_cons_zero, List.set_cons_succ]
      refine wpAnyH_take (i := 13) (oi := { dst := some 31, op := Op.pick (Operand.tmp 22) (Operand.const (Value.bool true)) (Operand.tmp 30), type := 4, pos := _, after := #[{ on := 4, ground := Ground.data }, { on := 12, ground := Ground.data }], guard := none }) (v := ?_) rfl (by kernel_rfl) (by kernel_rfl) (by kernel_rfl) (fun _ _ _ h => h) (Or.inl ⟨by rfl, ?_⟩) (by assumption) ?_
      rotate_left 1
      · (intro W hSw; obtain ⟨s0, s1, s2⟩ := hSw; go_simp; (try (with_reducible rfl)))
      try simp only [Act.put, List.setIfInBounds_toArray, List.set_cons_zero, List.set_cons_succ]
      refine wpAnyH_take (i := 14) (oi := { dst := some 32, op := Op.move (Operand.tmp 31), type := 4, pos := _, after := #[{ on := 13, ground := Ground.data }, { on := 4, ground := Ground.chain }], guard := none }) (v := ?_) rfl (by kernel_rfl) (by kernel_rfl) (by kernel_rfl) (fun _ _ _ h => h) (Or.inl ⟨by rfl, ?_⟩) (by assumption) ?_
      rotate_left 1
      · (intro W hSw; obtain ⟨s0, s1, s2⟩ := hSw; go_simp; (try (with_reducible rfl)))
      try simp only [Act.put, List.setIfInBounds_toArray, List.set_cons_zero, List.set_cons_succ]
      refine wpAnyH_take (i := 15) (oi := { dst := some 33, op := Op.move (Operand.tmp 1), type := 25, pos := _, after := #[{ on := 14, ground := Ground.guard }], guard := some (14, false) }) (v := ?_) rfl (by kernel_rfl) (by kernel_rfl) (by kernel_rfl) (fun _ _ _ h => h) (Or.inl ⟨by rfl, ?_⟩) (by assumption) ?_
      rotate_left 1
      · (intro W hSw; obtain ⟨s0, s1, s2⟩ := hSw; go_simp; (try (with_reducible rfl)))
      try simp only [Act.put, List.setIfInBounds_toArray, List.set_cons_zero, List.set_cons_succ]
      refine wpAnyH_take (i := 16) (oi := { dst := some 34, op := Op.nilCheck (Operand.tmp 33), type := 0, pos := _, after := #[{ on := 15, ground := Ground.data }, { on := 14, ground := Ground.guard }], guard := some (14, false) }) (v := ?_) rfl (by kernel_rfl) (by kernel_rfl) (by kernel_rfl) (fun _ _ _ h => h) (Or.inl ⟨by rfl, ?_⟩) (by assumption) ?_
      rotate_left 1
      · (intro W hSw; obtain ⟨s0, s1, s2⟩ := hSw; go_simp; (try (with_reducible rfl)))
      try simp only [Act.put, List.setIfInBounds_toArray, List.set_cons_zero, List.set_cons_succ]
      refine wpAnyH_take (i := 17) (oi := { dst := some 35, op := Op.fieldAddr 46 (Operand.tmp 34) 2, type := 0, pos := _, after := #[{ on := 16, ground := Ground.data }, { on := 14, ground := Ground.guard }], guard := some (14, false) }) (v := ?_) rfl (by kernel_rfl) (by kernel_rfl) (by kernel_rfl) (fun _ _ _ h => h) (Or.inl ⟨by rfl, ?_⟩) (by assumption) ?_
      rotate_left 1
      · (intro W hSw; obtain ⟨s0, s1, s2⟩ := hSw; go_simp; (try (with_reducible rfl)))
      try simp only [Act.put, List.setIfInBounds_toArray, List.set_cons_zero, List.set_cons_succ]
      refine wpAnyH_take (i := 18) (oi := { dst := some 36, op := Op.load 41 (Operand.tmp 35), type := 41, pos := _, after := #[{ on := 17, ground := Ground.data }, { on := 14, ground := Ground.guard }], guard := some (14, false) }) (v := ?_) rfl (by kernel_rfl) (by kernel_rfl) (by kernel_rfl) (fun _ _ _ h => h) (Or.inl ⟨by rfl, ?_⟩) (by assumption) ?_
      rotate_left 1
      · (intro W hSw; obtain ⟨s0, s1, s2⟩ := hSw; go_simp; (try (with_reducible rfl)))
      try simp only [Act.put, List.setIfInBounds_toArray, List.set_cons_zero, List.set_cons_succ]
      refine wpAnyH_take (i := 19) (oi := { dst := some 37, op := Op.move (Operand.tmp 1), type := 25, pos := _, after := #[{ on := 14, ground := Ground.guard }], guard := some (14, false) }) (v := ?_) rfl (by kernel_rfl) (by kernel_rfl) (by kernel_rfl) (fun _ _ _ h => h) (Or.inl ⟨by rfl, ?_⟩) (by assumption) ?_
      rotate_left 1
      · (intro W hSw; obtain ⟨s0, s1, s2⟩ := hSw; go_simp; (try (with_reducible rfl)))
      try simp only [Act.put, List.setIfInBounds_toArray, List.set_cons_zero, List.set_cons_succ]
      refine wpAnyH_take (i := 20) (oi := { dst := some 38, op := Op.nilCheck (Operand.tmp 37), type := 0, pos := _, after := #[{ on := 19, ground := Ground.data }, { on := 14, ground := Ground.guard }], guard := some (14, false) }) (v := ?_) rfl (by kernel_rfl) (by kernel_rfl) (by kernel_rfl) (fun _ _ _ h => h) (Or.inl ⟨by rfl, ?_⟩) (by assumption) ?_
      rotate_left 1
      · (intro W hSw; obtain ⟨s0, s1, s2⟩ := hSw; go_simp; (try (with_reducible rfl)))
      try simp only [Act.put, List.setIfInBounds_toArray, List.set_cons_zero, List.set_cons_succ]
      refine wpAnyH_take (i := 21) (oi := { dst := some 39, op := Op.fieldAddr 46 (Operand.tmp 38) 6, type := 0, pos := _, after := #[{ on := 20, ground := Ground.data }, { on := 14, ground := Ground.guard }], guard := some (14, false) }) (v := ?_) rfl (by kernel_rfl) (by kernel_rfl) (by kernel_rfl) (fun _ _ _ h => h) (Or.inl ⟨by rfl, ?_⟩) (by assumption) ?_
      rotate_left 1
      · (intro W hSw; obtain ⟨s0, s1, s2⟩ := hSw; go_simp; (try (with_reducible rfl)))
      try simp only [Act.put, List.setIfInBounds_toArray, List.set_cons_zero, List.set_cons_succ]
      refine wpAnyH_take (i := 22) (oi := { dst := some 40, op := Op.load 38 (Operand.tmp 39), type := 38, pos := _, after := #[{ on := 21, ground := Ground.data }, { on := 14, ground := Ground.guard }], guard := some (14, false) }) (v := ?_) rfl (by kernel_rfl) (by kernel_rfl) (by kernel_rfl) (fun _ _ _ h => h) (Or.inl ⟨by rfl, ?_⟩) (by assumption) ?_
      rotate_left 1
      · (intro W hSw; obtain ⟨s0, s1, s2⟩ := hSw; go_simp; (try (with_reducible rfl)))
      try simp only [Act.put, List.setIfInBounds_toArray, List.set_cons_zero, List.set_cons_succ]
      refine wpAnyH_take (i := 23) (oi := { dst := some 41, op := Op.move (Operand.tmp 2), type := 3, pos := _, after := #[{ on := 14, ground := Ground.guard }], guard := some (14, false) }) (v := ?_) rfl (by kernel_rfl) (by kernel_rfl) (by kernel_rfl) (fun _ _ _ h => h) (Or.inl ⟨by rfl, ?_⟩) (by assumption) ?_
      rotate_left 1
      · (intro W hSw; obtain ⟨s0, s1, s2⟩ := hSw; go_simp; (try (with_reducible rfl)))
      try simp only [Act.put, List.setIfInBounds_toArray, List.set_cons_zero, List.set_cons_succ]
      refine wpAnyH_take (i := 24) (oi := { dst := some 42, op := Op.indexAddr 38 (Operand.tmp 40) (Operand.tmp 41), type := 0, pos := _, after := #[{ on := 22, ground := Ground.data }, { on := 23, ground := Ground.data }, { on := 14, ground := Ground.guard }], guard := some (14, false) }) (v := ?_) rfl (by kernel_rfl) (by kernel_rfl) (by kernel_rfl) (fun _ _ _ h => h) (Or.inl ⟨by rfl, ?_⟩) (by assumption) ?_
      rotate_left 1
      · (intro W hSw; obtain ⟨s0, s1, s2⟩ := hSw; go_simp; (try (with_reducible rfl)))
      try simp only [Act.put, List.setIfInBounds_toArray, List.set_cons_zero, List.set_cons_succ]
      refine wpAnyH_take (i := 25) (oi := { dst := some 43, op := Op.load 27 (Operand.tmp 42), type := 27, pos := _, after := #[{ on := 24, ground := Ground.data }, { on := 14, ground := Ground.guard }], guard := some (14, false) }) (v := ?_) rfl (by kernel_rfl) (by kernel_rfl) (by kernel_rfl) (fun _ _ _ h => h) (Or.inl ⟨by rfl, ?_⟩) (by assumption) ?_
      rotate_left 1
      · (intro W hSw; obtain ⟨s0, s1, s2⟩ := hSw; go_simp; (try (with_reducible rfl)))
      try simp only [Act.put, List.setIfInBounds_toArray, List.set_cons_zero, List.set_cons_succ]
      refine wpAnyH_ready (rs := [26]) (by kernel_rfl) (by simp) ?_
      refine AllReadyH.cons rfl (fun K hK => ?_) AllReadyH.nil
      go_simp
      go_at_call 32
      with_reducible refine hen1.mono ?_
      rintro y w2 ⟨rfl, p0, p1, p2, hE2⟩
      try simp only []
      refine hK.out _ _ ?_ (fun hHeld3 => ?_)
      · exact ⟨p0, p1, p2⟩
      clear hK K hHeld2 hen1
      try simp only [Act.put, List.setIfInBounds_toArray, List.set_cons_zero, List.set_cons_succ]
      refine wpAnyH_ready (rs := [27]) (by kernel_rfl) (by simp) ?_
      refine AllReadyH.cons rfl (fun K hK => ?_) AllReadyH.nil
      go_simp
      go_at_call 26
      with_reducible refine (num_any _ _).mono ?_
      rintro y w3 ⟨rfl, rfl⟩
      try simp only []
      refine hK.out _ _ ?_ (fun hHeld4 => ?_)
      · exact hHeld3
      clear hK K hHeld3
      try simp only [Act.put, List.setIfInBounds_toArray, List.set_cons_zero, List.set_cons_succ]
      refine wpAnyH_take (i := 28) (oi := { dst := some 46, op := Op.binOp BinOp.neq 3 (Operand.tmp 45) (Operand.const (Value.int IntKind.i64 0)) 3, type := 4, pos := _, after := #[{ on := 27, ground := Ground.data }, { on := 14, ground := Ground.guard }], guard := some (14, false) }) (v := ?_) rfl (by kernel_rfl) (by kernel_rfl) (by kernel_rfl) (fun _ _ _ h => h) (Or.inl ⟨by rfl, ?_⟩) (by assumption) ?_
      rotate_left 1
      · (intro W hSw; obtain ⟨s0, s1, s2⟩ := hSw; go_simp; (try (with_reducible rfl)))
      try simp only [Act.put, List.setIfInBounds_toArray, List.set_cons_zero, List.set_cons_succ]
      refine wpAnyH_take (i := 29) (oi := { dst := some 47, op := Op.pick (Operand.tmp 32) (Operand.const (Value.bool true)) (Operand.tmp 46), type := 4, pos := _, after := #[{ on := 14, ground := Ground.data }, { on := 28, ground := Ground.data }], guard := none }) (v := ?_) rfl (by kernel_rfl) (by kernel_rfl) (by kernel_rfl) (fun _ _ _ h => h) (Or.inl ⟨by rfl, ?_⟩) (by assumption) ?_
      rotate_left 1
      · (intro W hSw; obtain ⟨s0, s1, s2⟩ := hSw; go_simp; (try (with_reducible rfl)))
      try simp only [Act.put, List.setIfInBounds_toArray, List.set_cons_zero, List.set_cons_succ]
      refine wpAnyH_done (by kernel_rfl) ?_ _
      refine NoPanic.normal ?_
      clear hHeld4
      go_wp2
      exact ⟨⟨j + 1, by omega, by go_num, hE2⟩, by simp [intOf]; omega⟩
    · obtain rfl : j = 3 := by omega
      have hcs := fun W S1 (hE : Hid (w.grownBy W none ∧ ∃ tv, WW8 W (fun k => w.heap.size ≤ k) wb xb tv 3 S1 34 34)) => (show W.cell? ⟨wb, 2, none⟩ = some (.pointer (some ⟨xb, 0, none⟩)) ∧ ∃ g cap, W.cell? ⟨wb, 6, none⟩ = some (.slice (some ⟨g, 0, none⟩) 3 cap) ∧ W.cell? ⟨g, 0, none⟩ = some (.int .u64 1) by
        obtain ⟨hf, tv, hW⟩ := hE.out
        obtain ⟨e1, e2, e3⟩ := hW.cells
        obtain ⟨ao, cap, rfl, _, _, _, hao⟩ := row_shape e3
        obtain ⟨g, rfl⟩ := hao (by omega)
        exact ⟨e1, g, cap, e2, row_cell e3 0 _ rfl⟩)
      have hbl := (show Calls Tryz.prog 18 #[.pointer (some ⟨xb, 0, none⟩), .int .i64 0, .int .i64 9, Value.nilFunc] wr (fun y w1 => y = .returned (.int .i64 2) ∧ Hid (w.grownBy w1 none ∧ ∃ tv, WW8 w1 (fun k => w.heap.size ≤ k) wb xb tv 3 Sf 34 34)) by
        obtain ⟨hf, tv, hW⟩ := hE.out
        refine (ww8_bal hW (by omega) (by omega) (ci := 0) (by omega) sx_tot (links := 9) (by omega)).mono ?_
        rintro y w1 ⟨rfl, hK, hW'⟩
        exact ⟨by rw [sx_bal]; rfl, kp_grown hf hK, tv, hW'⟩)
      have hpk := fun w1 (hE : Hid (w.grownBy w1 none ∧ ∃ tv, WW8 w1 (fun k => w.heap.size ≤ k) wb xb tv 3 Sf 34 34)) => (show Calls Tryz.prog 38 #[.pointer (some ⟨xb, 0, none⟩), .int .i64 0, .int .u64 0, .int .i64 5, Value.nilFunc] w1 (fun y w2 => y = .returned (.tuple #[.int .u64 1, .bool false, .int .i64 3]) ∧ Hid (w.grownBy w2 none ∧ ∃ tv, WW8 w2 (fun k => w.heap.size ≤ k) wb xb tv 3 Sf 34 34)) by
        obtain ⟨hf, tv, hW⟩ := hE.out
        refine (ww8_pick hW (ci := 0) (by omega) 0 5).mono ?_
        rintro y w2 ⟨rfl, hf2⟩
        refine ⟨by rw [sf_pick.1, sf_pick.2]; rfl, gb_trans hf hf2, tv, hW.kept0 hf2⟩)
      have hln := fun w1 (hE : Hid (w.grownBy w1 none ∧ ∃ tv, WW8 w1 (fun k => w.heap.size ≤ k) wb xb tv 3 Sf 34 34)) => (show Calls Tryz.prog 35 #[.pointer (some ⟨xb, 0, none⟩), .int .i64 0] w1 (fun y w2 => y = .returned (.tuple #[.int .i64 1, .int .i64 0, .int .i64 2]) ∧ Hid (w.grownBy w2 none ∧ ∃ tv, WW8 w2 (fun k => w.heap.size ≤ k) wb xb tv 3 Sf 34 34)) by
        obtain ⟨hf, tv, hW⟩ := hE.out
        refine (ww8_len hW (ci := 0) (by omega)).mono ?_
        rintro y w2 ⟨rfl, hf2⟩
        refine ⟨by rw [sf_len.1, sf_len.2.1, sf_len.2.2]; rfl, gb_trans hf hf2, tv, hW.kept0 hf2⟩)
      obtain ⟨a2, g, cap, a6, ag⟩ := hcs _ _ hE
      clear hE hbg
      go_wp2_with (first | (go_at_call 18; go_must (with_reducible refine hbl.mono ?_); rintro y w1 ⟨rfl, hE1⟩; obtain ⟨b2, g1, cap1, b6, bg⟩ := hcs _ _ hE1) | (go_at_call 38; go_must (with_reducible refine (hpk _ hE1).mono ?_); rintro y w2 ⟨rfl, hE2⟩; obtain ⟨d2, g2, cap2, d6, dg⟩ := hcs _ _ hE2) | (go_at_call 35; go_must (with_reducible refine (hln _ hE2).mono ?_); rintro y w3 ⟨rfl, hE3⟩; obtain ⟨e2, g3, cap3, e6, eg⟩ := hcs _ _ hE3) | fail)
      all_goals
        go_ret
        exact ⟨rfl, hE3.out.1⟩

set_option maxRecDepth 100000 in
theorem lruNames_any (w : World) : Calls Tryz.prog 6 #[] w fun y w' => y = .returned (.bool true) ∧ w.grownBy w' none := by
  have hw := fun W => wakes_17 W
  go_enter Tryz.func6, Tryz.ntmps6
  go_wp2_with (first | (go_at_call 26; go_must (refine (num_any _ _).mono ?_); rintro y w' ⟨rfl, rfl⟩) | (go_at_call 17; go_must (refine (hw _).mono ?_); rintro y w1 ⟨rfl, hf1⟩) | fail)
  go_ret
  exact ⟨rfl, hf1⟩
end Go.Proofs.YtohneboimmcocaaGreat
