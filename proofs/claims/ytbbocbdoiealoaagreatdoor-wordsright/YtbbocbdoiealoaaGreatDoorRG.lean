import Derived.Test.YtbbocbdoiealoaaGreatDoorRF
set_option linter.unusedVariables false
set_option linter.unusedSimpArgs false
namespace Go.Proofs.YtbbocbdoiealoaaGreatDoor
open Go.RowKit
set_option maxRecDepth 100000 in
set_option maxHeartbeats 4000000 in
theorem take_Z {w : World} {cb B : Nat} {c : Cmd} {kv mv : Value} (h : IsM w cb B c kv mv) (hE : Er w) (x : Bs) (hx : x.length ≤ 1099511627776) (hn : x = [48]) :
    Calls Tryz.prog 149 #[.pointer (some ⟨cb, 0, none⟩), .int .u8 48, sv x] w fun e w' => e = .returned (.tuple #[]) ∧ IsM w' cb B c kv mv ∧ Below B w w' := by
  subst hn
  go_enter Tryz.func149, Tryz.ntmps149
  go_wp2_with (go_at_call 165; with_reducible refine (ask_yes _ _).mono ?_; rintro e w2 ⟨rfl, rfl⟩)
  go_end0
  exact ⟨rfl, h, Below.refl _ _⟩
set_option maxRecDepth 100000 in
set_option maxHeartbeats 4000000 in
theorem take_Z_no {w : World} {cb B : Nat} {c : Cmd} {kv mv : Value} (h : IsM w cb B c kv mv) (hE : Er w) (x : Bs) (hx : x.length ≤ 1099511627776) (hn : x ≠ [48]) :
    Calls Tryz.prog 149 #[.pointer (some ⟨cb, 0, none⟩), .int .u8 48, sv x] w fun e w' => e = up ⟨badLine.toArray⟩ ∧ Below B w w' := by
  have hn2 := beq_eq_false_iff_ne.2 hn
  clear h
  go_enter Tryz.func149, Tryz.ntmps149
  go_wp2_with (go_at_call 165; with_reducible refine (ask_no _ _).mono ?_; rintro e w2 ⟨rfl, rfl⟩)
  exact ⟨rfl, rfl, Below.refl _ _⟩
set_option maxRecDepth 100000 in
set_option maxHeartbeats 4000000 in
theorem take_W {w : World} {cb B : Nat} {c : Cmd} {kv mv : Value} (h : IsM w cb B c kv mv) (hE : Er w) (x : Bs) (hx : x.length ≤ 1099511627776) (hn : x = reset) :
    Calls Tryz.prog 149 #[.pointer (some ⟨cb, 0, none⟩), .int .u8 87, sv x] w fun e w' => e = .returned (.tuple #[]) ∧ IsM w' cb B { c with what := reset } kv mv ∧ Below B w w' := by
  subst hn
  have hz := h.box.fz 10
  have hz2 := h.box.cell 10
  go_enter Tryz.func149, Tryz.ntmps149
  go_wp2_with (go_at_call 165; with_reducible refine (ask_yes _ _).mono ?_; rintro e w2 ⟨rfl, rfl⟩)
  go_end0
  exact ⟨rfl, h.set 10 _ rfl rfl rfl, below_set h.ge⟩
set_option maxRecDepth 100000 in
set_option maxHeartbeats 4000000 in
theorem take_W_no {w : World} {cb B : Nat} {c : Cmd} {kv mv : Value} (h : IsM w cb B c kv mv) (hE : Er w) (x : Bs) (hx : x.length ≤ 1099511627776) (hn : x ≠ reset) :
    Calls Tryz.prog 149 #[.pointer (some ⟨cb, 0, none⟩), .int .u8 87, sv x] w fun e w' => e = up ⟨badLine.toArray⟩ ∧ Below B w w' := by
  have hn2 := beq_eq_false_iff_ne.2 hn
  clear h
  go_enter Tryz.func149, Tryz.ntmps149
  go_wp2_with (go_at_call 165; with_reducible refine (ask_no _ _).mono ?_; rintro e w2 ⟨rfl, rfl⟩)
  exact ⟨rfl, rfl, Below.refl _ _⟩
set_option maxRecDepth 100000 in
set_option maxHeartbeats 4000000 in
theorem take_M {w : World} {cb B : Nat} {c : Cmd} {kv mv : Value} (h : IsM w cb B c kv mv) (hE : Er w) (x : Bs) (hx : x.length ≤ 1099511627776) (h0 : x ≠ []) (hn : c.mt.length ≤ 1000000000) :
    Calls Tryz.prog 149 #[.pointer (some ⟨cb, 0, none⟩), .int .u8 77, sv x] w fun e w' => e = .returned (.tuple #[]) ∧ (∃ mv', IsM w' cb B { c with mt := c.mt ++ [⟨x.headD 0, x.tail, decide (1 < x.length)⟩] } kv mv') ∧ Below B w w' := by
  have c1 : w.cell? ⟨cb, 9, none⟩ = some mv := h.box.cell 9
  obtain ⟨ao, cp, rfl, -, -, -, -⟩ := row_shape h.mr
  obtain ⟨b, t, rfl⟩ : ∃ b t, x = b :: t := by
    cases x with
    | nil => exact absurd rfl h0
    | cons b t => exact ⟨b, t, rfl⟩
  have hg0 : ∀ h : 0 < (ByteArray.mk (b :: t).toArray).size, (ByteArray.mk (b :: t).toArray)[0] = b := fun _ => rfl
  have hlen : (1 : Int) ≤ (t.length : Int) + 1 := by omega
  have hst : (ByteArray.mk (b :: t).toArray).extract 1 (t.length + 1) = ⟨t.toArray⟩ := by
    apply ByteArray.ext
    simp [ByteArray.data_extract]
  obtain ⟨q, hq⟩ : ∃ q, decide ((1 : Int) < (t.length : Int) + 1) = q := ⟨_, rfl⟩
  have hgA := gb_alloc (gb_refl w none) (.cells #[.int .u8 b.toNat, .string ⟨t.toArray⟩, .bool q] 79)
  have cA := gb_cellN hgA c1
  have hgD := gb_drew hgA
  have hR := row_kept h.mr hgD (by simp)
  obtain ⟨i0, hi, hz0, hz1, hz2⟩ := info_parts Tryz.info79
  have hN : ∀ j u, ([.int .u8 b.toNat, .string ⟨t.toArray⟩, .bool q] : List Value)[j]? = some u → (w.alloc (.cells #[.int .u8 b.toNat, .string ⟨t.toArray⟩, .bool q] 79)).drew.cell? ((⟨w.heap.size, 0, none⟩ : Addr).add j) = some u := by
    intro j u hu
    rw [Addr.add_mid, Nat.zero_add]
    refine gb_cellN (gb_drew (gb_refl _ none)) ?_
    rw [(Box.new w 79 #[.int .u8 b.toNat, .string ⟨t.toArray⟩, .bool q]).cell j]
    simpa using hu
  have hD : Hid (decide (1 < (b :: t).length) = q) := by
    show _ = _
    rw [← hq]; apply decide_eq_decide.2; simp; omega
  have hlt := h.lt
  clear hE
  go_enter Tryz.func149, Tryz.ntmps149
  go_wp2
  refine wp_region_noPanic ?_
  refine wp_region_held_drew (S := fun _ : World => True) (by kernel_rfl) trivial (fun _ => ?_)
  refine wpAnyH_take (i := 0) (oi := { dst := some 92, op := Op.move (Operand.tmp 0), type := 196, pos := _, after := #[], guard := none }) (v := ?_) rfl (by kernel_rfl) (by kernel_rfl) (by kernel_rfl) (fun _ _ _ h => h) (Or.inl ⟨by rfl, ?_⟩) (by first | trivial | assumption) ?_
  rotate_left 1
  · (intro W hSw; go_simp; (try (with_reducible rfl)))
  try simp only [Act.put, List.setIfInBounds_toArray, List.set_cons_zero, List.set_cons_succ]
  refine wpAnyH_take (i := 1) (oi := { dst := some 93, op := Op.move (Operand.tmp 0), type := 196, pos := _, after := #[], guard := none }) (v := ?_) rfl (by kernel_rfl) (by kernel_rfl) (by kernel_rfl) (fun _ _ _ h => h) (Or.inl ⟨by rfl, ?_⟩) (by first | trivial | assumption) ?_
  rotate_left 1
  · (intro W hSw; go_simp; (try (with_reducible rfl)))
  try simp only [Act.put, List.setIfInBounds_toArray, List.set_cons_zero, List.set_cons_succ]
  refine wpAnyH_take (i := 2) (oi := { dst := some 94, op := Op.nilCheck (Operand.tmp 93), type := 0, pos := _, after := #[{ on := 1, ground := Ground.data }], guard := none }) (v := ?_) rfl (by kernel_rfl) (by kernel_rfl) (by kernel_rfl) (fun _ _ _ h => h) (Or.inl ⟨by rfl, ?_⟩) (by first | trivial | assumption) ?_
  rotate_left 1
  · (intro W hSw; go_simp; (try (with_reducible rfl)))
  try simp only [Act.put, List.setIfInBounds_toArray, List.set_cons_zero, List.set_cons_succ]
  refine wpAnyH_take (i := 3) (oi := { dst := some 95, op := Op.fieldAddr 41 (Operand.tmp 94) 9, type := 0, pos := _, after := #[{ on := 2, ground := Ground.data }], guard := none }) (v := ?_) rfl (by kernel_rfl) (by kernel_rfl) (by kernel_rfl) (fun _ _ _ h => h) (Or.inl ⟨by rfl, ?_⟩) (by first | trivial | assumption) ?_
  rotate_left 1
  · (intro W hSw; go_simp; (try (with_reducible rfl)))
  try simp only [Act.put, List.setIfInBounds_toArray, List.set_cons_zero, List.set_cons_succ]
  refine wpAnyH_take (i := 5) (oi := { dst := some 97, op := Op.move (Operand.tmp 2), type := 9, pos := _, after := #[], guard := none }) (v := ?_) rfl (by kernel_rfl) (by kernel_rfl) (by kernel_rfl) (fun _ _ _ h => h) (Or.inl ⟨by rfl, ?_⟩) (by first | trivial | assumption) ?_
  rotate_left 1
  · (intro W hSw; go_simp; (try (with_reducible rfl)))
  try simp only [Act.put, List.setIfInBounds_toArray, List.set_cons_zero, List.set_cons_succ]
  refine wpAnyH_take (i := 6) (oi := { dst := some 98, op := Op.index 9 (Operand.tmp 97) (Operand.const (Value.int IntKind.i64 0)), type := 5, pos := _, after := #[{ on := 5, ground := Ground.data }], guard := none }) (v := ?_) rfl (by kernel_rfl) (by kernel_rfl) (by kernel_rfl) (fun _ _ _ h => h) (Or.inl ⟨by rfl, ?_⟩) (by first | trivial | assumption) ?_
  rotate_left 1
  · (intro W hSw; go_simp; (try (with_reducible rfl)))
  try simp only [Act.put, List.setIfInBounds_toArray, List.set_cons_zero, List.set_cons_succ]
  refine wpAnyH_take (i := 7) (oi := { dst := some 99, op := Op.move (Operand.tmp 2), type := 9, pos := _, after := #[], guard := none }) (v := ?_) rfl (by kernel_rfl) (by kernel_rfl) (by kernel_rfl) (fun _ _ _ h => h) (Or.inl ⟨by rfl, ?_⟩) (by first | trivial | assumption) ?_
  rotate_left 1
  · (intro W hSw; go_simp; (try (with_reducible rfl)))
  try simp only [Act.put, List.setIfInBounds_toArray, List.set_cons_zero, List.set_cons_succ]
  refine wpAnyH_take (i := 8) (oi := { dst := some 100, op := Op.slice 9 (Operand.tmp 99) (some (Operand.const (Value.int IntKind.i64 1))) none none, type := 9, pos := _, after := #[{ on := 7, ground := Ground.data }], guard := none }) (v := ?_) rfl (by kernel_rfl) (by kernel_rfl) (by kernel_rfl) (fun _ _ _ h => h) (Or.inl ⟨by rfl, ?_⟩) (by first | trivial | assumption) ?_
  rotate_left 1
  · (intro W hSw; go_simp; (try (with_reducible rfl)))
  try simp only [Act.put, List.setIfInBounds_toArray, List.set_cons_zero, List.set_cons_succ]
  refine wpAnyH_take (i := 9) (oi := { dst := some 101, op := Op.move (Operand.tmp 2), type := 9, pos := _, after := #[], guard := none }) (v := ?_) rfl (by kernel_rfl) (by kernel_rfl) (by kernel_rfl) (fun _ _ _ h => h) (Or.inl ⟨by rfl, ?_⟩) (by first | trivial | assumption) ?_
  rotate_left 1
  · (intro W hSw; go_simp; (try (with_reducible rfl)))
  try simp only [Act.put, List.setIfInBounds_toArray, List.set_cons_zero, List.set_cons_succ]
  refine wpAnyH_take (i := 10) (oi := { dst := some 102, op := Op.call { callee := Callee.builtin Builtin.len, args := #[Operand.tmp 101], argTypes := #[9] }, type := 3, pos := _, after := #[{ on := 9, ground := Ground.data }], guard := none }) (v := ?_) rfl (by kernel_rfl) (by kernel_rfl) (by kernel_rfl) (fun _ _ _ h => h) (Or.inl ⟨by rfl, ?_⟩) (by first | trivial | assumption) ?_
  rotate_left 1
  · (intro W hSw; go_simp; (try (with_reducible rfl)))
  try simp only [Act.put, List.setIfInBounds_toArray, List.set_cons_zero, List.set_cons_succ]
  refine wpAnyH_take (i := 11) (oi := { dst := some 103, op := Op.binOp BinOp.gtr 3 (Operand.tmp 102) (Operand.const (Value.int IntKind.i64 1)) 3, type := 4, pos := _, after := #[{ on := 10, ground := Ground.data }], guard := none }) (v := ?_) rfl (by kernel_rfl) (by kernel_rfl) (by kernel_rfl) (fun _ _ _ h => h) (Or.inl ⟨by rfl, ?_⟩) (by first | trivial | assumption) ?_
  rotate_left 1
  · (intro W hSw; go_simp; (try (with_reducible rfl)))
  try simp only [Act.put, List.setIfInBounds_toArray, List.set_cons_zero, List.set_cons_succ]
  refine wpAnyH_take (i := 12) (oi := { dst := some 104, op := Op.build 79 #[(0, Operand.tmp 98), (1, Operand.tmp 100), (2, Operand.tmp 103)], type := 79, pos := _, after := #[{ on := 6, ground := Ground.data }, { on := 8, ground := Ground.data }, { on := 11, ground := Ground.data }], guard := none }) (v := ?_) rfl (by kernel_rfl) (by kernel_rfl) (by kernel_rfl) (fun _ _ _ h => h) (Or.inl ⟨by rfl, ?_⟩) (by first | trivial | assumption) ?_
  rotate_left 1
  · (intro W hSw; go_simp; (try (with_reducible rfl)))
  try simp only [Act.put, List.setIfInBounds_toArray, List.set_cons_zero, List.set_cons_succ]
  refine wpAnyH_ready (rs := [4, 13]) (by kernel_rfl) (by simp) ?_
  refine AllReadyH.cons rfl (fun K hK => ?_) (AllReadyH.cons rfl (fun K hK => ?_) AllReadyH.nil)
  · go_simp
    refine hK.out _ _ trivial (fun _ => ?_)
    clear hK K
    try simp only [Act.put, List.setIfInBounds_toArray, List.set_cons_zero, List.set_cons_succ]
    refine wpAnyH_ready (rs := [13]) (by kernel_rfl) (by simp) ?_
    refine AllReadyH.cons rfl (fun K hK => ?_) AllReadyH.nil
    go_simp
    refine hK.out _ _ trivial (fun _ => ?_)
    clear hK K
    try simp only [Act.put, List.setIfInBounds_toArray, List.set_cons_zero, List.set_cons_succ]
    refine wpAnyH_ready (rs := [14]) (by kernel_rfl) (by simp) ?_
    refine AllReadyH.cons rfl (fun K hK => ?_) AllReadyH.nil
    refine step_append_lies _ rfl _ _ 39 rfl B 79 i0 _ 3 32 Tryz.underlying39 hi hz0 hz1 hz2 rfl (by omega) _ c.mt.length _ (by rfl) hR ⟨w.heap.size, 0, none⟩ 1 1 [.int .u8 b.toNat, .string ⟨t.toArray⟩, .bool q] (by rfl) rfl hN (by simp [Value.oneCell']) (by omega) (by unfold maxLen; omega) (by omega) (by simp; omega) (w.heap.size + 1) (by simp) ?_
    intro g cap W h1 hg _ _
    refine hK.out _ _ trivial (fun _ => ?_)
    clear hK K
    try simp only [Act.put, List.setIfInBounds_toArray, List.set_cons_zero, List.set_cons_succ]
    refine wpAnyH_take (i := 15) (oi := { dst := some 107, op := Op.nilCheck (Operand.tmp 92), type := 0, pos := _, after := #[{ on := 0, ground := Ground.data }, { on := 0, ground := Ground.phase }, { on := 1, ground := Ground.phase }, { on := 2, ground := Ground.phase }, { on := 3, ground := Ground.phase }, { on := 4, ground := Ground.phase }, { on := 5, ground := Ground.phase }, { on := 6, ground := Ground.phase }, { on := 7, ground := Ground.phase }, { on := 8, ground := Ground.phase }, { on := 9, ground := Ground.phase }, { on := 10, ground := Ground.phase }, { on := 11, ground := Ground.phase }, { on := 12, ground := Ground.phase }, { on := 13, ground := Ground.phase }, { on := 14, ground := Ground.phase }], guard := none }) (v := ?_) rfl (by kernel_rfl) (by kernel_rfl) (by kernel_rfl) (fun _ _ _ h => h) (Or.inl ⟨by rfl, ?_⟩) (by first | trivial | assumption) ?_
    rotate_left 1
    · (intro W hSw; go_simp; (try (with_reducible rfl)))
    try simp only [Act.put, List.setIfInBounds_toArray, List.set_cons_zero, List.set_cons_succ]
    refine wpAnyH_take (i := 16) (oi := { dst := some 108, op := Op.fieldAddr 41 (Operand.tmp 107) 9, type := 0, pos := _, after := #[{ on := 15, ground := Ground.data }, { on := 0, ground := Ground.phase }, { on := 1, ground := Ground.phase }, { on := 2, ground := Ground.phase }, { on := 3, ground := Ground.phase }, { on := 4, ground := Ground.phase }, { on := 5, ground := Ground.phase }, { on := 6, ground := Ground.phase }, { on := 7, ground := Ground.phase }, { on := 8, ground := Ground.phase }, { on := 9, ground := Ground.phase }, { on := 10, ground := Ground.phase }, { on := 11, ground := Ground.phase }, { on := 12, ground := Ground.phase }, { on := 13, ground := Ground.phase }, { on := 14, ground := Ground.phase }], guard := none }) (v := ?_) rfl (by kernel_rfl) (by kernel_rfl) (by kernel_rfl) (fun _ _ _ h => h) (Or.inl ⟨by rfl, ?_⟩) (by first | trivial | assumption) ?_
    rotate_left 1
    · (intro W hSw; go_simp; (try (with_reducible rfl)))
    try simp only [Act.put, List.setIfInBounds_toArray, List.set_cons_zero, List.set_cons_succ]
    have h2 := IsM.flag (h.kept hgD) ⟨b, t, q⟩ h1 hg
    have hbx := (h.kept hgD).box.kept hg (fun e => row_box (h.kept hgD).mr (h.kept hgD).box (by omega) cb e.symm rfl)
    have hz := hbx.fz 9
    have hzc := hbx.cell 9
    refine wpAnyH_ready (rs := [17]) (by kernel_rfl) (by simp) ?_
    refine AllReadyH.cons rfl (fun K hK => ?_) AllReadyH.nil
    go_simp
    refine hK.out _ _ trivial (fun _ => ?_)
    clear hK K
    refine wpAnyH_done (by kernel_rfl) ?_ _
    refine NoPanic.normal ?_
    go_wp2
    go_end0
    refine ⟨rfl, ⟨.slice (some ⟨g, 0, none⟩) (c.mt.length + 1) cap, ?_⟩, (below_grown hgD (by omega)).trans h2.2⟩
    rw [show decide (1 < t.length + 1) = q from hD.out]
    exact h2.1
  · go_simp
    refine hK.out _ _ trivial (fun _ => ?_)
    clear hK K
    try simp only [Act.put, List.setIfInBounds_toArray, List.set_cons_zero, List.set_cons_succ]
    refine wpAnyH_ready (rs := [4]) (by kernel_rfl) (by simp) ?_
    refine AllReadyH.cons rfl (fun K hK => ?_) AllReadyH.nil
    go_simp
    refine hK.out _ _ trivial (fun _ => ?_)
    clear hK K
    try simp only [Act.put, List.setIfInBounds_toArray, List.set_cons_zero, List.set_cons_succ]
    refine wpAnyH_ready (rs := [14]) (by kernel_rfl) (by simp) ?_
    refine AllReadyH.cons rfl (fun K hK => ?_) AllReadyH.nil
    refine step_append_lies _ rfl _ _ 39 rfl B 79 i0 _ 3 32 Tryz.underlying39 hi hz0 hz1 hz2 rfl (by omega) _ c.mt.length _ (by rfl) hR ⟨w.heap.size, 0, none⟩ 1 1 [.int .u8 b.toNat, .string ⟨t.toArray⟩, .bool q] (by rfl) rfl hN (by simp [Value.oneCell']) (by omega) (by unfold maxLen; omega) (by omega) (by simp; omega) (w.heap.size + 1) (by simp) ?_
    intro g cap W h1 hg _ _
    refine hK.out _ _ trivial (fun _ => ?_)
    clear hK K
    try simp only [Act.put, List.setIfInBounds_toArray, List.set_cons_zero, List.set_cons_succ]
    refine wpAnyH_take (i := 15) (oi := { dst := some 107, op := Op.nilCheck (Operand.tmp 92), type := 0, pos := _, after := #[{ on := 0, ground := Ground.data }, { on := 0, ground := Ground.phase }, { on := 1, ground := Ground.phase }, { on := 2, ground := Ground.phase }, { on := 3, ground := Ground.phase }, { on := 4, ground := Ground.phase }, { on := 5, ground := Ground.phase }, { on := 6, ground := Ground.phase }, { on := 7, ground := Ground.phase }, { on := 8, ground := Ground.phase }, { on := 9, ground := Ground.phase }, { on := 10, ground := Ground.phase }, { on := 11, ground := Ground.phase }, { on := 12, ground := Ground.phase }, { on := 13, ground := Ground.phase }, { on := 14, ground := Ground.phase }], guard := none }) (v := ?_) rfl (by kernel_rfl) (by kernel_rfl) (by kernel_rfl) (fun _ _ _ h => h) (Or.inl ⟨by rfl, ?_⟩) (by first | trivial | assumption) ?_
    rotate_left 1
    · (intro W hSw; go_simp; (try (with_reducible rfl)))
    try simp only [Act.put, List.setIfInBounds_toArray, List.set_cons_zero, List.set_cons_succ]
    refine wpAnyH_take (i := 16) (oi := { dst := some 108, op := Op.fieldAddr 41 (Operand.tmp 107) 9, type := 0, pos := _, after := #[{ on := 15, ground := Ground.data }, { on := 0, ground := Ground.phase }, { on := 1, ground := Ground.phase }, { on := 2, ground := Ground.phase }, { on := 3, ground := Ground.phase }, { on := 4, ground := Ground.phase }, { on := 5, ground := Ground.phase }, { on := 6, ground := Ground.phase }, { on := 7, ground := Ground.phase }, { on := 8, ground := Ground.phase }, { on := 9, ground := Ground.phase }, { on := 10, ground := Ground.phase }, { on := 11, ground := Ground.phase }, { on := 12, ground := Ground.phase }, { on := 13, ground := Ground.phase }, { on := 14, ground := Ground.phase }], guard := none }) (v := ?_) rfl (by kernel_rfl) (by kernel_rfl) (by kernel_rfl) (fun _ _ _ h => h) (Or.inl ⟨by rfl, ?_⟩) (by first | trivial | assumption) ?_
    rotate_left 1
    · (intro W hSw; go_simp; (try (with_reducible rfl)))
    try simp only [Act.put, List.setIfInBounds_toArray, List.set_cons_zero, List.set_cons_succ]
    have h2 := IsM.flag (h.kept hgD) ⟨b, t, q⟩ h1 hg
    have hbx := (h.kept hgD).box.kept hg (fun e => row_box (h.kept hgD).mr (h.kept hgD).box (by omega) cb e.symm rfl)
    have hz := hbx.fz 9
    have hzc := hbx.cell 9
    refine wpAnyH_ready (rs := [17]) (by kernel_rfl) (by simp) ?_
    refine AllReadyH.cons rfl (fun K hK => ?_) AllReadyH.nil
    go_simp
    refine hK.out _ _ trivial (fun _ => ?_)
    clear hK K
    refine wpAnyH_done (by kernel_rfl) ?_ _
    refine NoPanic.normal ?_
    go_wp2
    go_end0
    refine ⟨rfl, ⟨.slice (some ⟨g, 0, none⟩) (c.mt.length + 1) cap, ?_⟩, (below_grown hgD (by omega)).trans h2.2⟩
    rw [show decide (1 < t.length + 1) = q from hD.out]
    exact h2.1
abbrev Lts : Bs := [75, 70, 84, 76, 78, 86, 67, 68, 48, 87, 77]
theorem take_yes {w : World} {cb B : Nat} {c d : Cmd} {kv mv : Value} (h : IsM w cb B c kv mv) (hE : Er w) (x : Bs) (hx : x.length ≤ 1099511627776) (h0 : x ≠ []) (hn1 : c.keys.length ≤ 1000000000) (hn2 : c.mt.length ≤ 1000000000) (a : UInt8) (ha : a ∈ Lts) (ht : take1 c a x = .inl d) :
    Calls Tryz.prog 149 #[.pointer (some ⟨cb, 0, none⟩), .int .u8 a.toNat, sv x] w fun e w' => e = .returned (.tuple #[]) ∧ (∃ kv' mv', IsM w' cb B d kv' mv') ∧ Below B w w' := by
  have lift : ∀ {N : Nat} {args : Array Value} {d : Cmd}, (Calls Tryz.prog N args w fun e w' => e = .returned (.tuple #[]) ∧ IsM w' cb B d kv mv ∧ Below B w w') → Calls Tryz.prog N args w fun e w' => e = .returned (.tuple #[]) ∧ (∃ kv' mv', IsM w' cb B d kv' mv') ∧ Below B w w' :=
    fun hc => hc.mono fun e w' ⟨h1, h2, h3⟩ => ⟨h1, ⟨_, _, h2⟩, h3⟩
  simp only [Lts, List.mem_cons, List.not_mem_nil, or_false] at ha
  rcases ha with rfl | rfl | rfl | rfl | rfl | rfl | rfl | rfl | rfl | rfl | rfl
  · simp +decide only [take1, true_or, or_true, false_or, or_false, if_true, if_false] at ht
    split at ht
    · rename_i hc
      injection ht with ht
      subst ht
      exact (take_K h hE x hx hc.1 hc.2 hn1).mono fun e w' ⟨h1, ⟨kv', h2⟩, h3⟩ => ⟨h1, ⟨_, _, h2⟩, h3⟩
    · cases ht
  · simp +decide only [take1, true_or, or_true, false_or, or_false, if_true, if_false] at ht
    split at ht
    · rename_i n hc; injection ht with ht; subst ht; exact lift (take_F h hE x hx n hc)
    · cases ht
  · simp +decide only [take1, true_or, or_true, false_or, or_false, if_true, if_false] at ht
    split at ht
    · rename_i n hc; injection ht with ht; subst ht; exact lift (take_T h hE x hx n hc)
    · cases ht
  · simp +decide only [take1, true_or, or_true, false_or, or_false, if_true, if_false] at ht
    split at ht
    · rename_i n hc
      split at ht
      · rename_i hc2; injection ht with ht; subst ht; exact lift (take_L h hE x hx n hc hc2)
      · cases ht
    · cases ht
  · simp +decide only [take1, true_or, or_true, false_or, or_false, if_true, if_false] at ht
    split at ht
    · rename_i n hc; injection ht with ht; subst ht; exact lift (take_N h hE x hx n hc)
    · cases ht
  · simp +decide only [take1, true_or, or_true, false_or, or_false, if_true, if_false] at ht
    split at ht
    · rename_i n hc; injection ht with ht; subst ht; exact lift (take_V h hE x hx n hc)
    · cases ht
  · simp +decide only [take1, true_or, or_true, false_or, or_false, if_true, if_false] at ht
    split at ht
    · rename_i n hc; injection ht with ht; subst ht; exact lift (take_C h hE x hx n hc)
    · cases ht
  · simp +decide only [take1, true_or, or_true, false_or, or_false, if_true, if_false] at ht
    split at ht
    · rename_i n hc; injection ht with ht; subst ht; exact lift (take_D h hE x hx n hc)
    · cases ht
  · simp +decide only [take1, true_or, or_true, false_or, or_false, if_true, if_false] at ht
    split at ht
    · rename_i hc; injection ht with ht; subst ht; exact lift (take_Z h hE x hx hc)
    · cases ht
  · simp +decide only [take1, true_or, or_true, false_or, or_false, if_true, if_false] at ht
    split at ht
    · rename_i hc; injection ht with ht; subst ht; exact lift (take_W h hE x hx hc)
    · cases ht
  · simp +decide only [take1, true_or, or_true, false_or, or_false, if_true, if_false] at ht
    injection ht with ht
    subst ht
    exact (take_M h hE x hx h0 hn2).mono fun e w' ⟨h1, ⟨kv', h2⟩, h3⟩ => ⟨h1, ⟨_, _, h2⟩, h3⟩
theorem take_no {w : World} {cb B : Nat} {c : Cmd} {kv mv : Value} (h : IsM w cb B c kv mv) (hE : Er w) (x : Bs) (hx : x.length ≤ 1099511627776) (a : UInt8) (ha : a ∈ Lts) (t : Bs) (ht : take1 c a x = .inr t) :
    Calls Tryz.prog 149 #[.pointer (some ⟨cb, 0, none⟩), .int .u8 a.toNat, sv x] w fun e w' => e = up ⟨t.toArray⟩ ∧ Below B w w' := by
  simp only [Lts, List.mem_cons, List.not_mem_nil, or_false] at ha
  rcases ha with rfl | rfl | rfl | rfl | rfl | rfl | rfl | rfl | rfl | rfl | rfl
  · simp +decide only [take1, true_or, or_true, false_or, or_false, if_true, if_false] at ht
    split at ht
    · cases ht
    · rename_i hc; injection ht with ht; subst ht; exact take_K_no h hE x hx hc
  · simp +decide only [take1, true_or, or_true, false_or, or_false, if_true, if_false] at ht
    split at ht
    · cases ht
    · rename_i hc; injection ht with ht; subst ht; exact take_F_no h hE x hx hc
  · simp +decide only [take1, true_or, or_true, false_or, or_false, if_true, if_false] at ht
    split at ht
    · cases ht
    · rename_i hc; injection ht with ht; subst ht; exact take_T_no h hE x hx hc
  · simp +decide only [take1, true_or, or_true, false_or, or_false, if_true, if_false] at ht
    split at ht
    · rename_i n hc
      split at ht
      · cases ht
      · rename_i hc2; injection ht with ht; subst ht; exact take_L_low h hE x hx n hc (by omega)
    · rename_i hc; injection ht with ht; subst ht; exact take_L_no h hE x hx hc
  · simp +decide only [take1, true_or, or_true, false_or, or_false, if_true, if_false] at ht
    split at ht
    · cases ht
    · rename_i hc; injection ht with ht; subst ht; exact take_N_no h hE x hx hc
  · simp +decide only [take1, true_or, or_true, false_or, or_false, if_true, if_false] at ht
    split at ht
    · cases ht
    · rename_i hc; injection ht with ht; subst ht; exact take_V_no h hE x hx hc
  · simp +decide only [take1, true_or, or_true, false_or, or_false, if_true, if_false] at ht
    split at ht
    · cases ht
    · rename_i hc; injection ht with ht; subst ht; exact take_C_no h hE x hx hc
  · simp +decide only [take1, true_or, or_true, false_or, or_false, if_true, if_false] at ht
    split at ht
    · cases ht
    · rename_i hc; injection ht with ht; subst ht; exact take_D_no h hE x hx hc
  · simp +decide only [take1, true_or, or_true, false_or, or_false, if_true, if_false] at ht
    split at ht
    · cases ht
    · rename_i hc; injection ht with ht; subst ht; exact take_Z_no h hE x hx hc
  · simp +decide only [take1, true_or, or_true, false_or, or_false, if_true, if_false] at ht
    split at ht
    · cases ht
    · rename_i hc; injection ht with ht; subst ht; exact take_W_no h hE x hx hc
  · simp +decide only [take1, true_or, or_true, false_or, or_false, if_true, if_false] at ht
    cases ht
end Go.Proofs.YtbbocbdoiealoaaGreatDoor
