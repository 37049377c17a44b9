import Derived.Test.YtobegepebochkaaGreatDoorRF
import Derived.Test.YtobegepebochkaaGreatDoorRPaa
set_option linter.unusedVariables false
set_option linter.unusedSimpArgs false
set_option maxRecDepth 100000
set_option maxHeartbeats 16000000
namespace Go.Proofs.YtobegepebochkaaGreatDoor
open Go.RowKit
abbrev sqG0 (p : String) : Oper := { dst := some 92, op := Op.move (Operand.tmp 0), type := 193, pos := p, after := #[], guard := none }
abbrev sqG1 (p : String) : Oper := { dst := some 93, op := Op.move (Operand.tmp 0), type := 193, pos := p, after := #[], guard := none }
abbrev sqG2 (p : String) : Oper := { dst := some 94, op := Op.nilCheck (Operand.tmp 93), type := 0, pos := p, after := #[{ on := 1, ground := Ground.data }], guard := none }
abbrev sqG3 (p : String) : Oper := { dst := some 95, op := Op.fieldAddr 41 (Operand.tmp 94) 9, type := 0, pos := p, after := #[{ on := 2, ground := Ground.data }], guard := none }
abbrev sqG4 (p : String) : Oper := { dst := some 97, op := Op.move (Operand.tmp 2), type := 9, pos := p, after := #[], guard := none }
abbrev sqG5 (p : String) : Oper := { dst := some 98, op := Op.index 9 (Operand.tmp 97) (Operand.const (Value.int IntKind.i64 0)), type := 5, pos := p, after := #[{ on := 5, ground := Ground.data }], guard := none }
abbrev sqG6 (p : String) : Oper := { dst := some 99, op := Op.move (Operand.tmp 2), type := 9, pos := p, after := #[], guard := none }
abbrev sqG7 (p : String) : Oper := { dst := some 100, op := Op.slice 9 (Operand.tmp 99) (some (Operand.const (Value.int IntKind.i64 1))) none none, type := 9, pos := p, after := #[{ on := 7, ground := Ground.data }], guard := none }
abbrev sqG8 (p : String) : Oper := { dst := some 101, op := Op.move (Operand.tmp 2), type := 9, pos := p, after := #[], guard := none }
abbrev sqG9 (p : String) : Oper := { dst := some 102, op := Op.call { callee := Callee.builtin Builtin.len, args := #[Operand.tmp 101], argTypes := #[9] }, type := 3, pos := p, after := #[{ on := 9, ground := Ground.data }], guard := none }
abbrev sqG10 (p : String) : Oper := { dst := some 103, op := Op.binOp BinOp.gtr 3 (Operand.tmp 102) (Operand.const (Value.int IntKind.i64 1)) 3, type := 4, pos := p, after := #[{ on := 10, ground := Ground.data }], guard := none }
abbrev sqG11 (p : String) : Oper := { dst := some 104, op := Op.build 79 #[(0, Operand.tmp 98), (1, Operand.tmp 100), (2, Operand.tmp 103)], type := 79, pos := p, after := #[{ on := 6, ground := Ground.data }, { on := 8, ground := Ground.data }, { on := 11, ground := Ground.data }], guard := none }
abbrev sqG12 (p : String) : Oper := { dst := some 107, op := Op.nilCheck (Operand.tmp 92), type := 0, pos := p, after := #[{ on := 0, ground := Ground.data }, { on := 0, ground := Ground.phase }, { on := 1, ground := Ground.phase }, { on := 2, ground := Ground.phase }, { on := 3, ground := Ground.phase }, { on := 4, ground := Ground.phase }, { on := 5, ground := Ground.phase }, { on := 6, ground := Ground.phase }, { on := 7, ground := Ground.phase }, { on := 8, ground := Ground.phase }, { on := 9, ground := Ground.phase }, { on := 10, ground := Ground.phase }, { on := 11, ground := Ground.phase }, { on := 12, ground := Ground.phase }, { on := 13, ground := Ground.phase }, { on := 14, ground := Ground.phase }], guard := none }
abbrev sqG13 (p : String) : Oper := { dst := some 108, op := Op.fieldAddr 41 (Operand.tmp 107) 9, type := 0, pos := p, after := #[{ on := 15, ground := Ground.data }, { on := 0, ground := Ground.phase }, { on := 1, ground := Ground.phase }, { on := 2, ground := Ground.phase }, { on := 3, ground := Ground.phase }, { on := 4, ground := Ground.phase }, { on := 5, ground := Ground.phase }, { on := 6, ground := Ground.phase }, { on := 7, ground := Ground.phase }, { on := 8, ground := Ground.phase }, { on := 9, ground := Ground.phase }, { on := 10, ground := Ground.phase }, { on := 11, ground := Ground.phase }, { on := 12, ground := Ground.phase }, { on := 13, ground := Ground.phase }, { on := 14, ground := Ground.phase }], guard := none }
theorem take_Z {w : World} {cb B : Nat} {c : Cmd} {kv mv : Value} (h : IsM w cb B c kv mv) (hE : Er w) (x : Bs) (hx : x.length <= 1099511627776) (hn : x = [48]) :
    Calls Tryz.prog 144 #[.pointer (some ⟨cb, 0, none⟩), .int .u8 48, sv x] w fun e w' => e = .returned (.tuple #[]) /\ IsM w' cb B c kv mv /\ Below B w w' := by
  subst hn
  go_enter Tryz.func144, Tryz.ntmps144
  go_wp2_with (go_at_call 160; with_reducible refine (ask_yes _ _).mono ?_; rintro e w2 ⟨rfl, rfl⟩)
  go_end0
  exact ⟨rfl, h, Below.refl _ _⟩
theorem take_Z_no {w : World} {cb B : Nat} {c : Cmd} {kv mv : Value} (h : IsM w cb B c kv mv) (hE : Er w) (x : Bs) (hx : x.length <= 1099511627776) (hn : x ≠ [48]) :
    Calls Tryz.prog 144 #[.pointer (some ⟨cb, 0, none⟩), .int .u8 48, sv x] w fun e w' => e = up ⟨badLine.toArray⟩ /\ Below B w w' := by
  have hn2 := beq_eq_false_iff_ne.2 hn
  clear h
  go_enter Tryz.func144, Tryz.ntmps144
  go_wp2_with (go_at_call 160; with_reducible refine (ask_no _ _).mono ?_; rintro e w2 ⟨rfl, rfl⟩)
  exact ⟨rfl, rfl, Below.refl _ _⟩
theorem take_W {w : World} {cb B : Nat} {c : Cmd} {kv mv : Value} (h : IsM w cb B c kv mv) (hE : Er w) (x : Bs) (hx : x.length <= 1099511627776) (hn : x = reset) :
    Calls Tryz.prog 144 #[.pointer (some ⟨cb, 0, none⟩), .int .u8 87, sv x] w fun e w' => e = .returned (.tuple #[]) /\ IsM w' cb B { c with what := reset } kv mv /\ Below B w w' := by
  subst hn
  have hz := h.box.fz 10
  have hz2 := h.box.cell 10
  go_enter Tryz.func144, Tryz.ntmps144
  go_wp2_with (go_at_call 160; with_reducible refine (ask_yes _ _).mono ?_; rintro e w2 ⟨rfl, rfl⟩)
  go_end0
  exact ⟨rfl, h.set 10 _ rfl rfl rfl, below_set h.ge⟩
theorem take_W_no {w : World} {cb B : Nat} {c : Cmd} {kv mv : Value} (h : IsM w cb B c kv mv) (hE : Er w) (x : Bs) (hx : x.length <= 1099511627776) (hn : x ≠ reset) :
    Calls Tryz.prog 144 #[.pointer (some ⟨cb, 0, none⟩), .int .u8 87, sv x] w fun e w' => e = up ⟨badLine.toArray⟩ /\ Below B w w' := by
  have hn2 := beq_eq_false_iff_ne.2 hn
  clear h
  go_enter Tryz.func144, Tryz.ntmps144
  go_wp2_with (go_at_call 160; with_reducible refine (ask_no _ _).mono ?_; rintro e w2 ⟨rfl, rfl⟩)
  exact ⟨rfl, rfl, Below.refl _ _⟩
theorem take_M {w : World} {cb B : Nat} {c : Cmd} {kv mv : Value} (h : IsM w cb B c kv mv) (hE : Er w) (x : Bs) (hx : x.length <= 1099511627776) (h0 : x ≠ []) (hn : c.mt.length <= 1000000000) :
    Calls Tryz.prog 144 #[.pointer (some ⟨cb, 0, none⟩), .int .u8 77, sv x] w fun e w' => e = .returned (.tuple #[]) /\ (∃ mv', IsM w' cb B { c with mt := c.mt ++ [⟨x.headD 0, x.tail, decide (1 < x.length)⟩] } kv mv') /\ Below B w w' := by
  have c1 : w.cell? ⟨cb, 9, none⟩ = some mv := h.box.cell 9
  obtain ⟨ao, cp, rfl, -, -, -, -⟩ := row_shape h.mr
  obtain ⟨b, t, rfl⟩ : ∃ b t, x = b :: t := by
    cases x with
    | nil => exact absurd rfl h0
    | cons b t => exact ⟨b, t, rfl⟩
  have hg0 : ∀ h : 0 < (ByteArray.mk (b :: t).toArray).size, (ByteArray.mk (b :: t).toArray)[0] = b := fun _ => rfl
  have hlen : (1 : Int) <= (t.length : Int) + 1 := by omega
  have hst : (ByteArray.mk (b :: t).toArray).extract 1 (t.length + 1) = ⟨t.toArray⟩ := by
    apply ByteArray.ext
    simp [ByteArray.data_extract]
  obtain ⟨q, hq⟩ : ∃ q, decide ((1 : Int) < (t.length : Int) + 1) = q := ⟨_, rfl⟩
  have hgA := gb_alloc (gb_refl w none) (.cells #[.int .u8 b.toNat, .string ⟨t.toArray⟩, .bool q] 79)
  have cA := gb_cellN hgA c1
  have hgD := gb_drew hgA
  have hR := row_kept h.mr hgD (by simp)
  obtain ⟨i0, hi, hz0, hz1, hz2⟩ := info_parts Tryz.info79
  have hN : ∀ j u, ([.int .u8 b.toNat, .string ⟨t.toArray⟩, .bool q] : List Value)[j]? = some u -> (w.alloc (.cells #[.int .u8 b.toNat, .string ⟨t.toArray⟩, .bool q] 79)).drew.cell? ((⟨w.heap.size, 0, none⟩ : Addr).add j) = some u := by
    intro j u hu
    rw [Addr.add_mid, Nat.zero_add]
    refine gb_cellN (gb_drew (gb_refl _ none)) ?_
    rw [(Box.new w 79 #[.int .u8 b.toNat, .string ⟨t.toArray⟩, .bool q]).cell j]
    simpa using hu
  have hD : Hid (decide (1 < (b :: t).length) = q) := by
    show _ = _
    rw [<- hq]; apply decide_eq_decide.2; simp; omega
  have hlt := h.lt
  clear hE
  go_enter Tryz.func144, Tryz.ntmps144
  go_wp2
  refine wp_region_noPanic ?_
  refine wp_region_held_drew (S := fun _ : World => True) (by kernel_rfl) trivial (fun _ => ?_)
  refine tkZ 0 (sqG0 _) rfl (by intro W hSw; go_simp; (try (with_reducible rfl))) ?_
  try simp only [Act.put, pY]
  refine tkZ 1 (sqG1 _) rfl (by intro W hSw; go_simp; (try (with_reducible rfl))) ?_
  try simp only [Act.put, pY]
  refine tkZ 2 (sqG2 _) rfl (by intro W hSw; go_simp; (try (with_reducible rfl))) ?_
  try simp only [Act.put, pY]
  refine tkZ 3 (sqG3 _) rfl (by intro W hSw; go_simp; (try (with_reducible rfl))) ?_
  try simp only [Act.put, pY]
  refine tkZ 5 (sqG4 _) rfl (by intro W hSw; go_simp; (try (with_reducible rfl))) ?_
  try simp only [Act.put, pY]
  refine tkZ 6 (sqG5 _) rfl (by intro W hSw; go_simp; (try (with_reducible rfl))) ?_
  try simp only [Act.put, pY]
  refine tkZ 7 (sqG6 _) rfl (by intro W hSw; go_simp; (try (with_reducible rfl))) ?_
  try simp only [Act.put, pY]
  refine tkZ 8 (sqG7 _) rfl (by intro W hSw; go_simp; (try (with_reducible rfl))) ?_
  try simp only [Act.put, pY]
  refine tkZ 9 (sqG8 _) rfl (by intro W hSw; go_simp; (try (with_reducible rfl))) ?_
  try simp only [Act.put, pY]
  refine tkZ 10 (sqG9 _) rfl (by intro W hSw; go_simp; (try (with_reducible rfl))) ?_
  try simp only [Act.put, pY]
  refine tkZ 11 (sqG10 _) rfl (by intro W hSw; go_simp; (try (with_reducible rfl))) ?_
  try simp only [Act.put, pY]
  refine tkZ 12 (sqG11 _) rfl (by intro W hSw; go_simp; (try (with_reducible rfl))) ?_
  try simp only [Act.put, pY]
  refine wpAnyH_ready (rs := [4, 13]) (by kernel_rfl) (by simp) ?_
  refine AllReadyH.cons rfl (fun K hK => ?_) (AllReadyH.cons rfl (fun K hK => ?_) AllReadyH.nil)
  . go_simp
    refine hK.out _ _ trivial (fun _ => ?_)
    clear hK K
    try simp only [Act.put, pY]
    refine wpAnyH_ready (rs := [13]) (by kernel_rfl) (by simp) ?_
    refine AllReadyH.cons rfl (fun K hK => ?_) AllReadyH.nil
    go_simp
    refine hK.out _ _ trivial (fun _ => ?_)
    clear hK K
    try simp only [Act.put, pY]
    refine wpAnyH_ready (rs := [14]) (by kernel_rfl) (by simp) ?_
    refine AllReadyH.cons rfl (fun K hK => ?_) AllReadyH.nil
    refine step_append_lies _ rfl _ _ 39 rfl B 79 i0 _ 3 32 Tryz.underlying39 hi hz0 hz1 hz2 rfl (by omega) _ c.mt.length _ (by rfl) hR ⟨w.heap.size, 0, none⟩ 1 1 [.int .u8 b.toNat, .string ⟨t.toArray⟩, .bool q] (by rfl) rfl hN (by simp [Value.oneCell']) (by omega) (by unfold maxLen; omega) (by omega) (by simp; omega) (w.heap.size + 1) (by simp) ?_
    intro g cap W h1 hg _ _
    refine hK.out _ _ trivial (fun _ => ?_)
    clear hK K
    try simp only [Act.put, pY]
    refine tkZ 15 (sqG12 _) rfl (by intro W hSw; go_simp; (try (with_reducible rfl))) ?_
    try simp only [Act.put, pY]
    refine tkZ 16 (sqG13 _) rfl (by intro W hSw; go_simp; (try (with_reducible rfl))) ?_
    try simp only [Act.put, pY]
    have h2 := IsM.flag (h.kept hgD) ⟨b, t, q⟩ h1 hg
    have hbx := (h.kept hgD).box.kept hg (fun e => row_box (h.kept hgD).mr (h.kept hgD).box (by omega) cb e.symm rfl)
    have hz := hbx.fz 9
    have hzc := hbx.cell 9
    refine wpAnyH_ready (rs := [17]) (by kernel_rfl) (by simp) ?_
    refine AllReadyH.cons rfl (fun K hK => ?_) AllReadyH.nil
    go_simp
    refine hK.out _ _ trivial (fun _ => ?_)
    clear hK K
    refine wpAnyH_done (by kernel_rfl) ?_ _
    refine NoPanic.normal ?_
    go_wp2
    go_end0
    refine ⟨rfl, ⟨.slice (some ⟨g, 0, none⟩) (c.mt.length + 1) cap, ?_⟩, (below_grown hgD (by omega)).trans h2.2⟩
    rw [show decide (1 < t.length + 1) = q from hD.out]
    exact h2.1
  . go_simp
    refine hK.out _ _ trivial (fun _ => ?_)
    clear hK K
    try simp only [Act.put, pY]
    refine wpAnyH_ready (rs := [4]) (by kernel_rfl) (by simp) ?_
    refine AllReadyH.cons rfl (fun K hK => ?_) AllReadyH.nil
    go_simp
    refine hK.out _ _ trivial (fun _ => ?_)
    clear hK K
    try simp only [Act.put, pY]
    refine wpAnyH_ready (rs := [14]) (by kernel_rfl) (by simp) ?_
    refine AllReadyH.cons rfl (fun K hK => ?_) AllReadyH.nil
    refine step_append_lies _ rfl _ _ 39 rfl B 79 i0 _ 3 32 Tryz.underlying39 hi hz0 hz1 hz2 rfl (by omega) _ c.mt.length _ (by rfl) hR ⟨w.heap.size, 0, none⟩ 1 1 [.int .u8 b.toNat, .string ⟨t.toArray⟩, .bool q] (by rfl) rfl hN (by simp [Value.oneCell']) (by omega) (by unfold maxLen; omega) (by omega) (by simp; omega) (w.heap.size + 1) (by simp) ?_
    intro g cap W h1 hg _ _
    refine hK.out _ _ trivial (fun _ => ?_)
    clear hK K
    try simp only [Act.put, pY]
    refine tkZ 15 (sqG12 _) rfl (by intro W hSw; go_simp; (try (with_reducible rfl))) ?_
    try simp only [Act.put, pY]
    refine tkZ 16 (sqG13 _) rfl (by intro W hSw; go_simp; (try (with_reducible rfl))) ?_
    try simp only [Act.put, pY]
    have h2 := IsM.flag (h.kept hgD) ⟨b, t, q⟩ h1 hg
    have hbx := (h.kept hgD).box.kept hg (fun e => row_box (h.kept hgD).mr (h.kept hgD).box (by omega) cb e.symm rfl)
    have hz := hbx.fz 9
    have hzc := hbx.cell 9
    refine wpAnyH_ready (rs := [17]) (by kernel_rfl) (by simp) ?_
    refine AllReadyH.cons rfl (fun K hK => ?_) AllReadyH.nil
    go_simp
    refine hK.out _ _ trivial (fun _ => ?_)
    clear hK K
    refine wpAnyH_done (by kernel_rfl) ?_ _
    refine NoPanic.normal ?_
    go_wp2
    go_end0
    refine ⟨rfl, ⟨.slice (some ⟨g, 0, none⟩) (c.mt.length + 1) cap, ?_⟩, (below_grown hgD (by omega)).trans h2.2⟩
    rw [show decide (1 < t.length + 1) = q from hD.out]
    exact h2.1
abbrev Lts : Bs := [75, 70, 84, 76, 78, 86, 67, 68, 48, 87, 77]
theorem take_yes {w : World} {cb B : Nat} {c d : Cmd} {kv mv : Value} (h : IsM w cb B c kv mv) (hE : Er w) (x : Bs) (hx : x.length <= 1099511627776) (h0 : x ≠ []) (hn1 : c.keys.length <= 1000000000) (hn2 : c.mt.length <= 1000000000) (a : UInt8) (ha : a ∈ Lts) (ht : take1 c a x = .inl d) :
    Calls Tryz.prog 144 #[.pointer (some ⟨cb, 0, none⟩), .int .u8 a.toNat, sv x] w fun e w' => e = .returned (.tuple #[]) /\ (∃ kv' mv', IsM w' cb B d kv' mv') /\ Below B w w' := by
  have lift : ∀ {N : Nat} {args : Array Value} {d : Cmd}, (Calls Tryz.prog N args w fun e w' => e = .returned (.tuple #[]) /\ IsM w' cb B d kv mv /\ Below B w w') -> Calls Tryz.prog N args w fun e w' => e = .returned (.tuple #[]) /\ (∃ kv' mv', IsM w' cb B d kv' mv') /\ Below B w w' :=
    fun hc => hc.mono fun e w' ⟨h1, h2, h3⟩ => ⟨h1, ⟨_, _, h2⟩, h3⟩
  simp only [Lts, List.mem_cons, List.not_mem_nil, or_false] at ha
  rcases ha with rfl | rfl | rfl | rfl | rfl | rfl | rfl | rfl | rfl | rfl | rfl
  . simp +decide only [take1, true_or, or_true, false_or, or_false, if_true, if_false] at ht
    split at ht
    . rename_i hc
      injection ht with ht
      subst ht
      exact (take_K h hE x hx hc.1 hc.2 hn1).mono fun e w' ⟨h1, ⟨kv', h2⟩, h3⟩ => ⟨h1, ⟨_, _, h2⟩, h3⟩
    . cases ht
  . simp +decide only [take1, true_or, or_true, false_or, or_false, if_true, if_false] at ht
    split at ht
    . rename_i n hc; injection ht with ht; subst ht; exact lift (take_F h hE x hx n hc)
    . cases ht
  . simp +decide only [take1, true_or, or_true, false_or, or_false, if_true, if_false] at ht
    split at ht
    . rename_i n hc; injection ht with ht; subst ht; exact lift (take_T h hE x hx n hc)
    . cases ht
  . simp +decide only [take1, true_or, or_true, false_or, or_false, if_true, if_false] at ht
    split at ht
    . rename_i n hc
      split at ht
      . rename_i hc2; injection ht with ht; subst ht; exact lift (take_L h hE x hx n hc hc2)
      . cases ht
    . cases ht
  . simp +decide only [take1, true_or, or_true, false_or, or_false, if_true, if_false] at ht
    split at ht
    . rename_i n hc; injection ht with ht; subst ht; exact lift (take_N h hE x hx n hc)
    . cases ht
  . simp +decide only [take1, true_or, or_true, false_or, or_false, if_true, if_false] at ht
    split at ht
    . rename_i n hc; injection ht with ht; subst ht; exact lift (take_V h hE x hx n hc)
    . cases ht
  . simp +decide only [take1, true_or, or_true, false_or, or_false, if_true, if_false] at ht
    split at ht
    . rename_i n hc; injection ht with ht; subst ht; exact lift (take_C h hE x hx n hc)
    . cases ht
  . simp +decide only [take1, true_or, or_true, false_or, or_false, if_true, if_false] at ht
    split at ht
    . rename_i n hc; injection ht with ht; subst ht; exact lift (take_D h hE x hx n hc)
    . cases ht
  . simp +decide only [take1, true_or, or_true, false_or, or_false, if_true, if_false] at ht
    split at ht
    . rename_i hc; injection ht with ht; subst ht; exact lift (take_Z h hE x hx hc)
    . cases ht
  . simp +decide only [take1, true_or, or_true, false_or, or_false, if_true, if_false] at ht
    split at ht
    . rename_i hc; injection ht with ht; subst ht; exact lift (take_W h hE x hx hc)
    . cases ht
  . simp +decide only [take1, true_or, or_true, false_or, or_false, if_true, if_false] at ht
    injection ht with ht
    subst ht
    exact (take_M h hE x hx h0 hn2).mono fun e w' ⟨h1, ⟨kv', h2⟩, h3⟩ => ⟨h1, ⟨_, _, h2⟩, h3⟩
theorem take_no {w : World} {cb B : Nat} {c : Cmd} {kv mv : Value} (h : IsM w cb B c kv mv) (hE : Er w) (x : Bs) (hx : x.length <= 1099511627776) (a : UInt8) (ha : a ∈ Lts) (t : Bs) (ht : take1 c a x = .inr t) :
    Calls Tryz.prog 144 #[.pointer (some ⟨cb, 0, none⟩), .int .u8 a.toNat, sv x] w fun e w' => e = up ⟨t.toArray⟩ /\ Below B w w' := by
  simp only [Lts, List.mem_cons, List.not_mem_nil, or_false] at ha
  rcases ha with rfl | rfl | rfl | rfl | rfl | rfl | rfl | rfl | rfl | rfl | rfl
  . simp +decide only [take1, true_or, or_true, false_or, or_false, if_true, if_false] at ht
    split at ht
    . cases ht
    . rename_i hc; injection ht with ht; subst ht; exact take_K_no h hE x hx hc
  . simp +decide only [take1, true_or, or_true, false_or, or_false, if_true, if_false] at ht
    split at ht
    . cases ht
    . rename_i hc; injection ht with ht; subst ht; exact take_F_no h hE x hx hc
  . simp +decide only [take1, true_or, or_true, false_or, or_false, if_true, if_false] at ht
    split at ht
    . cases ht
    . rename_i hc; injection ht with ht; subst ht; exact take_T_no h hE x hx hc
  . simp +decide only [take1, true_or, or_true, false_or, or_false, if_true, if_false] at ht
    split at ht
    . rename_i n hc
      split at ht
      . cases ht
      . rename_i hc2; injection ht with ht; subst ht; exact take_L_low h hE x hx n hc (by omega)
    . rename_i hc; injection ht with ht; subst ht; exact take_L_no h hE x hx hc
  . simp +decide only [take1, true_or, or_true, false_or, or_false, if_true, if_false] at ht
    split at ht
    . cases ht
    . rename_i hc; injection ht with ht; subst ht; exact take_N_no h hE x hx hc
  . simp +decide only [take1, true_or, or_true, false_or, or_false, if_true, if_false] at ht
    split at ht
    . cases ht
    . rename_i hc; injection ht with ht; subst ht; exact take_V_no h hE x hx hc
  . simp +decide only [take1, true_or, or_true, false_or, or_false, if_true, if_false] at ht
    split at ht
    . cases ht
    . rename_i hc; injection ht with ht; subst ht; exact take_C_no h hE x hx hc
  . simp +decide only [take1, true_or, or_true, false_or, or_false, if_true, if_false] at ht
    split at ht
    . cases ht
    . rename_i hc; injection ht with ht; subst ht; exact take_D_no h hE x hx hc
  . simp +decide only [take1, true_or, or_true, false_or, or_false, if_true, if_false] at ht
    split at ht
    . cases ht
    . rename_i hc; injection ht with ht; subst ht; exact take_Z_no h hE x hx hc
  . simp +decide only [take1, true_or, or_true, false_or, or_false, if_true, if_false] at ht
    split at ht
    . cases ht
    . rename_i hc; injection ht with ht; subst ht; exact take_W_no h hE x hx hc
  . simp +decide only [take1, true_or, or_true, false_or, or_false, if_true, if_false] at ht
    cases ht
end Go.Proofs.YtobegepebochkaaGreatDoor
namespace Go.Proofs.YtobegepebochkaaGreatDoor
open Go.RowKit
theorem box11 {w : World} {b t : Nat} {u0 u1 u2 u3 u4 u5 u6 u7 u8 u9 u10 v0 v1 v2 v3 v4 v5 v6 v7 v8 v9 v10 : Value} (h : Box w t b #[u0, u1, u2, u3, u4, u5, u6, u7, u8, u9, u10]) : Box (((((((((((w.setCell ⟨b, 0, none⟩ v0).setCell ⟨b, 1, none⟩ v1).setCell ⟨b, 2, none⟩ v2).setCell ⟨b, 3, none⟩ v3).setCell ⟨b, 4, none⟩ v4).setCell ⟨b, 5, none⟩ v5).setCell ⟨b, 6, none⟩ v6).setCell ⟨b, 7, none⟩ v7).setCell ⟨b, 8, none⟩ v8).setCell ⟨b, 9, none⟩ v9).setCell ⟨b, 10, none⟩ v10) t b #[v0, v1, v2, v3, v4, v5, v6, v7, v8, v9, v10] /\ w.grownBy (((((((((((w.setCell ⟨b, 0, none⟩ v0).setCell ⟨b, 1, none⟩ v1).setCell ⟨b, 2, none⟩ v2).setCell ⟨b, 3, none⟩ v3).setCell ⟨b, 4, none⟩ v4).setCell ⟨b, 5, none⟩ v5).setCell ⟨b, 6, none⟩ v6).setCell ⟨b, 7, none⟩ v7).setCell ⟨b, 8, none⟩ v8).setCell ⟨b, 9, none⟩ v9).setCell ⟨b, 10, none⟩ v10) (some b) := by
  have h0 := h.set 0 v0
  simp only [List.setIfInBounds_toArray, List.set_cons_zero, List.set_cons_succ] at h0
  have h1 := h0.set 1 v1
  simp only [List.setIfInBounds_toArray, List.set_cons_zero, List.set_cons_succ] at h1
  have h2 := h1.set 2 v2
  simp only [List.setIfInBounds_toArray, List.set_cons_zero, List.set_cons_succ] at h2
  have h3 := h2.set 3 v3
  simp only [List.setIfInBounds_toArray, List.set_cons_zero, List.set_cons_succ] at h3
  have h4 := h3.set 4 v4
  simp only [List.setIfInBounds_toArray, List.set_cons_zero, List.set_cons_succ] at h4
  have h5 := h4.set 5 v5
  simp only [List.setIfInBounds_toArray, List.set_cons_zero, List.set_cons_succ] at h5
  have h6 := h5.set 6 v6
  simp only [List.setIfInBounds_toArray, List.set_cons_zero, List.set_cons_succ] at h6
  have h7 := h6.set 7 v7
  simp only [List.setIfInBounds_toArray, List.set_cons_zero, List.set_cons_succ] at h7
  have h8 := h7.set 8 v8
  simp only [List.setIfInBounds_toArray, List.set_cons_zero, List.set_cons_succ] at h8
  have h9 := h8.set 9 v9
  simp only [List.setIfInBounds_toArray, List.set_cons_zero, List.set_cons_succ] at h9
  have h10 := h9.set 10 v10
  simp only [List.setIfInBounds_toArray, List.set_cons_zero, List.set_cons_succ] at h10
  exact ⟨h10, (gb_setCell (gb_setCell (gb_setCell (gb_setCell (gb_setCell (gb_setCell (gb_setCell (gb_setCell (gb_setCell (gb_setCell (gb_setCell (gb_refl w (some b)) v0) v1) v2) v3) v4) v5) v6) v7) v8) v9) v10)⟩
theorem load31 {w : World} {b : Nat} {c0 c1 c2 c3 c4 c5 c6 c7 c8 c9 c10 : Value} (h : Box w 41 b #[c0, c1, c2, c3, c4, c5, c6, c7, c8, c9, c10]) (tmps : Array Value) (ht : tmps[4]?.getD undef = .pointer (some ⟨b, 0, none⟩)) : (results Tryz.f103 tmps).run Tryz.prog w = .ok (.agg #[c0, c1, c2, c3, c4, c5, c6, c7, c8, c9, c10]) w := by
  have hr : Tryz.f103.results = #[.cell 4 41] := rfl
  have h0 := h.cell 0
  have h1 := h.cell 1
  have h2 := h.cell 2
  have h3 := h.cell 3
  have h4 := h.cell 4
  have h5 := h.cell 5
  have h6 := h.cell 6
  have h7 := h.cell 7
  have h8 := h.cell 8
  have h9 := h.cell 9
  have h10 := h.cell 10
  simp at h0 h1 h2 h3 h4 h5 h6 h7 h8 h9 h10
  unfold results
  simp [hr, ht, go_sem, h0, h1, h2, h3, h4, h5, h6, h7, h8, h9, h10]
end Go.Proofs.YtobegepebochkaaGreatDoor
