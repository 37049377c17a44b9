import Derived.Test.YtbbocbdoiealoaaGreatDoorRE
set_option linter.unusedVariables false
set_option linter.unusedSimpArgs false
namespace Go.Proofs.YtbbocbdoiealoaaGreatDoor
open Go.RowKit
def fcs (l : List Fl) : List Value := l.flatMap fun f => [.int .u8 f.letter.toNat, sv f.arg, .bool f.has]
abbrev cmA (c : Cmd) (kv mv : Value) : Array Value := #[.int .i64 c.verb, kv, .int .u64 c.flags, .int .i64 c.exp, .int .u64 c.tok, .int .u64 c.del, .slice none 0 0, .bool c.nr, .bool false, mv, sv c.what]
structure IsM (w : World) (cb B : Nat) (c : Cmd) (kv mv : Value) : Prop where
  box : Box w 41 cb (cmA c kv mv)
  ge : B ≤ cb
  kr : w.ownsRow B 9 1 kv c.keys.length (c.keys.map sv)
  mr : w.ownsRow B 79 3 mv c.mt.length (fcs c.mt)
theorem IsM.lt {w : World} {cb B : Nat} {c : Cmd} {kv mv : Value} (h : IsM w cb B c kv mv) : B < w.heap.size := Nat.lt_of_le_of_lt h.ge h.box.lt
theorem IsM.kept {w w' : World} {cb B : Nat} {c : Cmd} {kv mv : Value} (h : IsM w cb B c kv mv) (hf : w.grownBy w' none) : IsM w' cb B c kv mv :=
  ⟨h.box.kept hf (by simp), h.ge, row_kept h.kr hf (by simp), row_kept h.mr hf (by simp)⟩
theorem row_box {w : World} {B e s t b n : Nat} {v : Value} {xs : List Value} {vs : Array Value} (h : w.ownsRow B e s v n xs) (hb : Box w t b vs) (hte : e ≠ t) : ∀ k, v.ownBlock = some k → some k ≠ some b := by
  intro k hk e'
  injection e' with e'
  subst e'
  obtain ⟨cur, hc⟩ := row_block h k hk
  exact absurd (hc.symm.trans hb) (by simp [hte])
theorem row_row {w : World} {B e s n B' e' s' n' : Nat} {v v' : Value} {xs xs' : List Value} (h : w.ownsRow B e s v n xs) (h' : w.ownsRow B' e' s' v' n' xs') (hte : e ≠ e') : ∀ k, v.ownBlock = some k → some k ≠ v'.ownBlock := by
  intro k hk e2
  obtain ⟨cur, hc⟩ := row_block h k hk
  obtain ⟨cur', hc'⟩ := row_block h' k e2.symm
  exact absurd (hc.symm.trans hc') (by simp [hte])
theorem IsM.set {w : World} {cb B : Nat} {c d : Cmd} {kv mv : Value} (h : IsM w cb B c kv mv) (i : Nat) (v : Value) (e : (cmA c kv mv).setIfInBounds i v = cmA d kv mv) (hk : d.keys = c.keys) (hm : d.mt = c.mt) : IsM (w.setCell ⟨cb, i, none⟩ v) cb B d kv mv := by
  have hf : w.grownBy (w.setCell ⟨cb, i, none⟩ v) (some cb) := gb_setCell (gb_refl _ _) _
  refine ⟨e ▸ h.box.set i v, h.ge, ?_, ?_⟩
  · rw [hk]; exact row_kept h.kr hf (row_box h.kr h.box (by omega))
  · rw [hm]; exact row_kept h.mr hf (row_box h.mr h.box (by omega))
theorem IsM.key {w W : World} {cb B g cap : Nat} {c : Cmd} {kv mv : Value} (h : IsM w cb B c kv mv) (x : Bs) (h1 : W.ownsRow B 9 1 (.slice (some ⟨g, 0, none⟩) (c.keys.length + 1) cap) (c.keys.length + 1) (c.keys.map sv ++ [sv x])) (hg : w.grownBy W kv.ownBlock) :
    IsM (W.setCell ⟨cb, 1, none⟩ (.slice (some ⟨g, 0, none⟩) (c.keys.length + 1) cap)) cb B { c with keys := c.keys ++ [x] } (.slice (some ⟨g, 0, none⟩) (c.keys.length + 1) cap) mv ∧ Below B w (W.setCell ⟨cb, 1, none⟩ (.slice (some ⟨g, 0, none⟩) (c.keys.length + 1) cap)) := by
  have hne : some cb ≠ kv.ownBlock := fun e => row_box h.kr h.box (by omega) cb e.symm rfl
  have hb := h.box.kept hg hne
  have hm := row_kept h.mr hg (row_row h.mr h.kr (by omega))
  have hf : W.grownBy (W.setCell ⟨cb, 1, none⟩ (.slice (some ⟨g, 0, none⟩) (c.keys.length + 1) cap)) (some cb) := gb_setCell (gb_refl _ _) _
  refine ⟨⟨?_, h.ge, ?_, row_kept hm hf (row_box hm hb (by omega))⟩, ?_⟩
  · have := hb.set 1 (.slice (some ⟨g, 0, none⟩) (c.keys.length + 1) cap)
    exact this
  · have := row_kept h1 hf (row_box h1 hb (by omega))
    simpa using this
  · have hB := h.lt
    refine Below.trans (b := W) ⟨hg.os, hg.tape, hg.output, hg.size, fun k hk => hg.block k (by omega) (fun e => ?_)⟩ ((Below.refl B W).setCell (p := ⟨cb, 1, none⟩) h.ge _)
    have := (World.ownsRow.lt h.kr k e.symm).1
    omega
theorem IsM.flag {w W : World} {cb B g cap : Nat} {c : Cmd} {kv mv : Value} (h : IsM w cb B c kv mv) (f : Fl) (h1 : W.ownsRow B 79 3 (.slice (some ⟨g, 0, none⟩) (c.mt.length + 1) cap) (c.mt.length + 1) (fcs c.mt ++ [.int .u8 f.letter.toNat, sv f.arg, .bool f.has])) (hg : w.grownBy W mv.ownBlock) :
    IsM (W.setCell ⟨cb, 9, none⟩ (.slice (some ⟨g, 0, none⟩) (c.mt.length + 1) cap)) cb B { c with mt := c.mt ++ [f] } kv (.slice (some ⟨g, 0, none⟩) (c.mt.length + 1) cap) ∧ Below B w (W.setCell ⟨cb, 9, none⟩ (.slice (some ⟨g, 0, none⟩) (c.mt.length + 1) cap)) := by
  have hne : some cb ≠ mv.ownBlock := fun e => row_box h.mr h.box (by omega) cb e.symm rfl
  have hb := h.box.kept hg hne
  have hm := row_kept h.kr hg (row_row h.kr h.mr (by omega))
  have hf : W.grownBy (W.setCell ⟨cb, 9, none⟩ (.slice (some ⟨g, 0, none⟩) (c.mt.length + 1) cap)) (some cb) := gb_setCell (gb_refl _ _) _
  refine ⟨⟨?_, h.ge, row_kept hm hf (row_box hm hb (by omega)), ?_⟩, ?_⟩
  · have := hb.set 9 (.slice (some ⟨g, 0, none⟩) (c.mt.length + 1) cap)
    exact this
  · have := row_kept h1 hf (row_box h1 hb (by omega))
    simpa [fcs] using this
  · have hB := h.lt
    refine Below.trans (b := W) ⟨hg.os, hg.tape, hg.output, hg.size, fun k hk => hg.block k (by omega) (fun e => ?_)⟩ ((Below.refl B W).setCell (p := ⟨cb, 9, none⟩) h.ge _)
    have := (World.ownsRow.lt h.mr k e.symm).1
    omega
theorem below_grown {w w' : World} {B : Nat} (h : w.grownBy w' none) (hB : B ≤ w.heap.size) : Below B w w' := ⟨h.os, h.tape, h.output, h.size, fun k hk => h.block k (by omega) (by simp)⟩
theorem below_set {w : World} {B cb i : Nat} {v : Value} (hB : B ≤ cb) : Below B w (w.setCell ⟨cb, i, none⟩ v) := (Below.refl B w).setCell (p := ⟨cb, i, none⟩) hB v
theorem Tryz.info9 : (Tryz.prog.info? 9).map (fun i => (i.zero, i.size, i.bytes)) = some (some (.string ⟨#[]⟩), 1, 16) := by kernel_rfl
theorem Tryz.info79 : (Tryz.prog.info? 79).map (fun i => (i.zero, i.size, i.bytes)) = some (some (.agg #[.int .u8 0, .string ⟨#[]⟩, .bool false]), 3, 32) := by kernel_rfl
section
variable {w : World} {ops : Array Oper} {rest : List Oper} {o : Oper} {a : Act} {Q : Exit → Act → World → Prop}
theorem push9 (hgd : o.guard = none) (s x : Operand) (ho : o.op = .call { callee := .builtin .append, args := #[s, x], argTypes := #[36, 36] })
    (B : Nat) (v : Value) (n : Nat) (xs : List Value) (hs : a.eval s = v) (hown : w.ownsRow B 9 1 v n xs) (u : ByteArray) (hx : a.eval x = .slice (some ⟨w.heap.size, 0, none⟩) 1 1) (hn : n ≤ 100000000000) (hB : B ≤ w.heap.size)
    (h : ∀ g cap w', w'.ownsRow B 9 1 (.slice (some ⟨g, 0, none⟩) (n + 1) cap) (n + 1) (xs ++ [.string u]) → w.grownBy w' v.ownBlock → (v.ownBlock = some g ∨ w.heap.size ≤ g) → wpList Tryz.prog ops Q rest (a.put o.dst (.slice (some ⟨g, 0, none⟩) (n + 1) cap)) w') : wpList Tryz.prog ops Q (o :: rest) a (w.alloc (.cells #[.string u] 9)) := by
  obtain ⟨i0, hi, hz0, hz1, hz2⟩ := info_parts Tryz.info9
  exact wpList_pushN hgd s x 36 ho 9 i0 _ 1 16 Tryz.underlying36 hi hz0 hz1 hz2 rfl (by omega) (by omega) B v n xs hs hown [.string u] rfl (by simp [Value.oneCell']) hx hn hB h
end
set_option maxRecDepth 100000 in
set_option maxHeartbeats 4000000 in
theorem take_F {w : World} {cb B : Nat} {c : Cmd} {kv mv : Value} (h : IsM w cb B c kv mv) (hE : Er w) (x : Bs) (hx : x.length ≤ 1099511627776) (n : Nat) (hn : nb 4294967295 x = some n) :
    Calls Tryz.prog 149 #[.pointer (some ⟨cb, 0, none⟩), .int .u8 70, sv x] w fun e w' => e = .returned (.tuple #[]) ∧ IsM w' cb B { c with flags := n } kv mv ∧ Below B w w' := by
  have hc := wanted_yes x hx 4294967295 4294967295 rfl (by omega) ⟨badLine.toArray⟩ n hn w hE
  clear hn
  go_enter Tryz.func149, Tryz.ntmps149
  go_wp2_with (go_at_call 166; with_reducible refine hc.mono ?_; rintro e w' ⟨rfl, hg⟩; (have h2 := h.kept hg); (have hz := h2.box.fz 2); (have hz2 := h2.box.cell 2))
  go_end0
  exact ⟨rfl, h2.set 2 _ rfl rfl rfl, (below_grown hg (Nat.le_of_lt h.lt)).trans (below_set h.ge)⟩
set_option maxRecDepth 100000 in
set_option maxHeartbeats 4000000 in
theorem take_F_no {w : World} {cb B : Nat} {c : Cmd} {kv mv : Value} (h : IsM w cb B c kv mv) (hE : Er w) (x : Bs) (hx : x.length ≤ 1099511627776) (hn : nb 4294967295 x = none) :
    Calls Tryz.prog 149 #[.pointer (some ⟨cb, 0, none⟩), .int .u8 70, sv x] w fun e w' => e = up ⟨badLine.toArray⟩ ∧ Below B w w' := by
  have hc := wanted_no x hx 4294967295 4294967295 rfl (by omega) ⟨badLine.toArray⟩ hn w hE
  clear hn
  go_enter Tryz.func149, Tryz.ntmps149
  go_wp2_with (go_at_call 166; with_reducible refine hc.mono ?_; rintro e w' ⟨rfl, hg⟩)
  exact ⟨rfl, rfl, below_grown hg (Nat.le_of_lt h.lt)⟩
set_option maxRecDepth 100000 in
set_option maxHeartbeats 4000000 in
theorem take_C {w : World} {cb B : Nat} {c : Cmd} {kv mv : Value} (h : IsM w cb B c kv mv) (hE : Er w) (x : Bs) (hx : x.length ≤ 1099511627776) (n : Nat) (hn : nb 18446744073709551615 x = some n) :
    Calls Tryz.prog 149 #[.pointer (some ⟨cb, 0, none⟩), .int .u8 67, sv x] w fun e w' => e = .returned (.tuple #[]) ∧ IsM w' cb B { c with tok := n } kv mv ∧ Below B w w' := by
  have hc := wanted_yes x hx 18446744073709551615 18446744073709551615 rfl (by omega) ⟨badLine.toArray⟩ n hn w hE
  clear hn
  go_enter Tryz.func149, Tryz.ntmps149
  go_wp2_with (go_at_call 166; with_reducible refine hc.mono ?_; rintro e w' ⟨rfl, hg⟩; (have h2 := h.kept hg); (have hz := h2.box.fz 4); (have hz2 := h2.box.cell 4))
  go_end0
  exact ⟨rfl, h2.set 4 _ rfl rfl rfl, (below_grown hg (Nat.le_of_lt h.lt)).trans (below_set h.ge)⟩
set_option maxRecDepth 100000 in
set_option maxHeartbeats 4000000 in
theorem take_C_no {w : World} {cb B : Nat} {c : Cmd} {kv mv : Value} (h : IsM w cb B c kv mv) (hE : Er w) (x : Bs) (hx : x.length ≤ 1099511627776) (hn : nb 18446744073709551615 x = none) :
    Calls Tryz.prog 149 #[.pointer (some ⟨cb, 0, none⟩), .int .u8 67, sv x] w fun e w' => e = up ⟨badLine.toArray⟩ ∧ Below B w w' := by
  have hc := wanted_no x hx 18446744073709551615 18446744073709551615 rfl (by omega) ⟨badLine.toArray⟩ hn w hE
  clear hn
  go_enter Tryz.func149, Tryz.ntmps149
  go_wp2_with (go_at_call 166; with_reducible refine hc.mono ?_; rintro e w' ⟨rfl, hg⟩)
  exact ⟨rfl, rfl, below_grown hg (Nat.le_of_lt h.lt)⟩
set_option maxRecDepth 100000 in
set_option maxHeartbeats 4000000 in
theorem take_D {w : World} {cb B : Nat} {c : Cmd} {kv mv : Value} (h : IsM w cb B c kv mv) (hE : Er w) (x : Bs) (hx : x.length ≤ 1099511627776) (n : Nat) (hn : nb 18446744073709551615 x = some n) :
    Calls Tryz.prog 149 #[.pointer (some ⟨cb, 0, none⟩), .int .u8 68, sv x] w fun e w' => e = .returned (.tuple #[]) ∧ IsM w' cb B { c with del := n } kv mv ∧ Below B w w' := by
  have hc := wanted_yes x hx 18446744073709551615 18446744073709551615 rfl (by omega) ⟨badDelta.toArray⟩ n hn w hE
  clear hn
  go_enter Tryz.func149, Tryz.ntmps149
  go_wp2_with (go_at_call 166; with_reducible refine hc.mono ?_; rintro e w' ⟨rfl, hg⟩; (have h2 := h.kept hg); (have hz := h2.box.fz 5); (have hz2 := h2.box.cell 5))
  go_end0
  exact ⟨rfl, h2.set 5 _ rfl rfl rfl, (below_grown hg (Nat.le_of_lt h.lt)).trans (below_set h.ge)⟩
set_option maxRecDepth 100000 in
set_option maxHeartbeats 4000000 in
theorem take_D_no {w : World} {cb B : Nat} {c : Cmd} {kv mv : Value} (h : IsM w cb B c kv mv) (hE : Er w) (x : Bs) (hx : x.length ≤ 1099511627776) (hn : nb 18446744073709551615 x = none) :
    Calls Tryz.prog 149 #[.pointer (some ⟨cb, 0, none⟩), .int .u8 68, sv x] w fun e w' => e = up ⟨badDelta.toArray⟩ ∧ Below B w w' := by
  have hc := wanted_no x hx 18446744073709551615 18446744073709551615 rfl (by omega) ⟨badDelta.toArray⟩ hn w hE
  clear hn
  go_enter Tryz.func149, Tryz.ntmps149
  go_wp2_with (go_at_call 166; with_reducible refine hc.mono ?_; rintro e w' ⟨rfl, hg⟩)
  exact ⟨rfl, rfl, below_grown hg (Nat.le_of_lt h.lt)⟩
set_option maxRecDepth 100000 in
set_option maxHeartbeats 4000000 in
theorem take_N {w : World} {cb B : Nat} {c : Cmd} {kv mv : Value} (h : IsM w cb B c kv mv) (hE : Er w) (x : Bs) (hx : x.length ≤ 1099511627776) (n : Nat) (hn : nb 2147483647 x = some n) :
    Calls Tryz.prog 149 #[.pointer (some ⟨cb, 0, none⟩), .int .u8 78, sv x] w fun e w' => e = .returned (.tuple #[]) ∧ IsM w' cb B c kv mv ∧ Below B w w' := by
  have hc := wanted_yes x hx 2147483647 2147483647 rfl (by omega) ⟨badLine.toArray⟩ n hn w hE
  clear hn
  go_enter Tryz.func149, Tryz.ntmps149
  go_wp2_with (go_at_call 166; with_reducible refine hc.mono ?_; rintro e w' ⟨rfl, hg⟩)
  go_end0
  exact ⟨rfl, h.kept hg, below_grown hg (Nat.le_of_lt h.lt)⟩
set_option maxRecDepth 100000 in
set_option maxHeartbeats 4000000 in
theorem take_N_no {w : World} {cb B : Nat} {c : Cmd} {kv mv : Value} (h : IsM w cb B c kv mv) (hE : Er w) (x : Bs) (hx : x.length ≤ 1099511627776) (hn : nb 2147483647 x = none) :
    Calls Tryz.prog 149 #[.pointer (some ⟨cb, 0, none⟩), .int .u8 78, sv x] w fun e w' => e = up ⟨badLine.toArray⟩ ∧ Below B w w' := by
  have hc := wanted_no x hx 2147483647 2147483647 rfl (by omega) ⟨badLine.toArray⟩ hn w hE
  clear hn
  go_enter Tryz.func149, Tryz.ntmps149
  go_wp2_with (go_at_call 166; with_reducible refine hc.mono ?_; rintro e w' ⟨rfl, hg⟩)
  exact ⟨rfl, rfl, below_grown hg (Nat.le_of_lt h.lt)⟩
set_option maxRecDepth 100000 in
set_option maxHeartbeats 4000000 in
theorem take_V {w : World} {cb B : Nat} {c : Cmd} {kv mv : Value} (h : IsM w cb B c kv mv) (hE : Er w) (x : Bs) (hx : x.length ≤ 1099511627776) (n : Nat) (hn : nb 2147483647 x = some n) :
    Calls Tryz.prog 149 #[.pointer (some ⟨cb, 0, none⟩), .int .u8 86, sv x] w fun e w' => e = .returned (.tuple #[]) ∧ IsM w' cb B c kv mv ∧ Below B w w' := by
  have hc := wanted_yes x hx 2147483647 2147483647 rfl (by omega) ⟨badLine.toArray⟩ n hn w hE
  clear hn
  go_enter Tryz.func149, Tryz.ntmps149
  go_wp2_with (go_at_call 166; with_reducible refine hc.mono ?_; rintro e w' ⟨rfl, hg⟩)
  go_end0
  exact ⟨rfl, h.kept hg, below_grown hg (Nat.le_of_lt h.lt)⟩
set_option maxRecDepth 100000 in
set_option maxHeartbeats 4000000 in
theorem take_V_no {w : World} {cb B : Nat} {c : Cmd} {kv mv : Value} (h : IsM w cb B c kv mv) (hE : Er w) (x : Bs) (hx : x.length ≤ 1099511627776) (hn : nb 2147483647 x = none) :
    Calls Tryz.prog 149 #[.pointer (some ⟨cb, 0, none⟩), .int .u8 86, sv x] w fun e w' => e = up ⟨badLine.toArray⟩ ∧ Below B w w' := by
  have hc := wanted_no x hx 2147483647 2147483647 rfl (by omega) ⟨badLine.toArray⟩ hn w hE
  clear hn
  go_enter Tryz.func149, Tryz.ntmps149
  go_wp2_with (go_at_call 166; with_reducible refine hc.mono ?_; rintro e w' ⟨rfl, hg⟩)
  exact ⟨rfl, rfl, below_grown hg (Nat.le_of_lt h.lt)⟩
set_option maxRecDepth 100000 in
set_option maxHeartbeats 4000000 in
theorem take_K {w : World} {cb B : Nat} {c : Cmd} {kv mv : Value} (h : IsM w cb B c kv mv) (hE : Er w) (x : Bs) (hx : x.length ≤ 1099511627776) (hx2 : x.length ≤ 250) (hp : plain x = true) (hn : c.keys.length ≤ 1000000000) :
    Calls Tryz.prog 149 #[.pointer (some ⟨cb, 0, none⟩), .int .u8 75, sv x] w fun e w' => e = .returned (.tuple #[]) ∧ (∃ kv', IsM w' cb B { c with keys := c.keys ++ [x] } kv' mv) ∧ Below B w w' := by
  have hc := fun W => isPlain_44 x (by omega) W
  rw [hp] at hc
  have c1 : w.cell? ⟨cb, 1, none⟩ = some kv := h.box.cell 1
  obtain ⟨ao, cp, rfl, -, -, -, -⟩ := row_shape h.kr
  have hx3 : ((x.length : Int) ≤ 250) := by omega
  clear hE hp
  go_enter Tryz.func149, Tryz.ntmps149
  go_wp2_with (first | (go_at_call 136; with_reducible refine (hc _).mono ?_; rintro e w' ⟨rfl, rfl⟩) | (go_at_call 165; with_reducible refine (ask_yes _ _).mono ?_; rintro e w' ⟨rfl, rfl⟩) | (at_builtin; go_must (refine push9 rfl _ _ rfl B _ c.keys.length _ (by rfl) h.kr ⟨x.toArray⟩ (by rfl) (by omega) (Nat.le_of_lt h.lt) ?_); intro g cap W h1 hg hgg; (have h2 := IsM.key h x h1 hg); (have hz := (h.box.kept hg (fun e => row_box h.kr h.box (by omega) cb e.symm rfl)).fz 1); (have hz1 := (h.box.kept hg (fun e => row_box h.kr h.box (by omega) cb e.symm rfl)).cell 1)))
  go_end0
  exact ⟨rfl, ⟨_, h2.1⟩, h2.2⟩
set_option maxRecDepth 100000 in
set_option maxHeartbeats 4000000 in
theorem take_K_no {w : World} {cb B : Nat} {c : Cmd} {kv mv : Value} (h : IsM w cb B c kv mv) (hE : Er w) (x : Bs) (hx : x.length ≤ 1099511627776) (hn : ¬ (x.length ≤ 250 ∧ plain x = true)) :
    Calls Tryz.prog 149 #[.pointer (some ⟨cb, 0, none⟩), .int .u8 75, sv x] w fun e w' => e = up ⟨badLine.toArray⟩ ∧ Below B w w' := by
  have hc := fun W => isPlain_44 x (by omega) W
  have hB := Nat.le_of_lt h.lt
  clear h hE
  by_cases hx3 : ((x.length : Int) ≤ 250)
  · have hp : plain x = false := by
      cases hp : plain x with
      | false => rfl
      | true => exact absurd ⟨by omega, hp⟩ hn
    rw [hp] at hc
    clear hn hp
    go_enter Tryz.func149, Tryz.ntmps149
    go_wp2_with (first | (go_at_call 136; with_reducible refine (hc _).mono ?_; rintro e w' ⟨rfl, rfl⟩) | (go_at_call 165; with_reducible refine (ask_no _ _).mono ?_; rintro e w' ⟨rfl, rfl⟩))
    exact ⟨rfl, rfl, Below.refl _ _⟩
  · clear hn hc
    have hx4 : decide ((x.length : Int) ≤ 250) = false := decide_eq_false hx3
    go_enter Tryz.func149, Tryz.ntmps149
    go_wp2_with (first | (go_at_call 165; with_reducible refine (ask_no _ _).mono ?_; rintro e w' ⟨rfl, rfl⟩))
    exact ⟨rfl, rfl, Below.refl _ _⟩
set_option maxRecDepth 100000 in
set_option maxHeartbeats 4000000 in
theorem take_T {w : World} {cb B : Nat} {c : Cmd} {kv mv : Value} (h : IsM w cb B c kv mv) (hE : Er w) (x : Bs) (hx : x.length ≤ 1099511627776) (t : Int) (hn : tm x = some t) :
    Calls Tryz.prog 149 #[.pointer (some ⟨cb, 0, none⟩), .int .u8 84, sv x] w fun e w' => e = .returned (.tuple #[]) ∧ IsM w' cb B { c with exp := t } kv mv ∧ Below B w w' := by
  have hc := time_46 x hx w hE
  rw [hn] at hc
  clear hn
  go_enter Tryz.func149, Tryz.ntmps149
  go_wp2_with (first | (go_at_call 137; with_reducible refine hc.mono ?_; rintro e w' ⟨rfl, hg⟩; (have h2 := h.kept hg); (have hz := h2.box.fz 3); (have hz2 := h2.box.cell 3)) | (go_at_call 165; with_reducible refine (ask_yes _ _).mono ?_; rintro e w2 ⟨rfl, rfl⟩))
  go_end0
  exact ⟨rfl, h2.set 3 _ rfl rfl rfl, (below_grown hg (Nat.le_of_lt h.lt)).trans (below_set h.ge)⟩
set_option maxRecDepth 100000 in
set_option maxHeartbeats 4000000 in
theorem take_T_no {w : World} {cb B : Nat} {c : Cmd} {kv mv : Value} (h : IsM w cb B c kv mv) (hE : Er w) (x : Bs) (hx : x.length ≤ 1099511627776) (hn : tm x = none) :
    Calls Tryz.prog 149 #[.pointer (some ⟨cb, 0, none⟩), .int .u8 84, sv x] w fun e w' => e = up ⟨badTime.toArray⟩ ∧ Below B w w' := by
  have hc := time_46 x hx w hE
  rw [hn] at hc
  clear hn
  go_enter Tryz.func149, Tryz.ntmps149
  go_wp2_with (first | (go_at_call 137; with_reducible refine hc.mono ?_; rintro e w' ⟨rfl, hg⟩) | (go_at_call 165; with_reducible refine (ask_no _ _).mono ?_; rintro e w2 ⟨rfl, rfl⟩))
  exact ⟨rfl, rfl, below_grown hg (Nat.le_of_lt h.lt)⟩
set_option maxRecDepth 100000 in
set_option maxHeartbeats 4000000 in
theorem take_L {w : World} {cb B : Nat} {c : Cmd} {kv mv : Value} (h : IsM w cb B c kv mv) (hE : Er w) (x : Bs) (hx : x.length ≤ 1099511627776) (t : Int) (hn : tm x = some t) (ht : 0 ≤ t) :
    Calls Tryz.prog 149 #[.pointer (some ⟨cb, 0, none⟩), .int .u8 76, sv x] w fun e w' => e = .returned (.tuple #[]) ∧ IsM w' cb B { c with exp := t } kv mv ∧ Below B w w' := by
  have hc := time_46 x hx w hE
  rw [hn] at hc
  clear hn
  go_enter Tryz.func149, Tryz.ntmps149
  go_wp2_with (first | (go_at_call 137; with_reducible refine hc.mono ?_; rintro e w' ⟨rfl, hg⟩; (have h2 := h.kept hg); (have hz := h2.box.fz 3); (have hz2 := h2.box.cell 3)) | (go_at_call 165; with_reducible refine (ask_yes _ _).mono ?_; rintro e w2 ⟨rfl, rfl⟩))
  go_end0
  exact ⟨rfl, h2.set 3 _ rfl rfl rfl, (below_grown hg (Nat.le_of_lt h.lt)).trans (below_set h.ge)⟩
set_option maxRecDepth 100000 in
set_option maxHeartbeats 4000000 in
theorem take_L_no {w : World} {cb B : Nat} {c : Cmd} {kv mv : Value} (h : IsM w cb B c kv mv) (hE : Er w) (x : Bs) (hx : x.length ≤ 1099511627776) (hn : tm x = none) :
    Calls Tryz.prog 149 #[.pointer (some ⟨cb, 0, none⟩), .int .u8 76, sv x] w fun e w' => e = up ⟨badTime.toArray⟩ ∧ Below B w w' := by
  have hc := time_46 x hx w hE
  rw [hn] at hc
  clear hn
  go_enter Tryz.func149, Tryz.ntmps149
  go_wp2_with (first | (go_at_call 137; with_reducible refine hc.mono ?_; rintro e w' ⟨rfl, hg⟩) | (go_at_call 165; with_reducible refine (ask_no _ _).mono ?_; rintro e w2 ⟨rfl, rfl⟩))
  exact ⟨rfl, rfl, below_grown hg (Nat.le_of_lt h.lt)⟩
set_option maxRecDepth 100000 in
set_option maxHeartbeats 4000000 in
theorem take_L_low {w : World} {cb B : Nat} {c : Cmd} {kv mv : Value} (h : IsM w cb B c kv mv) (hE : Er w) (x : Bs) (hx : x.length ≤ 1099511627776) (t : Int) (hn : tm x = some t) (ht : t < 0) :
    Calls Tryz.prog 149 #[.pointer (some ⟨cb, 0, none⟩), .int .u8 76, sv x] w fun e w' => e = up ⟨badTime.toArray⟩ ∧ Below B w w' := by
  have hc := time_46 x hx w hE
  rw [hn] at hc
  have ht2 : decide (0 ≤ t) = false := decide_eq_false (by omega)
  clear hn
  go_enter Tryz.func149, Tryz.ntmps149
  go_wp2_with (first | (go_at_call 137; with_reducible refine hc.mono ?_; rintro e w' ⟨rfl, hg⟩) | (go_at_call 165; with_reducible refine (ask_no _ _).mono ?_; rintro e w2 ⟨rfl, rfl⟩))
  exact ⟨rfl, rfl, below_grown hg (Nat.le_of_lt h.lt)⟩
end Go.Proofs.YtbbocbdoiealoaaGreatDoor
