import Derived.Test.YtbbocbdoiealoaaGreatDoorRMc
import Derived.Test.YtbbocbdoiealoaaGreatDoorRSb
set_option linter.unusedVariables false
set_option linter.unusedSimpArgs false
namespace Go.Proofs.YtbbocbdoiealoaaGreatDoor
open Go.RowKit Go.Shelf Go.Maps
theorem step_none9 {w : World} {ops : Array Oper} {o : Oper} {a : Act} {K : Act → World → Prop} {Q : Exit → Act → World → Prop} {E : Prop} (hgd : o.guard = none) (s x : Operand)
    (ho : o.op = .call { callee := .builtin .append, args := #[s, x], argTypes := #[36, 36] }) (B : Nat) (v : Value) (n : Nat) (xs : List Value) (hs : a.eval s = v) (hown : w.ownsRow B 9 1 v n xs) (ua : Option Addr) (uc : Nat) (hx : a.eval x = .slice ua 0 uc) (h : K (a.put o.dst v) w) :
    if Region.wanted o (yielded ops a.tmps) = true then Oper.wp Tryz.prog o a w K Q else E := by
  have hw : Region.wanted o (yielded ops a.tmps) = true := by simp [Region.wanted, hgd]
  rw [if_pos hw]
  obtain ⟨i0, hi, hz0, hz1, hz2⟩ := info_parts Tryz.info9
  have hrun : (Builtin.append_ #[36, 36] o.type #[v, .slice ua 0 uc]).run Tryz.prog w = .ok v w := by
    rcases hown.2 with ⟨rfl, rfl⟩ | ⟨g, cap, cur, rfl, _, _, hnc, _⟩
    · cases ua with
      | none => simp [Builtin.append_, run_underlying Tryz.underlying36, sizeOf, typeInfo, hi, hz1, Builtin.lenOf, Builtin.firstCells, loadCells, loadCellsFrom]
      | some ad =>
        have hf := run_firstCells_some (P := Tryz.prog) w 1 0 ad 0 uc [] (by simp) (fun j u hu => by simp at hu)
        simp [Builtin.append_, run_underlying Tryz.underlying36, sizeOf, typeInfo, hi, hz1, Builtin.lenOf, hf]
    · cases ua with
      | none => simp [Builtin.append_, run_underlying Tryz.underlying36, sizeOf, typeInfo, hi, hz1, Builtin.lenOf, Builtin.firstCells, loadCells, loadCellsFrom, hnc, storeCells]
      | some ad =>
        have hf := run_firstCells_some (P := Tryz.prog) w 1 0 ad 0 uc [] (by simp) (fun j u hu => by simp at hu)
        simp [Builtin.append_, run_underlying Tryz.underlying36, sizeOf, typeInfo, hi, hz1, Builtin.lenOf, hf, hnc, storeCells]
  unfold Oper.wp
  simp [execOp, ho, resolve, invoke, builtin, hs, hx, hrun, Result.andThen]
  exact h
set_option maxRecDepth 100000 in
set_option maxHeartbeats 8000000 in
theorem sp_r8 {w0 : World} {cb rb : Nat} {c : Cmd} {ka da ma ra : Option Addr} {kn kc dn dc mn mc m rc B k : Nat} {lg b4 b5 : Bool} {vb : Value} {st1 st2 : Bs} {a : UInt8} {ws us : List Bs} {ps : String} {Q : Exit → Act → World → Prop} {x0 x1 x2 x4 x5 x6 x8 x11 x12 x13 x14 x15 x16 x17 x18 x19 x20 x21 x22 x23 x24 x25 x26 x27 x28 x29 x30 x31 x32 x33 x34 x35 x36 x37 x38 x39 x40 x41 x42 x43 x44 x45 x46 x47 x48 x49 x50 x51 x52 x53 x54 x55 x56 x57 x58 x59 x60 : Value}
    (hcb : Box w0 41 cb (cmB c (.slice ka kn kc) (.slice da dn dc) (.slice ma mn mc) lg)) (hrb : Box w0 151 rb #[vb, sv st1, sv st2, .bool b4, .bool b5]) (hst : st1[k]? = some a) (row : w0.ownsRow B 9 1 (.slice ra m rc) m (ws.map sv)) (hBc : cb < B) (hBr : rb < B) (hB : B ≤ w0.heap.size) (hm : m + us.length ≤ 1000000000)
    (hcl : ∀ W, w0.grownBy W none → Calls Tryz.prog 130 #[.agg (cmB c (.slice ka kn kc) (.slice da dn dc) (.slice ma mn mc) lg), .int .u8 a.toNat] W fun e w' => ∃ v, e = .returned v ∧ Ws w' v us ∧ W.grownBy w' none)
    (hK : ∀ (u30 u31 u32 u33 u34 u35 u36 u37 v' : Value) (W : World), W.ownsRow B 9 1 v' (m + us.length) ((ws ++ us).map sv) → w0.grownBy W (Value.slice ra m rc).ownBlock → Q .normal ⟨List.toArray (x0 :: x1 :: x2 :: Value.pointer (some ⟨cb, 0, none⟩) :: x4 :: x5 :: x6 :: Value.pointer (some ⟨rb, 0, none⟩) :: x8 :: v' :: Value.int .i64 (k : Int) :: x11 :: x12 :: x13 :: x14 :: x15 :: x16 :: x17 :: x18 :: x19 :: x20 :: x21 :: x22 :: x23 :: x24 :: x25 :: x26 :: x27 :: x28 :: x29 :: u30 :: u31 :: u32 :: u33 :: u34 :: u35 :: u36 :: u37 :: x38 :: x39 :: x40 :: x41 :: x42 :: x43 :: x44 :: x45 :: x46 :: x47 :: x48 :: x49 :: x50 :: x51 :: x52 :: x53 :: x54 :: x55 :: x56 :: x57 :: x58 :: x59 :: x60 :: []), []⟩ W) :
    (Code.region 8 #[{ dst := some 30, op := Op.move (Operand.tmp 9), type := 36, pos := ps, after := #[], guard := none }, { dst := some 31, op := Op.load 41 (Operand.tmp 3), type := 41, pos := ps, after := #[], guard := none }, { dst := some 32, op := Op.fieldAddr 151 (Operand.tmp 7) 1, type := 0, pos := ps, after := #[], guard := none }, { dst := some 33, op := Op.load 9 (Operand.tmp 32), type := 9, pos := ps, after := #[{ on := 2, ground := Ground.data }], guard := none }, { dst := some 34, op := Op.move (Operand.tmp 10), type := 3, pos := ps, after := #[], guard := none }, { dst := some 35, op := Op.index 9 (Operand.tmp 33) (Operand.tmp 34), type := 5, pos := ps, after := #[{ on := 3, ground := Ground.data }, { on := 4, ground := Ground.data }], guard := none }, { dst := some 36, op := Op.call { callee := Callee.value (Operand.func 130), args := #[Operand.tmp 31, Operand.tmp 35], argTypes := #[41, 5] }, type := 36, pos := ps, after := #[{ on := 1, ground := Ground.data }, { on := 5, ground := Ground.data }], guard := none }, { dst := some 37, op := Op.call { callee := Callee.builtin Builtin.append, args := #[Operand.tmp 30, Operand.tmp 36], argTypes := #[36, 36] }, type := 36, pos := ps, after := #[{ on := 0, ground := Ground.data }, { on := 6, ground := Ground.data }, { on := 6, ground := Ground.chain }], guard := none }, { dst := some 9, op := Op.assign (Operand.tmp 37), type := 36, pos := ps, after := #[{ on := 7, ground := Ground.data }, { on := 7, ground := Ground.chain }, { on := 0, ground := Ground.phase }, { on := 1, ground := Ground.phase }, { on := 2, ground := Ground.phase }, { on := 3, ground := Ground.phase }, { on := 4, ground := Ground.phase }, { on := 5, ground := Ground.phase }, { on := 6, ground := Ground.phase }, { on := 7, ground := Ground.phase }], guard := none }] true).wp Tryz.prog Q ⟨List.toArray (x0 :: x1 :: x2 :: Value.pointer (some ⟨cb, 0, none⟩) :: x4 :: x5 :: x6 :: Value.pointer (some ⟨rb, 0, none⟩) :: x8 :: Value.slice ra m rc :: Value.int .i64 (k : Int) :: x11 :: x12 :: x13 :: x14 :: x15 :: x16 :: x17 :: x18 :: x19 :: x20 :: x21 :: x22 :: x23 :: x24 :: x25 :: x26 :: x27 :: x28 :: x29 :: x30 :: x31 :: x32 :: x33 :: x34 :: x35 :: x36 :: x37 :: x38 :: x39 :: x40 :: x41 :: x42 :: x43 :: x44 :: x45 :: x46 :: x47 :: x48 :: x49 :: x50 :: x51 :: x52 :: x53 :: x54 :: x55 :: x56 :: x57 :: x58 :: x59 :: x60 :: []), []⟩ w0 := by
  have hlt : k < st1.length := (List.getElem?_eq_some_iff.1 hst).1
  have hgt : ∀ h : k < (ByteArray.mk st1.toArray).size, (ByteArray.mk st1.toArray)[k] = a := fun h => (ba_get st1 k h).trans (by simp [List.getD, hst])
  have gd := gb_drew (gb_refl w0 none)
  have HK := Lib.hid hK
  clear hK
  refine wp_region_noPanic ?_
  refine wp_region_held_drew (S := fun W : World => Box W 41 cb (cmB c (.slice ka kn kc) (.slice da dn dc) (.slice ma mn mc) lg) ∧ Box W 151 rb #[vb, sv st1, sv st2, .bool b4, .bool b5]) (by kernel_rfl) ⟨hcb.kept gd (by simp), hrb.kept gd (by simp)⟩ (fun hS0 => ?_)
  refine wpAnyH_take (i := 0) (oi := { dst := some 30, op := Op.move (Operand.tmp 9), type := 36, pos := _, after := #[], guard := none }) (v := ?_) rfl (by kernel_rfl) (by kernel_rfl) (by kernel_rfl) (fun _ _ _ h => h) (Or.inl ⟨by rfl, ?_⟩) (by first | trivial | assumption) ?_
  rotate_left 1
  · (intro W hSw; obtain ⟨sB, sP⟩ := hSw; have e0 : W.cell? ⟨cb, 0, none⟩ = some (.int .i64 c.verb) := sB.cell 0; have e1 : W.cell? ⟨cb, 1, none⟩ = some (.slice ka kn kc) := sB.cell 1; have e2 : W.cell? ⟨cb, 2, none⟩ = some (.int .u64 c.flags) := sB.cell 2; have e3 : W.cell? ⟨cb, 3, none⟩ = some (.int .i64 c.exp) := sB.cell 3; have e4 : W.cell? ⟨cb, 4, none⟩ = some (.int .u64 c.tok) := sB.cell 4; have e5 : W.cell? ⟨cb, 5, none⟩ = some (.int .u64 c.del) := sB.cell 5; have e6 : W.cell? ⟨cb, 6, none⟩ = some (.slice da dn dc) := sB.cell 6; have e7 : W.cell? ⟨cb, 7, none⟩ = some (.bool c.nr) := sB.cell 7; have e8 : W.cell? ⟨cb, 8, none⟩ = some (.bool lg) := sB.cell 8; have e9 : W.cell? ⟨cb, 9, none⟩ = some (.slice ma mn mc) := sB.cell 9; have e10 : W.cell? ⟨cb, 10, none⟩ = some (sv c.what) := sB.cell 10; have r1 : W.cell? ⟨rb, 1, none⟩ = some (sv st1) := sP.cell 1; go_simp; (try (with_reducible rfl)))
  try simp only [Act.put, List.setIfInBounds_toArray, List.set_cons_zero, List.set_cons_succ]
  refine wpAnyH_take (i := 1) (oi := { dst := some 31, op := Op.load 41 (Operand.tmp 3), type := 41, pos := _, after := #[], guard := none }) (v := ?_) rfl (by kernel_rfl) (by kernel_rfl) (by kernel_rfl) (fun _ _ _ h => h) (Or.inl ⟨by rfl, ?_⟩) (by first | trivial | assumption) ?_
  rotate_left 1
  · (intro W hSw; obtain ⟨sB, sP⟩ := hSw; have e0 : W.cell? ⟨cb, 0, none⟩ = some (.int .i64 c.verb) := sB.cell 0; have e1 : W.cell? ⟨cb, 1, none⟩ = some (.slice ka kn kc) := sB.cell 1; have e2 : W.cell? ⟨cb, 2, none⟩ = some (.int .u64 c.flags) := sB.cell 2; have e3 : W.cell? ⟨cb, 3, none⟩ = some (.int .i64 c.exp) := sB.cell 3; have e4 : W.cell? ⟨cb, 4, none⟩ = some (.int .u64 c.tok) := sB.cell 4; have e5 : W.cell? ⟨cb, 5, none⟩ = some (.int .u64 c.del) := sB.cell 5; have e6 : W.cell? ⟨cb, 6, none⟩ = some (.slice da dn dc) := sB.cell 6; have e7 : W.cell? ⟨cb, 7, none⟩ = some (.bool c.nr) := sB.cell 7; have e8 : W.cell? ⟨cb, 8, none⟩ = some (.bool lg) := sB.cell 8; have e9 : W.cell? ⟨cb, 9, none⟩ = some (.slice ma mn mc) := sB.cell 9; have e10 : W.cell? ⟨cb, 10, none⟩ = some (sv c.what) := sB.cell 10; have r1 : W.cell? ⟨rb, 1, none⟩ = some (sv st1) := sP.cell 1; go_simp; (try (with_reducible rfl)))
  try simp only [Act.put, List.setIfInBounds_toArray, List.set_cons_zero, List.set_cons_succ]
  refine wpAnyH_take (i := 2) (oi := { dst := some 32, op := Op.fieldAddr 151 (Operand.tmp 7) 1, type := 0, pos := _, after := #[], guard := none }) (v := ?_) rfl (by kernel_rfl) (by kernel_rfl) (by kernel_rfl) (fun _ _ _ h => h) (Or.inl ⟨by rfl, ?_⟩) (by first | trivial | assumption) ?_
  rotate_left 1
  · (intro W hSw; obtain ⟨sB, sP⟩ := hSw; have e0 : W.cell? ⟨cb, 0, none⟩ = some (.int .i64 c.verb) := sB.cell 0; have e1 : W.cell? ⟨cb, 1, none⟩ = some (.slice ka kn kc) := sB.cell 1; have e2 : W.cell? ⟨cb, 2, none⟩ = some (.int .u64 c.flags) := sB.cell 2; have e3 : W.cell? ⟨cb, 3, none⟩ = some (.int .i64 c.exp) := sB.cell 3; have e4 : W.cell? ⟨cb, 4, none⟩ = some (.int .u64 c.tok) := sB.cell 4; have e5 : W.cell? ⟨cb, 5, none⟩ = some (.int .u64 c.del) := sB.cell 5; have e6 : W.cell? ⟨cb, 6, none⟩ = some (.slice da dn dc) := sB.cell 6; have e7 : W.cell? ⟨cb, 7, none⟩ = some (.bool c.nr) := sB.cell 7; have e8 : W.cell? ⟨cb, 8, none⟩ = some (.bool lg) := sB.cell 8; have e9 : W.cell? ⟨cb, 9, none⟩ = some (.slice ma mn mc) := sB.cell 9; have e10 : W.cell? ⟨cb, 10, none⟩ = some (sv c.what) := sB.cell 10; have r1 : W.cell? ⟨rb, 1, none⟩ = some (sv st1) := sP.cell 1; go_simp; (try (with_reducible rfl)))
  try simp only [Act.put, List.setIfInBounds_toArray, List.set_cons_zero, List.set_cons_succ]
  refine wpAnyH_take (i := 3) (oi := { dst := some 33, op := Op.load 9 (Operand.tmp 32), type := 9, pos := _, after := #[{ on := 2, ground := Ground.data }], guard := none }) (v := ?_) rfl (by kernel_rfl) (by kernel_rfl) (by kernel_rfl) (fun _ _ _ h => h) (Or.inl ⟨by rfl, ?_⟩) (by first | trivial | assumption) ?_
  rotate_left 1
  · (intro W hSw; obtain ⟨sB, sP⟩ := hSw; have e0 : W.cell? ⟨cb, 0, none⟩ = some (.int .i64 c.verb) := sB.cell 0; have e1 : W.cell? ⟨cb, 1, none⟩ = some (.slice ka kn kc) := sB.cell 1; have e2 : W.cell? ⟨cb, 2, none⟩ = some (.int .u64 c.flags) := sB.cell 2; have e3 : W.cell? ⟨cb, 3, none⟩ = some (.int .i64 c.exp) := sB.cell 3; have e4 : W.cell? ⟨cb, 4, none⟩ = some (.int .u64 c.tok) := sB.cell 4; have e5 : W.cell? ⟨cb, 5, none⟩ = some (.int .u64 c.del) := sB.cell 5; have e6 : W.cell? ⟨cb, 6, none⟩ = some (.slice da dn dc) := sB.cell 6; have e7 : W.cell? ⟨cb, 7, none⟩ = some (.bool c.nr) := sB.cell 7; have e8 : W.cell? ⟨cb, 8, none⟩ = some (.bool lg) := sB.cell 8; have e9 : W.cell? ⟨cb, 9, none⟩ = some (.slice ma mn mc) := sB.cell 9; have e10 : W.cell? ⟨cb, 10, none⟩ = some (sv c.what) := sB.cell 10; have r1 : W.cell? ⟨rb, 1, none⟩ = some (sv st1) := sP.cell 1; go_simp; (try (with_reducible rfl)))
  try simp only [Act.put, List.setIfInBounds_toArray, List.set_cons_zero, List.set_cons_succ]
  refine wpAnyH_take (i := 4) (oi := { dst := some 34, op := Op.move (Operand.tmp 10), type := 3, pos := _, after := #[], guard := none }) (v := ?_) rfl (by kernel_rfl) (by kernel_rfl) (by kernel_rfl) (fun _ _ _ h => h) (Or.inl ⟨by rfl, ?_⟩) (by first | trivial | assumption) ?_
  rotate_left 1
  · (intro W hSw; obtain ⟨sB, sP⟩ := hSw; have e0 : W.cell? ⟨cb, 0, none⟩ = some (.int .i64 c.verb) := sB.cell 0; have e1 : W.cell? ⟨cb, 1, none⟩ = some (.slice ka kn kc) := sB.cell 1; have e2 : W.cell? ⟨cb, 2, none⟩ = some (.int .u64 c.flags) := sB.cell 2; have e3 : W.cell? ⟨cb, 3, none⟩ = some (.int .i64 c.exp) := sB.cell 3; have e4 : W.cell? ⟨cb, 4, none⟩ = some (.int .u64 c.tok) := sB.cell 4; have e5 : W.cell? ⟨cb, 5, none⟩ = some (.int .u64 c.del) := sB.cell 5; have e6 : W.cell? ⟨cb, 6, none⟩ = some (.slice da dn dc) := sB.cell 6; have e7 : W.cell? ⟨cb, 7, none⟩ = some (.bool c.nr) := sB.cell 7; have e8 : W.cell? ⟨cb, 8, none⟩ = some (.bool lg) := sB.cell 8; have e9 : W.cell? ⟨cb, 9, none⟩ = some (.slice ma mn mc) := sB.cell 9; have e10 : W.cell? ⟨cb, 10, none⟩ = some (sv c.what) := sB.cell 10; have r1 : W.cell? ⟨rb, 1, none⟩ = some (sv st1) := sP.cell 1; go_simp; (try (with_reducible rfl)))
  try simp only [Act.put, List.setIfInBounds_toArray, List.set_cons_zero, List.set_cons_succ]
  refine wpAnyH_take (i := 5) (oi := { dst := some 35, op := Op.index 9 (Operand.tmp 33) (Operand.tmp 34), type := 5, pos := _, after := #[{ on := 3, ground := Ground.data }, { on := 4, ground := Ground.data }], guard := none }) (v := ?_) rfl (by kernel_rfl) (by kernel_rfl) (by kernel_rfl) (fun _ _ _ h => h) (Or.inl ⟨by rfl, ?_⟩) (by first | trivial | assumption) ?_
  rotate_left 1
  · (intro W hSw; obtain ⟨sB, sP⟩ := hSw; have e0 : W.cell? ⟨cb, 0, none⟩ = some (.int .i64 c.verb) := sB.cell 0; have e1 : W.cell? ⟨cb, 1, none⟩ = some (.slice ka kn kc) := sB.cell 1; have e2 : W.cell? ⟨cb, 2, none⟩ = some (.int .u64 c.flags) := sB.cell 2; have e3 : W.cell? ⟨cb, 3, none⟩ = some (.int .i64 c.exp) := sB.cell 3; have e4 : W.cell? ⟨cb, 4, none⟩ = some (.int .u64 c.tok) := sB.cell 4; have e5 : W.cell? ⟨cb, 5, none⟩ = some (.int .u64 c.del) := sB.cell 5; have e6 : W.cell? ⟨cb, 6, none⟩ = some (.slice da dn dc) := sB.cell 6; have e7 : W.cell? ⟨cb, 7, none⟩ = some (.bool c.nr) := sB.cell 7; have e8 : W.cell? ⟨cb, 8, none⟩ = some (.bool lg) := sB.cell 8; have e9 : W.cell? ⟨cb, 9, none⟩ = some (.slice ma mn mc) := sB.cell 9; have e10 : W.cell? ⟨cb, 10, none⟩ = some (sv c.what) := sB.cell 10; have r1 : W.cell? ⟨rb, 1, none⟩ = some (sv st1) := sP.cell 1; go_simp; (try (with_reducible rfl)))
  try simp only [Act.put, List.setIfInBounds_toArray, List.set_cons_zero, List.set_cons_succ]
  refine wpAnyH_ready (rs := [6]) (by kernel_rfl) (by simp) ?_
  refine (AllReadyH.cons rfl (fun K hK => ?_) AllReadyH.nil)
  go_simp
  go_at_call 130
  with_reducible refine (hcl _ gd).mono ?_
  rintro e w5 ⟨uv, rfl, hws, hg5⟩
  have gd5 := gb_trans gd hg5
  refine hK.out _ _ ⟨hcb.kept gd5 (by simp), hrb.kept gd5 (by simp)⟩ (fun hS1 => ?_)
  clear hK K
  try simp only [Act.put, List.setIfInBounds_toArray, List.set_cons_zero, List.set_cons_succ]
  have hw5 := row_kept row gd5 (by simp)
  obtain ⟨i0, hi, hz0, hz1, hz2⟩ := info_parts Tryz.info9
  have hs5 := gd5.size
  refine wpAnyH_ready (rs := [7]) (by kernel_rfl) (by simp) ?_
  refine AllReadyH.cons rfl (fun K hK => ?_) AllReadyH.nil
  rcases hws with ⟨rfl, ua, uc, rfl⟩ | ⟨ug, uo, uc, rfl, huc, hug, hucell⟩
  · refine step_none9 rfl _ _ rfl B _ m _ (by rfl) hw5 ua uc (by rfl) ?_
    refine hK.out _ _ hS1 (fun hS2 => ?_)
    clear hK K
    try simp only [Act.put, List.setIfInBounds_toArray, List.set_cons_zero, List.set_cons_succ]
    refine wpAnyH_take (i := 8) (oi := { dst := some 9, op := Op.assign (Operand.tmp 37), type := 36, pos := _, after := #[{ on := 7, ground := Ground.data }, { on := 7, ground := Ground.chain }, { on := 0, ground := Ground.phase }, { on := 1, ground := Ground.phase }, { on := 2, ground := Ground.phase }, { on := 3, ground := Ground.phase }, { on := 4, ground := Ground.phase }, { on := 5, ground := Ground.phase }, { on := 6, ground := Ground.phase }, { on := 7, ground := Ground.phase }], guard := none }) (v := ?_) rfl (by kernel_rfl) (by kernel_rfl) (by kernel_rfl) (fun _ _ _ h => h) (Or.inl ⟨by rfl, ?_⟩) (by first | trivial | assumption) ?_
    rotate_left 1
    · (intro W hSw; obtain ⟨sB, sP⟩ := hSw; go_simp; (try (with_reducible rfl)))
    try simp only [Act.put, List.setIfInBounds_toArray, List.set_cons_zero, List.set_cons_succ]
    refine wpAnyH_done (by kernel_rfl) ?_ _
    refine NoPanic.normal ?_
    exact HK.out _ _ _ _ _ _ _ _ _ _ (by simpa using hw5) (gb_none _ gd5)
  · rcases Nat.eq_zero_or_pos us.length with hz | hz
    · have hu0 : us = [] := List.eq_nil_of_length_eq_zero hz
      subst hu0
      refine step_none9 rfl _ _ rfl B _ m _ (by rfl) hw5 _ uc (by rfl) ?_
      refine hK.out _ _ hS1 (fun hS2 => ?_)
      clear hK K
      try simp only [Act.put, List.setIfInBounds_toArray, List.set_cons_zero, List.set_cons_succ]
      refine wpAnyH_take (i := 8) (oi := { dst := some 9, op := Op.assign (Operand.tmp 37), type := 36, pos := _, after := #[{ on := 7, ground := Ground.data }, { on := 7, ground := Ground.chain }, { on := 0, ground := Ground.phase }, { on := 1, ground := Ground.phase }, { on := 2, ground := Ground.phase }, { on := 3, ground := Ground.phase }, { on := 4, ground := Ground.phase }, { on := 5, ground := Ground.phase }, { on := 6, ground := Ground.phase }, { on := 7, ground := Ground.phase }], guard := none }) (v := ?_) rfl (by kernel_rfl) (by kernel_rfl) (by kernel_rfl) (fun _ _ _ h => h) (Or.inl ⟨by rfl, ?_⟩) (by first | trivial | assumption) ?_
      rotate_left 1
      · (intro W hSw; obtain ⟨sB, sP⟩ := hSw; go_simp; (try (with_reducible rfl)))
      try simp only [Act.put, List.setIfInBounds_toArray, List.set_cons_zero, List.set_cons_succ]
      refine wpAnyH_done (by kernel_rfl) ?_ _
      refine NoPanic.normal ?_
      exact HK.out _ _ _ _ _ _ _ _ _ _ (by simpa using hw5) (gb_none _ gd5)
    · refine step_append_lies _ rfl _ _ 36 rfl B 9 i0 _ 1 16 Tryz.underlying36 hi hz0 hz1 hz2 rfl (by omega) _ m _ (by rfl) hw5 ⟨ug, uo, none⟩ us.length uc (us.map sv) (by rfl) (by simp) ?_ (by intro u hu; simp at hu; obtain ⟨x, _, rfl⟩ := hu; rfl) hz (by unfold maxLen; omega) (by omega) (by omega) _ rfl ?_
      · intro j u hu
        rw [List.getElem?_map] at hu
        cases hj : us[j]? with
        | none => simp [hj] at hu
        | some y => simp [hj] at hu; subst hu; rw [Addr.add_mid]; exact hucell j y hj
      intro g6 cap W6 h1 hg6 _ _
      have hne1 : some cb ≠ (Value.slice ra m rc).ownBlock := fun e => by have := (World.ownsRow.lt hw5 cb e.symm).1; omega
      have hne2 : some rb ≠ (Value.slice ra m rc).ownBlock := fun e => by have := (World.ownsRow.lt hw5 rb e.symm).1; omega
      refine hK.out _ _ ⟨(hcb.kept gd5 (by simp)).kept hg6 hne1, (hrb.kept gd5 (by simp)).kept hg6 hne2⟩ (fun hS2 => ?_)
      clear hK K
      try simp only [Act.put, List.setIfInBounds_toArray, List.set_cons_zero, List.set_cons_succ]
      refine wpAnyH_take (i := 8) (oi := { dst := some 9, op := Op.assign (Operand.tmp 37), type := 36, pos := _, after := #[{ on := 7, ground := Ground.data }, { on := 7, ground := Ground.chain }, { on := 0, ground := Ground.phase }, { on := 1, ground := Ground.phase }, { on := 2, ground := Ground.phase }, { on := 3, ground := Ground.phase }, { on := 4, ground := Ground.phase }, { on := 5, ground := Ground.phase }, { on := 6, ground := Ground.phase }, { on := 7, ground := Ground.phase }], guard := none }) (v := ?_) rfl (by kernel_rfl) (by kernel_rfl) (by kernel_rfl) (fun _ _ _ h => h) (Or.inl ⟨by rfl, ?_⟩) (by first | trivial | assumption) ?_
      rotate_left 1
      · (intro W hSw; obtain ⟨sB, sP⟩ := hSw; go_simp; (try (with_reducible rfl)))
      try simp only [Act.put, List.setIfInBounds_toArray, List.set_cons_zero, List.set_cons_succ]
      refine wpAnyH_done (by kernel_rfl) ?_ _
      refine NoPanic.normal ?_
      exact HK.out _ _ _ _ _ _ _ _ _ _ (by simpa using h1) (gb_trans (gb_none _ gd5) hg6)
set_option maxRecDepth 100000 in
set_option maxHeartbeats 8000000 in
theorem sp_r13 {w0 : World} {cb rb : Nat} {c : Cmd} {ka da ma ra : Option Addr} {kn kc dn dc mn mc m rc B k : Nat} {lg b4 b5 : Bool} {vb : Value} {st1 st2 : Bs} {a : UInt8} {ws us : List Bs} {ps : String} {Q : Exit → Act → World → Prop} {x0 x1 x2 x4 x5 x6 x8 x10 x12 x13 x14 x15 x16 x17 x18 x19 x20 x21 x22 x23 x24 x25 x26 x27 x28 x29 x30 x31 x32 x33 x34 x35 x36 x37 x38 x39 x40 x41 x42 x43 x44 x45 x46 x47 x48 x49 x50 x51 x52 x53 x54 x55 x56 x57 x58 x59 x60 : Value}
    (hcb : Box w0 41 cb (cmB c (.slice ka kn kc) (.slice da dn dc) (.slice ma mn mc) lg)) (hrb : Box w0 151 rb #[vb, sv st1, sv st2, .bool b4, .bool b5]) (hst : st2[k]? = some a) (row : w0.ownsRow B 9 1 (.slice ra m rc) m (ws.map sv)) (hBc : cb < B) (hBr : rb < B) (hB : B ≤ w0.heap.size) (hm : m + us.length ≤ 1000000000)
    (hcl : ∀ W, w0.grownBy W none → Calls Tryz.prog 131 #[.agg (cmB c (.slice ka kn kc) (.slice da dn dc) (.slice ma mn mc) lg), .int .u8 a.toNat] W fun e w' => ∃ v, e = .returned v ∧ Ws w' v us ∧ W.grownBy w' none)
    (hK : ∀ (u45 u46 u47 u48 u49 u50 u51 u52 v' : Value) (W : World), W.ownsRow B 9 1 v' (m + us.length) ((ws ++ us).map sv) → w0.grownBy W (Value.slice ra m rc).ownBlock → Q .normal ⟨List.toArray (x0 :: x1 :: x2 :: Value.pointer (some ⟨cb, 0, none⟩) :: x4 :: x5 :: x6 :: Value.pointer (some ⟨rb, 0, none⟩) :: x8 :: v' :: x10 :: Value.int .i64 (k : Int) :: x12 :: x13 :: x14 :: x15 :: x16 :: x17 :: x18 :: x19 :: x20 :: x21 :: x22 :: x23 :: x24 :: x25 :: x26 :: x27 :: x28 :: x29 :: x30 :: x31 :: x32 :: x33 :: x34 :: x35 :: x36 :: x37 :: x38 :: x39 :: x40 :: x41 :: x42 :: x43 :: x44 :: u45 :: u46 :: u47 :: u48 :: u49 :: u50 :: u51 :: u52 :: x53 :: x54 :: x55 :: x56 :: x57 :: x58 :: x59 :: x60 :: []), []⟩ W) :
    (Code.region 13 #[{ dst := some 45, op := Op.move (Operand.tmp 9), type := 36, pos := ps, after := #[], guard := none }, { dst := some 46, op := Op.load 41 (Operand.tmp 3), type := 41, pos := ps, after := #[], guard := none }, { dst := some 47, op := Op.fieldAddr 151 (Operand.tmp 7) 2, type := 0, pos := ps, after := #[], guard := none }, { dst := some 48, op := Op.load 9 (Operand.tmp 47), type := 9, pos := ps, after := #[{ on := 2, ground := Ground.data }], guard := none }, { dst := some 49, op := Op.move (Operand.tmp 11), type := 3, pos := ps, after := #[], guard := none }, { dst := some 50, op := Op.index 9 (Operand.tmp 48) (Operand.tmp 49), type := 5, pos := ps, after := #[{ on := 3, ground := Ground.data }, { on := 4, ground := Ground.data }], guard := none }, { dst := some 51, op := Op.call { callee := Callee.value (Operand.func 131), args := #[Operand.tmp 46, Operand.tmp 50], argTypes := #[41, 5] }, type := 36, pos := ps, after := #[{ on := 1, ground := Ground.data }, { on := 5, ground := Ground.data }], guard := none }, { dst := some 52, op := Op.call { callee := Callee.builtin Builtin.append, args := #[Operand.tmp 45, Operand.tmp 51], argTypes := #[36, 36] }, type := 36, pos := ps, after := #[{ on := 0, ground := Ground.data }, { on := 6, ground := Ground.data }, { on := 6, ground := Ground.chain }], guard := none }, { dst := some 9, op := Op.assign (Operand.tmp 52), type := 36, pos := ps, after := #[{ on := 7, ground := Ground.data }, { on := 7, ground := Ground.chain }, { on := 0, ground := Ground.phase }, { on := 1, ground := Ground.phase }, { on := 2, ground := Ground.phase }, { on := 3, ground := Ground.phase }, { on := 4, ground := Ground.phase }, { on := 5, ground := Ground.phase }, { on := 6, ground := Ground.phase }, { on := 7, ground := Ground.phase }], guard := none }] true).wp Tryz.prog Q ⟨List.toArray (x0 :: x1 :: x2 :: Value.pointer (some ⟨cb, 0, none⟩) :: x4 :: x5 :: x6 :: Value.pointer (some ⟨rb, 0, none⟩) :: x8 :: Value.slice ra m rc :: x10 :: Value.int .i64 (k : Int) :: x12 :: x13 :: x14 :: x15 :: x16 :: x17 :: x18 :: x19 :: x20 :: x21 :: x22 :: x23 :: x24 :: x25 :: x26 :: x27 :: x28 :: x29 :: x30 :: x31 :: x32 :: x33 :: x34 :: x35 :: x36 :: x37 :: x38 :: x39 :: x40 :: x41 :: x42 :: x43 :: x44 :: x45 :: x46 :: x47 :: x48 :: x49 :: x50 :: x51 :: x52 :: x53 :: x54 :: x55 :: x56 :: x57 :: x58 :: x59 :: x60 :: []), []⟩ w0 := by
  have hlt : k < st2.length := (List.getElem?_eq_some_iff.1 hst).1
  have hgt : ∀ h : k < (ByteArray.mk st2.toArray).size, (ByteArray.mk st2.toArray)[k] = a := fun h => (ba_get st2 k h).trans (by simp [List.getD, hst])
  have gd := gb_drew (gb_refl w0 none)
  have HK := Lib.hid hK
  clear hK
  refine wp_region_noPanic ?_
  refine wp_region_held_drew (S := fun W : World => Box W 41 cb (cmB c (.slice ka kn kc) (.slice da dn dc) (.slice ma mn mc) lg) ∧ Box W 151 rb #[vb, sv st1, sv st2, .bool b4, .bool b5]) (by kernel_rfl) ⟨hcb.kept gd (by simp), hrb.kept gd (by simp)⟩ (fun hS0 => ?_)
  refine wpAnyH_take (i := 0) (oi := { dst := some 45, op := Op.move (Operand.tmp 9), type := 36, pos := _, after := #[], guard := none }) (v := ?_) rfl (by kernel_rfl) (by kernel_rfl) (by kernel_rfl) (fun _ _ _ h => h) (Or.inl ⟨by rfl, ?_⟩) (by first | trivial | assumption) ?_
  rotate_left 1
  · (intro W hSw; obtain ⟨sB, sP⟩ := hSw; have e0 : W.cell? ⟨cb, 0, none⟩ = some (.int .i64 c.verb) := sB.cell 0; have e1 : W.cell? ⟨cb, 1, none⟩ = some (.slice ka kn kc) := sB.cell 1; have e2 : W.cell? ⟨cb, 2, none⟩ = some (.int .u64 c.flags) := sB.cell 2; have e3 : W.cell? ⟨cb, 3, none⟩ = some (.int .i64 c.exp) := sB.cell 3; have e4 : W.cell? ⟨cb, 4, none⟩ = some (.int .u64 c.tok) := sB.cell 4; have e5 : W.cell? ⟨cb, 5, none⟩ = some (.int .u64 c.del) := sB.cell 5; have e6 : W.cell? ⟨cb, 6, none⟩ = some (.slice da dn dc) := sB.cell 6; have e7 : W.cell? ⟨cb, 7, none⟩ = some (.bool c.nr) := sB.cell 7; have e8 : W.cell? ⟨cb, 8, none⟩ = some (.bool lg) := sB.cell 8; have e9 : W.cell? ⟨cb, 9, none⟩ = some (.slice ma mn mc) := sB.cell 9; have e10 : W.cell? ⟨cb, 10, none⟩ = some (sv c.what) := sB.cell 10; have r2 : W.cell? ⟨rb, 2, none⟩ = some (sv st2) := sP.cell 2; go_simp; (try (with_reducible rfl)))
  try simp only [Act.put, List.setIfInBounds_toArray, List.set_cons_zero, List.set_cons_succ]
  refine wpAnyH_take (i := 1) (oi := { dst := some 46, op := Op.load 41 (Operand.tmp 3), type := 41, pos := _, after := #[], guard := none }) (v := ?_) rfl (by kernel_rfl) (by kernel_rfl) (by kernel_rfl) (fun _ _ _ h => h) (Or.inl ⟨by rfl, ?_⟩) (by first | trivial | assumption) ?_
  rotate_left 1
  · (intro W hSw; obtain ⟨sB, sP⟩ := hSw; have e0 : W.cell? ⟨cb, 0, none⟩ = some (.int .i64 c.verb) := sB.cell 0; have e1 : W.cell? ⟨cb, 1, none⟩ = some (.slice ka kn kc) := sB.cell 1; have e2 : W.cell? ⟨cb, 2, none⟩ = some (.int .u64 c.flags) := sB.cell 2; have e3 : W.cell? ⟨cb, 3, none⟩ = some (.int .i64 c.exp) := sB.cell 3; have e4 : W.cell? ⟨cb, 4, none⟩ = some (.int .u64 c.tok) := sB.cell 4; have e5 : W.cell? ⟨cb, 5, none⟩ = some (.int .u64 c.del) := sB.cell 5; have e6 : W.cell? ⟨cb, 6, none⟩ = some (.slice da dn dc) := sB.cell 6; have e7 : W.cell? ⟨cb, 7, none⟩ = some (.bool c.nr) := sB.cell 7; have e8 : W.cell? ⟨cb, 8, none⟩ = some (.bool lg) := sB.cell 8; have e9 : W.cell? ⟨cb, 9, none⟩ = some (.slice ma mn mc) := sB.cell 9; have e10 : W.cell? ⟨cb, 10, none⟩ = some (sv c.what) := sB.cell 10; have r2 : W.cell? ⟨rb, 2, none⟩ = some (sv st2) := sP.cell 2; go_simp; (try (with_reducible rfl)))
  try simp only [Act.put, List.setIfInBounds_toArray, List.set_cons_zero, List.set_cons_succ]
  refine wpAnyH_take (i := 2) (oi := { dst := some 47, op := Op.fieldAddr 151 (Operand.tmp 7) 2, type := 0, pos := _, after := #[], guard := none }) (v := ?_) rfl (by kernel_rfl) (by kernel_rfl) (by kernel_rfl) (fun _ _ _ h => h) (Or.inl ⟨by rfl, ?_⟩) (by first | trivial | assumption) ?_
  rotate_left 1
  · (intro W hSw; obtain ⟨sB, sP⟩ := hSw; have e0 : W.cell? ⟨cb, 0, none⟩ = some (.int .i64 c.verb) := sB.cell 0; have e1 : W.cell? ⟨cb, 1, none⟩ = some (.slice ka kn kc) := sB.cell 1; have e2 : W.cell? ⟨cb, 2, none⟩ = some (.int .u64 c.flags) := sB.cell 2; have e3 : W.cell? ⟨cb, 3, none⟩ = some (.int .i64 c.exp) := sB.cell 3; have e4 : W.cell? ⟨cb, 4, none⟩ = some (.int .u64 c.tok) := sB.cell 4; have e5 : W.cell? ⟨cb, 5, none⟩ = some (.int .u64 c.del) := sB.cell 5; have e6 : W.cell? ⟨cb, 6, none⟩ = some (.slice da dn dc) := sB.cell 6; have e7 : W.cell? ⟨cb, 7, none⟩ = some (.bool c.nr) := sB.cell 7; have e8 : W.cell? ⟨cb, 8, none⟩ = some (.bool lg) := sB.cell 8; have e9 : W.cell? ⟨cb, 9, none⟩ = some (.slice ma mn mc) := sB.cell 9; have e10 : W.cell? ⟨cb, 10, none⟩ = some (sv c.what) := sB.cell 10; have r2 : W.cell? ⟨rb, 2, none⟩ = some (sv st2) := sP.cell 2; go_simp; (try (with_reducible rfl)))
  try simp only [Act.put, List.setIfInBounds_toArray, List.set_cons_zero, List.set_cons_succ]
  refine wpAnyH_take (i := 3) (oi := { dst := some 48, op := Op.load 9 (Operand.tmp 47), type := 9, pos := _, after := #[{ on := 2, ground := Ground.data }], guard := none }) (v := ?_) rfl (by kernel_rfl) (by kernel_rfl) (by kernel_rfl) (fun _ _ _ h => h) (Or.inl ⟨by rfl, ?_⟩) (by first | trivial | assumption) ?_
  rotate_left 1
  · (intro W hSw; obtain ⟨sB, sP⟩ := hSw; have e0 : W.cell? ⟨cb, 0, none⟩ = some (.int .i64 c.verb) := sB.cell 0; have e1 : W.cell? ⟨cb, 1, none⟩ = some (.slice ka kn kc) := sB.cell 1; have e2 : W.cell? ⟨cb, 2, none⟩ = some (.int .u64 c.flags) := sB.cell 2; have e3 : W.cell? ⟨cb, 3, none⟩ = some (.int .i64 c.exp) := sB.cell 3; have e4 : W.cell? ⟨cb, 4, none⟩ = some (.int .u64 c.tok) := sB.cell 4; have e5 : W.cell? ⟨cb, 5, none⟩ = some (.int .u64 c.del) := sB.cell 5; have e6 : W.cell? ⟨cb, 6, none⟩ = some (.slice da dn dc) := sB.cell 6; have e7 : W.cell? ⟨cb, 7, none⟩ = some (.bool c.nr) := sB.cell 7; have e8 : W.cell? ⟨cb, 8, none⟩ = some (.bool lg) := sB.cell 8; have e9 : W.cell? ⟨cb, 9, none⟩ = some (.slice ma mn mc) := sB.cell 9; have e10 : W.cell? ⟨cb, 10, none⟩ = some (sv c.what) := sB.cell 10; have r2 : W.cell? ⟨rb, 2, none⟩ = some (sv st2) := sP.cell 2; go_simp; (try (with_reducible rfl)))
  try simp only [Act.put, List.setIfInBounds_toArray, List.set_cons_zero, List.set_cons_succ]
  refine wpAnyH_take (i := 4) (oi := { dst := some 49, op := Op.move (Operand.tmp 11), type := 3, pos := _, after := #[], guard := none }) (v := ?_) rfl (by kernel_rfl) (by kernel_rfl) (by kernel_rfl) (fun _ _ _ h => h) (Or.inl ⟨by rfl, ?_⟩) (by first | trivial | assumption) ?_
  rotate_left 1
  · (intro W hSw; obtain ⟨sB, sP⟩ := hSw; have e0 : W.cell? ⟨cb, 0, none⟩ = some (.int .i64 c.verb) := sB.cell 0; have e1 : W.cell? ⟨cb, 1, none⟩ = some (.slice ka kn kc) := sB.cell 1; have e2 : W.cell? ⟨cb, 2, none⟩ = some (.int .u64 c.flags) := sB.cell 2; have e3 : W.cell? ⟨cb, 3, none⟩ = some (.int .i64 c.exp) := sB.cell 3; have e4 : W.cell? ⟨cb, 4, none⟩ = some (.int .u64 c.tok) := sB.cell 4; have e5 : W.cell? ⟨cb, 5, none⟩ = some (.int .u64 c.del) := sB.cell 5; have e6 : W.cell? ⟨cb, 6, none⟩ = some (.slice da dn dc) := sB.cell 6; have e7 : W.cell? ⟨cb, 7, none⟩ = some (.bool c.nr) := sB.cell 7; have e8 : W.cell? ⟨cb, 8, none⟩ = some (.bool lg) := sB.cell 8; have e9 : W.cell? ⟨cb, 9, none⟩ = some (.slice ma mn mc) := sB.cell 9; have e10 : W.cell? ⟨cb, 10, none⟩ = some (sv c.what) := sB.cell 10; have r2 : W.cell? ⟨rb, 2, none⟩ = some (sv st2) := sP.cell 2; go_simp; (try (with_reducible rfl)))
  try simp only [Act.put, List.setIfInBounds_toArray, List.set_cons_zero, List.set_cons_succ]
  refine wpAnyH_take (i := 5) (oi := { dst := some 50, op := Op.index 9 (Operand.tmp 48) (Operand.tmp 49), type := 5, pos := _, after := #[{ on := 3, ground := Ground.data }, { on := 4, ground := Ground.data }], guard := none }) (v := ?_) rfl (by kernel_rfl) (by kernel_rfl) (by kernel_rfl) (fun _ _ _ h => h) (Or.inl ⟨by rfl, ?_⟩) (by first | trivial | assumption) ?_
  rotate_left 1
  · (intro W hSw; obtain ⟨sB, sP⟩ := hSw; have e0 : W.cell? ⟨cb, 0, none⟩ = some (.int .i64 c.verb) := sB.cell 0; have e1 : W.cell? ⟨cb, 1, none⟩ = some (.slice ka kn kc) := sB.cell 1; have e2 : W.cell? ⟨cb, 2, none⟩ = some (.int .u64 c.flags) := sB.cell 2; have e3 : W.cell? ⟨cb, 3, none⟩ = some (.int .i64 c.exp) := sB.cell 3; have e4 : W.cell? ⟨cb, 4, none⟩ = some (.int .u64 c.tok) := sB.cell 4; have e5 : W.cell? ⟨cb, 5, none⟩ = some (.int .u64 c.del) := sB.cell 5; have e6 : W.cell? ⟨cb, 6, none⟩ = some (.slice da dn dc) := sB.cell 6; have e7 : W.cell? ⟨cb, 7, none⟩ = some (.bool c.nr) := sB.cell 7; have e8 : W.cell? ⟨cb, 8, none⟩ = some (.bool lg) := sB.cell 8; have e9 : W.cell? ⟨cb, 9, none⟩ = some (.slice ma mn mc) := sB.cell 9; have e10 : W.cell? ⟨cb, 10, none⟩ = some (sv c.what) := sB.cell 10; have r2 : W.cell? ⟨rb, 2, none⟩ = some (sv st2) := sP.cell 2; go_simp; (try (with_reducible rfl)))
  try simp only [Act.put, List.setIfInBounds_toArray, List.set_cons_zero, List.set_cons_succ]
  refine wpAnyH_ready (rs := [6]) (by kernel_rfl) (by simp) ?_
  refine (AllReadyH.cons rfl (fun K hK => ?_) AllReadyH.nil)
  go_simp
  go_at_call 131
  with_reducible refine (hcl _ gd).mono ?_
  rintro e w5 ⟨uv, rfl, hws, hg5⟩
  have gd5 := gb_trans gd hg5
  refine hK.out _ _ ⟨hcb.kept gd5 (by simp), hrb.kept gd5 (by simp)⟩ (fun hS1 => ?_)
  clear hK K
  try simp only [Act.put, List.setIfInBounds_toArray, List.set_cons_zero, List.set_cons_succ]
  have hw5 := row_kept row gd5 (by simp)
  obtain ⟨i0, hi, hz0, hz1, hz2⟩ := info_parts Tryz.info9
  have hs5 := gd5.size
  refine wpAnyH_ready (rs := [7]) (by kernel_rfl) (by simp) ?_
  refine AllReadyH.cons rfl (fun K hK => ?_) AllReadyH.nil
  rcases hws with ⟨rfl, ua, uc, rfl⟩ | ⟨ug, uo, uc, rfl, huc, hug, hucell⟩
  · refine step_none9 rfl _ _ rfl B _ m _ (by rfl) hw5 ua uc (by rfl) ?_
    refine hK.out _ _ hS1 (fun hS2 => ?_)
    clear hK K
    try simp only [Act.put, List.setIfInBounds_toArray, List.set_cons_zero, List.set_cons_succ]
    refine wpAnyH_take (i := 8) (oi := { dst := some 9, op := Op.assign (Operand.tmp 52), type := 36, pos := _, after := #[{ on := 7, ground := Ground.data }, { on := 7, ground := Ground.chain }, { on := 0, ground := Ground.phase }, { on := 1, ground := Ground.phase }, { on := 2, ground := Ground.phase }, { on := 3, ground := Ground.phase }, { on := 4, ground := Ground.phase }, { on := 5, ground := Ground.phase }, { on := 6, ground := Ground.phase }, { on := 7, ground := Ground.phase }], guard := none }) (v := ?_) rfl (by kernel_rfl) (by kernel_rfl) (by kernel_rfl) (fun _ _ _ h => h) (Or.inl ⟨by rfl, ?_⟩) (by first | trivial | assumption) ?_
    rotate_left 1
    · (intro W hSw; obtain ⟨sB, sP⟩ := hSw; go_simp; (try (with_reducible rfl)))
    try simp only [Act.put, List.setIfInBounds_toArray, List.set_cons_zero, List.set_cons_succ]
    refine wpAnyH_done (by kernel_rfl) ?_ _
    refine NoPanic.normal ?_
    exact HK.out _ _ _ _ _ _ _ _ _ _ (by simpa using hw5) (gb_none _ gd5)
  · rcases Nat.eq_zero_or_pos us.length with hz | hz
    · have hu0 : us = [] := List.eq_nil_of_length_eq_zero hz
      subst hu0
      refine step_none9 rfl _ _ rfl B _ m _ (by rfl) hw5 _ uc (by rfl) ?_
      refine hK.out _ _ hS1 (fun hS2 => ?_)
      clear hK K
      try simp only [Act.put, List.setIfInBounds_toArray, List.set_cons_zero, List.set_cons_succ]
      refine wpAnyH_take (i := 8) (oi := { dst := some 9, op := Op.assign (Operand.tmp 52), type := 36, pos := _, after := #[{ on := 7, ground := Ground.data }, { on := 7, ground := Ground.chain }, { on := 0, ground := Ground.phase }, { on := 1, ground := Ground.phase }, { on := 2, ground := Ground.phase }, { on := 3, ground := Ground.phase }, { on := 4, ground := Ground.phase }, { on := 5, ground := Ground.phase }, { on := 6, ground := Ground.phase }, { on := 7, ground := Ground.phase }], guard := none }) (v := ?_) rfl (by kernel_rfl) (by kernel_rfl) (by kernel_rfl) (fun _ _ _ h => h) (Or.inl ⟨by rfl, ?_⟩) (by first | trivial | assumption) ?_
      rotate_left 1
      · (intro W hSw; obtain ⟨sB, sP⟩ := hSw; go_simp; (try (with_reducible rfl)))
      try simp only [Act.put, List.setIfInBounds_toArray, List.set_cons_zero, List.set_cons_succ]
      refine wpAnyH_done (by kernel_rfl) ?_ _
      refine NoPanic.normal ?_
      exact HK.out _ _ _ _ _ _ _ _ _ _ (by simpa using hw5) (gb_none _ gd5)
    · refine step_append_lies _ rfl _ _ 36 rfl B 9 i0 _ 1 16 Tryz.underlying36 hi hz0 hz1 hz2 rfl (by omega) _ m _ (by rfl) hw5 ⟨ug, uo, none⟩ us.length uc (us.map sv) (by rfl) (by simp) ?_ (by intro u hu; simp at hu; obtain ⟨x, _, rfl⟩ := hu; rfl) hz (by unfold maxLen; omega) (by omega) (by omega) _ rfl ?_
      · intro j u hu
        rw [List.getElem?_map] at hu
        cases hj : us[j]? with
        | none => simp [hj] at hu
        | some y => simp [hj] at hu; subst hu; rw [Addr.add_mid]; exact hucell j y hj
      intro g6 cap W6 h1 hg6 _ _
      have hne1 : some cb ≠ (Value.slice ra m rc).ownBlock := fun e => by have := (World.ownsRow.lt hw5 cb e.symm).1; omega
      have hne2 : some rb ≠ (Value.slice ra m rc).ownBlock := fun e => by have := (World.ownsRow.lt hw5 rb e.symm).1; omega
      refine hK.out _ _ ⟨(hcb.kept gd5 (by simp)).kept hg6 hne1, (hrb.kept gd5 (by simp)).kept hg6 hne2⟩ (fun hS2 => ?_)
      clear hK K
      try simp only [Act.put, List.setIfInBounds_toArray, List.set_cons_zero, List.set_cons_succ]
      refine wpAnyH_take (i := 8) (oi := { dst := some 9, op := Op.assign (Operand.tmp 52), type := 36, pos := _, after := #[{ on := 7, ground := Ground.data }, { on := 7, ground := Ground.chain }, { on := 0, ground := Ground.phase }, { on := 1, ground := Ground.phase }, { on := 2, ground := Ground.phase }, { on := 3, ground := Ground.phase }, { on := 4, ground := Ground.phase }, { on := 5, ground := Ground.phase }, { on := 6, ground := Ground.phase }, { on := 7, ground := Ground.phase }], guard := none }) (v := ?_) rfl (by kernel_rfl) (by kernel_rfl) (by kernel_rfl) (fun _ _ _ h => h) (Or.inl ⟨by rfl, ?_⟩) (by first | trivial | assumption) ?_
      rotate_left 1
      · (intro W hSw; obtain ⟨sB, sP⟩ := hSw; go_simp; (try (with_reducible rfl)))
      try simp only [Act.put, List.setIfInBounds_toArray, List.set_cons_zero, List.set_cons_succ]
      refine wpAnyH_done (by kernel_rfl) ?_ _
      refine NoPanic.normal ?_
      exact HK.out _ _ _ _ _ _ _ _ _ _ (by simpa using h1) (gb_trans (gb_none _ gd5) hg6)
end Go.Proofs.YtbbocbdoiealoaaGreatDoor
