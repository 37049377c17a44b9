import Derived.Lib.BytesEntry
import Derived.Test.YtbbocbdoiealoaaGreatDoorRF
import Derived.Test.YtbbocbdoiealoaaGreatDoorRPag
import Derived.Laws.EntriesVeiled
import Derived.Deep.RegionLaw
set_option linter.unusedVariables false
set_option linter.unusedSimpArgs false
namespace Go.Proofs.YtbbocbdoiealoaaGreatDoor
open Go.RowKit
abbrev b8 (b : UInt8) : Value := .int .u8 b.toNat
abbrev stpL (s : Stp) (ck cd cm : Value) : List Value := [.int .i64 s.cmd.verb, ck, .int .u64 s.cmd.flags, .int .i64 s.cmd.exp, .int .u64 s.cmd.tok, .int .u64 s.cmd.del, cd, .bool s.cmd.nr, .bool s.large, cm, sv s.cmd.what, .int .i64 s.wk, sv s.wt, .int .i64 s.wp, .int .i64 s.frm, .int .i64 s.to]
structure StR (w : World) (X : Nat → Prop) (s : Stp) (ck cd cm : Value) : Prop where
  keys : w.ownsRow 0 9 1 ck s.cmd.keys.length (s.cmd.keys.map sv)
  data : w.ownsRow 0 5 1 cd s.data.length (s.data.map b8)
  mt : w.ownsRow 0 79 3 cm s.cmd.mt.length (fcs s.cmd.mt)
  ak : ∀ k, ck.ownBlock = some k → ¬ X k
  ad : ∀ k, cd.ownBlock = some k → ¬ X k
  am : ∀ k, cm.ownBlock = some k → ¬ X k
  nd : s.data = [] → cd = .slice none 0 0
def Ck (w : World) (X : Nat → Prop) (v : Value) (l : Bs) : Prop := (l = [] ∧ v = .slice none 0 0) ∨ ∃ g o c, v = .slice (some ⟨g, o, none⟩) l.length c ∧ l.length ≤ c ∧ c ≤ 9223372036854775807 ∧ g < w.heap.size ∧ ¬ X g ∧ ∀ i x, l[i]? = some x → w.cell? ⟨g, o + i, none⟩ = some (b8 x)
theorem Tryz.info5 : (Tryz.prog.info? 5).map (fun i => (i.zero, i.size, i.bytes)) = some (some (.int .u8 0), 1, 1) := by kernel_rfl
theorem row_kp {F : Nat → Prop} {w w' : World} {B : Nat} {e : TypeId} {s : Nat} {v : Value} {n : Nat} {xs : List Value} (h : w.ownsRow B e s v n xs) (hk : Kp F w w') (hn : ∀ k, v.ownBlock = some k → ¬ F k) : w'.ownsRow B e s v n xs :=
  row_same h fun k hb => by
    obtain ⟨cur, hc⟩ := row_block h k hb
    exact hk.block k (lt_of_block hc) (hn k hb)
theorem row_lt {w : World} {B : Nat} {e : TypeId} {s : Nat} {v : Value} {n : Nat} {xs : List Value} (h : w.ownsRow B e s v n xs) (k : Nat) (hb : v.ownBlock = some k) : k < w.heap.size := by
  obtain ⟨cur, hc⟩ := row_block h k hb
  exact lt_of_block hc
theorem StR.kp {F X Y : Nat → Prop} {w w' : World} {s : Stp} {ck cd cm : Value} (h : StR w X s ck cd cm) (hk : Kp F w w') (hF : ∀ k, k < w.heap.size → F k → X k) (hY : ∀ k, k < w.heap.size → Y k → X k) : StR w' Y s ck cd cm :=
  ⟨row_kp h.keys hk fun k hb hf => h.ak k hb (hF k (row_lt h.keys k hb) hf), row_kp h.data hk fun k hb hf => h.ad k hb (hF k (row_lt h.data k hb) hf), row_kp h.mt hk fun k hb hf => h.am k hb (hF k (row_lt h.mt k hb) hf),
   fun k hb hf => h.ak k hb (hY k (row_lt h.keys k hb) hf), fun k hb hf => h.ad k hb (hY k (row_lt h.data k hb) hf), fun k hb hf => h.am k hb (hY k (row_lt h.mt k hb) hf), h.nd⟩
section
variable {w : World} {ops : Array Oper} {rest : List Oper} {o : Oper} {a : Act} {Q : Exit → Act → World → Prop}
end
end Go.Proofs.YtbbocbdoiealoaaGreatDoor
namespace Go.Proofs.YtbbocbdoiealoaaGreatDoor
open Go.RowKit
abbrev stpA (s : Stp) (ck cd cm : Value) : Array Value := #[.int .i64 s.cmd.verb, ck, .int .u64 s.cmd.flags, .int .i64 s.cmd.exp, .int .u64 s.cmd.tok, .int .u64 s.cmd.del, cd, .bool s.cmd.nr, .bool s.large, cm, sv s.cmd.what, .int .i64 s.wk, sv s.wt, .int .i64 s.wp, .int .i64 s.frm, .int .i64 s.to]
def sets (vs : Array Value) : Nat → List Value → Array Value
  | _, [] => vs
  | o, v :: l => sets (vs.setIfInBounds o v) (o + 1) l
theorem Box.sets {t b : Nat} : ∀ (l : List Value) (o : Nat) {w : World} {vs : Array Value}, Box w t b vs → Box (w.setCells b o l) t b (sets vs o l)
  | [], _, _, _, h => h
  | v :: l, o, _, _, h => Box.sets l (o + 1) (h.set o v)
theorem gb_setCells {b : Nat} : ∀ (l : List Value) (o : Nat) {w0 w : World}, w0.grownBy w (some b) → w0.grownBy (w.setCells b o l) (some b)
  | [], _, _, _, h => h
  | v :: l, o, _, _, h => gb_setCells l (o + 1) (gb_setCell h v)
theorem Box.there {w : World} {t b : Nat} {vs : Array Value} (h : Box w t b vs) (o n : Nat) (hn : o + n ≤ vs.size) : w.there b o n := by
  intro j hj
  refine ⟨?_, h.fz _⟩
  rw [h.cell, Array.getElem?_eq_getElem (by omega)]
  rfl
theorem sets_0 (u0 u1 u2 u3 u4 u5 u6 u7 u8 u9 u10 u11 u12 u13 u14 u15 v0 v1 v2 v3 v4 v5 v6 v7 v8 v9 v10 v11 v12 v13 v14 v15 : Value) : sets #[u0, u1, u2, u3, u4, u5, u6, u7, u8, u9, u10, u11, u12, u13, u14, u15] 0 [v0, v1, v2, v3, v4, v5, v6, v7, v8, v9, v10, v11, v12, v13, v14, v15] = #[v0, v1, v2, v3, v4, v5, v6, v7, v8, v9, v10, v11, v12, v13, v14, v15] := by
  simp only [sets, List.setIfInBounds_toArray, List.set_cons_zero, List.set_cons_succ]
theorem size86 : (Tryz.prog.info? 85).map (·.size) = some 16 := by kernel_rfl
section
variable {w : World} {ops : Array Oper} {rest : List Oper} {op : Oper} {a : Act} {Q : Exit → Act → World → Prop}
theorem load86 (hgd : op.guard = none) (x : Operand) (ho : op.op = .load 85 x) (t b o : Nat) (vs : Array Value) (hb : Box w t b vs) (hx : a.eval x = .pointer (some ⟨b, o, none⟩)) (cs : List Value) (hs : cs.length = 16) (hc : ∀ j v, cs[j]? = some v → vs[o + j]? = some v)
    (h : wpList Tryz.prog ops Q rest (a.put op.dst (.agg cs.toArray)) w) : wpList Tryz.prog ops Q (op :: rest) a w :=
  wpList_load_mid hgd 85 x ho b o hx cs _ (fun j v hv => by rw [hb.cell]; exact hc j v hv) Tryz.underlying85 rfl (by rw [hs]; exact size86) h
end
end Go.Proofs.YtbbocbdoiealoaaGreatDoor
