/-
  CountOrder: a call with small numbers.
-/
import Derived.Test.YtonbkpfnpnlkpaaDoorOb
import Derived.Deep.MidRow
import Derived.Great.Walk
namespace Go.Proofs.YtonbkpfnpnlkpaaDoor
open Go.ChangeShapes Go.WideShapes Go.ChangeAt Go.RowKit
set_option linter.unusedVariables false
set_option linter.unusedSimpArgs false
attribute [local go_sem] Oper.semAt_some

def sets (vs : Array Value) : Nat → List Value → Array Value
  | _, [] => vs
  | o, v :: l => sets (vs.setIfInBounds o v) (o + 1) l
theorem Box.sets {t b : Nat} : ∀ (l : List Value) (o : Nat) {w : World} {vs : Array Value}, Box w t b vs → Box (w.setCells b o l) t b (sets vs o l)
  | [], _, _, _, h => h
  | v :: l, o, _, _, h => Box.sets l (o + 1) (h.set o v)
theorem gb_setCells {b : Nat} : ∀ (l : List Value) (o : Nat) {w0 w : World}, w0.grownBy w (some b) → w0.grownBy (w.setCells b o l) (some b)
  | [], _, _, _, h => h
  | v :: l, o, _, _, h => gb_setCells l (o + 1) (gb_setCell h v)
theorem Box.there {w : World} {t b : Nat} {vs : Array Value} (h : Box w t b vs) (o n : Nat) (hn : o + n ≤ vs.size) : w.there b o n := by
  intro j hj
  refine ⟨?_, h.fz _⟩
  rw [h.cell, Array.getElem?_eq_getElem (by omega)]
  rfl
theorem size53 : (Tryd.prog.info? 53).map (·.size) = some 23 := by kernel_rfl
theorem size42 : (Tryd.prog.info? 42).map (·.size) = some 6 := by kernel_rfl
theorem Tryd.info53 : (Tryd.prog.info? 53).map (fun i => (i.zero, i.size, i.bytes)) = some (some (.agg #[.int .i64 0, .slice none 0 0, .int .u64 0, .int .i64 0, .int .u64 0, .int .u64 0, .slice none 0 0, .bool false, .bool false, .slice none 0 0, .string ⟨#[]⟩, .int .i64 0, .slice none 0 0, .int .u64 0, .string ⟨#[]⟩, .slice none 0 0, .slice none 0 0, .int .i64 0, .int .i64 0, .int .i64 0, .int .i64 0, .int .i64 0, .int .i64 0]), 23, 288) := by kernel_rfl
theorem Tryd.info42 : (Tryd.prog.info? 42).map (fun i => (i.zero, i.size, i.bytes)) = some (some (.agg #[.int .i64 0, .int .i64 0, .int .i64 0, .int .i64 0, .int .i64 0, .int .i64 0]), 6, 48) := by kernel_rfl
section
variable {w : World} {ops : Array Oper} {rest : List Oper} {op : Oper} {a : Act} {Q : Exit → Act → World → Prop}
theorem atS (T : TypeId) {x y : Operand} (b o : Nat) (ho : op.op = .store T x y) (hx : a.eval x = .pointer (some ⟨b, o, none⟩)) (h : wpList Tryd.prog ops Q (op :: rest) a w) : wpList Tryd.prog ops Q (op :: rest) a w := h
theorem atL (T : TypeId) {x : Operand} (b o : Nat) (ho : op.op = .load T x) (hx : a.eval x = .pointer (some ⟨b, o, none⟩)) (h : wpList Tryd.prog ops Q (op :: rest) a w) : wpList Tryd.prog ops Q (op :: rest) a w := h
theorem storeT (T n : Nat) (hsz : (Tryd.prog.info? T).map (·.size) = some n) (hgd : op.guard = none) (x y : Operand) (ho : op.op = .store T x y) (t b o : Nat) (vs : Array Value) (hb : Box w t b vs) (hn : o + n ≤ vs.size)
    (hx : a.eval x = .pointer (some ⟨b, o, none⟩)) (cs : Array Value) (hy : a.eval y = .agg cs) (hs : cs.size = n) (h1 : cs.all (·.oneCell') = true)
    (h : ∀ W, Box W t b (sets vs o cs.toList) → w.grownBy W (some b) → wpList Tryd.prog ops Q rest (a.put op.dst undef) W) : wpList Tryd.prog ops Q (op :: rest) a w := by
  refine wpList_store_mid hgd T x y ho b o cs hx hy (by rw [hs]; exact hb.there o n hn) (by rw [hs]; exact hsz) h1 ?_
  exact h _ (hb.sets _ _) (gb_setCells _ _ (gb_refl _ _))
theorem load53 (hgd : op.guard = none) (x : Operand) (ho : op.op = .load 53 x) (t b o : Nat) (vs : Array Value) (hb : Box w t b vs) (hx : a.eval x = .pointer (some ⟨b, o, none⟩)) (cs : List Value) (hs : cs.length = 23) (hc : ∀ j v, cs[j]? = some v → vs[o + j]? = some v)
    (h : wpList Tryd.prog ops Q rest (a.put op.dst (.agg cs.toArray)) w) : wpList Tryd.prog ops Q (op :: rest) a w :=
  wpList_load_mid hgd 53 x ho b o hx cs _ (fun j v hv => by rw [hb.cell]; exact hc j v hv) Tryd.underlying53 rfl (by rw [hs]; exact size53) h
end
theorem res22 {w : World} {b : Nat} (cs : List Value) (hs : cs.length = 23) (h : Box w 53 b cs.toArray) (tmps : Array Value) (ht : tmps[2]?.getD undef = .pointer (some ⟨b, 0, none⟩)) : (results Tryd.f22 tmps).run Tryd.prog w = .ok (.agg cs.toArray) w := by
  have hr : Tryd.f22.results = #[.cell 2 53] := rfl
  have hl := run_loadVar_mid (P := Tryd.prog) w b 0 53 cs _ (fun j v hv => by rw [h.cell, Nat.zero_add]; simpa using hv) Tryd.underlying53 rfl (by rw [hs]; exact size53)
  unfold results
  simp [hr, ht, hl, Sem.run_bind, asAddr]
/-- A meter's number, made small. -/
def md (n : Int) : Int := n.tmod 1000
def fewO (x : Oc) : Oc := ⟨x.c, x.a, fw x.y, ⟨md x.m.dr, md x.m.re, 0, 0, 0, md x.m.cr⟩, x.fl, x.why.take 10000⟩
theorem md_le (n : Int) : md n ≤ 999 := by
  unfold md
  rcases Int.le_total 0 n with h | h
  · have := Int.tmod_lt_of_pos n (show (0 : Int) < 1000 by omega); omega
  · have e : n.tmod 1000 = -((-n).tmod 1000) := by rw [Int.neg_tmod]; omega
    have := Int.tmod_nonneg 1000 (show 0 ≤ -n by omega)
    omega
theorem OcOk.few {w : World} {x : Oc} (h : OcOk w x) : OcOk w (fewO x) :=
  ⟨h.a, h.fl, few_ints h.why, ⟨by have := md_le x.m.dr; simp only [fewO]; omega, by have := md_le x.m.re; simp only [fewO]; omega, by have := md_le x.m.cr; simp only [fewO]; omega⟩⟩
set_option maxRecDepth 100000 in
set_option maxHeartbeats 8000000 in
theorem fewer_22 (x : Oc) (w : World) (ok : OcOk w x) :
    Calls Tryd.prog 22 #[.agg (ocL x).toArray] w fun e w' => e = .returned (.agg (ocL (fewO x)).toArray) ∧ w.grownBy w' none := by
  obtain ⟨⟨vb, ka, kn, kc, fl1, ex, tk, de, da, dn, dc, nr, lg, ma, mn, mc, what⟩, ⟨ak, en, nu, tx, st⟩, y, ⟨dr, re, bu, li, lo, cr⟩, fl, why⟩ := x
  obtain ⟨ha, hfl, hwy, hm⟩ := ok
  obtain ⟨⟨x1, n1, k1, e1⟩, ⟨n2, e2⟩, ⟨x3, n3, k3, e3⟩, hl⟩ := ha
  simp only at e1 e2 e3
  subst e1 e2 e3
  simp only at hwy
  obtain ⟨ya, yc, rfl⟩ : ∃ ya yc, y = .slice ya why.length yc := by obtain ⟨p, q, e, _⟩ := hwy; exact ⟨p, q, e⟩
  have h20 := fun (X : World) (hX : w.grownBy X none) => few_20 (.slice ya why.length yc) why X (hwy.kept (Kp.of (F := fun _ => False) hX) (fun _ _ _ _ _ h => h))
  simp only [fewO, fw, ocL, md] at h20 ⊢
  generalize min why.length 10000 = zn at *
  clear hwy
  generalize why.length = yn at *
  have g1 := World.grownBy_alloc w (.cells #[.int .i64 vb, .slice ka kn kc, .int .u64 fl1, .int .i64 ex, .int .u64 tk, .int .u64 de, .slice da dn dc, .bool nr, .bool lg, .slice ma mn mc, .string what, .int .i64 ak, .slice x1 n1 k1, .int .u64 n2, sv tx, .slice x3 n3 k3, .slice ya yn yc, .int .i64 dr, .int .i64 re, .int .i64 bu, .int .i64 li, .int .i64 lo, .int .i64 cr] 53) none
  have b1 := Box.new w 53 #[.int .i64 vb, .slice ka kn kc, .int .u64 fl1, .int .i64 ex, .int .u64 tk, .int .u64 de, .slice da dn dc, .bool nr, .bool lg, .slice ma mn mc, .string what, .int .i64 ak, .slice x1 n1 k1, .int .u64 n2, sv tx, .slice x3 n3 k3, .slice ya yn yc, .int .i64 dr, .int .i64 re, .int .i64 bu, .int .i64 li, .int .i64 lo, .int .i64 cr]
  have s1 : (w.alloc (.cells #[.int .i64 vb, .slice ka kn kc, .int .u64 fl1, .int .i64 ex, .int .u64 tk, .int .u64 de, .slice da dn dc, .bool nr, .bool lg, .slice ma mn mc, .string what, .int .i64 ak, .slice x1 n1 k1, .int .u64 n2, sv tx, .slice x3 n3 k3, .slice ya yn yc, .int .i64 dr, .int .i64 re, .int .i64 bu, .int .i64 li, .int .i64 lo, .int .i64 cr] 53)).heap.size = w.heap.size + 1 := by simp
  generalize hW1 : w.alloc (.cells #[.int .i64 vb, .slice ka kn kc, .int .u64 fl1, .int .i64 ex, .int .u64 tk, .int .u64 de, .slice da dn dc, .bool nr, .bool lg, .slice ma mn mc, .string what, .int .i64 ak, .slice x1 n1 k1, .int .u64 n2, sv tx, .slice x3 n3 k3, .slice ya yn yc, .int .i64 dr, .int .i64 re, .int .i64 bu, .int .i64 li, .int .i64 lo, .int .i64 cr] 53) = W1 at *
  have g2 := World.grownBy_alloc W1 (.cells #[.int .i64 0, .slice none 0 0, .int .u64 0, .int .i64 0, .int .u64 0, .int .u64 0, .slice none 0 0, .bool false, .bool false, .slice none 0 0, .string ⟨#[]⟩, .int .i64 0, .slice none 0 0, .int .u64 0, .string ⟨#[]⟩, .slice none 0 0, .slice none 0 0, .int .i64 0, .int .i64 0, .int .i64 0, .int .i64 0, .int .i64 0, .int .i64 0] 53) none
  have b2 := Box.new W1 53 #[.int .i64 0, .slice none 0 0, .int .u64 0, .int .i64 0, .int .u64 0, .int .u64 0, .slice none 0 0, .bool false, .bool false, .slice none 0 0, .string ⟨#[]⟩, .int .i64 0, .slice none 0 0, .int .u64 0, .string ⟨#[]⟩, .slice none 0 0, .slice none 0 0, .int .i64 0, .int .i64 0, .int .i64 0, .int .i64 0, .int .i64 0, .int .i64 0]
  generalize hW2 : W1.alloc (.cells #[.int .i64 0, .slice none 0 0, .int .u64 0, .int .i64 0, .int .u64 0, .int .u64 0, .slice none 0 0, .bool false, .bool false, .slice none 0 0, .string ⟨#[]⟩, .int .i64 0, .slice none 0 0, .int .u64 0, .string ⟨#[]⟩, .slice none 0 0, .slice none 0 0, .int .i64 0, .int .i64 0, .int .i64 0, .int .i64 0, .int .i64 0, .int .i64 0] 53) = W2 at *
  rw [s1] at b2
  replace b1 := b1.kept g2 (by simp)
  have G2 := gb_trans g1 g2
  have c16 : W2.cell? ⟨w.heap.size, 16, none⟩ = some (.slice ya yn yc) := b1.cell 16
  have f16 := b1.fz 16
  have c17 : W2.cell? ⟨w.heap.size, 17, none⟩ = some (.int .i64 dr) := b1.cell 17
  have c18 : W2.cell? ⟨w.heap.size, 18, none⟩ = some (.int .i64 re) := b1.cell 18
  have c22 : W2.cell? ⟨w.heap.size, 22, none⟩ = some (.int .i64 cr) := b1.cell 22
  have b3 := b1.set 16 (.slice ya zn yc)
  simp only [List.setIfInBounds_toArray, List.set_cons_zero, List.set_cons_succ] at b3
  obtain ⟨i0, hi0, hz0, hz1, hz2⟩ := info_parts Tryd.info53
  obtain ⟨i1, hi1, hy0, hy1, hy2⟩ := info_parts Tryd.info42
  go_enter Tryd.func22, Tryd.ntmps22
  have u2 := b2.kept (gb_setCell (i := 16) (gb_refl W2 (some w.heap.size)) (.slice ya zn yc)) (by simp)
  have G3 := gb_mine G2 (gb_setCell (i := 16) (gb_refl W2 (some w.heap.size)) (.slice ya zn yc)) (Nat.le_refl _)
  go_wp2_with (first
    | (go_at_call 20; (with_reducible refine (h20 _ G2).mono ?_); rintro e w3 ⟨rfl, rfl⟩)
    | (refine atS 42 w.heap.size 17 rfl rfl ?_; go_must (refine storeT 42 6 size42 rfl _ _ rfl 53 w.heap.size 17 _ b3 (by simp) rfl _ rfl rfl (by simp [Value.oneCell']) ?_); intro W4 b4 g4; (simp only [sets, List.setIfInBounds_toArray, List.set_cons_zero, List.set_cons_succ] at b4); (have u4 := u2.kept g4 (by simp)))
    | (refine atL 53 w.heap.size 0 rfl rfl ?_; go_must (refine load53 rfl _ rfl 53 w.heap.size 0 _ b4 rfl [.int .i64 vb, .slice ka kn kc, .int .u64 fl1, .int .i64 ex, .int .u64 tk, .int .u64 de, .slice da dn dc, .bool nr, .bool lg, .slice ma mn mc, .string what, .int .i64 ak, .slice x1 n1 k1, .int .u64 n2, sv tx, .slice x3 n3 k3, .slice ya zn yc, .int .i64 (dr.tmod 1000), .int .i64 (re.tmod 1000), .int .i64 0, .int .i64 0, .int .i64 0, .int .i64 (cr.tmod 1000)] rfl (fun j v hv => by simpa using hv) ?_))
    | (refine atS 53 (w.heap.size + 1) 0 rfl rfl ?_; go_must (refine storeT 53 23 size53 rfl _ _ rfl 53 (w.heap.size + 1) 0 _ u4 (by simp) rfl _ rfl rfl (by simp [Value.oneCell', sv]) ?_); intro W6 b6 g6; (simp only [sets, List.setIfInBounds_toArray, List.set_cons_zero, List.set_cons_succ] at b6)))
  refine ⟨rfl, _, res22 [.int .i64 vb, .slice ka kn kc, .int .u64 fl1, .int .i64 ex, .int .u64 tk, .int .u64 de, .slice da dn dc, .bool nr, .bool lg, .slice ma mn mc, .string what, .int .i64 ak, .slice x1 n1 k1, .int .u64 n2, sv tx, .slice x3 n3 k3, .slice ya zn yc, .int .i64 (dr.tmod 1000), .int .i64 (re.tmod 1000), .int .i64 0, .int .i64 0, .int .i64 0, .int .i64 (cr.tmod 1000)] rfl b6 _ rfl, rfl, ?_⟩
  exact gb_mine (gb_mine G3 g4 (Nat.le_refl _)) g6 (by omega)
end Go.Proofs.YtonbkpfnpnlkpaaDoor
