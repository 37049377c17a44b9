import Derived.Deep.LoopGhost
import Derived.Test.YtobegepebochkaaGreatDoorRXa
import Derived.Test.YtobegepebochkaaGreatDoorRPag
import Derived.Test.YtobegepebochkaaGreatDoorRPam
import Derived.Test.YtobegepebochkaaGreatDoorRPap
import Derived.Test.YtobegepebochkaaGreatDoorRTe
import Derived.Test.YtobegepebochkaaGreatDoorRPar
import Derived.Deep.CutRange
import Derived.Test.YtobegepebochkaaGreatDoorRPan
import Derived.Test.YtobegepebochkaaGreatDoorRPao
set_option linter.unusedVariables false
set_option linter.unusedSimpArgs false
set_option maxRecDepth 100000
set_option maxHeartbeats 16000000
namespace Go.Proofs.YtobegepebochkaaGreatDoor
open Go.RowKit Go.Maps
theorem size41 : (Tryz.prog.info? 41).map (·.size) = some 11 := by kernel_rfl
theorem size43 : (Tryz.prog.info? 43).map (·.size) = some 3 := by kernel_rfl
section
variable {w : World} {ops : Array Oper} {rest : List Oper} {op : Oper} {a : Act} {Q : Exit -> Act -> World -> Prop}
theorem atS (T : TypeId) {x y : Operand} (b o : Nat) (ho : op.op = .store T x y) (hx : a.eval x = .pointer (some ⟨b, o, none⟩)) (h : wpList Tryz.prog ops Q (op :: rest) a w) : wpList Tryz.prog ops Q (op :: rest) a w := h
theorem atL (T : TypeId) {x : Operand} (b o : Nat) (ho : op.op = .load T x) (hx : a.eval x = .pointer (some ⟨b, o, none⟩)) (h : wpList Tryz.prog ops Q (op :: rest) a w) : wpList Tryz.prog ops Q (op :: rest) a w := h
theorem storeT (T n : Nat) (hsz : (Tryz.prog.info? T).map (·.size) = some n) (hgd : op.guard = none) (x y : Operand) (ho : op.op = .store T x y) (t b o : Nat) (vs : Array Value) (hb : Box w t b vs) (hn : o + n <= vs.size)
    (hx : a.eval x = .pointer (some ⟨b, o, none⟩)) (cs : Array Value) (hy : a.eval y = .agg cs) (hs : cs.size = n) (h1 : cs.all (·.oneCell') = true)
    (h : ∀ W, Box W t b (sets vs o cs.toList) -> w.grownBy W (some b) -> wpList Tryz.prog ops Q rest (a.put op.dst undef) W) : wpList Tryz.prog ops Q (op :: rest) a w := by
  refine wpList_store_mid hgd T x y ho b o cs hx hy (by rw [hs]; exact hb.there o n hn) (by rw [hs]; exact hsz) h1 ?_
  exact h _ (hb.sets _ _) (gb_setCells _ _ (gb_refl _ _))
theorem load41 (hgd : op.guard = none) (x : Operand) (ho : op.op = .load 41 x) (t b o : Nat) (vs : Array Value) (hb : Box w t b vs) (hx : a.eval x = .pointer (some ⟨b, o, none⟩)) (cs : List Value) (hs : cs.length = 11) (hc : ∀ j v, cs[j]? = some v -> vs[o + j]? = some v)
    (h : wpList Tryz.prog ops Q rest (a.put op.dst (.agg cs.toArray)) w) : wpList Tryz.prog ops Q (op :: rest) a w :=
  wpList_load_mid hgd 41 x ho b o hx cs _ (fun j v hv => by rw [hb.cell]; exact hc j v hv) Tryz.underlying41 rfl (by rw [hs]; exact size41) h
theorem load43 (hgd : op.guard = none) (x : Operand) (ho : op.op = .load 43 x) (t b o : Nat) (vs : Array Value) (hb : Box w t b vs) (hx : a.eval x = .pointer (some ⟨b, o, none⟩)) (cs : List Value) (hs : cs.length = 3) (hc : ∀ j v, cs[j]? = some v -> vs[o + j]? = some v)
    (h : wpList Tryz.prog ops Q rest (a.put op.dst (.agg cs.toArray)) w) : wpList Tryz.prog ops Q (op :: rest) a w :=
  wpList_load_mid hgd 43 x ho b o hx cs _ (fun j v hv => by rw [hb.cell]; exact hc j v hv) Tryz.underlying43 rfl (by rw [hs]; exact size43) h
end
theorem sets_41 (u0 u1 u2 u3 u4 u5 u6 u7 u8 u9 u10 v0 v1 v2 v3 v4 v5 v6 v7 v8 v9 v10 : Value) : sets #[u0, u1, u2, u3, u4, u5, u6, u7, u8, u9, u10] 0 [v0, v1, v2, v3, v4, v5, v6, v7, v8, v9, v10] = #[v0, v1, v2, v3, v4, v5, v6, v7, v8, v9, v10] := by
  simp only [sets, List.setIfInBounds_toArray, List.set_cons_zero, List.set_cons_succ]
theorem sets_43 (u0 u1 u2 v0 v1 v2 : Value) : sets #[u0, u1, u2] 0 [v0, v1, v2] = #[v0, v1, v2] := by
  simp only [sets, List.setIfInBounds_toArray, List.set_cons_zero, List.set_cons_succ]
end Go.Proofs.YtobegepebochkaaGreatDoor
namespace Go.Proofs.YtobegepebochkaaGreatDoor
open Go.RowKit Go.Maps
theorem lnF_kept (limit at_ : Nat) (p : Bs) : (lnF limit at_ p).kept.dropLast = p := by
  show ([] ++ (p ++ [10])).dropLast = p
  rw [List.nil_append, List.dropLast_concat]
theorem lnF_inl {limit at_ : Nat} {p : Bs} {c : Cmd} {n : Int} (hl : lineS (trim p) = .inl (c, n)) : (lnF limit at_ p).rd =
    if n < 0 then ({ lnF limit at_ p with head := (lnF limit at_ p).kept.length, s := stpC c false }, true) else
    if (limit : Int) < n then ((lnF limit at_ p).pass (stpC c true) n.toNat, false) else
    ({ lnF limit at_ p with head := (lnF limit at_ p).kept.length, s := stpC c false }.await n.toNat, false) := by
  unfold Fd.rd
  rw [lnF_kept, hl]
  rfl
theorem lnF_inr {limit at_ : Nat} {p : Bs} {k : Int} {x : Bs} {q : Int} (hl : lineS (trim p) = .inr (k, x, q)) : (lnF limit at_ p).rd =
    if q < 0 \/ (limit : Int) < q then ({ lnF limit at_ p with head := (lnF limit at_ p).kept.length, s := stpW k x q }, true) else
    ((lnF limit at_ p).pass (stpW k x q) q.toNat, false) := by
  unfold Fd.rd
  rw [lnF_kept, hl]
  rfl
theorem stepY_inl {limit at_ : Nat} {p t : Bs} (hp : (10 : UInt8) ∉ p) {c : Cmd} {n : Int} (hl : lineS (trim p) = .inl (c, n)) (hn : n < 0) : StepY limit at_ (p ++ 10 :: t) ⟨c, [], false, 0, [], 0, at_, at_ + (p.length + 1)⟩ (p.length + 1) := by
  have h := lnF_inl (limit := limit) (at_ := at_) hl
  rw [if_pos hn] at h
  have := step_line (limit := limit) (at_ := at_) p t hp (by rw [h])
  rw [h] at this
  exact this
theorem stepY_inr {limit at_ : Nat} {p t : Bs} (hp : (10 : UInt8) ∉ p) {k : Int} {x : Bs} {q : Int} (hl : lineS (trim p) = .inr (k, x, q)) (hq : q < 0 \/ (limit : Int) < q) : StepY limit at_ (p ++ 10 :: t) ⟨cmd0 0 false, [], false, k, x, q, at_, at_ + (p.length + 1)⟩ (p.length + 1) := by
  have h := lnF_inr (limit := limit) (at_ := at_) hl
  rw [if_pos hq] at h
  have := step_line (limit := limit) (at_ := at_) p t hp (by rw [h])
  rw [h] at this
  exact this
theorem three (t : Bs) (n : Nat) : t.length < n \/ (∃ b u, t = b ++ u /\ b.length = n /\ (10 : UInt8) ∉ u) \/ ∃ b u v, t = b ++ (u ++ 10 :: v) /\ b.length = n /\ (10 : UInt8) ∉ u := by
  rcases Nat.lt_or_ge t.length n with h | h
  . exact .inl h
  . right
    have hb : (t.take n).length = n := by rw [List.length_take]; omega
    rcases indexByte_spec 10 (t.drop n) with ⟨_, h1⟩ | ⟨p, v, h1, h2, _⟩
    . exact .inl ⟨t.take n, t.drop n, (List.take_append_drop n t).symm, hb, h1⟩
    . exact .inr ⟨t.take n, p, v, by rw [<- h1, List.take_append_drop], hb, h2⟩
end Go.Proofs.YtobegepebochkaaGreatDoor
namespace Go.Proofs.YtobegepebochkaaGreatDoor
open Go.RowKit Go.Maps
theorem trim_get {l : Bs} {i : Nat} {x : UInt8} (h : (trim l)[i]? = some x) : l[i]? = some x := by
  unfold trim at h
  split at h
  . obtain ⟨hi, e⟩ := List.getElem?_eq_some_iff.1 h
    rw [List.getElem_dropLast] at e
    exact List.getElem?_eq_some_iff.2 ⟨_, e⟩
  . exact h
end Go.Proofs.YtobegepebochkaaGreatDoor
namespace Go.Proofs.YtobegepebochkaaGreatDoor
open Go.RowKit Go.Maps
def Fd.Dn (F : Fd) : Prop := F.s.data = []
theorem dn_rd (F : Fd) : F.rd.1.Dn := by
  unfold Fd.rd
  cases lineS (trim F.kept.dropLast) with
  | inl x =>
    obtain ⟨c, n⟩ := x
    dsimp only
    split
    . rfl
    . split <;> rfl
  | inr x =>
    obtain ⟨k, t, p⟩ := x
    dsimp only
    split <;> rfl
theorem dn_tell (F : Fd) (n : Nat) (h : F.s.data.length <= n) : F.tell.1.Dn /\ ∀ s ∈ F.tell.2, s.data.length <= n := by
  refine ⟨rfl, fun s hs => ?_⟩
  simp [Fd.tell] at hs
  subst hs
  exact h
theorem dn_skip (F : Fd) (n : Nat) (b : UInt8) (h : F.Dn) : (F.skip b).1.Dn /\ ∀ s ∈ (F.skip b).2, s.data.length <= n := by
  unfold Fd.skip
  split
  . exact ⟨h, fun s hs => by simp at hs⟩
  . split
    . exact dn_tell F n (by rw [h]; simp)
    . exact ⟨h, fun s hs => by simp at hs⟩
theorem dn_fb {F : Fd} (hok : F.Ok) (h : F.Dn) (b : UInt8) : (F.fb b).1.Dn /\ ∀ s ∈ (F.fb b).2, s.data.length <= F.taken := by
  have hk := (held_le hok).2
  unfold Fd.fb
  split
  . split
    . unfold Fd.end1
      split
      . exact dn_tell _ _ (by rw [dn_rd]; simp)
      . exact ⟨dn_rd _, fun s hs => by simp at hs⟩
    . split
      . exact ⟨rfl, fun s hs => by simp at hs⟩
      . exact ⟨h, fun s hs => by simp at hs⟩
  . split
    . exact ⟨h, fun s hs => by simp at hs⟩
    . split
      . split
        . exact ⟨h, fun s hs => by simp at hs⟩
        . exact dn_skip _ _ _ rfl
      . split
        . split
          . refine dn_tell _ _ ?_
            show ((F.kept.drop F.head).dropLast).length <= F.taken
            rw [List.length_dropLast, List.length_drop]
            omega
          . exact dn_skip _ _ _ rfl
        . split
          . exact dn_skip _ _ _ h
          . exact ⟨h, fun s hs => by simp at hs⟩
theorem dn_run : ∀ (l : Bs) {F : Fd}, F.Ok -> F.Dn -> ∀ s ∈ (F.run l).2, s.data.length <= F.taken + l.length
  | [], F, _, _ => by simp [Fd.run]
  | b :: t, F, hok, h => by
    intro s hs
    simp only [Fd.run] at hs
    obtain ⟨h1, h2⟩ := dn_fb hok h b
    rcases List.mem_append.1 hs with hs | hs
    . have := h2 s hs
      simp; omega
    . have := dn_run t (ok_fb hok b) h1 s hs
      rw [(fb_facts F b).1] at this
      simp; omega
end Go.Proofs.YtobegepebochkaaGreatDoor
namespace Go.Proofs.YtobegepebochkaaGreatDoor
open Go.RowKit Go.Maps
def LnC (q : Bs) (c : Cmd) (n k : Int) (t : Bs) (p : Int) : Prop := (lineS (trim q) = .inl (c, n) /\ k = 0 /\ t = [] /\ p = 0) \/ (lineS (trim q) = .inr (k, t, p) /\ c = cmd0 0 false /\ n = -1)
def RdX (w1 : World) (q : Bs) (v3 v4 v5 : Value) (wc : World) : Prop :=
  ∃ b3 b5 c n ka kn kc ma mn mc k t p, v3 = .pointer (some ⟨b3, 0, none⟩) /\ v4 = .int .i64 n /\ v5 = .pointer (some ⟨b5, 0, none⟩) /\ w1.heap.size <= b3 /\ w1.heap.size <= b5 /\ w1.grownBy wc none /\
    Box wc 41 b3 (cmA c (.slice ka kn kc) (.slice ma mn mc)) /\ Box wc 43 b5 #[.int .i64 k, sv t, .int .i64 p] /\ wc.ownsRow w1.heap.size 9 1 (.slice ka kn kc) c.keys.length (c.keys.map sv) /\ wc.ownsRow w1.heap.size 79 3 (.slice ma mn mc) c.mt.length (fcs c.mt) /\ LnC q c n k t p
theorem line_both {w : World} (hE : Er w) {v : Value} {q : Bs} (hB : By w v (trim q)) :
    Calls Tryz.prog 15 #[v] w fun e w' => ∃ c n ka kn kc ma mn mc k t p, e = .returned (.tuple #[.agg (cmA c (.slice ka kn kc) (.slice ma mn mc)), .int .i64 n, .agg #[.int .i64 k, sv t, .int .i64 p]]) /\ w'.ownsRow w.heap.size 9 1 (.slice ka kn kc) c.keys.length (c.keys.map sv) /\ w'.ownsRow w.heap.size 79 3 (.slice ma mn mc) c.mt.length (fcs c.mt) /\ w.grownBy w' none /\ LnC q c n k t p := by
  refine (Line_6 hE v _ hB).mono ?_
  rintro e w' ⟨hL, hg⟩
  rcases hL with ⟨c, n, kv, mv, hl, rfl, h1, h2⟩ | ⟨k, t, p, hl, rfl⟩
  . obtain ⟨ka, kc, rfl, -, -, -, -⟩ := row_shape h1
    obtain ⟨ma, mc, rfl, -, -, -, -⟩ := row_shape h2
    exact ⟨c, n, ka, _, kc, ma, _, mc, 0, [], 0, rfl, h1, h2, hg, .inl ⟨hl, rfl, rfl, rfl⟩⟩
  . exact ⟨cmd0 0 false, -1, none, 0, 0, none, 0, 0, k, t, p, rfl, World.ownsRow_nil _ _ _ _, World.ownsRow_nil _ _ _ _, hg, .inr ⟨hl, rfl, rfl⟩⟩
theorem rd_ok {G : Fd} {q : Bs} {c : Cmd} {n : Int} (hq : G.kept = q ++ [10]) (hl : lineS (trim q) = .inl (c, n)) : G.rd = if n < 0 then ({ G with head := G.kept.length, s := stpC c false }, true) else if (G.limit : Int) < n then (G.pass (stpC c true) n.toNat, false) else ({ G with head := G.kept.length, s := stpC c false }.await n.toNat, false) := by
  have e : G.kept.dropLast = q := by rw [hq]; simp
  unfold Fd.rd
  rw [e, hl]
theorem rd_no {G : Fd} {q : Bs} {k : Int} {t : Bs} {p : Int} (hq : G.kept = q ++ [10]) (hl : lineS (trim q) = .inr (k, t, p)) : G.rd = if p < 0 \/ (G.limit : Int) < p then ({ G with head := G.kept.length, s := stpW k t p }, true) else (G.pass (stpW k t p) p.toNat, false) := by
  have e : G.kept.dropLast = q := by rw [hq]; simp
  unfold Fd.rd
  rw [e, hl]
theorem rd_done {w W : World} {fb g n0 cp B : Nat} {G F' : Fd} {kv' ck cd cm : Value} {hd lf hd' lf' : Int} {ka ma : Option Addr} {kn kc mn mc : Nat} {wh : Bool} (hx : IsFx w fb G (.slice (some ⟨g, 0, none⟩) n0 cp) hd lf ck cd cm) (hG : w.grownBy W (some fb)) (hb : Box W 136 fb (fdA fb F' kv' hd' lf' (.slice ka kn kc) (.slice none 0 0) (.slice ma mn mc)))
    (r1 : W.ownsRow B 9 1 (.slice ka kn kc) F'.s.cmd.keys.length (F'.s.cmd.keys.map sv)) (r2 : W.ownsRow B 79 3 (.slice ma mn mc) F'.s.cmd.mt.length (fcs F'.s.cmd.mt)) (hB : w.heap.size <= B) (hsd : F'.s.data = [])
    (hkp : (kv' = .slice (some ⟨g, 0, none⟩) n0 cp /\ F'.kept = G.kept) \/ (kv' = .slice none 0 0 /\ F'.kept = [])) (hF : G.rd = (F', wh)) (h1 : F'.st = 1 \/ F'.st = 2 \/ F'.st = 3 -> hd' = (F'.head : Int)) (h2 : F'.st = 1 \/ F'.st = 4 -> lf' = (F'.left : Int)) : RdF G w fb (.slice (some ⟨g, 0, none⟩) n0 cp) (.returned (.bool wh)) W := by
  have hfb := hx.box.lt
  have hg := row_lt hx.kept g rfl
  have hX : ∀ k, B <= k -> ¬ XF fb kv' k := by
    rintro k hk (rfl | h)
    . omega
    . rcases hkp with ⟨rfl, -⟩ | ⟨rfl, -⟩
      . simp [Value.ownBlock] at h
        omega
      . simp [Value.ownBlock] at h
  refine ⟨kv', by rw [hF], ?_, gb_kp hG, fun k hk => ?_, fun k hk => .inr ?_⟩
  . rw [hF]
    refine ⟨hd', lf', _, _, _, ⟨hb, ⟨row_base r1 (Nat.zero_le _), by rw [hsd]; exact World.ownsRow_nil _ _ _ _, row_base r2 (Nat.zero_le _), fun k hk => hX k (World.ownsRow.lt r1 k hk).1, fun k hk => by simp [Value.ownBlock] at hk, fun k hk => hX k (World.ownsRow.lt r2 k hk).1, fun _ => rfl⟩, ?_⟩, h1, h2⟩
    rcases hkp with ⟨rfl, e⟩ | ⟨rfl, e⟩
    . rw [e]
      exact row_kept hx.kept hG (row_box hx.kept hx.box (by omega))
    . rw [e]; exact World.ownsRow_nil _ _ _ _
  . rcases hkp with ⟨rfl, -⟩ | ⟨rfl, -⟩
    . exact hk
    . simp [Value.ownBlock] at hk
  . rcases (pn_box hb).1 hk with h | h
    . exact Nat.le_trans hB (World.ownsRow.lt r1 k h).1
    . exact Nat.le_trans hB (World.ownsRow.lt r2 k h).1
theorem er_box {w : World} {fb : Nat} {G : Fd} {kv ck cd cm : Value} {hd lf : Int} (hE : Er w) (hb : Box w 136 fb (fdA fb G kv hd lf ck cd cm)) : fb ≠ 2 /\ fb ≠ 3 := by
  obtain ⟨⟨a, b, e1⟩, c, d, e2⟩ := hE
  have c0 : w.cell? ⟨fb, 0, none⟩ = some (.int .i64 G.limit) := hb.cell 0
  constructor
  . rintro rfl
    rw [e1] at c0
    injection c0 with c0
    cases c0
  . rintro rfl
    rw [e2] at c0
    injection c0 with c0
    cases c0
end Go.Proofs.YtobegepebochkaaGreatDoor
