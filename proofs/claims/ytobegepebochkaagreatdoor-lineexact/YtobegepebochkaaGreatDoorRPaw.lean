import Derived.Test.YtobegepebochkaaGreatDoorRPao
import Derived.Test.YtobegepebochkaaGreatDoorRPav
import Derived.Deep.LoopGhost
import Derived.Deep.CutRange
import Derived.Test.YtobegepebochkaaGreatDoorRPar
import Derived.Test.YtobegepebochkaaGreatDoorRPaq
import Derived.Test.YtobegepebochkaaGreatDoorRPau
set_option linter.unusedVariables false
set_option linter.unusedSimpArgs false
set_option maxRecDepth 100000
set_option maxHeartbeats 16000000
namespace Go.Proofs.YtobegepebochkaaGreatDoor
open Go.RowKit Go.Maps
structure Tld where
  s : Stp
  ck : Value
  cd : Value
  cm : Value
abbrev tldL (x : Tld) : List Value := stpL x.s x.ck x.cd x.cm
structure Ss (w : World) (B : Nat) (X : Nat -> Prop) (v : Value) (q : List Tld) : Prop where
  row : w.ownsRow B 86 16 v q.length (q.flatMap tldL)
  all : ∀ x ∈ q, StR w X x.s x.ck x.cd x.cm
theorem Ss.kp {F X Y : Nat -> Prop} {w w' : World} {B : Nat} {v : Value} {q : List Tld} (h : Ss w B X v q) (hk : Kp F w w') (hv : ∀ k, v.ownBlock = some k -> ¬ F k) (hF : ∀ k, k < w.heap.size -> F k -> X k) (hY : ∀ k, k < w.heap.size -> Y k -> X k) : Ss w' B Y v q :=
  ⟨row_kp h.row hk hv, fun x hx => (h.all x hx).kp hk hF hY⟩
theorem Ss.nil (w : World) (B : Nat) (X : Nat -> Prop) : Ss w B X (.slice none 0 0) [] := ⟨World.ownsRow_nil _ _ _ _, fun x hx => by cases hx⟩
theorem row_xf {w : World} {fb B e s n : Nat} {F : Fd} {kv ck cd cm v : Value} {hd lf : Int} {xs : List Value} (h : w.ownsRow B e s v n xs) (he : e ≠ 136 /\ e ≠ 5) (hx : IsFx w fb F kv hd lf ck cd cm) : ∀ k, v.ownBlock = some k -> ¬ XF fb kv k := by
  rintro k hk (rfl | hb)
  . exact row_box h hx.box he.1 k hk rfl
  . obtain ⟨c1, h1⟩ := row_block h k hk
    obtain ⟨c2, h2⟩ := row_block hx.kept k hb
    rw [h1] at h2
    injection h2 with h2
    injection h2 with _ h2
    exact he.2 h2
def FdP (F : Fd) (l : Bs) (w : World) (fb : Nat) (kv : Value) (e : Ending) (w' : World) : Prop :=
  ∃ rv kv' q, e = .returned rv /\ IsF w' fb (F.run l).1 kv' /\ Ss w' w.heap.size (XF fb kv') rv q /\ q.map Tld.s = (F.run l).2 /\ Kp (XF fb kv) w w' /\ (∀ k, kv'.ownBlock = some k -> kv.ownBlock = some k \/ w.heap.size <= k) /\ (∀ x ∈ q, ∀ k, x.cd.ownBlock = some k -> w.heap.size <= k) /\ (q = [] -> rv = .slice none 0 0)
structure FdI (F : Fd) (l : Bs) (w : World) (fb : Nat) (kv : Value) (gk : Nat) (v rv : Value) (wr : World) (l1 : Bs) (F1 : Fd) (kv1 : Value) (q : List Tld) : Prop where
  le : 2 * l1.length + (if F1.st = 4 then 0 else 1) <= gk
  ck : Ck wr (XF fb kv1) v l1
  ll : l1.length <= l.length
  isf : IsF wr fb F1 kv1
  ok : F1.Ok
  tk : F1.taken + l1.length = F.taken + l.length
  ss : Ss wr w.heap.size (XF fb kv1) rv q
  ql : q.length + gk <= 2 * l.length + 1
  old : ∀ g o n c, v = .slice (some ⟨g, o, none⟩) n c -> g < w.heap.size
  run : F.run l = ((F1.run l1).1, q.map Tld.s ++ (F1.run l1).2)
  kp : Kp (XF fb kv) w wr
  own : ∀ k, kv1.ownBlock = some k -> kv.ownBlock = some k \/ w.heap.size <= k
  dnew : ∀ x ∈ q, ∀ k, x.cd.ownBlock = some k -> w.heap.size <= k
  rn : q = [] -> rv = .slice none 0 0
theorem FdI.er {F : Fd} {l : Bs} {w : World} {fb : Nat} {kv : Value} {gk : Nat} {v rv : Value} {wr : World} {l1 : Bs} {F1 : Fd} {kv1 : Value} {q : List Tld} (h : FdI F l w fb kv gk v rv wr l1 F1 kv1 q) (hE : Er w) (hX : ¬ XF fb kv 2 /\ ¬ XF fb kv 3) : Er wr /\ ¬ XF fb kv1 2 /\ ¬ XF fb kv1 3 := by
  have h2 : 2 < w.heap.size /\ 3 < w.heap.size := by
    obtain ⟨⟨a, b, e1⟩, c, d, e2⟩ := hE
    exact ⟨lt_of_cell e1, lt_of_cell e2⟩
  refine ⟨hE.kp h.kp hX.1 hX.2, ?_, ?_⟩
  . rintro (e | e)
    . exact hX.1 (.inl e)
    . rcases h.own _ e with e | e
      . exact hX.1 (.inr e)
      . omega
  . rintro (e | e)
    . exact hX.2 (.inl e)
    . rcases h.own _ e with e | e
      . exact hX.2 (.inr e)
      . omega
theorem FdI.start {F : Fd} {l : Bs} {w : World} {fb : Nat} {kv v : Value} (h : IsF w fb F kv) (hok : F.Ok) (hv : Ck w (XF fb kv) v l) : FdI F l w fb kv (2 * l.length + 1) v (.slice none 0 0) w l F kv [] := by
  have hold : ∀ g o n c, v = .slice (some ⟨g, o, none⟩) n c -> g < w.heap.size := by
    intro g o n c e
    rcases hv with ⟨-, e2⟩ | ⟨g2, o2, c2, e2, -, -, h3, -⟩
    . rw [e2] at e; cases e
    . rw [e2] at e; injection e with e; injection e with e; injection e with e; omega
  exact ⟨by split <;> omega, hv, Nat.le_refl _, h, hok, rfl, Ss.nil _ _ _, by simp, hold, by simp, Kp.refl _ _, fun k hk => .inl hk, (fun x hx => by cases hx), fun _ => rfl⟩
theorem FdI.done {F : Fd} {l : Bs} {w : World} {fb : Nat} {kv : Value} {gk : Nat} {v rv : Value} {wr : World} {l1 : Bs} {F1 : Fd} {kv1 : Value} {q : List Tld} (h : FdI F l w fb kv gk v rv wr l1 F1 kv1 q) (hl : l1 = []) : FdP F l w fb kv (.returned rv) wr := by
  subst hl
  have hr := h.run
  rw [run_nil] at hr
  refine ⟨rv, kv1, q, rfl, ?_, h.ss, ?_, h.kp, h.own, h.dnew, h.rn⟩
  . rw [hr]; exact h.isf
  . rw [hr]; simp
theorem FdI.no {F : Fd} {l : Bs} {w : World} {fb : Nat} {kv : Value} {gk : Nat} {rv : Value} {wr w4 : World} {l1 : Bs} {F1 F2 : Fd} {kv1 kv2 : Value} {q : List Tld} {v v' : Value} {u : Nat} (h : FdI F l w fb kv gk v rv wr l1 F1 kv1 q) (cv : Ck wr (XF fb kv1) v' (l1.drop u)) (ov : ∀ g o n c, v' = .slice (some ⟨g, o, none⟩) n c -> g < w.heap.size)
    (hu : u <= l1.length) (i4 : IsF w4 fb F2 kv2) (k4 : Kp (XF fb kv1) wr w4) (o4 : ∀ k, kv2.ownBlock = some k -> kv1.ownBlock = some k \/ wr.heap.size <= k) (z4 : u = 0 -> F2.st = 4 /\ F1.st ≠ 4) (t4 : F2.taken = F1.taken) (ok4 : (F2.tk u).Ok) (r4 : F1.run l1 = (((F2.tk u).run (l1.drop u)).1, [] ++ ((F2.tk u).run (l1.drop u)).2)) {w5 : World} (w45 : w4.grownBy w5 (some fb)) (i5 : IsF w5 fb (F2.tk u) kv2) :
    ∃ gk', gk' < gk /\ FdI F l w fb kv gk' v' rv w5 (l1.drop u) (F2.tk u) kv2 q := by
  obtain ⟨hd, lf, ck, cd, cm, hx, -, -⟩ := h.isf
  have k5 : Kp (XF fb kv1) wr w5 := k4.step w45 (fun i hi => by injection hi with hi; exact .inl (.inl hi.symm))
  have hY : ∀ k, k < wr.heap.size -> XF fb kv2 k -> XF fb kv1 k := by
    rintro k hk (e | e)
    . exact .inl e
    . rcases o4 k e with e | e
      . exact .inr e
      . omega
  have hlt : 2 * (l1.drop u).length + (if (F2.tk u).st = 4 then 0 else 1) < gk := by
    have := h.le
    rw [List.length_drop]
    rcases Nat.eq_zero_or_pos u with e | e
    . obtain ⟨e1, e2⟩ := z4 e
      have e3 : (F2.tk u).st = 4 := e1
      rw [if_neg e2] at this
      rw [if_pos e3]
      omega
    . split at this <;> split <;> omega
  refine ⟨2 * (l1.drop u).length + (if (F2.tk u).st = 4 then 0 else 1), hlt, ⟨Nat.le_refl _, ?_, ?_, i5, ok4, ?_, ?_, ?_, ?_, ?_, ?_, ?_, h.dnew, h.rn⟩⟩
  . exact cv.kp k5 (fun k _ hf => hf) hY
  . rw [List.length_drop]; have := h.ll; omega
  . show F2.taken + u + (l1.drop u).length = _
    rw [List.length_drop, t4, <- h.tk]; omega
  . exact h.ss.kp k5 (row_xf h.ss.row (by omega) hx) (fun k _ hf => hf) hY
  . have := h.ql; omega
  . exact ov
  . rw [h.run, r4]; simp
  . refine h.kp.trans k5 (fun i hi => hi) (fun i hi => ?_)
    rcases hi with e | e
    . exact .inl (.inl e)
    . rcases h.own i e with e | e
      . exact .inl (.inr e)
      . exact .inr e
  . intro k hk
    rcases o4 k hk with e | e
    . exact h.own k e
    . exact .inr (Nat.le_trans h.kp.size e)
theorem StR.wide {w : World} {X : Nat -> Prop} {s : Stp} {ck cd cm v : Value} {B n : Nat} {xs : List Value} (h : StR w X s ck cd cm) (hr : w.ownsRow B 86 16 v n xs) : StR w (fun k => X k \/ v.ownBlock = some k) s ck cd cm := by
  have key : ∀ {e m ys} {u : Value} {B2 z : Nat}, w.ownsRow B2 e z u m ys -> e ≠ 86 -> ∀ k, u.ownBlock = some k -> ¬ (v.ownBlock = some k) := by
    intro e m ys u B2 z hu he k hk hv
    obtain ⟨c1, h1⟩ := row_block hu k hk
    obtain ⟨c2, h2⟩ := row_block hr k hv
    rw [h1] at h2
    injection h2 with h2
    injection h2 with _ h2
    exact he h2
  refine ⟨h.keys, h.data, h.mt, fun k hk => ?_, fun k hk => ?_, fun k hk => ?_, h.nd⟩
  . rintro (e | e)
    . exact h.ak k hk e
    . exact key h.keys (by decide) k hk e
  . rintro (e | e)
    . exact h.ad k hk e
    . exact key h.data (by decide) k hk e
  . rintro (e | e)
    . exact h.am k hk e
    . exact key h.mt (by decide) k hk e
theorem FdI.yesq {F : Fd} {l : Bs} {w : World} {fb : Nat} {kv : Value} {gk : Nat} {rv : Value} {wr w4 : World} {l1 : Bs} {F1 F2 : Fd} {kv1 kv2 : Value} {q : List Tld} {v v' : Value} {u : Nat} (h : FdI F l w fb kv gk v rv wr l1 F1 kv1 q) (cv : Ck wr (XF fb kv1) v' (l1.drop u)) (ov : ∀ g o n c, v' = .slice (some ⟨g, o, none⟩) n c -> g < w.heap.size)
    (hu : u <= l1.length) (k4 : Kp (XF fb kv1) wr w4) (o4 : ∀ k, kv2.ownBlock = some k -> kv1.ownBlock = some k \/ wr.heap.size <= k) (t4 : F2.taken = F1.taken) (lm : F2.limit <= 9223372036854775807) (r4 : F1.run l1 = (((F2.tk u).tell.1.run (l1.drop u)).1, (F2.tk u).tell.2 ++ ((F2.tk u).tell.1.run (l1.drop u)).2))
    {w5 w6 w7 : World} {hd lf hd6 lf6 : Int} {ck cd cm : Value} (w45 : w4.grownBy w5 (some fb)) (i5 : IsFx w5 fb (F2.tk u) kv2 hd lf ck cd cm) (w56 : w5.grownBy w6 (some fb)) (b6 : Box w6 136 fb (fdA fb (F2.tk u).tell.1 (.slice none 0 0) hd6 lf6 (.slice none 0 0) (.slice none 0 0) (.slice none 0 0)))
    {g7 cap : Nat} (r7 : w7.ownsRow w.heap.size 86 16 (.slice (some ⟨g7, 0, none⟩) (q.length + 1) cap) (q.length + 1) (q.flatMap tldL ++ stpL { (F2.tk u).s with frm := (F2.tk u).frm, to := (F2.tk u).taken } ck cd cm)) (w67 : w6.grownBy w7 rv.ownBlock) (hcd : ∀ k, cd.ownBlock = some k -> wr.heap.size <= k) :
    ∃ gk', gk' < gk /\ FdI F l w fb kv gk' v' (.slice (some ⟨g7, 0, none⟩) (q.length + 1) cap) w7 (l1.drop u) (F2.tk u).tell.1 (.slice none 0 0) (q ++ [⟨{ (F2.tk u).s with frm := (F2.tk u).frm, to := (F2.tk u).taken }, ck, cd, cm⟩]) := by
  obtain ⟨hd0, lf0, ck0, cd0, cm0, hx, -, -⟩ := h.isf
  have hu0 : 0 < u := by
    have h3 := (run_facts l1 F1).2.2 { (F2.tk u).s with frm := (F2.tk u).frm, to := (F2.tk u).taken } (by rw [r4]; exact List.mem_append_left _ (by simp [Fd.tell]))
    have h4 : F1.taken < F2.taken + u := h3.1
    omega
  have hst : (F2.tk u).tell.1.st ≠ 4 := by
    simp only [Fd.tell]
    split <;> omega
  have hlt : 2 * (l1.drop u).length + 1 < gk := by
    have := h.le
    rw [List.length_drop]
    split at this <;> omega
  have k5 : Kp (XF fb kv1) wr w5 := k4.step w45 (fun i hi => by injection hi with hi; exact .inl (.inl hi.symm))
  have k6 : Kp (XF fb kv1) wr w6 := k5.step w56 (fun i hi => by injection hi with hi; exact .inl (.inl hi.symm))
  have hrv := row_xf h.ss.row (by omega) hx
  have row6 := row_kp h.ss.row k6 hrv
  have k67 : Kp (fun k => XF fb kv1 k \/ rv.ownBlock = some k) w6 w7 := (Kp.refl _ w6).step w67 (fun i hi => .inl (.inr hi))
  have k57 : Kp (fun k => XF fb kv2 k \/ rv.ownBlock = some k) w5 w7 := ((Kp.refl _ w5).step w56 (fun i hi => by injection hi with hi; exact .inl (.inl (.inl hi.symm)))).step w67 (fun i hi => .inl (.inr hi))
  have k7 : Kp (fun k => XF fb kv1 k \/ rv.ownBlock = some k) wr w7 := k6.trans k67 (fun i hi => .inl hi) (fun i hi => .inl hi)
  have row5 := row_kp h.ss.row k5 hrv
  refine ⟨2 * (l1.drop u).length + 1, hlt, ⟨?_, ?_, ?_, ?_, ok_tell lm, ?_, ⟨?_, ?_⟩, ?_, ?_, ?_, ?_, ?_, ?_, fun e => by simp at e⟩⟩
  . rw [if_neg hst]; exact Nat.le_refl _
  . have hck : Ck wr (fun k => XF fb kv1 k \/ rv.ownBlock = some k) v' (l1.drop u) := by
      rcases cv with h | ⟨g2, o2, c2, e, h1, h2, h3, h4, h5⟩
      . exact .inl h
      . refine .inr ⟨g2, o2, c2, e, h1, h2, h3, ?_, h5⟩
        have := ov _ _ _ _ e
        rintro (e | e)
        . exact h4 e
        . have := (World.ownsRow.lt h.ss.row _ e).1
          omega
    refine hck.kp k7 (fun k _ hf => hf) ?_
    rintro k hk (e | e)
    . exact .inl (.inl e)
    . simp [Value.ownBlock] at e
  . rw [List.length_drop]; have := h.ll; omega
  . refine ⟨hd6, lf6, _, _, _, isf_nil (b6.kept w67 (fun e => row_box row6 b6 (by omega) fb e.symm rfl)) rfl rfl rfl rfl, fun e => ?_, fun e => ?_⟩
    . simp only [Fd.tell] at e
      split at e <;> omega
    . simp only [Fd.tell] at e
      split at e <;> omega
  . show F2.taken + u + (l1.drop u).length = _
    rw [List.length_drop, t4, <- h.tk]; omega
  . rw [List.length_append, List.flatMap_append]
    simpa using r7
  . intro x hx2
    rcases List.mem_append.1 hx2 with hx2 | hx2
    . refine ((h.ss.all x hx2).wide h.ss.row).kp k7 (fun k _ hf => hf) ?_
      rintro k hk (e | e)
      . exact .inl (.inl e)
      . simp [Value.ownBlock] at e
    . simp at hx2
      subst hx2
      have h8 : StR w5 (fun k => XF fb kv2 k \/ rv.ownBlock = some k) { (F2.tk u).s with frm := (F2.tk u).frm, to := (F2.tk u).taken } ck cd cm := StR.wide ⟨i5.str.keys, i5.str.data, i5.str.mt, i5.str.ak, i5.str.ad, i5.str.am, i5.str.nd⟩ row5
      refine h8.kp k57 (fun k _ hf => hf) ?_
      rintro k hk (e | e)
      . exact .inl (.inl e)
      . simp [Value.ownBlock] at e
  . have := h.ql
    rw [List.length_append]
    simp
    rw [List.length_drop] at hlt
    omega
  . exact ov
  . rw [h.run, r4]
    simp [Fd.tell]
  . refine h.kp.trans k7 (fun i hi => hi) (fun i hi => ?_)
    rcases hi with (e | e) | e
    . exact .inl (.inl e)
    . rcases h.own i e with e | e
      . exact .inl (.inr e)
      . exact .inr e
    . exact .inr (World.ownsRow.lt h.ss.row _ e).1
  . intro k hk
    simp [Value.ownBlock] at hk
  . intro x hx2 k hk
    rcases List.mem_append.1 hx2 with hx2 | hx2
    . exact h.dnew x hx2 k hk
    . simp at hx2
      subst hx2
      exact Nat.le_trans h.kp.size (hcd k hk)
end Go.Proofs.YtobegepebochkaaGreatDoor
namespace Go.Proofs.YtobegepebochkaaGreatDoor
open Go.RowKit Go.Maps
abbrev sqUd0 (p : String) : Oper := { dst := some 17, op := Op.move (Operand.tmp 0), type := 57, pos := p, after := #[], guard := none }
abbrev sqUd1 (p : String) : Oper := { dst := some 18, op := Op.move (Operand.tmp 5), type := 3, pos := p, after := #[], guard := none }
abbrev sqUd2 (p : String) : Oper := { dst := some 19, op := Op.indexAddr 57 (Operand.tmp 17) (Operand.tmp 18), type := 0, pos := p, after := #[{ on := 0, ground := Ground.data }, { on := 1, ground := Ground.data }], guard := none }
abbrev sqUd3 (p : String) : Oper := { dst := some 20, op := Op.load 86 (Operand.tmp 19), type := 86, pos := p, after := #[{ on := 2, ground := Ground.data }], guard := none }
abbrev sqUd4 (p : String) : Oper := { dst := some 21, op := Op.move (Operand.tmp 1), type := 57, pos := p, after := #[], guard := none }
abbrev sqUd5 (p : String) : Oper := { dst := some 22, op := Op.move (Operand.tmp 5), type := 3, pos := p, after := #[], guard := none }
abbrev sqUd6 (p : String) : Oper := { dst := some 23, op := Op.indexAddr 57 (Operand.tmp 21) (Operand.tmp 22), type := 0, pos := p, after := #[{ on := 4, ground := Ground.data }, { on := 5, ground := Ground.data }], guard := none }
abbrev sqUd7 (p : String) : Oper := { dst := some 24, op := Op.load 86 (Operand.tmp 23), type := 86, pos := p, after := #[{ on := 6, ground := Ground.data }], guard := none }
abbrev sqUd8 (p : String) : Oper := { dst := some 26, op := Op.unOp UnOp.not 4 (Operand.tmp 25), type := 4, pos := p, after := #[{ on := 8, ground := Ground.data }], guard := none }
theorem tl_get : ∀ (q : List Tld) (k : Nat) (x : Tld) (j : Nat), q[k]? = some x -> j < 16 -> (q.flatMap tldL)[k * 16 + j]? = (tldL x)[j]?
  | [], k, x, j, h, _ => by simp at h
  | y :: q, 0, x, j, h, hj => by
    simp at h
    subst h
    rw [List.flatMap_cons, Nat.zero_mul, Nat.zero_add, List.getElem?_append_left (by simpa using hj)]
  | y :: q, k + 1, x, j, h, hj => by
    simp at h
    have e1 : (k + 1) * 16 + j = (tldL y).length + (k * 16 + j) := by simp; omega
    rw [List.flatMap_cons, e1, List.getElem?_append_right (by omega), Nat.add_sub_cancel_left]
    exact tl_get q k x j h hj
structure Sq (w : World) (v : Value) (q : List Tld) : Prop where
  shape : ∃ a c, v = .slice a q.length c /\ q.length <= c /\ c <= 9223372036854775807
  cell : ∀ k x, q[k]? = some x -> ∃ g c, v = .slice (some ⟨g, 0, none⟩) q.length c /\ ∀ j u, (tldL x)[j]? = some u -> w.cell? ⟨g, k * 16 + j, none⟩ = some u
  sr : ∀ x ∈ q, Sr w x.s x.ck x.cd x.cm
theorem samesteps_28 {w : World} {u v : Value} {q r : List Tld} (hu : Sq w u q) (hv : Sq w v r) (hs : q.map Tld.s = r.map Tld.s) :
    Calls Tryz.prog 28 #[u, v] w fun e w' => e = .returned (.bool true) /\ w.grownBy w' none := by
  obtain ⟨ua, uc, rfl, hu1, hu2⟩ := hu.shape
  obtain ⟨va, vc, rfl, hv1, hv2⟩ := hv.shape
  have hlen : r.length = q.length := by have := congrArg List.length hs; simpa using this.symm
  obtain ⟨n, hn⟩ : ∃ n, q.length = n := ⟨_, rfl⟩
  have hq := hu.cell
  have hr := hv.cell
  rw [hlen, hn] at hr hv1 ⊢
  rw [hn] at hq hu1
  go_enter Tryz.func28, Tryz.ntmps28
  go_wp2
  go_loopw [5] (fun x wr => ∃ k : Nat, k <= n /\ x = .int .i64 k /\ w.grownBy wr none) (fun x _ => n - (intOf x).toNat)
  case atStart => exact ⟨0, by omega, rfl, gb_refl _ _⟩
  case round =>
    obtain ⟨k, hk, rfl, hg⟩ := hrel
    rcases (by omega : k < n \/ k = n) with hlt | rfl
    . obtain ⟨⟨s, ck1, cd1, cm1⟩, hx⟩ : ∃ x, q[k]? = some x := ⟨_, List.getElem?_eq_getElem (by omega)⟩
      obtain ⟨⟨s2, ck2, cd2, cm2⟩, hy⟩ : ∃ x, r[k]? = some x := ⟨_, List.getElem?_eq_getElem (by omega)⟩
      have hss : s = s2 := by
        have h1 := congrArg (fun l => l[k]?) hs
        simp only [List.getElem?_map, hx, hy, Option.map_some] at h1
        injection h1
      subst hss
      obtain ⟨g1, cc1, e1, hA⟩ := hq k _ hx
      obtain ⟨g2, cc2, e2, hB⟩ := hr k _ hy
      injection e1 with e1 _ e1c
      injection e2 with e2 _ e2c
      subst e1 e2 e1c e2c
      have s1 := hu.sr _ (List.mem_of_getElem? hx)
      have s2 := hv.sr _ (List.mem_of_getElem? hy)
      obtain ⟨aA1, nA1, cA1, rfl⟩ := s1.k.shape
      obtain ⟨aA3, nA3, cA3, rfl⟩ := s1.m.shape
      obtain ⟨aA2, nA2, cA2, rfl⟩ := s1.d.shape3
      obtain ⟨aB1, nB1, cB1, rfl⟩ := s2.k.shape
      obtain ⟨aB3, nB3, cB3, rfl⟩ := s2.m.shape
      obtain ⟨aB2, nB2, cB2, rfl⟩ := s2.d.shape3
      have p0 : w.cell? ⟨g1, k * 16, none⟩ = some (.int .i64 s.cmd.verb) := hA 0 _ rfl
      have p1 : w.cell? ⟨g1, k * 16 + 1, none⟩ = some (.slice aA1 nA1 cA1) := hA 1 _ rfl
      have p2 : w.cell? ⟨g1, k * 16 + 2, none⟩ = some (.int .u64 s.cmd.flags) := hA 2 _ rfl
      have p3 : w.cell? ⟨g1, k * 16 + 3, none⟩ = some (.int .i64 s.cmd.exp) := hA 3 _ rfl
      have p4 : w.cell? ⟨g1, k * 16 + 4, none⟩ = some (.int .u64 s.cmd.tok) := hA 4 _ rfl
      have p5 : w.cell? ⟨g1, k * 16 + 5, none⟩ = some (.int .u64 s.cmd.del) := hA 5 _ rfl
      have p6 : w.cell? ⟨g1, k * 16 + 6, none⟩ = some (.slice aA2 nA2 cA2) := hA 6 _ rfl
      have p7 : w.cell? ⟨g1, k * 16 + 7, none⟩ = some (.bool s.cmd.nr) := hA 7 _ rfl
      have p8 : w.cell? ⟨g1, k * 16 + 8, none⟩ = some (.bool s.large) := hA 8 _ rfl
      have p9 : w.cell? ⟨g1, k * 16 + 9, none⟩ = some (.slice aA3 nA3 cA3) := hA 9 _ rfl
      have p10 : w.cell? ⟨g1, k * 16 + 10, none⟩ = some (sv s.cmd.what) := hA 10 _ rfl
      have p11 : w.cell? ⟨g1, k * 16 + 11, none⟩ = some (.int .i64 s.wk) := hA 11 _ rfl
      have p12 : w.cell? ⟨g1, k * 16 + 12, none⟩ = some (sv s.wt) := hA 12 _ rfl
      have p13 : w.cell? ⟨g1, k * 16 + 13, none⟩ = some (.int .i64 s.wp) := hA 13 _ rfl
      have p14 : w.cell? ⟨g1, k * 16 + 14, none⟩ = some (.int .i64 s.frm) := hA 14 _ rfl
      have p15 : w.cell? ⟨g1, k * 16 + 15, none⟩ = some (.int .i64 s.to) := hA 15 _ rfl
      have q0 : w.cell? ⟨g2, k * 16, none⟩ = some (.int .i64 s.cmd.verb) := hB 0 _ rfl
      have q1 : w.cell? ⟨g2, k * 16 + 1, none⟩ = some (.slice aB1 nB1 cB1) := hB 1 _ rfl
      have q2 : w.cell? ⟨g2, k * 16 + 2, none⟩ = some (.int .u64 s.cmd.flags) := hB 2 _ rfl
      have q3 : w.cell? ⟨g2, k * 16 + 3, none⟩ = some (.int .i64 s.cmd.exp) := hB 3 _ rfl
      have q4 : w.cell? ⟨g2, k * 16 + 4, none⟩ = some (.int .u64 s.cmd.tok) := hB 4 _ rfl
      have q5 : w.cell? ⟨g2, k * 16 + 5, none⟩ = some (.int .u64 s.cmd.del) := hB 5 _ rfl
      have q6 : w.cell? ⟨g2, k * 16 + 6, none⟩ = some (.slice aB2 nB2 cB2) := hB 6 _ rfl
      have q7 : w.cell? ⟨g2, k * 16 + 7, none⟩ = some (.bool s.cmd.nr) := hB 7 _ rfl
      have q8 : w.cell? ⟨g2, k * 16 + 8, none⟩ = some (.bool s.large) := hB 8 _ rfl
      have q9 : w.cell? ⟨g2, k * 16 + 9, none⟩ = some (.slice aB3 nB3 cB3) := hB 9 _ rfl
      have q10 : w.cell? ⟨g2, k * 16 + 10, none⟩ = some (sv s.cmd.what) := hB 10 _ rfl
      have q11 : w.cell? ⟨g2, k * 16 + 11, none⟩ = some (.int .i64 s.wk) := hB 11 _ rfl
      have q12 : w.cell? ⟨g2, k * 16 + 12, none⟩ = some (sv s.wt) := hB 12 _ rfl
      have q13 : w.cell? ⟨g2, k * 16 + 13, none⟩ = some (.int .i64 s.wp) := hB 13 _ rfl
      have q14 : w.cell? ⟨g2, k * 16 + 14, none⟩ = some (.int .i64 s.frm) := hB 14 _ rfl
      have q15 : w.cell? ⟨g2, k * 16 + 15, none⟩ = some (.int .i64 s.to) := hB 15 _ rfl
      have h39 := fun W (hg : w.grownBy W none) => samestep_39 s _ _ _ _ _ _ (s1.kept0 hg) (s2.kept0 hg)
      have d1 : ((k : Int) < (n : Int)) := by omega
      clear hq hr hu hv s1 s2 hA hB hx hy hs hn hlen
      go_wp2
      refine wp_region_noPanic ?_
      refine wp_region_held_drew (S := fun W : World => w.grownBy W none) (by kernel_rfl) (gb_drew hg) (fun hg2 => ?_)
      generalize wr.drew = W at hg2 ⊢
      refine tkZ 0 (sqUd0 _) rfl (by intro W hSw; go_simp; (try (with_reducible rfl))) ?_
      try simp only [Act.put, pY]
      refine tkZ 1 (sqUd1 _) rfl (by intro W hSw; go_simp; (try (with_reducible rfl))) ?_
      try simp only [Act.put, pY]
      refine tkZ 2 (sqUd2 _) rfl (by intro W hSw; go_simp; (try (with_reducible rfl))) ?_
      try simp only [Act.put, pY]
      refine tkZ 3 (sqUd3 _) rfl (by intro W hSw; have x0 := gb_cellN hSw p0; have x1 := gb_cellN hSw p1; have x2 := gb_cellN hSw p2; have x3 := gb_cellN hSw p3; have x4 := gb_cellN hSw p4; have x5 := gb_cellN hSw p5; have x6 := gb_cellN hSw p6; have x7 := gb_cellN hSw p7; have x8 := gb_cellN hSw p8; have x9 := gb_cellN hSw p9; have x10 := gb_cellN hSw p10; have x11 := gb_cellN hSw p11; have x12 := gb_cellN hSw p12; have x13 := gb_cellN hSw p13; have x14 := gb_cellN hSw p14; have x15 := gb_cellN hSw p15; go_simp; (try (with_reducible rfl))) ?_
      try simp only [Act.put, pY]
      refine tkZ 4 (sqUd4 _) rfl (by intro W hSw; go_simp; (try (with_reducible rfl))) ?_
      try simp only [Act.put, pY]
      refine tkZ 5 (sqUd5 _) rfl (by intro W hSw; go_simp; (try (with_reducible rfl))) ?_
      try simp only [Act.put, pY]
      refine tkZ 6 (sqUd6 _) rfl (by intro W hSw; go_simp; (try (with_reducible rfl))) ?_
      try simp only [Act.put, pY]
      refine tkZ 7 (sqUd7 _) rfl (by intro W hSw; have x0 := gb_cellN hSw q0; have x1 := gb_cellN hSw q1; have x2 := gb_cellN hSw q2; have x3 := gb_cellN hSw q3; have x4 := gb_cellN hSw q4; have x5 := gb_cellN hSw q5; have x6 := gb_cellN hSw q6; have x7 := gb_cellN hSw q7; have x8 := gb_cellN hSw q8; have x9 := gb_cellN hSw q9; have x10 := gb_cellN hSw q10; have x11 := gb_cellN hSw q11; have x12 := gb_cellN hSw q12; have x13 := gb_cellN hSw q13; have x14 := gb_cellN hSw q14; have x15 := gb_cellN hSw q15; go_simp; (try (with_reducible rfl))) ?_
      try simp only [Act.put, pY]
      refine wpAnyH_ready (rs := [8]) (by kernel_rfl) (by simp) ?_
      refine (AllReadyH.cons rfl (fun K hK => ?_) AllReadyH.nil)
      go_simp
      (with_reducible refine (h39 W hg2).mono ?_)
      rintro e W2 ⟨rfl, hg3⟩
      have hg4 := gb_trans hg2 hg3
      refine hK.out _ _ hg4 (fun hS => ?_)
      clear hK K hS
      try simp only [Act.put, pY]
      refine tkZ 9 (sqUd8 _) rfl (by intro W hSw; go_simp; (try (with_reducible rfl))) ?_
      try simp only [Act.put, pY]
      refine wpAnyH_done (by kernel_rfl) ?_ _
      refine NoPanic.normal ?_
      go_wp2
      refine ⟨⟨k + 1, by omega, by simp, hg4⟩, by simp [intOf]; omega⟩
    . have d1 : decide ((k : Int) < (k : Int)) = false := decide_eq_false (by omega)
      go_wp2
      go_ret
      exact ⟨rfl, hg⟩
end Go.Proofs.YtobegepebochkaaGreatDoor
namespace Go.Proofs.YtobegepebochkaaGreatDoor
open Go.RowKit Go.Maps
def Tile : Nat -> List Tld -> Nat -> Prop
  | a, [], b => a = b
  | a, x :: q, b => x.s.frm = a /\ a < x.s.to /\ Tile x.s.to q b
theorem Tile.snoc : ∀ {q : List Tld} {a b : Nat} {x : Tld}, Tile a q b -> x.s.frm = b -> b < x.s.to -> Tile a (q ++ [x]) x.s.to
  | [], a, b, x, h, h1, h2 => by
    have h : a = b := h
    subst h
    exact ⟨h1, h2, rfl⟩
  | y :: q, a, b, x, h, h1, h2 => ⟨h.1, h.2.1, Tile.snoc h.2.2 h1 h2⟩
theorem Tile.le : ∀ {q : List Tld} {a b : Nat}, Tile a q b -> a + q.length <= b
  | [], a, b, h => by
    have h : a = b := h
    simp [h]
  | y :: q, a, b, h => by
    have := Tile.le h.2.2
    have h2 := h.2.1
    simp
    omega
end Go.Proofs.YtobegepebochkaaGreatDoor
