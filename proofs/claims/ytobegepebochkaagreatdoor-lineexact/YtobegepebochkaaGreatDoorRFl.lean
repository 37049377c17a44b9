import Derived.Test.YtobegepebochkaaGreatDoorRPby
import Derived.Test.YtobegepebochkaaGreatDoorRPbv
import Derived.Test.YtobegepebochkaaGreatDoorRPbj
set_option linter.unusedVariables false
set_option linter.unusedSimpArgs false
set_option maxRecDepth 100000
set_option maxHeartbeats 16000000
namespace Go.Proofs.YtobegepebochkaaGreatDoor
open Go.RowKit Go.Maps
section
variable {w wr : World} {fb rb bb lb L : Nat} {gv : Value} {vs : List Value} {F : Fd} {kv : Value} {raw : Bs} {rv : Value} {last : Nat} {quit : Bool} {FT : Nat -> Prop} {J : Nat}
structure Lq1 (w wr : World) (fb lb : Nat) (F : Fd) (kv : Value) (w1 : World) (g c : Nat) (l : Bs) : Prop where
  isf : IsF w1 fb F kv
  pn : ∀ k, Pn w1 fb k ↔ Pn wr fb k
  ck : Ck w1 (XF fb kv) (.slice (some ⟨g, 0, none⟩) l.length c) l
  gb : w.grownBy w1 none
  kp : Kp (fun k => k = lb) wr w1
  lnt : Lnt w1 lb wr.heap.size g c (l ++ mk40)
  gg : wr.heap.size <= g /\ g < w1.heap.size
theorem Lx.one (h : Lx w fb rb bb lb L gv vs wr F kv raw rv last quit FT J) {w1 : World} {g c : Nat} {l : Bs} (hL : Lnt w1 lb wr.heap.size g c (l ++ mk40)) (g1 : wr.grownBy w1 (some lb)) : Lq1 w wr fb lb F kv w1 g c l := by
  obtain ⟨a1, a2, a3, a4, a5, a6, a7, a8, a9, a10⟩ := h.ap
  have k1 : Kp (fun k => k = lb) wr w1 := (Kp.refl _ wr).step g1 (fun i hi => .inl (Option.some.inj hi).symm)
  have hX : ∀ k, XF fb kv k -> k < wr.heap.size /\ k ≠ lb := by
    rintro k (rfl | e)
    . exact ⟨a7, a2⟩
    . exact ⟨(a4 k e).2.2.2, (a4 k e).2.2.1⟩
  obtain ⟨i1, p1⟩ := h.isf.kq h.ok.dn k1 (fun k e => (hX k e).2) (fun k e => (a6 k e).2.2.1)
  have hg := hL.g
  have hgg := row_ge hg (j := g) rfl
  refine ⟨i1, p1, ?_, gb_mine h.gb g1 h.ge.2.2.1, k1, hL, hgg⟩
  refine lent_ck (m := mk40) (by rw [List.length_append] at hg; exact hg) _ (fun e => ?_)
  have := (hX g e).1
  omega
structure Lq2 (w wr : World) (fb rb lb L : Nat) (F : Fd) (kv : Value) (raw : Bs) (rv : Value) (last : Nat) (quit : Bool) (w1 : World) (l : Bs) (w2 : World) (kv' got : Value) (q : List Tld) : Prop where
  isf : IsF w2 fb (F.run l).1 kv'
  ss : Ss w2 w1.heap.size (XF fb kv') got q
  run : q.map Tld.s = (F.run l).2
  kp : Kp (XF fb kv) w1 w2
  own : ∀ k, kv'.ownBlock = some k -> kv.ownBlock = some k \/ w1.heap.size <= k
  dn : ∀ x ∈ q, ∀ k, x.cd.ownBlock = some k -> w1.heap.size <= k
  nil : q = [] -> got = .slice none 0 0
  j : FdJ w1 fb w2 q
  isw : IsW w2 rb L raw rv last quit
  gb : w.grownBy w2 none
theorem Lx.two (h : Lx w fb rb bb lb L gv vs wr F kv raw rv last quit FT J) {w1 : World} {g c : Nat} {l : Bs} (h1 : Lq1 w wr fb lb F kv w1 g c l) {w2 : World} {e : Ending} (hF : FdQ F l w1 fb kv e w2) : ∃ got kv' q, e = .returned got /\ Lq2 w wr fb rb lb L F kv raw rv last quit w1 l w2 kv' got q := by
  obtain ⟨a1, a2, a3, a4, a5, a6, a7, a8, a9, a10⟩ := h.ap
  obtain ⟨got, kv', q, rfl, b1, b2, b3, b4, b5, b6, b7, b8⟩ := hF
  refine ⟨got, kv', q, rfl, b1, b2, b3, b4, b5, b6, b7, b8, ?_, ?_⟩
  . refine (h.isw.kq h1.kp a3 (fun k e => (a5 k e).2.2.1)).kq b4 ?_ ?_
    . rintro (e | e)
      . exact a1 e.symm
      . exact (a4 rb e).2.1 rfl
    . rintro k e (e2 | e2)
      . exact (a5 k e).1 e2
      . exact h.kr k e2 e
  . refine gb_of_kp h1.gb b4 ?_
    rintro j (e | e)
    . rw [e]; exact h.ge.1
    . exact h.ge.2.2.2.1 j e
structure Lq3 (w : World) (fb rb lb L : Nat) (w1 : World) (g c : Nat) (l raw : Bs) (F' : Fd) (kv' got : Value) (q : List Tld) (w2 w3 : World) (rv rv' : Value) (last' : Nat) (quit' : Bool) (B : Nat) : Prop where
  sd : Sd w3 w1.heap.size got q
  isf : IsF w3 fb F' kv'
  pn : ∀ k, Pn w3 fb k ↔ Pn w2 fb k
  lnt : Lnt w3 lb B g c (l ++ mk40)
  gb : w.grownBy w3 none
  isw : IsW w3 rb L (raw ++ l) rv' last' quit'
  rl : Rl L (raw ++ l) last' quit' F'
  kp : Kp (fun k => k = rb \/ rv.ownBlock = some k) w2 w3
  own : ∀ k, rv'.ownBlock = some k -> rv.ownBlock = some k \/ w2.heap.size <= k
theorem Lx.xf (h : Lx w fb rb bb lb L gv vs wr F kv raw rv last quit FT J) {w1 : World} {g c : Nat} {l : Bs} (h1 : Lq1 w wr fb lb F kv w1 g c l) {w2 : World} {kv' got : Value} {q : List Tld} (h2 : Lq2 w wr fb rb lb L F kv raw rv last quit w1 l w2 kv' got q) : ∀ k, XF fb kv' k -> w.heap.size <= k /\ k ≠ rb /\ rv.ownBlock ≠ some k /\ k ≠ lb /\ k ≠ g /\ gv.ownBlock ≠ some k /\ ¬ FT k := by
  obtain ⟨a1, a2, a3, a4, a5, a6, a7, a8, a9, a10⟩ := h.ap
  have s1 := h1.kp.size
  have g1 := h1.gg
  have gs := h.gb.size
  rintro k (rfl | e)
  . exact ⟨h.ge.1, a1, fun e => (a5 k e).1 rfl, a2, by omega, fun e => (a10 k e).1 rfl, fun e => (h.ft k e).2.1 (.inl rfl)⟩
  . rcases h2.own k e with e | e
    . have b := a4 k e
      exact ⟨h.ge.2.2.2.1 k e, b.2.1, h.kr k e, b.2.2.1, by omega, fun e2 => (a10 k e2).2.2.2.1 e, fun e2 => (h.ft k e2).2.1 (.inr e)⟩
    . exact ⟨by omega, by omega, fun e2 => by have := (a5 k e2).2.2.2; omega, by omega, by omega, fun e2 => by have := (a10 k e2).2.2.2.2.2; omega, fun e2 => by have := h.bst.lt k e2; omega⟩
theorem Lx.got (h : Lx w fb rb bb lb L gv vs wr F kv raw rv last quit FT J) {w1 : World} {g c : Nat} {l : Bs} (h1 : Lq1 w wr fb lb F kv w1 g c l) {w2 : World} {kv' got : Value} {q : List Tld} (h2 : Lq2 w wr fb rb lb L F kv raw rv last quit w1 l w2 kv' got q) : ∀ k, got.ownBlock = some k \/ Kb2 q k \/ Kb3 q k -> w.heap.size <= k /\ ¬ FT k /\ ¬ XF fb kv' k /\ ¬ Pn w2 fb k /\ k ≠ rb /\ rv.ownBlock ≠ some k /\ k ≠ lb /\ k ≠ g /\ gv.ownBlock ≠ some k /\ k < w2.heap.size := by
  obtain ⟨a1, a2, a3, a4, a5, a6, a7, a8, a9, a10⟩ := h.ap
  have s1 := h1.kp.size
  have s2 := h2.kp.size
  have g1 := h1.gg
  have gs := h.gb.size
  obtain ⟨⟨cf, bf⟩, bk, bp⟩ := h2.isf.blk
  have far : ∀ k, w1.heap.size <= k -> w.heap.size <= k /\ ¬ FT k /\ k ≠ rb /\ rv.ownBlock ≠ some k /\ k ≠ lb /\ k ≠ g /\ gv.ownBlock ≠ some k := fun k e => ⟨by omega, fun e2 => by have := h.bst.lt k e2; omega, by omega, fun e2 => by have := (a5 k e2).2.2.2; omega, by omega, by omega, fun e2 => by have := (a10 k e2).2.2.2.2.2; omega⟩
  have key : ∀ k, Qb q k -> w.heap.size <= k /\ ¬ FT k /\ k ≠ rb /\ rv.ownBlock ≠ some k /\ k ≠ lb /\ k ≠ g /\ gv.ownBlock ≠ some k := fun k e => by
    rcases h2.j.qo k e with e | e
    . have e3 := (h1.pn k).1 e
      have b := a6 k e3
      refine ⟨h.gp k e3, fun e2 => (h.ft k e2).2.2.1 e3, b.2.1, b.2.2.2.2.1, b.2.2.1, by omega, fun e2 => ?_⟩
      obtain ⟨c1, h1'⟩ := row_block h.row k e2
      rcases h.isf.blk.2.2 k e3 with ⟨c2, h2'⟩ | ⟨c2, h2'⟩
      . exact ne_of_type h1' h2' (by decide) rfl
      . exact ne_of_type h1' h2' (by decide) rfl
    . exact far k e
  have lt2 := fun x hx k e => h2.j.lt x hx k e
  rintro k (e | ⟨x, hx, e | e⟩ | ⟨x, hx, e⟩)
  . obtain ⟨c1, hc1⟩ := row_block h2.ss.row k e
    have b := row_ge h2.ss.row e
    have f := far k b.1
    refine ⟨f.1, f.2.1, ?_, ?_, f.2.2.1, f.2.2.2.1, f.2.2.2.2.1, f.2.2.2.2.2.1, f.2.2.2.2.2.2, b.2⟩
    . rintro (e2 | e2)
      . exact ne_of_type hc1 bf (by decide) e2
      . obtain ⟨c2, hc2⟩ := bk k e2
        exact ne_of_type hc1 hc2 (by decide) rfl
    . intro e2
      rcases bp k e2 with ⟨c2, hc2⟩ | ⟨c2, hc2⟩
      . exact ne_of_type hc1 hc2 (by decide) rfl
      . exact ne_of_type hc1 hc2 (by decide) rfl
  . have f := key k ⟨x, hx, .inl e⟩
    exact ⟨f.1, f.2.1, (h2.ss.all x hx).ak k e, fun e2 => h2.j.nq k e2 ⟨x, hx, .inl e⟩, f.2.2.1, f.2.2.2.1, f.2.2.2.2.1, f.2.2.2.2.2.1, f.2.2.2.2.2.2, lt2 x hx k (.inl e)⟩
  . have f := far k (h2.dn x hx k e)
    obtain ⟨c1, hc1⟩ := row_block (h2.ss.all x hx).data k e
    refine ⟨f.1, f.2.1, (h2.ss.all x hx).ad k e, fun e2 => ?_, f.2.2.1, f.2.2.2.1, f.2.2.2.2.1, f.2.2.2.2.2.1, f.2.2.2.2.2.2, lt2 x hx k (.inr (.inl e))⟩
    rcases bp k e2 with ⟨c2, hc2⟩ | ⟨c2, hc2⟩
    . exact ne_of_type hc1 hc2 (by decide) rfl
    . exact ne_of_type hc1 hc2 (by decide) rfl
  . have f := key k ⟨x, hx, .inr e⟩
    exact ⟨f.1, f.2.1, (h2.ss.all x hx).am k e, fun e2 => h2.j.nq k e2 ⟨x, hx, .inr e⟩, f.2.2.1, f.2.2.2.1, f.2.2.2.2.1, f.2.2.2.2.2.1, f.2.2.2.2.2.2, lt2 x hx k (.inr (.inr e))⟩
theorem Lx.pn2 (h : Lx w fb rb bb lb L gv vs wr F kv raw rv last quit FT J) {w1 : World} {g c : Nat} {l : Bs} (h1 : Lq1 w wr fb lb F kv w1 g c l) {w2 : World} {kv' got : Value} {q : List Tld} (h2 : Lq2 w wr fb rb lb L F kv raw rv last quit w1 l w2 kv' got q) : ∀ k, Pn w2 fb k -> w.heap.size <= k /\ ¬ FT k /\ k ≠ rb /\ rv.ownBlock ≠ some k /\ k ≠ lb /\ k ≠ g /\ gv.ownBlock ≠ some k /\ k < w2.heap.size := by
  obtain ⟨a1, a2, a3, a4, a5, a6, a7, a8, a9, a10⟩ := h.ap
  have s1 := h1.kp.size
  have g1 := h1.gg
  have gs := h.gb.size
  intro k e
  have hlt : k < w2.heap.size := by
    rcases h2.isf.blk.2.2 k e with ⟨c2, hc2⟩ | ⟨c2, hc2⟩
    . exact lt_of_block hc2
    . exact lt_of_block hc2
  rcases h2.j.own k e with e | e
  . have e3 := (h1.pn k).1 e
    have b := a6 k e3
    refine ⟨h.gp k e3, fun e2 => (h.ft k e2).2.2.1 e3, b.2.1, b.2.2.2.2.1, b.2.2.1, by omega, fun e2 => ?_, hlt⟩
    obtain ⟨c1, h1'⟩ := row_block h.row k e2
    rcases h.isf.blk.2.2 k e3 with ⟨c2, h2'⟩ | ⟨c2, h2'⟩
    . exact ne_of_type h1' h2' (by decide) rfl
    . exact ne_of_type h1' h2' (by decide) rfl
  . exact ⟨by omega, fun e2 => by have := h.bst.lt k e2; omega, by omega, fun e2 => by have := (a5 k e2).2.2.2; omega, by omega, by omega, fun e2 => by have := (a10 k e2).2.2.2.2.2; omega, hlt⟩
theorem Lx.three (h : Lx w fb rb bb lb L gv vs wr F kv raw rv last quit FT J) {w1 : World} {g c : Nat} {l : Bs} (h1 : Lq1 w wr fb lb F kv w1 g c l) {w2 : World} {kv' got : Value} {q : List Tld} (h2 : Lq2 w wr fb rb lb L F kv raw rv last quit w1 l w2 kv' got q) {w3 : World} {e : Ending} (hR : RfP w2 rb L raw l rv F e w3) :
    ∃ vv q2 rv' last' quit', e = .returned vv /\ Sd w3 w2.heap.size vv q2 /\ q2.map Tld.s = (F.run l).2 /\ Lq3 w fb rb lb L w1 g c l raw (F.run l).1 kv' got q w2 w3 rv rv' last' quit' wr.heap.size := by
  obtain ⟨a1, a2, a3, a4, a5, a6, a7, a8, a9, a10⟩ := h.ap
  obtain ⟨vv, q2, rv', last', quit', rfl, b1, b2, b3, b4, b5, b6, b7⟩ := hR
  have hgot := h.got h1 h2
  have hxf := h.xf h1 h2
  have hpn := h.pn2 h1 h2
  have s1 := h1.kp.size
  have g1 := h1.gg
  have hsd : Sd w2 w1.heap.size got q := ⟨h2.ss.row, fun x hx => (h2.ss.all x hx).keys, fun x hx => (h2.ss.all x hx).data, fun x hx => (h2.ss.all x hx).mt⟩
  have nq : ∀ k, k ≠ rb -> rv.ownBlock ≠ some k -> ¬ (k = rb \/ rv.ownBlock = some k) := fun k e1 e2 e => e.elim e1 e2
  have hq : ∀ k, got.ownBlock = some k \/ Kb2 q k \/ Kb3 q k -> ¬ (k = rb \/ rv.ownBlock = some k) := fun k e => nq k (hgot k e).2.2.2.2.1 (hgot k e).2.2.2.2.2.1
  obtain ⟨i3, p3⟩ := h2.isf.kq (ok_run l h.ok).dn b6 (fun k e => nq k (hxf k e).2.1 (hxf k e).2.2.1) (fun k e => nq k (hpn k e).2.2.1 (hpn k e).2.2.2.1)
  refine ⟨vv, q2, rv', last', quit', rfl, b1, b3, ⟨hsd.kq b6 (fun k e => hq k (.inl e)) (fun k e => hq k (.inr (.inl e))) (fun k e => hq k (.inr (.inr e))), i3, p3, ?_, ?_, b4, b5, b6, b7⟩⟩
  . refine (h1.lnt.kq h2.kp ?_ ?_).kq b6 ?_ ?_
    . rintro (e | e)
      . exact a2 e.symm
      . exact (a4 lb e).2.2.1 rfl
    . rintro k e1 e2 (e | e)
      . omega
      . have := (a4 k e).2.2.2; omega
    . rintro (e | e)
      . exact a3 e.symm
      . exact (a5 lb e).2.2.1 rfl
    . rintro k e1 e2 (e | e)
      . omega
      . have := (a5 k e).2.2.2; omega
  . refine gb_of_kp h2.gb b6 ?_
    rintro j (e | e)
    . rw [e]; exact h.ge.2.1
    . exact h.ge.2.2.2.2 j e
structure Gt (w : World) (fb rb lb : Nat) (gv : Value) (w6 : World) (kv' rv' : Value) (FT : Nat -> Prop) (got : Value) (q : List Tld) : Prop where
  sd : ∃ B, Sd w6 B got q
  pw : Pw q
  len : q.length <= 1000000
  few : ∀ x ∈ q, x.s.cmd.keys.length <= 1000000 /\ x.s.data.length <= 1000000
  ap : ∀ k, got.ownBlock = some k \/ Kb2 q k -> w.heap.size <= k /\ ¬ FT k /\ ¬ XF fb kv' k /\ ¬ Pn w6 fb k /\ k ≠ rb /\ rv'.ownBlock ≠ some k /\ k ≠ lb /\ gv.ownBlock ≠ some k
theorem Lx.six (h : Lx w fb rb bb lb L gv vs wr F kv raw rv last quit FT J) {w1 : World} {g c : Nat} {l : Bs} (h1 : Lq1 w wr fb lb F kv w1 g c l) {w2 : World} {kv' got : Value} {q : List Tld} (h2 : Lq2 w wr fb rb lb L F kv raw rv last quit w1 l w2 kv' got q) {w3 : World} {rv' : Value} {last' : Nat} {quit' : Bool} (h3 : Lq3 w fb rb lb L w1 g c l raw (F.run l).1 kv' got q w2 w3 rv rv' last' quit' wr.heap.size)
    {w4 w5 : World} (g4 : w3.grownBy w4 none) (bx : Box w5 68 lb #[.slice none 0 0, .slice none 0 0, .slice none 0 0, .slice none 0 0]) (k5 : Kp (fun k => k = lb \/ k = g) w4 w5) (hlen : raw.length + l.length <= 12000) :
    Lx w fb rb bb lb L gv vs w5 (F.run l).1 kv' (raw ++ l) rv' last' quit' FT J /\ Gt w fb rb lb gv w5 kv' rv' FT got q := by
  obtain ⟨a1, a2, a3, a4, a5, a6, a7, a8, a9, a10⟩ := h.ap
  have hgot := h.got h1 h2
  have hxf := h.xf h1 h2
  have hpn := h.pn2 h1 h2
  have s1 := h1.kp.size
  have s2 := h2.kp.size
  have g1 := h1.gg
  have gs := h.gb.size
  have k4 : Kp (fun k => k = lb \/ k = g) w3 w5 := (Kp.of (F := fun _ => False) g4).trans k5 (fun _ h => h.elim) (fun _ h => .inl h)
  have n5 : ∀ k, k ≠ lb -> k ≠ g -> ¬ (k = lb \/ k = g) := fun k e1 e2 e => e.elim e1 e2
  obtain ⟨i5, p5⟩ := h3.isf.kq (ok_run l h.ok).dn k4 (fun k e => n5 k (hxf k e).2.2.2.1 (hxf k e).2.2.2.2.1) (fun k e => n5 k (hpn k ((h3.pn k).1 e)).2.2.2.2.1 (hpn k ((h3.pn k).1 e)).2.2.2.2.2.1)
  have pw5 : ∀ k, Pn w5 fb k -> Pn w2 fb k := fun k e => (h3.pn k).1 ((p5 k).1 e)
  have rvn : ∀ k, rv'.ownBlock = some k -> w.heap.size <= k /\ k ≠ lb /\ k ≠ g /\ gv.ownBlock ≠ some k /\ ¬ FT k /\ (∀ j, kv'.ownBlock = some j -> j ≠ k) := fun k e => by
    rcases h3.own k e with e | e
    . have b := a5 k e
      exact ⟨h.ge.2.2.2.2 k e, b.2.2.1, by omega, fun e2 => (a10 k e2).2.2.2.2.1 e, fun e2 => (h.ft k e2).2.2.2.2.1 e, fun j ej e2 => by subst e2; exact (hxf j (.inr ej)).2.2.1 e⟩
    . refine ⟨by omega, by omega, by omega, fun e2 => by have := (a10 k e2).2.2.2.2.2; omega, fun e2 => by have := h.bst.lt k e2; omega, fun j ej e2 => ?_⟩
      subst e2
      obtain ⟨c1, hc1⟩ := h2.isf.blk.2.1 j ej
      have := lt_of_block hc1
      omega
  -- what is written since the round began
  have kall : Kp (fun k => k = lb \/ XF fb kv k \/ k = rb \/ rv.ownBlock = some k) wr w5 := by
    refine (((h1.kp.mono (G := fun k => k = lb \/ XF fb kv k \/ k = rb \/ rv.ownBlock = some k) (fun i e => .inl (.inl e))).trans h2.kp (fun _ e => e) (fun i e => .inl (.inr (.inl e)))).trans h3.kp (fun _ e => e) (fun i e => .inl (.inr (.inr e)))).trans k4 (fun _ e => e) ?_
    rintro i (e | e)
    . exact .inl (.inl e)
    . exact .inr (by omega)
  have hbst : Bst w5 bb FT J (fun _ => False) := h.bst.kept kall (fun k e => by
    obtain ⟨f1, f2, f3, f4, f5, f6, f7⟩ := h.ft k e
    rintro (e2 | e2 | e2 | e2)
    . exact f6 e2
    . exact f2 e2
    . exact f4 e2
    . exact f5 e2) (fun _ e => e.elim)
  have hrow : w5.ownsRow w.heap.size 38 1 gv vs.length vs := row_same h.row (fun k e => kall.block k (a10 k e).2.2.2.2.2 (by
    obtain ⟨f1, f2, f3, f4, f5, f6⟩ := a10 k e
    rintro (e2 | (e2 | e2) | e2 | e2)
    . exact f3 e2
    . exact f1 e2
    . exact f4 e2
    . exact f2 e2
    . exact f5 e2))
  have hgb : w.grownBy w5 none := gb_of_kp h.gb kall (by
    rintro j (e | (e | e) | e | e)
    . rw [e]; exact h.ge.2.2.1
    . rw [e]; exact h.ge.1
    . exact h.ge.2.2.2.1 j e
    . rw [e]; exact h.ge.2.1
    . exact h.ge.2.2.2.2 j e)
  have hisw := h3.isw.kq k4 (n5 rb a3 (by omega)) (fun k e => n5 k (rvn k e).2.1 (rvn k e).2.2.1)
  refine ⟨⟨i5, ok_run l h.ok, (fm_run l F h.sm).1, hisw, h3.rl, hbst, bx, hrow, hgb, ⟨h.ge.1, h.ge.2.1, h.ge.2.2.1, fun k e => (hxf k (.inr e)).1, fun k e => (rvn k e).1⟩, fun k e => (hpn k (pw5 k e)).1, fun k e => ?_, fun k e e2 => (rvn k e2).2.2.2.2.2 k e rfl⟩, ⟨⟨_, h3.sd.kq k4 (fun k e => n5 k (hgot k (.inl e)).2.2.2.2.2.2.1 (hgot k (.inl e)).2.2.2.2.2.2.2.1) (fun k e => n5 k (hgot k (.inr (.inl e))).2.2.2.2.2.2.1 (hgot k (.inr (.inl e))).2.2.2.2.2.2.2.1) (fun k e => n5 k (hgot k (.inr (.inr e))).2.2.2.2.2.2.1 (hgot k (.inr (.inr e))).2.2.2.2.2.2.2.1)⟩, h2.j.pw, ?_, fun x hx => ?_, fun k e => ?_⟩⟩
  . obtain ⟨f1, f2, f3, f4, f5, f6, f7⟩ := h.ft k e
    exact ⟨f1, fun e2 => (hxf k e2).2.2.2.2.2.2 e, fun e2 => (hpn k (pw5 k e2)).2.1 e, f4, fun e2 => (rvn k e2).2.2.2.2.1 e, f6, f7⟩
  . have e1 := run_one l F
    rw [<- h2.run, List.length_map] at e1
    omega
  . have hx' : x.s ∈ (F.run l).2 := by rw [<- h2.run]; exact List.mem_map_of_mem hx
    have e1 := (fm_run l F h.sm).2 x.s hx'
    have e2 := dn_run l h.ok h.ok.dn x.s hx'
    have e3 := h.rl.taken
    exact ⟨by have := e1.1; omega, by omega⟩
  . have f := hgot k (e.elim .inl (fun e => .inr (.inl e)))
    refine ⟨f.1, f.2.1, f.2.2.1, fun e2 => f.2.2.2.1 (pw5 k e2), f.2.2.2.2.1, fun e2 => ?_, f.2.2.2.2.2.2.1, f.2.2.2.2.2.2.2.2.1⟩
    rcases h3.own k e2 with e3 | e3
    . exact f.2.2.2.2.2.1 e3
    . have := f.2.2.2.2.2.2.2.2.2; omega
theorem Lx.grow (h : Lx w fb rb bb lb L gv vs wr F kv raw rv last quit FT J) {w6 : World} (g6 : wr.grownBy w6 none) : Lx w fb rb bb lb L gv vs w6 F kv raw rv last quit FT J /\ ∀ k, Pn w6 fb k ↔ Pn wr fb k := by
  have k6 : Kp (fun _ => False) wr w6 := Kp.of g6
  obtain ⟨i6, p6⟩ := h.isf.kq h.ok.dn k6 (fun _ _ e => e) (fun _ _ e => e)
  exact ⟨⟨i6, h.ok, h.sm, h.isw.kept0 g6, h.rl, h.bst.kept0 g6, h.loan.kept g6 (by simp), row_kept h.row g6 (by simp), gb_trans h.gb g6, h.ge, fun k e => h.gp k ((p6 k).1 e), fun k e => by
    obtain ⟨f1, f2, f3, f4, f5, f6, f7⟩ := h.ft k e
    exact ⟨f1, f2, fun e2 => f3 ((p6 k).1 e2), f4, f5, f6, f7⟩, h.kr⟩, p6⟩
theorem Gt.grow {rv' kv' got : Value} {w5 w6 : World} {q : List Tld} (h : Gt w fb rb lb gv w5 kv' rv' FT got q) (g6 : w5.grownBy w6 none) (p6 : ∀ k, Pn w6 fb k ↔ Pn w5 fb k) : Gt w fb rb lb gv w6 kv' rv' FT got q := by
  obtain ⟨B, hs⟩ := h.sd
  exact ⟨⟨B, hs.kept0 g6⟩, h.pw, h.len, h.few, fun k e => by
    obtain ⟨f1, f2, f3, f4, f5, f6, f7, f8⟩ := h.ap k e
    exact ⟨f1, f2, f3, fun e2 => f4 ((p6 k).1 e2), f5, f6, f7, f8⟩⟩
theorem Lx.steps (h : Lx w fb rb bb lb L gv vs wr F kv raw rv last quit FT J) {got : Value} {q : List Tld} (hg : Gt w fb rb lb gv wr kv rv FT got q) (hJ : J < 100000) :
    Calls Tryz.prog 29 #[.pointer (some ⟨bb, 0, none⟩), got] wr fun y wq => y = .returned (.tuple #[]) /\ ∃ FT', Lx w fb rb bb lb L gv vs wq F kv raw rv last quit FT' (J + 1) := by
  obtain ⟨B, hs⟩ := hg.sd
  obtain ⟨va, vc, hv, -⟩ := row_shape hs.row
  subst hv
  obtain ⟨a1, a2, a3, a4, a5, a6, a7, a8, a9, a10⟩ := h.ap
  have gs := h.gb.size
  refine (steps_29 h.bst hJ hs hg.pw hg.len hg.few (fun k e => (hg.ap k (.inl e)).2.1) (fun k e => (hg.ap k (.inr e)).2.1)).mono ?_
  rintro y wq ⟨rfl, hk, -, FT', hb', hF⟩
  have nq : ∀ k, ¬ FT k -> ¬ Kb2 q k -> ¬ (FT k \/ Kb2 q k) := fun k e1 e2 e => e.elim e1 e2
  have xq : ∀ k, XF fb kv k -> ¬ (FT k \/ Kb2 q k) := fun k e => nq k (fun e2 => (h.ft k e2).2.1 e) (fun e2 => (hg.ap k (.inr e2)).2.2.1 e)
  have pq : ∀ k, Pn wr fb k -> ¬ (FT k \/ Kb2 q k) := fun k e => nq k (fun e2 => (h.ft k e2).2.2.1 e) (fun e2 => (hg.ap k (.inr e2)).2.2.2.1 e)
  have rq : ¬ (FT rb \/ Kb2 q rb) := nq rb (fun e2 => (h.ft rb e2).2.2.2.1 rfl) (fun e2 => (hg.ap rb (.inr e2)).2.2.2.2.1 rfl)
  have vq : ∀ k, rv.ownBlock = some k -> ¬ (FT k \/ Kb2 q k) := fun k e => nq k (fun e2 => (h.ft k e2).2.2.2.2.1 e) (fun e2 => (hg.ap k (.inr e2)).2.2.2.2.2.1 e)
  have lq : ¬ (FT lb \/ Kb2 q lb) := nq lb (fun e2 => (h.ft lb e2).2.2.2.2.2.1 rfl) (fun e2 => (hg.ap lb (.inr e2)).2.2.2.2.2.2.1 rfl)
  have gq : ∀ k, gv.ownBlock = some k -> ¬ (FT k \/ Kb2 q k) := fun k e => nq k (fun e2 => (h.ft k e2).2.2.2.2.2.2 e) (fun e2 => (hg.ap k (.inr e2)).2.2.2.2.2.2.2 e)
  obtain ⟨i7, p7⟩ := h.isf.kq h.ok.dn hk xq pq
  refine ⟨rfl, FT', ⟨i7, h.ok, h.sm, h.isw.kq hk rq vq, h.rl, hb', hk.box h.loan lq, row_same h.row (fun k e => hk.block k (a10 k e).2.2.2.2.2 (gq k e)), gb_of_kp h.gb hk (fun j e => e.elim (fun e => (h.ft j e).1) (fun e => (hg.ap j (.inr e)).1)), h.ge, fun k e => h.gp k ((p7 k).1 e), fun k e => ?_, h.kr⟩⟩
  rcases hF k e with e | e | e | e
  . obtain ⟨f1, f2, f3, f4, f5, f6, f7⟩ := h.ft k e
    exact ⟨f1, f2, fun e2 => f3 ((p7 k).1 e2), f4, f5, f6, f7⟩
  . obtain ⟨f1, f2, f3, f4, f5, f6, f7, f8⟩ := hg.ap k (.inl e)
    exact ⟨f1, f3, fun e2 => f4 ((p7 k).1 e2), f5, f6, f7, f8⟩
  . obtain ⟨f1, f2, f3, f4, f5, f6, f7, f8⟩ := hg.ap k (.inr e)
    exact ⟨f1, f3, fun e2 => f4 ((p7 k).1 e2), f5, f6, f7, f8⟩
  . refine ⟨by omega, ?_, fun e2 => ?_, by omega, fun e2 => by have := (a5 k e2).2.2.2; omega, by omega, fun e2 => by have := (a10 k e2).2.2.2.2.2; omega⟩
    . rintro (e2 | e2)
      . omega
      . have := (a4 k e2).2.2.2; omega
    . have := (a6 k ((p7 k).1 e2)).2.2.2.2.2; omega
end
end Go.Proofs.YtobegepebochkaaGreatDoor
