import Derived.Deep.LoopGhost
import Derived.Test.YtobegepebochkaaGreatDoorRCb
import Derived.Test.YtobegepebochkaaGreatDoorRPax
import Derived.Deep.CutRange
import Derived.Test.YtobegepebochkaaGreatDoorRPat
import Derived.Test.YtobegepebochkaaGreatDoorRPar
set_option linter.unusedVariables false
set_option linter.unusedSimpArgs false
set_option maxRecDepth 100000
set_option maxHeartbeats 16000000
namespace Go.Proofs.YtobegepebochkaaGreatDoor
open Go.RowKit Go.Maps
structure Sd (w : World) (B : Nat) (v : Value) (q : List Tld) : Prop where
  row : w.ownsRow B 86 16 v q.length (q.flatMap tldL)
  k : ∀ x ∈ q, w.ownsRow 0 9 1 x.ck x.s.cmd.keys.length (x.s.cmd.keys.map sv)
  d : ∀ x ∈ q, w.ownsRow 0 5 1 x.cd x.s.data.length (x.s.data.map b8)
  m : ∀ x ∈ q, w.ownsRow 0 79 3 x.cm x.s.cmd.mt.length (fcs x.s.cmd.mt)
theorem Sd.kept0 {w w' : World} {B : Nat} {v : Value} {q : List Tld} (h : Sd w B v q) (hg : w.grownBy w' none) : Sd w' B v q :=
  ⟨row_kept h.row hg (by simp), fun x hx => row_kept (h.k x hx) hg (by simp), fun x hx => row_kept (h.d x hx) hg (by simp), fun x hx => row_kept (h.m x hx) hg (by simp)⟩
theorem Sd.sq {w : World} {B : Nat} {v : Value} {q : List Tld} (h : Sd w B v q) (hd : ∀ x ∈ q, x.s.data.length <= 1099511627776) : Sq w v q := by
  obtain ⟨a, c, e, -, h1, h2, h3⟩ := row_shape h.row
  unfold maxLen at h2
  refine ⟨⟨a, c, e, h1, by omega⟩, fun k x hx => ?_, fun x hx => ?_⟩
  . have hk := (List.getElem?_eq_some_iff.1 hx).1
    obtain ⟨g, rfl⟩ := h3 (by omega)
    subst e
    refine ⟨g, c, rfl, fun j u hu => row_cell h.row _ _ ?_⟩
    have hj := (List.getElem?_eq_some_iff.1 hu).1
    rw [tl_get q k x j hx (by simpa using hj)]
    exact hu
  . obtain ⟨_, _, _, -, k1, k2, -⟩ := row_shape (h.k x hx)
    obtain ⟨_, _, _, -, m1, m2, -⟩ := row_shape (h.m x hx)
    unfold maxLen at k2 m2
    exact ⟨ws_row (h.k x hx) rfl, by_row (h.d x hx) (hd x hx), fs_row (h.m x hx), by omega, by omega⟩
structure DlI (w : World) (L : Nat) (raw : Bs) (at_ : Nat) (q : List Tld) (v : Value) (wr : World) : Prop where
  le : at_ <= raw.length
  ss : Sd wr w.heap.size v q
  tile : Tile 0 q at_
  run : (fl L 0).run raw = (((fl L at_).run (raw.drop at_)).1, q.map Tld.s ++ ((fl L at_).run (raw.drop at_)).2)
  gb : w.grownBy wr none
structure DlR (w : World) (L : Nat) (raw : Bs) (q : List Tld) (v : Value) (left : Int) (wr : World) : Prop where
  ss : Sd wr w.heap.size v q
  run : ((fl L 0).run raw).2 = q.map Tld.s
  tile : ∃ b, b <= raw.length /\ Tile 0 q b /\ ((((fl L 0).run raw).1.ended = true /\ left = 0) \/ (((fl L 0).run raw).1.ended = false /\ left = ((raw.length - b : Nat) : Int)))
  gb : w.grownBy wr none
theorem DlI.start (w : World) (L : Nat) (raw : Bs) {wr : World} (hg : w.grownBy wr none) : DlI w L raw 0 [] (.slice none 0 0) wr :=
  ⟨Nat.zero_le _, ⟨World.ownsRow_nil _ _ _ _, by simp, by simp, by simp⟩, rfl, by simp, hg⟩
theorem DlI.done {w : World} {L : Nat} {raw : Bs} {at_ : Nat} {q : List Tld} {v : Value} {wr w2 : World} (h : DlI w L raw at_ q v wr) (hN : StepN L at_ (raw.drop at_)) (hg : wr.grownBy w2 none) : DlR w L raw q v ((raw.length - at_ : Nat) : Int) w2 := by
  obtain ⟨G, h1, h2, h3⟩ := hN
  have hr := h.run
  rw [h1] at hr
  exact ⟨h.ss.kept0 hg, by rw [hr]; simp, ⟨at_, h.le, h.tile, .inr ⟨by rw [hr]; exact h2, rfl⟩⟩, gb_trans h.gb hg⟩
theorem DlI.push {w : World} {L : Nat} {raw : Bs} {at_ : Nat} {q : List Tld} {v : Value} {wr w2 w3 w4 : World} (h : DlI w L raw at_ q v wr) {s : Stp} {ck cd cm : Value} (hg : wr.grownBy w2 none)
    (hk : w2.ownsRow wr.heap.size 9 1 ck s.cmd.keys.length (s.cmd.keys.map sv)) (hd : w2.ownsRow wr.heap.size 5 1 cd s.data.length (s.data.map b8)) (hm : w2.ownsRow wr.heap.size 79 3 cm s.cmd.mt.length (fcs s.cmd.mt))
    (hg3 : w2.grownBy w3 none) {g cap : Nat} (hr : w4.ownsRow w.heap.size 86 16 (.slice (some ⟨g, 0, none⟩) (q.length + 1) cap) (q.length + 1) (q.flatMap tldL ++ stpL s ck cd cm)) (hg4 : w3.grownBy w4 v.ownBlock) :
    Sd w4 w.heap.size (.slice (some ⟨g, 0, none⟩) (q.length + 1) cap) (q ++ [⟨s, ck, cd, cm⟩]) /\ w.grownBy w4 none := by
  have hg3' := gb_trans hg hg3
  have s3 := h.ss.kept0 hg3'
  have k4 : ∀ {B : Nat} {e : TypeId} {z : Nat} {u : Value} {m : Nat} {ys : List Value}, w3.ownsRow B e z u m ys -> e ≠ 86 -> w4.ownsRow 0 e z u m ys := fun hh he => row_base (row_kept hh hg4 (fun k hk e2 => by
    obtain ⟨c1, h1⟩ := row_block hh k hk
    obtain ⟨c2, h2⟩ := row_block s3.row k e2.symm
    exact ne_of_type h1 h2 he rfl)) (Nat.zero_le _)
  have n3 : ∀ {B t z m : Nat} {u : Value} {xs : List Value}, w2.ownsRow B t z u m xs -> w3.ownsRow 0 t z u m xs := fun hh => row_base (row_kept hh hg3 (fun k _ e => by cases e)) (Nat.zero_le _)
  refine ⟨⟨?_, ?_, ?_, ?_⟩, gb_far (gb_trans h.gb hg3') hg4 (fun i hi => (World.ownsRow.lt h.ss.row i hi).1) (Nat.le_refl _)⟩
  . rw [List.length_append, List.flatMap_append]
    simpa using hr
  all_goals
    intro x hx
    rcases List.mem_append.1 hx with hx | hx
  . exact k4 (s3.k x hx) (by decide)
  . simp at hx; subst hx; exact k4 (n3 hk) (by decide)
  . exact k4 (s3.d x hx) (by decide)
  . simp at hx; subst hx; exact k4 (n3 hd) (by decide)
  . exact k4 (s3.m x hx) (by decide)
  . simp at hx; subst hx; exact k4 (n3 hm) (by decide)
theorem DlI.run_step {w : World} {L : Nat} {raw : Bs} {at_ : Nat} {q : List Tld} {v : Value} {wr : World} (h : DlI w L raw at_ q v wr) {s : Stp} {n : Nat} (hY : StepY L at_ (raw.drop at_) s n) :
    ∃ G, (s.cmd.verb ≠ 18 -> G = fl L (at_ + n)) /\ (s.cmd.verb = 18 -> G.st = 5 /\ G.ended = true /\ G.kept = []) /\ (fl L 0).run raw = ((G.run (raw.drop (at_ + n))).1, q.map Tld.s ++ s :: (G.run (raw.drop (at_ + n))).2) /\ at_ + n <= raw.length := by
  obtain ⟨G, h1, h2, h3⟩ := hY.run
  refine ⟨G, h2, h3, ?_, ?_⟩
  . rw [h.run]
    have e : raw.drop at_ = (raw.drop at_).take n ++ raw.drop (at_ + n) := by rw [<- List.drop_drop, List.take_append_drop]
    rw [e, Fd.run_app, h1]
    simp
  . have := hY.le
    rw [List.length_drop] at this
    have := h.le
    omega
theorem DlI.next {w : World} {L : Nat} {raw : Bs} {at_ : Nat} {q : List Tld} {v v' : Value} {wr w4 : World} (h : DlI w L raw at_ q v wr) {s : Stp} {n : Nat} {ck cd cm : Value} (hY : StepY L at_ (raw.drop at_) s n) (h1 : Sd w4 w.heap.size v' (q ++ [⟨s, ck, cd, cm⟩])) (h2 : w.grownBy w4 none) (hv : s.cmd.verb ≠ 18) :
    DlI w L raw s.to (q ++ [⟨s, ck, cd, cm⟩]) v' w4 := by
  obtain ⟨G, h3, -, h4, h5⟩ := h.run_step hY
  have ht := hY.to
  have hp := hY.pos
  refine ⟨by omega, h1, Tile.snoc h.tile hY.frm (by show at_ < s.to; omega), ?_, h2⟩
  rw [h4, h3 hv, ht]
  simp
theorem DlI.quit {w : World} {L : Nat} {raw : Bs} {at_ : Nat} {q : List Tld} {v v' : Value} {wr w4 : World} (h : DlI w L raw at_ q v wr) {s : Stp} {n : Nat} {ck cd cm : Value} (hY : StepY L at_ (raw.drop at_) s n) (h1 : Sd w4 w.heap.size v' (q ++ [⟨s, ck, cd, cm⟩])) (h2 : w.grownBy w4 none) (hv : s.cmd.verb = 18) :
    DlR w L raw (q ++ [⟨s, ck, cd, cm⟩]) v' 0 w4 := by
  obtain ⟨G, -, h3, h4, h5⟩ := h.run_step hY
  have ht := hY.to
  have hp := hY.pos
  obtain ⟨g1, g2, g3⟩ := h3 hv
  rw [run_over g1] at h4
  exact ⟨h1, by rw [h4]; simp, ⟨s.to, by omega, Tile.snoc h.tile hY.frm (by show at_ < s.to; omega), .inl ⟨by rw [h4]; exact g2, rfl⟩⟩, h2⟩
theorem one_75 {w : World} {X : Nat -> Prop} {a : Option Addr} {c : Nat} {raw : Bs} (hv : Ck w X (.slice a raw.length c) raw) (hl : raw.length <= 34359738368) (at_ lim : Nat) (hlim : lim <= 9223372036854775807) (hat : at_ <= raw.length) :
    Calls Tryz.prog 75 #[.slice a raw.length c, .int .i64 at_, .int .i64 lim] w fun e w' => OnQ lim at_ (raw.drop at_) w e w' := by
  rcases indexByte_spec 10 (raw.drop at_) with ⟨_, h1⟩ | ⟨p, t, h1, h2, _⟩
  . exact one_none hv (by omega) at_ lim hat h1
  . have hne : raw[at_ + p.length]? = some 10 := by
      have : (raw.drop at_)[p.length]? = some 10 := by rw [h1]; simp
      rw [List.getElem?_drop] at this
      exact this
    obtain ⟨g, o, rfl, _⟩ := hv.at' hne
    exact one_some hv hl at_ lim hlim hat p t h1 h2
end Go.Proofs.YtobegepebochkaaGreatDoor
namespace Go.Proofs.YtobegepebochkaaGreatDoor
open Go.RowKit Go.Maps
def Dj (a b : Value) : Prop := ∀ g, a.ownBlock = some g -> b.ownBlock ≠ some g
def Lo (B : Nat) (v : Value) : Prop := ∀ g, v.ownBlock = some g -> B <= g
def Pw (q : List Tld) : Prop := q.Pairwise (fun x y => Dj x.ck y.ck /\ Dj x.cd y.cd /\ Dj x.cm y.cm)
def Ge (B : Nat) (q : List Tld) : Prop := ∀ x ∈ q, Lo B x.ck /\ Lo B x.cd /\ Lo B x.cm
end Go.Proofs.YtobegepebochkaaGreatDoor
namespace Go.Proofs.YtobegepebochkaaGreatDoor
open Go.RowKit Go.Maps
def Qb (q : List Tld) (k : Nat) : Prop := ∃ x ∈ q, x.ck.ownBlock = some k \/ x.cm.ownBlock = some k
structure FdJ (w : World) (fb : Nat) (wr : World) (q : List Tld) : Prop where
  own : Kn w wr fb
  nq : ∀ k, Pn wr fb k -> ¬ Qb q k
  qo : ∀ k, Qb q k -> Pn w fb k \/ w.heap.size <= k
  lt : ∀ x ∈ q, ∀ k, x.ck.ownBlock = some k \/ x.cd.ownBlock = some k \/ x.cm.ownBlock = some k -> k < wr.heap.size
  pw : Pw q
theorem FdJ.start (w : World) (fb : Nat) : FdJ w fb w [] := ⟨Kn.refl _ _, (fun _ _ h => by obtain ⟨x, hx, _⟩ := h; cases hx), (fun _ h => by obtain ⟨x, hx, _⟩ := h; cases hx), (fun x hx => by cases hx), List.Pairwise.nil⟩
theorem FdJ.no {w wr w5 : World} {fb : Nat} {q : List Tld} (h : FdJ w fb wr q) (hk : Kn wr w5 fb) (hs : wr.heap.size <= w5.heap.size) (hw : w.heap.size <= wr.heap.size) : FdJ w fb w5 q := by
  refine ⟨fun k hk5 => ?_, fun k hk5 hq => ?_, h.qo, fun x hx k e => Nat.lt_of_lt_of_le (h.lt x hx k e) hs, h.pw⟩
  . exact (hk k hk5).elim (h.own k) (fun e => .inr (Nat.le_trans hw e))
  . rcases hk k hk5 with e | e
    . exact h.nq k e hq
    . obtain ⟨x, hx, a⟩ := hq
      have := h.lt x hx k (a.elim .inl (fun a => .inr (.inr a)))
      omega
theorem FdJ.yes {w wr w5 w7 : World} {fb : Nat} {q : List Tld} {G : Fd} {s : Stp} {kv ck cd cm kv7 cd7 : Value} {F7 : Fd} {hd lf hd7 lf7 : Int} (h : FdJ w fb wr q) (i5 : IsFx w5 fb G kv hd lf ck cd cm) (hk : Kn wr w5 fb) (hcd : ∀ k, cd.ownBlock = some k -> wr.heap.size <= k) (b7 : Box w7 136 fb (fdA fb F7 kv7 hd7 lf7 (.slice none 0 0) cd7 (.slice none 0 0))) (hs : wr.heap.size <= w7.heap.size) (hs5 : w5.heap.size <= w7.heap.size) (hw : w.heap.size <= wr.heap.size) :
    FdJ w fb w7 (q ++ [⟨s, ck, cd, cm⟩]) := by
  have hp : ∀ k, ck.ownBlock = some k \/ cm.ownBlock = some k -> Pn wr fb k \/ wr.heap.size <= k := fun k e => hk k ((pn_box i5.box).2 e)
  have hn7 : ∀ k, ¬ Pn w7 fb k := fun k e => by
    have := (pn_box b7).1 e
    simp [Value.ownBlock] at this
  have hQ : ∀ k, Qb (q ++ [⟨s, ck, cd, cm⟩]) k -> Qb q k \/ (ck.ownBlock = some k \/ cm.ownBlock = some k) := by
    rintro k ⟨x, hx, e⟩
    rcases List.mem_append.1 hx with hx | hx
    . exact .inl ⟨x, hx, e⟩
    . simp only [List.mem_singleton] at hx
      subst hx
      exact .inr e
  have ap : ∀ x ∈ q, ∀ k, x.ck.ownBlock = some k \/ x.cm.ownBlock = some k -> ¬ (ck.ownBlock = some k \/ cm.ownBlock = some k) := by
    intro x hx k e1 e2
    rcases hp k e2 with a | a
    . exact h.nq k a ⟨x, hx, e1⟩
    . have := h.lt x hx k (e1.elim .inl (fun a => .inr (.inr a)))
      omega
  refine ⟨fun k e => absurd e (hn7 k), fun k e => absurd e (hn7 k), fun k e => ?_, fun x hx k e => ?_, List.pairwise_append.2 ⟨h.pw, List.pairwise_singleton _ _, fun x hx y hy => ?_⟩⟩
  . rcases hQ k e with e | e
    . exact h.qo k e
    . rcases hp k e with a | a
      . exact (h.own k a).elim .inl .inr
      . exact .inr (Nat.le_trans hw a)
  . rcases List.mem_append.1 hx with hx | hx
    . exact Nat.lt_of_lt_of_le (h.lt x hx k e) hs
    . simp only [List.mem_singleton] at hx
      subst hx
      rcases e with e | e | e
      . exact Nat.lt_of_lt_of_le (row_lt i5.str.keys k e) hs5
      . exact Nat.lt_of_lt_of_le (row_lt i5.str.data k e) hs5
      . exact Nat.lt_of_lt_of_le (row_lt i5.str.mt k e) hs5
  . simp only [List.mem_singleton] at hy
    subst hy
    refine ⟨fun k e1 e2 => ap x hx k (.inl e1) (.inl e2), fun k e1 e2 => ?_, fun k e1 e2 => ap x hx k (.inr e1) (.inr e2)⟩
    have := h.lt x hx k (.inr (.inl e1))
    have := hcd k e2
    omega
def FdQ (F : Fd) (l : Bs) (w : World) (fb : Nat) (kv : Value) (e : Ending) (w' : World) : Prop :=
  ∃ rv kv' q, e = .returned rv /\ IsF w' fb (F.run l).1 kv' /\ Ss w' w.heap.size (XF fb kv') rv q /\ q.map Tld.s = (F.run l).2 /\ Kp (XF fb kv) w w' /\ (∀ k, kv'.ownBlock = some k -> kv.ownBlock = some k \/ w.heap.size <= k) /\ (∀ x ∈ q, ∀ k, x.cd.ownBlock = some k -> w.heap.size <= k) /\ (q = [] -> rv = .slice none 0 0) /\ FdJ w fb w' q
theorem FdI.doneq {F : Fd} {l : Bs} {w : World} {fb : Nat} {kv : Value} {gk : Nat} {v rv : Value} {wr : World} {l1 : Bs} {F1 : Fd} {kv1 : Value} {q : List Tld} (h : FdI F l w fb kv gk v rv wr l1 F1 kv1 q) (hl : l1 = []) :
    IsF wr fb (F.run l).1 kv1 /\ Ss wr w.heap.size (XF fb kv1) rv q /\ q.map Tld.s = (F.run l).2 /\ Kp (XF fb kv) w wr /\ (∀ k, kv1.ownBlock = some k -> kv.ownBlock = some k \/ w.heap.size <= k) /\ (∀ x ∈ q, ∀ k, x.cd.ownBlock = some k -> w.heap.size <= k) /\ (q = [] -> rv = .slice none 0 0) := by
  subst hl
  have hr := h.run
  rw [run_nil] at hr
  refine ⟨?_, h.ss, ?_, h.kp, h.own, h.dnew, h.rn⟩
  . rw [hr]; exact h.isf
  . rw [hr]; simp
theorem feed_45P {w : World} {fb : Nat} {F : Fd} {kv : Value} (h : IsF w fb F kv) (hok : F.Ok) {v : Value} {l : Bs} (hv : Ck w (XF fb kv) v l) (hl2 : l.length <= 34359738368) (ht : F.taken + l.length <= 2199023255552) (hE : Er w) (hX : ¬ XF fb kv 2 /\ ¬ XF fb kv 3) (h136 : Rd136 fb) :
    Calls Tryz.prog 45 #[.pointer (some ⟨fb, 0, none⟩), v] w fun e w' => FdQ F l w fb kv e w' := by
  have start := FdI.start h hok hv
  obtain ⟨va, vn, vc, rfl, -⟩ := hv.slice
  clear h hv hok
  go_enter Tryz.func45, Tryz.ntmps45
  go_wp2
  go_loopg [1, 5, 6, 7] (2 * l.length + 1) (fun gk x1 x5 x6 x7 wr => ∃ l1 F1 kv1 q, FdI F l w fb kv gk x1 x5 wr l1 F1 kv1 q /\ FdJ w fb wr q)
  case atStart => exact ⟨l, F, kv, [], start, FdJ.start w fb⟩
  case round =>
    clear start
    obtain ⟨l1, F1, kv1, q, hI, hJ⟩ := hrel
    have HJ : Hid (FdJ w fb wr q) := hJ
    clear hJ
    obtain ⟨ra, rc, hrv, -, -, -, -⟩ := row_shape hI.ss.row
    subst hrv
    obtain ⟨ca, cn, cc, hcv, hcn⟩ := hI.ck.slice
    subst hcv
    by_cases hl : l1 = []
    . have hE2 : FdQ F l w fb kv (.returned (.slice ra q.length rc)) wr := by
        obtain ⟨a1, a2, a3, a4, a5, a6, a7⟩ := hI.doneq hl
        exact ⟨_, _, _, rfl, a1, a2, a3, a4, a5, a6, a7, HJ.out⟩
      have hcn0 : cn = 0 := by rw [hcn, hl]; rfl
      subst hcn0
      clear hI hl hcn h136 hE hX
      go_wp2
      go_ret
      exact hE2
    . have hl0 : 0 < l1.length := List.length_pos_iff.2 hl
      have hll := hI.ll
      have htk := hI.tk
      obtain ⟨hEr, hX1⟩ := hI.er hE hX
      have hS := state_any hI.isf hI.ok hI.ck hl0 (by omega) (by omega) hEr hX1 h136
      obtain ⟨g, o, c, ecv, hc1, hc2, -, -⟩ := hI.ck.by hl0
      injection ecv with ea en ec
      subst ea en ec
      have c23 : wr.cell? ⟨fb, 23, none⟩ = some (.func (.func (stF F1.st)) #[.pointer (some ⟨fb, 0, none⟩)] #[]) := by
        obtain ⟨_, _, _, _, _, hx, -, -⟩ := hI.isf
        exact hx.box.cell 23
      obtain ⟨N, hN⟩ : ∃ N, stF F1.st = N := ⟨_, rfl⟩
      have hcf := call_st F1.st
      rw [hN] at c23 hS hcf
      have t0 : (0 : Int) < (l1.length : Int) := by omega
      clear h136 hEr hX1 hN hE hX hcn hl
      go_upto_region 4 with (fail)
      refine hS.mono ?_
      rintro e w4 ⟨u, wh, F2, kv2, rfl, hu, i4, k4, o4, z4, t4, m4, ok4, nw4, n4, r4⟩
      go_upto_region 4 with (fail)
      obtain ⟨hd, lf, ck, cd, cm, hx4, hh4, hl4⟩ := i4
      obtain ⟨ka, kc, rfl, -, -, -, -⟩ := row_shape hx4.str.keys
      obtain ⟨da, dc, rfl, -, -, -, -⟩ := row_shape hx4.str.data
      obtain ⟨ma, mc, rfl, -, -, -, -⟩ := row_shape hx4.str.mt
      have d1 : w4.cell? ⟨fb, 1, none⟩ = some (.int .i64 F2.taken) := hx4.box.cell 1
      have z1 := hx4.box.fz 1
      obtain ⟨T, hT⟩ : ∃ T, F2.taken + u = T := ⟨_, rfl⟩
      have e1 : IntKind.i64.wrap ((F2.taken : Int) + (u : Int)) = (T : Int) := by rw [IntKind.wrap_i64]; omega
      have b5 : Box (w4.setCell ⟨fb, 1, none⟩ (.int .i64 (T : Int))) 136 fb (fdA fb (F2.tk u) kv2 hd lf (.slice ka F2.s.cmd.keys.length kc) (.slice da F2.s.data.length dc) (.slice ma F2.s.cmd.mt.length mc)) := by rw [<- hT]; exact hx4.box.set 1 _
      have g45 : w4.grownBy (w4.setCell ⟨fb, 1, none⟩ (.int .i64 (T : Int))) (some fb) := gb_setCell (gb_refl _ _) _
      have i5 : IsFx (w4.setCell ⟨fb, 1, none⟩ (.int .i64 (T : Int))) fb (F2.tk u) kv2 hd lf (.slice ka F2.s.cmd.keys.length kc) (.slice da F2.s.data.length dc) (.slice ma F2.s.cmd.mt.length mc) := isfx_kp hx4 (gb_kp g45) b5 rfl (row_kept hx4.kept g45 (row_box hx4.kept hx4.box (by decide))) (fun k hk => .inl hk)
      have cvA := hI.ck.drop u hu
      have ovA : ∀ g' o' n' c', Value.slice (some ⟨g, o + u, none⟩) (l1.length - u) (cc - u) = .slice (some ⟨g', o', none⟩) n' c' -> g' < w.heap.size := by
        intro g' o' n' c' e
        injection e with e
        injection e with e
        injection e with e
        subst e
        exact hI.old _ _ _ _ rfl
      have cvB : cc = u -> Ck wr (XF fb kv1) (.slice (some ⟨g, o, none⟩) (l1.length - u) 0) (l1.drop u) := fun e => hI.ck.dropB0 u hu e
      have ovB : ∀ g' o' n' c', Value.slice (some ⟨g, o, none⟩) (l1.length - u) 0 = .slice (some ⟨g', o', none⟩) n' c' -> g' < w.heap.size := by
        intro g' o' n' c' e
        injection e with e
        injection e with e
        injection e with e
        subst e
        exact hI.old _ _ _ _ rfl
      have b0 : u <= cc := by omega
      cases wh with
      | false =>
        have hno : ∀ v', Ck wr (XF fb kv1) v' (l1.drop u) -> (∀ g' o' n' c', v' = .slice (some ⟨g', o', none⟩) n' c' -> g' < w.heap.size) -> ∃ gk', gk' < gk /\ FdI F l w fb kv gk' v' (.slice ra q.length rc) (w4.setCell ⟨fb, 1, none⟩ (.int .i64 (T : Int))) (l1.drop u) (F2.tk u) kv2 q :=
          fun v' cv ov => FdI.no hI cv ov hu ⟨hd, lf, _, _, _, hx4, hh4, hl4⟩ k4 o4 z4 t4 (ok4 rfl) (by simpa using r4) g45 ⟨hd, lf, _, _, _, i5, hh4, hl4⟩
        have HJ2 : Hid (FdJ w fb (w4.setCell ⟨fb, 1, none⟩ (.int .i64 (T : Int))) q) := HJ.out.no (n4.trans (Kn.same hx4.box b5) k4.size) (Nat.le_trans k4.size g45.size) hI.kp.size
        clear r4 i5 hx4 hh4 hl4 k4 o4 z4 t4 ok4 nw4 n4 hI hS b5 g45 hT m4 htk
        go_wp2
        . obtain ⟨gk', hlt, hI'⟩ := hno _ (cvB (by assumption)) ovB
          go_roundg gk'
          case measure => exact hlt
          case rel => exact ⟨_, _, _, _, hI', HJ2.out⟩
        . obtain ⟨gk', hlt, hI'⟩ := hno _ cvA ovA
          go_roundg gk'
          case measure => exact hlt
          case rel => exact ⟨_, _, _, _, hI', HJ2.out⟩
      | true =>
        have hlm : F2.limit <= 9223372036854775807 := by rw [m4]; exact hI.ok.limit
        have row6 : ∀ w6, (w4.setCell ⟨fb, 1, none⟩ (.int .i64 (T : Int))).grownBy w6 (some fb) -> w6.ownsRow w.heap.size 86 16 (.slice ra q.length rc) q.length (q.flatMap tldL) := by
          intro w6 g6
          obtain ⟨_, _, _, _, _, hx, -, -⟩ := hI.isf
          exact row_kp hI.ss.row ((k4.step g45 (fun i hi => by injection hi with hi; exact .inl (.inl hi.symm))).step g6 (fun i hi => by injection hi with hi; exact .inl (.inl hi.symm))) (row_xf hI.ss.row (by decide) hx)
        have hql : q.length <= 100000000000 := by have := hI.ql; omega
        have hsz : ∀ w6, (w4.setCell ⟨fb, 1, none⟩ (.int .i64 (T : Int))).grownBy w6 (some fb) -> w.heap.size <= w6.heap.size := fun w6 g6 => Nat.le_trans hI.kp.size (Nat.le_trans k4.size (Nat.le_trans g45.size g6.size))
        have h93 := tell_93 b5
        have hyes : ∀ v', Ck wr (XF fb kv1) v' (l1.drop u) -> (∀ g' o' n' c', v' = .slice (some ⟨g', o', none⟩) n' c' -> g' < w.heap.size) -> ∀ w6 w7 g7 cap, (w4.setCell ⟨fb, 1, none⟩ (.int .i64 (T : Int))).grownBy w6 (some fb) -> Box w6 136 fb (fdA fb (F2.tk u).tell.1 (.slice none 0 0) hd lf (.slice none 0 0) (.slice none 0 0) (.slice none 0 0)) -> w7.ownsRow w.heap.size 86 16 (.slice (some ⟨g7, 0, none⟩) (q.length + 1) cap) (q.length + 1) (q.flatMap tldL ++ stpL ⟨(F2.tk u).s.cmd, (F2.tk u).s.data, (F2.tk u).s.large, (F2.tk u).s.wk, (F2.tk u).s.wt, (F2.tk u).s.wp, (F2.tk u).frm, (F2.tk u).taken⟩ (.slice ka F2.s.cmd.keys.length kc) (.slice da F2.s.data.length dc) (.slice ma F2.s.cmd.mt.length mc)) -> w6.grownBy w7 (Value.slice ra q.length rc).ownBlock -> ∃ gk' q', gk' < gk /\ FdI F l w fb kv gk' v' (.slice (some ⟨g7, 0, none⟩) (q.length + 1) cap) w7 (l1.drop u) (F2.tk u).tell.1 (.slice none 0 0) q' /\ FdJ w fb w7 q' :=
          fun v' cv ov w6 w7 g7 cap h1 h2 h3 h4 => (FdI.yesq hI cv ov hu k4 o4 t4 hlm (by simpa using r4) g45 i5 h1 h2 h3 h4 (nw4 rfl _ (hx4.box.cell 13))).elim fun gk' h => ⟨gk', _, h.1, h.2, HJ.out.yes i5 (n4.trans (Kn.same hx4.box b5) k4.size) (nw4 rfl _ (hx4.box.cell 13)) (h2.kept h4 (fun e => row_box (row6 _ h1) h2 (by decide) fb e.symm rfl)) (Nat.le_trans k4.size (Nat.le_trans g45.size (Nat.le_trans h1.size h4.size))) (Nat.le_trans h1.size h4.size) hI.kp.size⟩
        clear r4 i5 hx4 hh4 hl4 k4 o4 z4 t4 ok4 nw4 n4 hI hS b5 g45 m4 htk
        go_wp2_with (first | (go_at_call 93; go_must ((with_reducible refine h93.mono ?_); rintro e w6 ⟨rfl, b6, g6⟩; (have r6 := row6 _ g6); (have s6 := hsz _ g6))) | (at_builtin; go_must (refine push86 rfl _ _ rfl w.heap.size _ q.length _ (by rfl) r6 _ rfl (by simp [Value.oneCell']) (by rfl) hql s6 ?_); intro g7 cap w7 r7 g67 _))
        . obtain ⟨gk', q', hlt, hI', hJ'⟩ := hyes _ (cvB (by assumption)) ovB _ _ _ _ g6 b6 r7 g67
          go_roundg gk'
          case measure => exact hlt
          case rel => exact ⟨_, _, _, _, hI', hJ'⟩
        . obtain ⟨gk', q', hlt, hI', hJ'⟩ := hyes _ cvA ovA _ _ _ _ g6 b6 r7 g67
          go_roundg gk'
          case measure => exact hlt
          case rel => exact ⟨_, _, _, _, hI', hJ'⟩
end Go.Proofs.YtobegepebochkaaGreatDoor
