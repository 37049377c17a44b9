import Derived.Test.YtndjimdegkdljaaZm
import Derived.Test.YtndjimdegkdljaaT
/-
  Two disks side by side: the program's and the document's.
-/
namespace Go.Proofs.Ytndjimdegkdljaa
open Go.RowKit Go.MapKept
set_option linter.unusedVariables false
set_option linter.unusedSimpArgs false

/-- The blocks of a disk's own kinds alone have turned: those of Faults (57), of the document's Faults (34) stay. -/
def Kx (w w' : World) : Prop := ∀ (b : Nat) (cur : Array Value) (t : TypeId) (fr : Nat × Nat), w.heap[b]? = some (.cells cur t fr) → t = 34 ∨ t = 57 → w'.heap[b]? = w.heap[b]?
theorem Kx.box {w w' : World} (h : Kx w w') {t b : Nat} {A : Array Value} (hb : Box w t b A) (ht : t = 34 ∨ t = 57) : Box w' t b A := (h b _ _ _ hb ht).trans hb
theorem Kx.err {w w' : World} (h : Kx w w') {v : Value} {c n : Bs} {y : Int} (he : ErrV w v c n y) : ErrV w' v c n y := by
  rcases he with he | ⟨h1, g, h2, h3⟩
  · exact .inl he
  · exact .inr ⟨h1, g, h2, h.box h3 (.inr rfl)⟩
theorem not_kind {w : World} {b : Nat} {cur cur' : Array Value} {t t' : TypeId} {fr fr' : Nat × Nat} (h : w.heap[b]? = some (.cells cur t fr)) (h' : w.heap[b]? = some (.cells cur' t' fr')) (ht : t = 34 ∨ t = 57) (h1 : t' ≠ 34) (h2 : t' ≠ 57) : False := by
  rw [h] at h'
  injection h' with h'
  injection h' with _ h3 _
  rcases ht with rfl | rfl
  · exact h1 h3.symm
  · exact h2 h3.symm
theorem RP.min {w : World} {p : Pl} {M : Md} (h : RP w p M) : ∃ p' : Pl, p'.d = p.d ∧ RP w p' M ∧ (∀ b, p'.col b ≠ 0 → p.col b ≠ 0) ∧ ∀ (b : Nat) (cur : Array Value) (t : TypeId) (fr : Nat × Nat), w.heap[b]? = some (.cells cur t fr) → t = 34 ∨ t = 57 → p'.col b = 0 := by
  classical
  obtain ⟨P, hP⟩ : ∃ P : Nat → Prop, ∀ b, P b ↔ (b = p.d ∨ b = p.bn ∨ b = p.bs ∨ p.pl = .map (some b) ∨ p.cv.ownBlock = some b ∨ (∃ k, Reach M k ∧ b = p.fb k) ∨ (∃ k, Reach M k ∧ (p.rv k).ownBlock = some b)) := ⟨_, fun b => Iff.rfl⟩
  have hy : ∀ b, P b → (if P b then p.col b else 0) = p.col b := fun b hb => if_pos hb
  have hne : ∀ b, (if P b then p.col b else 0) ≠ 0 → p.col b ≠ 0 := fun b hb e => hb (by rw [e, ite_self])
  refine ⟨{ p with col := fun b => if P b then p.col b else 0 }, rfl, ?_, hne, ?_⟩
  · exact {
      box := h.box, nm := h.nm, sf := h.sf, pl := h.pl, ch := h.ch, ok := h.ok
      fl := fun k f hr hf => ⟨(h.fl k f hr hf).box, (h.fl k f hr hf).row⟩
      cd := (hy _ ((hP _).2 (.inl rfl))).trans h.cd
      cn := (hy _ ((hP _).2 (.inr (.inl rfl)))).trans h.cn
      cs := (hy _ ((hP _).2 (.inr (.inr (.inl rfl))))).trans h.cs
      cp := fun b hb => (hy _ ((hP _).2 (.inr (.inr (.inr (.inl hb)))))).trans (h.cp b hb)
      cc := fun b hb => (hy _ ((hP _).2 (.inr (.inr (.inr (.inr (.inl hb))))))).trans (h.cc b hb)
      cf := fun k hr => (hy _ ((hP _).2 (.inr (.inr (.inr (.inr (.inr (.inl ⟨k, hr, rfl⟩)))))))).trans (h.cf k hr)
      cr := fun k b hr hb => (hy _ ((hP _).2 (.inr (.inr (.inr (.inr (.inr (.inr ⟨k, hr, hb⟩)))))))).trans (h.cr k b hr hb)
      lt := fun b hb => h.lt b (hne b hb) }
  · intro b cur t fr hb ht
    refine if_neg fun hp => ?_
    rcases (hP b).1 hp with rfl | rfl | rfl | e | e | ⟨k, hr, rfl⟩ | ⟨k, hr, e⟩
    · exact not_kind hb h.box ht (by decide) (by decide)
    · obtain ⟨es, cl, h1, _⟩ := h.nm
      rw [hb] at h1; cases h1
    · obtain ⟨es, cl, h1, _⟩ := h.sf
      rw [hb] at h1; cases h1
    · rcases h.pl with ⟨h1, _⟩ | ⟨b', es, cl, h1, h2, _⟩
      · rw [e] at h1; cases h1
      · rw [e] at h1
        cases h1
        rw [hb] at h2; cases h2
    · obtain ⟨cur', hc⟩ := row_block h.ch b e
      exact not_kind hb hc ht (by decide) (by decide)
    · exact not_kind hb (h.fl k _ hr (file_some (reach_lt h.ok hr))).box ht (by decide) (by decide)
    · obtain ⟨cur', hc⟩ := row_block (h.fl k _ hr (file_some (reach_lt h.ok hr))).row b e
      exact not_kind hb hc ht (by decide) (by decide)
theorem RR.min {w : World} {r : Rl} {M : Md} (h : RR w r M) : ∃ r' : Rl, r'.d = r.d ∧ RR w r' M ∧ (∀ b, r'.col b ≠ 0 → r.col b ≠ 0) ∧ ∀ (b : Nat) (cur : Array Value) (t : TypeId) (fr : Nat × Nat), w.heap[b]? = some (.cells cur t fr) → t = 34 ∨ t = 57 → r'.col b = 0 := by
  classical
  obtain ⟨P, hP⟩ : ∃ P : Nat → Prop, ∀ b, P b ↔ (b = r.d ∨ r.fv.ownBlock = some b ∨ r.sf.ownBlock = some b ∨ r.cv.ownBlock = some b ∨ r.pl.ownBlock = some b ∨ (∃ k, k < M.files.length ∧ (r.rb k).ownBlock = some b)) := ⟨_, fun b => Iff.rfl⟩
  have hy : ∀ b, P b → (if P b then r.col b else 0) = r.col b := fun b hb => if_pos hb
  have hne : ∀ b, (if P b then r.col b else 0) ≠ 0 → r.col b ≠ 0 := fun b hb e => hb (by rw [e, ite_self])
  refine ⟨{ r with col := fun b => if P b then r.col b else 0 }, rfl, ?_, hne, ?_⟩
  · exact {
      box := h.box, fl := h.fl, fr := h.fr, sf := h.sf, ch := h.ch, pl := h.pl, ok := h.ok
      cd := (hy _ ((hP _).2 (.inl rfl))).trans h.cd
      cf := fun b hb => (hy _ ((hP _).2 (.inr (.inl hb)))).trans (h.cf b hb)
      cs := fun b hb => (hy _ ((hP _).2 (.inr (.inr (.inl hb))))).trans (h.cs b hb)
      cc := fun b hb => (hy _ ((hP _).2 (.inr (.inr (.inr (.inl hb)))))).trans (h.cc b hb)
      cp := fun b hb => (hy _ ((hP _).2 (.inr (.inr (.inr (.inr (.inl hb))))))).trans (h.cp b hb)
      cr := fun k b hk hb => (hy _ ((hP _).2 (.inr (.inr (.inr (.inr (.inr ⟨k, hk, hb⟩))))))).trans (h.cr k b hk hb)
      lt := fun b hb => h.lt b (hne b hb) }
  · intro b cur t fr hb ht
    refine if_neg fun hp => ?_
    rcases (hP b).1 hp with rfl | e | e | e | e | ⟨k, hk, e⟩
    · exact not_kind hb h.box ht (by decide) (by decide)
    · obtain ⟨cur', hc⟩ := row_block h.fl b e
      exact not_kind hb hc ht (by decide) (by decide)
    · obtain ⟨L, h1, _⟩ := h.sf
      obtain ⟨cur', hc⟩ := row_block h1 b e
      exact not_kind hb hc ht (by decide) (by decide)
    · obtain ⟨cur', hc⟩ := row_block h.ch b e
      exact not_kind hb hc ht (by decide) (by decide)
    · obtain ⟨P', h1, _⟩ := h.pl
      obtain ⟨cur', hc⟩ := row_block h1 b e
      exact not_kind hb hc ht (by decide) (by decide)
    · obtain ⟨cur', hc⟩ := row_block (h.fr k hk) b e
      exact not_kind hb hc ht (by decide) (by decide)

/-- The program's disk (at M) and the document's (at N), made behind w0. -/
structure Dq (w0 w : World) (p : Pl) (q : Rl) (M N : Md) : Prop where
  rp : RP w p M
  rr : RR w q N
  gb : w0.grownBy w none
  col : ∀ b, b < w0.heap.size → p.col b = 0 ∧ q.col b = 0
  dis : ∀ b, p.col b ≠ 0 → q.col b = 0
theorem Dq.prog {w0 w w' : World} {p p' : Pl} {q : Rl} {M M' N : Md} (h : Dq w0 w p q M N) (hp : RP w' p' M') (ha : Aft w w' p p') : Dq w0 w' p' q M' N where
  rp := hp
  rr := h.rr.kp ha.kp (fun b hb hc => hb (h.dis b hc))
  gb := gb_of_kp h.gb ha.kp (fun j hj => by
    rcases Nat.lt_or_ge j w0.heap.size with hl | hl
    · exact absurd (h.col j hl).1 hj
    · exact hl)
  col := fun b hb => ⟨by
    by_cases hc : p'.col b = 0
    · exact hc
    · exact absurd (h.col b hb).1 (ha.col b (Nat.lt_of_lt_of_le hb h.gb.size) hc), (h.col b hb).2⟩
  dis := fun b hb => by
    rcases Nat.lt_or_ge b w.heap.size with hl | hl
    · exact h.dis b (ha.col b hl hb)
    · by_cases hc : q.col b = 0
      · exact hc
      · have := h.rr.lt b hc; omega
theorem Dq.doc {w0 w w' : World} {p : Pl} {q q' : Rl} {M N N' : Md} (h : Dq w0 w p q M N) (hq : RR w' q' N') (ha : Afr w w' q q') : Dq w0 w' p q' M N' where
  rp := h.rp.kp ha.kp (fun b hb hc => hc (h.dis b hb))
  rr := hq
  gb := gb_of_kp h.gb ha.kp (fun j hj => by
    rcases Nat.lt_or_ge j w0.heap.size with hl | hl
    · exact absurd (h.col j hl).2 hj
    · exact hl)
  col := fun b hb => ⟨(h.col b hb).1, by
    by_cases hc : q'.col b = 0
    · exact hc
    · exact absurd (h.col b hb).2 (ha.col b (Nat.lt_of_lt_of_le hb h.gb.size) hc)⟩
  dis := fun b hb => by
    by_cases hc : q'.col b = 0
    · exact hc
    · exact absurd (h.dis b hb) (ha.col b (h.rp.lt b hb) hc)
theorem Dq.more {w0 w w' : World} {p : Pl} {q : Rl} {M N : Md} (h : Dq w0 w p q M N) (g : w.grownBy w' none) : Dq w0 w' p q M N := ⟨h.rp.gb g, h.rr.gb g, gb_trans h.gb g, h.col, h.dis⟩
def Du (w0 w : World) (d r : Nat) (M N : Md) : Prop := ∃ p q, p.d = d ∧ q.d = r ∧ Dq w0 w p q M N
theorem Du.gb {w0 w : World} {d r : Nat} {M N : Md} (h : Du w0 w d r M N) : w0.grownBy w none := by
  obtain ⟨p, q, _, _, h⟩ := h; exact h.gb
theorem Du.more {w0 w w' : World} {d r : Nat} {M N : Md} (h : Du w0 w d r M N) (g : w.grownBy w' none) : Du w0 w' d r M N := by
  obtain ⟨p, q, h1, h2, h⟩ := h; exact ⟨p, q, h1, h2, h.more g⟩
/-- A write into a block of none of the two. -/
theorem Du.far {w0 w w' : World} {d r : Nat} {M N : Md} (h : Du w0 w d r M N) {g : Nat} {cur : Array Value} {t : TypeId} {fr : Nat × Nat} (hg : w.heap[g]? = some (.cells cur t fr)) (ht : t = 34 ∨ t = 57) (hl : w0.heap.size ≤ g) (k : w.grownBy w' (some g)) : Du w0 w' d r M N := by
  obtain ⟨p, q, h1, h2, h⟩ := h
  obtain ⟨p2, a0, a1, a2, a3⟩ := h.rp.min
  obtain ⟨q2, b0, b1, b2, b3⟩ := h.rr.min
  have hp0 := a3 g cur t fr hg ht
  have hq0 := b3 g cur t fr hg ht
  exact ⟨p2, q2, a0.trans h1, b0.trans h2, {
    rp := a1.keep (fun b hb => k.block b (a1.lt b hb) (fun e => by rw [Option.some.inj e] at hb; exact hb hp0)) k.size
    rr := b1.keep (fun b hb => k.block b (b1.lt b hb) (fun e => by rw [Option.some.inj e] at hb; exact hb hq0)) k.size
    gb := ⟨k.os.trans h.gb.os, k.tape.trans h.gb.tape, k.output.trans h.gb.output, Nat.le_trans h.gb.size k.size, fun b hb _ => (k.block b (Nat.lt_of_lt_of_le hb h.gb.size) (fun e => by have := Option.some.inj e; omega)).trans (h.gb.block b hb (by simp))⟩
    col := fun b hb => ⟨by
      by_cases hc : p2.col b = 0
      · exact hc
      · exact absurd (h.col b hb).1 (a2 b hc), by
      by_cases hc : q2.col b = 0
      · exact hc
      · exact absurd (h.col b hb).2 (b2 b hc)⟩
    dis := fun b hb => by
      by_cases hc : q2.col b = 0
      · exact hc
      · exact absurd (h.dis b (a2 b hb)) (b2 b hc) }⟩
/-- A call of the program's disk. -/
theorem Du.callP {w0 w : World} {d r : Nat} {M M' N : Md} {n : Nat} {av : Array Value} {A : Ending → World → Prop} (h : Du w0 w d r M N)
    (hc : ∀ p, p.d = d → RP w p M → Calls Try.prog n av w fun e w' => A e w' ∧ ∃ p', RP w' p' M' ∧ Aft w w' p p') :
    Calls Try.prog n av w fun e w' => A e w' ∧ Du w0 w' d r M' N ∧ Kx w w' := by
  obtain ⟨p, q, h1, h2, h⟩ := h
  obtain ⟨p2, a0, a1, a2, a3⟩ := h.rp.min
  have h' : Dq w0 w p2 q M N := ⟨a1, h.rr, h.gb, fun b hb => ⟨by
    by_cases hc : p2.col b = 0
    · exact hc
    · exact absurd (h.col b hb).1 (a2 b hc), (h.col b hb).2⟩, fun b hb => h.dis b (a2 b hb)⟩
  refine (hc p2 (a0.trans h1) a1).mono ?_
  rintro e w' ⟨hA, p', hp, ha⟩
  exact ⟨hA, ⟨p', q, ha.d.trans (a0.trans h1), h2, h'.prog hp ha⟩, fun b cur t fr hb ht => ha.kp.block b (lt_of_block hb) (fun hn => hn (a3 b cur t fr hb ht))⟩
/-- A call of the document's. -/
theorem Du.callR {w0 w : World} {d r : Nat} {M N N' : Md} {n : Nat} {av : Array Value} {A : Ending → World → Prop} (h : Du w0 w d r M N)
    (hc : ∀ q, q.d = r → RR w q N → Calls Try.prog n av w fun e w' => A e w' ∧ ∃ q', RR w' q' N' ∧ Afr w w' q q') :
    Calls Try.prog n av w fun e w' => A e w' ∧ Du w0 w' d r M N' ∧ Kx w w' := by
  obtain ⟨p, q, h1, h2, h⟩ := h
  obtain ⟨q2, a0, a1, a2, a3⟩ := h.rr.min
  have h' : Dq w0 w p q2 M N := ⟨h.rp, a1, h.gb, fun b hb => ⟨(h.col b hb).1, by
    by_cases hc : q2.col b = 0
    · exact hc
    · exact absurd (h.col b hb).2 (a2 b hc)⟩, fun b hb => by
    by_cases hc : q2.col b = 0
    · exact hc
    · exact absurd (h.dis b hb) (a2 b hc)⟩
  refine (hc q2 (a0.trans h2) a1).mono ?_
  rintro e w' ⟨hA, q', hq, ha⟩
  exact ⟨hA, ⟨p, q', h1, ha.d.trans (a0.trans h2), h'.doc hq ha⟩, fun b cur t fr hb ht => ha.kp.block b (lt_of_block hb) (fun hn => hn (a3 b cur t fr hb ht))⟩

theorem du_13 {w0 w : World} {d r : Nat} {M N : Md} (h : Du w0 w d r M N) (ha : M.acts < 100000) (s : Bs) (hl : s.length ≤ 9223372036854775807) :
    Calls Try.prog 13 #[pv d, sv s] w fun e w' => (∃ v, e = .returned v ∧ ErrV w' v [99, 114, 101, 97, 116, 101] s (actR M (doC M.act1 s)).1) ∧ Du w0 w' d r (actR M (doC M.act1 s)).2 N ∧ Kx w w' := by
  refine h.callP fun p hp hr => ?_
  subst hp
  refine (create_13 hr ha s hl).mono ?_
  rintro e w' ⟨v, h1, h2, h3⟩
  exact ⟨⟨v, h1, h2⟩, h3⟩
theorem du_15 {w0 w : World} {d r : Nat} {M N : Md} (h : Du w0 w d r M N) (ha : M.acts < 100000) (s : Bs) (hl : s.length ≤ 9223372036854775807) :
    Calls Try.prog 15 #[pv d, sv s] w fun e w' => (∃ v, e = .returned v ∧ ErrV w' v [114, 101, 109, 111, 118, 101] s (actR M (doRm M.act1 s)).1) ∧ Du w0 w' d r (actR M (doRm M.act1 s)).2 N ∧ Kx w w' := by
  refine h.callP fun p hp hr => ?_
  subst hp
  refine (remove_15 hr ha s hl).mono ?_
  rintro e w' ⟨v, h1, h2, h3⟩
  exact ⟨⟨v, h1, h2⟩, h3⟩
theorem du_17 {w0 w : World} {d r : Nat} {M N : Md} (h : Du w0 w d r M N) (ha : M.acts < 100000) (s : Bs) (hl : s.length ≤ 9223372036854775807) :
    Calls Try.prog 17 #[pv d, sv s] w fun e w' => (∃ v, e = .returned v ∧ ErrV w' v [115, 121, 110, 99] s (actR M (doSy M.act1 s)).1) ∧ Du w0 w' d r (actR M (doSy M.act1 s)).2 N ∧ Kx w w' := by
  refine h.callP fun p hp hr => ?_
  subst hp
  refine (sync_17 hr ha s hl).mono ?_
  rintro e w' ⟨v, h1, h2, h3⟩
  exact ⟨⟨v, h1, h2⟩, h3⟩
theorem du_14 {w0 w : World} {d r : Nat} {M N : Md} (h : Du w0 w d r M N) (ha : N.acts < 100000) (s : Bs) (hl : s.length ≤ 9223372036854775807) :
    Calls Try.prog 14 #[pv r, sv s] w fun e w' => e = .returned (fltO [99, 114, 101, 97, 116, 101] s (actR N (doC N.act1 s)).1) ∧ Du w0 w' d r M (actR N (doC N.act1 s)).2 ∧ Kx w w' := by
  refine h.callR fun p hp hr => ?_
  subst hp
  exact rcreate_14 hr ha s hl
theorem du_16 {w0 w : World} {d r : Nat} {M N : Md} (h : Du w0 w d r M N) (ha : N.acts < 100000) (s : Bs) (hl : s.length ≤ 9223372036854775807) :
    Calls Try.prog 16 #[pv r, sv s] w fun e w' => e = .returned (fltO [114, 101, 109, 111, 118, 101] s (actR N (doRm N.act1 s)).1) ∧ Du w0 w' d r M (actR N (doRm N.act1 s)).2 ∧ Kx w w' := by
  refine h.callR fun p hp hr => ?_
  subst hp
  exact rremove_16 hr ha s hl
theorem du_18 {w0 w : World} {d r : Nat} {M N : Md} (h : Du w0 w d r M N) (ha : N.acts < 100000) (s : Bs) (hl : s.length ≤ 9223372036854775807) :
    Calls Try.prog 18 #[pv r, sv s] w fun e w' => e = .returned (fltO [115, 121, 110, 99] s (actR N (doSy N.act1 s)).1) ∧ Du w0 w' d r M (actR N (doSy N.act1 s)).2 ∧ Kx w w' := by
  refine h.callR fun p hp hr => ?_
  subst hp
  exact rsync_18 hr ha s hl
/-- How many acts. -/
theorem actR_acts {M : Md} {r : Int × Md} (h : r.2.acts = M.acts + 1) : (actR M r).2.acts = M.acts + 1 := by
  unfold actR bearR
  split
  · rfl
  repeat' split
  all_goals first | rfl | exact h
theorem doC_acts (M : Md) (s : Bs) : (doC M s).2.acts = M.acts := by
  unfold doC
  split
  · split <;> rfl
  · rfl
theorem doRm_acts (M : Md) (s : Bs) : (doRm M s).2.acts = M.acts := by
  unfold doRm
  split
  · split <;> rfl
  · rfl
theorem doSy_acts (M : Md) (s : Bs) : (doSy M s).2.acts = M.acts := by
  unfold doSy
  split
  · split <;> rfl
  · rfl
/-- Both made. -/
theorem du_new {w0 w1 w2 : World} {p : Pl} {q : Rl} {M : Md} (h1 : RP w1 p M) (g1 : w0.grownBy w1 none) (c1 : ∀ b, b < w0.heap.size → p.col b = 0) (h2 : RR w2 q M) (g2 : w1.grownBy w2 none) (c2 : ∀ b, b < w1.heap.size → q.col b = 0) : Du w0 w2 p.d q.d M M :=
  ⟨p, q, rfl, rfl, h1.gb g2, h2, gb_trans g1 g2, fun b hb => ⟨c1 b hb, c2 b (Nat.lt_of_lt_of_le hb g1.size)⟩, fun b hb => c2 b (h1.lt b hb)⟩
end Go.Proofs.Ytndjimdegkdljaa
