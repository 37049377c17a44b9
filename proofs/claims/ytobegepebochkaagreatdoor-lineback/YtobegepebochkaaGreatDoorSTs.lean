import Derived.Test.YtobegepebochkaaGreatDoorSPbo
set_option linter.unusedVariables false
set_option linter.unusedSimpArgs false
namespace Go.Proofs.YtobegepebochkaaGreatDoor
open Go.RowKit Go.Maps
structure Tld where
  s : Stp
  ck : Value
  cd : Value
  cm : Value
abbrev tldL (x : Tld) : List Value := stpL x.s x.ck x.cd x.cm
structure Ss (w : World) (B : Nat) (X : Nat → Prop) (v : Value) (q : List Tld) : Prop where
  row : w.ownsRow B 86 16 v q.length (q.flatMap tldL)
  all : ∀ x ∈ q, StR w X x.s x.ck x.cd x.cm
theorem Ss.kp {F X Y : Nat → Prop} {w w' : World} {B : Nat} {v : Value} {q : List Tld} (h : Ss w B X v q) (hk : Kp F w w') (hv : ∀ k, v.ownBlock = some k → ¬ F k) (hF : ∀ k, k < w.heap.size → F k → X k) (hY : ∀ k, k < w.heap.size → Y k → X k) : Ss w' B Y v q :=
  ⟨row_kp h.row hk hv, fun x hx => (h.all x hx).kp hk hF hY⟩
theorem Ss.nil (w : World) (B : Nat) (X : Nat → Prop) : Ss w B X (.slice none 0 0) [] := ⟨World.ownsRow_nil _ _ _ _, fun x hx => by cases hx⟩
theorem row_xf {w : World} {fb B e s n : Nat} {F : Fd} {kv ck cd cm v : Value} {hd lf : Int} {xs : List Value} (h : w.ownsRow B e s v n xs) (he : e ≠ 136 ∧ e ≠ 5) (hx : IsFx w fb F kv hd lf ck cd cm) : ∀ k, v.ownBlock = some k → ¬ XF fb kv k := by
  rintro k hk (rfl | hb)
  · exact row_box h hx.box he.1 k hk rfl
  · obtain ⟨c1, h1⟩ := row_block h k hk
    obtain ⟨c2, h2⟩ := row_block hx.kept k hb
    rw [h1] at h2
    injection h2 with h2
    injection h2 with _ h2
    exact he.2 h2
def FdP (F : Fd) (l : Bs) (w : World) (fb : Nat) (kv : Value) (e : Ending) (w' : World) : Prop :=
  ∃ rv kv' q, e = .returned rv ∧ IsF w' fb (F.run l).1 kv' ∧ Ss w' w.heap.size (XF fb kv') rv q ∧ q.map Tld.s = (F.run l).2 ∧ Kp (XF fb kv) w w' ∧ (∀ k, kv'.ownBlock = some k → kv.ownBlock = some k ∨ w.heap.size ≤ k) ∧ (∀ x ∈ q, ∀ k, x.cd.ownBlock = some k → w.heap.size ≤ k) ∧ (q = [] → rv = .slice none 0 0)
structure FdI (F : Fd) (l : Bs) (w : World) (fb : Nat) (kv : Value) (gk : Nat) (v rv : Value) (wr : World) (l1 : Bs) (F1 : Fd) (kv1 : Value) (q : List Tld) : Prop where
  le : 2 * l1.length + (if F1.st = 4 then 0 else 1) ≤ gk
  ck : Ck wr (XF fb kv1) v l1
  ll : l1.length ≤ l.length
  isf : IsF wr fb F1 kv1
  ok : F1.Ok
  tk : F1.taken + l1.length = F.taken + l.length
  ss : Ss wr w.heap.size (XF fb kv1) rv q
  ql : q.length + gk ≤ 2 * l.length + 1
  old : ∀ g o n c, v = .slice (some ⟨g, o, none⟩) n c → g < w.heap.size
  run : F.run l = ((F1.run l1).1, q.map Tld.s ++ (F1.run l1).2)
  kp : Kp (XF fb kv) w wr
  own : ∀ k, kv1.ownBlock = some k → kv.ownBlock = some k ∨ w.heap.size ≤ k
  dnew : ∀ x ∈ q, ∀ k, x.cd.ownBlock = some k → w.heap.size ≤ k
  rn : q = [] → rv = .slice none 0 0
theorem FdI.er {F : Fd} {l : Bs} {w : World} {fb : Nat} {kv : Value} {gk : Nat} {v rv : Value} {wr : World} {l1 : Bs} {F1 : Fd} {kv1 : Value} {q : List Tld} (h : FdI F l w fb kv gk v rv wr l1 F1 kv1 q) (hE : Er w) (hX : ¬ XF fb kv 2 ∧ ¬ XF fb kv 3) : Er wr ∧ ¬ XF fb kv1 2 ∧ ¬ XF fb kv1 3 := by
  have h2 : 2 < w.heap.size ∧ 3 < w.heap.size := by
    obtain ⟨⟨a, b, e1⟩, c, d, e2⟩ := hE
    exact ⟨lt_of_cell e1, lt_of_cell e2⟩
  refine ⟨hE.kp h.kp hX.1 hX.2, ?_, ?_⟩
  · rintro (e | e)
    · exact hX.1 (.inl e)
    · rcases h.own _ e with e | e
      · exact hX.1 (.inr e)
      · omega
  · rintro (e | e)
    · exact hX.2 (.inl e)
    · rcases h.own _ e with e | e
      · exact hX.2 (.inr e)
      · omega
theorem FdI.start {F : Fd} {l : Bs} {w : World} {fb : Nat} {kv v : Value} (h : IsF w fb F kv) (hok : F.Ok) (hv : Ck w (XF fb kv) v l) : FdI F l w fb kv (2 * l.length + 1) v (.slice none 0 0) w l F kv [] := by
  have hold : ∀ g o n c, v = .slice (some ⟨g, o, none⟩) n c → g < w.heap.size := by
    intro g o n c e
    rcases hv with ⟨-, e2⟩ | ⟨g2, o2, c2, e2, -, -, h3, -⟩
    · rw [e2] at e; cases e
    · rw [e2] at e; injection e with e; injection e with e; injection e with e; omega
  exact ⟨by split <;> omega, hv, Nat.le_refl _, h, hok, rfl, Ss.nil _ _ _, by simp, hold, by simp, Kp.refl _ _, fun k hk => .inl hk, (fun x hx => by cases hx), fun _ => rfl⟩
theorem FdI.done {F : Fd} {l : Bs} {w : World} {fb : Nat} {kv : Value} {gk : Nat} {v rv : Value} {wr : World} {l1 : Bs} {F1 : Fd} {kv1 : Value} {q : List Tld} (h : FdI F l w fb kv gk v rv wr l1 F1 kv1 q) (hl : l1 = []) : FdP F l w fb kv (.returned rv) wr := by
  subst hl
  have hr := h.run
  rw [run_nil] at hr
  refine ⟨rv, kv1, q, rfl, ?_, h.ss, ?_, h.kp, h.own, h.dnew, h.rn⟩
  · rw [hr]; exact h.isf
  · rw [hr]; simp
theorem FdI.no {F : Fd} {l : Bs} {w : World} {fb : Nat} {kv : Value} {gk : Nat} {rv : Value} {wr w4 : World} {l1 : Bs} {F1 F2 : Fd} {kv1 kv2 : Value} {q : List Tld} {v v' : Value} {u : Nat} (h : FdI F l w fb kv gk v rv wr l1 F1 kv1 q) (cv : Ck wr (XF fb kv1) v' (l1.drop u)) (ov : ∀ g o n c, v' = .slice (some ⟨g, o, none⟩) n c → g < w.heap.size)
    (hu : u ≤ l1.length) (i4 : IsF w4 fb F2 kv2) (k4 : Kp (XF fb kv1) wr w4) (o4 : ∀ k, kv2.ownBlock = some k → kv1.ownBlock = some k ∨ wr.heap.size ≤ k) (z4 : u = 0 → F2.st = 4 ∧ F1.st ≠ 4) (t4 : F2.taken = F1.taken) (ok4 : (F2.tk u).Ok) (r4 : F1.run l1 = (((F2.tk u).run (l1.drop u)).1, [] ++ ((F2.tk u).run (l1.drop u)).2)) {w5 : World} (w45 : w4.grownBy w5 (some fb)) (i5 : IsF w5 fb (F2.tk u) kv2) :
    ∃ gk', gk' < gk ∧ FdI F l w fb kv gk' v' rv w5 (l1.drop u) (F2.tk u) kv2 q := by
  obtain ⟨hd, lf, ck, cd, cm, hx, -, -⟩ := h.isf
  have k5 : Kp (XF fb kv1) wr w5 := k4.step w45 (fun i hi => by injection hi with hi; exact .inl (.inl hi.symm))
  have hY : ∀ k, k < wr.heap.size → XF fb kv2 k → XF fb kv1 k := by
    rintro k hk (e | e)
    · exact .inl e
    · rcases o4 k e with e | e
      · exact .inr e
      · omega
  have hlt : 2 * (l1.drop u).length + (if (F2.tk u).st = 4 then 0 else 1) < gk := by
    have := h.le
    rw [List.length_drop]
    rcases Nat.eq_zero_or_pos u with e | e
    · obtain ⟨e1, e2⟩ := z4 e
      have e3 : (F2.tk u).st = 4 := e1
      rw [if_neg e2] at this
      rw [if_pos e3]
      omega
    · split at this <;> split <;> omega
  refine ⟨2 * (l1.drop u).length + (if (F2.tk u).st = 4 then 0 else 1), hlt, ⟨Nat.le_refl _, ?_, ?_, i5, ok4, ?_, ?_, ?_, ?_, ?_, ?_, ?_, h.dnew, h.rn⟩⟩
  · exact cv.kp k5 (fun k _ hf => hf) hY
  · rw [List.length_drop]; have := h.ll; omega
  · show F2.taken + u + (l1.drop u).length = _
    rw [List.length_drop, t4, ← h.tk]; omega
  · exact h.ss.kp k5 (row_xf h.ss.row (by omega) hx) (fun k _ hf => hf) hY
  · have := h.ql; omega
  · exact ov
  · rw [h.run, r4]; simp
  · refine h.kp.trans k5 (fun i hi => hi) (fun i hi => ?_)
    rcases hi with e | e
    · exact .inl (.inl e)
    · rcases h.own i e with e | e
      · exact .inl (.inr e)
      · exact .inr e
  · intro k hk
    rcases o4 k hk with e | e
    · exact h.own k e
    · exact .inr (Nat.le_trans h.kp.size e)
theorem StR.wide {w : World} {X : Nat → Prop} {s : Stp} {ck cd cm v : Value} {B n : Nat} {xs : List Value} (h : StR w X s ck cd cm) (hr : w.ownsRow B 86 16 v n xs) : StR w (fun k => X k ∨ v.ownBlock = some k) s ck cd cm := by
  have key : ∀ {e m ys} {u : Value} {B2 z : Nat}, w.ownsRow B2 e z u m ys → e ≠ 86 → ∀ k, u.ownBlock = some k → ¬ (v.ownBlock = some k) := by
    intro e m ys u B2 z hu he k hk hv
    obtain ⟨c1, h1⟩ := row_block hu k hk
    obtain ⟨c2, h2⟩ := row_block hr k hv
    rw [h1] at h2
    injection h2 with h2
    injection h2 with _ h2
    exact he h2
  refine ⟨h.keys, h.data, h.mt, fun k hk => ?_, fun k hk => ?_, fun k hk => ?_, h.nd⟩
  · rintro (e | e)
    · exact h.ak k hk e
    · exact key h.keys (by decide) k hk e
  · rintro (e | e)
    · exact h.ad k hk e
    · exact key h.data (by decide) k hk e
  · rintro (e | e)
    · exact h.am k hk e
    · exact key h.mt (by decide) k hk e
theorem FdI.yesq {F : Fd} {l : Bs} {w : World} {fb : Nat} {kv : Value} {gk : Nat} {rv : Value} {wr w4 : World} {l1 : Bs} {F1 F2 : Fd} {kv1 kv2 : Value} {q : List Tld} {v v' : Value} {u : Nat} (h : FdI F l w fb kv gk v rv wr l1 F1 kv1 q) (cv : Ck wr (XF fb kv1) v' (l1.drop u)) (ov : ∀ g o n c, v' = .slice (some ⟨g, o, none⟩) n c → g < w.heap.size)
    (hu : u ≤ l1.length) (k4 : Kp (XF fb kv1) wr w4) (o4 : ∀ k, kv2.ownBlock = some k → kv1.ownBlock = some k ∨ wr.heap.size ≤ k) (t4 : F2.taken = F1.taken) (lm : F2.limit ≤ 9223372036854775807) (r4 : F1.run l1 = (((F2.tk u).tell.1.run (l1.drop u)).1, (F2.tk u).tell.2 ++ ((F2.tk u).tell.1.run (l1.drop u)).2))
    {w5 w6 w7 : World} {hd lf hd6 lf6 : Int} {ck cd cm : Value} (w45 : w4.grownBy w5 (some fb)) (i5 : IsFx w5 fb (F2.tk u) kv2 hd lf ck cd cm) (w56 : w5.grownBy w6 (some fb)) (b6 : Box w6 136 fb (fdA fb (F2.tk u).tell.1 (.slice none 0 0) hd6 lf6 (.slice none 0 0) (.slice none 0 0) (.slice none 0 0)))
    {g7 cap : Nat} (r7 : w7.ownsRow w.heap.size 86 16 (.slice (some ⟨g7, 0, none⟩) (q.length + 1) cap) (q.length + 1) (q.flatMap tldL ++ stpL { (F2.tk u).s with frm := (F2.tk u).frm, to := (F2.tk u).taken } ck cd cm)) (w67 : w6.grownBy w7 rv.ownBlock) (hcd : ∀ k, cd.ownBlock = some k → wr.heap.size ≤ k) :
    ∃ gk', gk' < gk ∧ FdI F l w fb kv gk' v' (.slice (some ⟨g7, 0, none⟩) (q.length + 1) cap) w7 (l1.drop u) (F2.tk u).tell.1 (.slice none 0 0) (q ++ [⟨{ (F2.tk u).s with frm := (F2.tk u).frm, to := (F2.tk u).taken }, ck, cd, cm⟩]) := by
  obtain ⟨hd0, lf0, ck0, cd0, cm0, hx, -, -⟩ := h.isf
  have hu0 : 0 < u := by
    have h3 := (run_facts l1 F1).2.2 { (F2.tk u).s with frm := (F2.tk u).frm, to := (F2.tk u).taken } (by rw [r4]; exact List.mem_append_left _ (by simp [Fd.tell]))
    have h4 : F1.taken < F2.taken + u := h3.1
    omega
  have hst : (F2.tk u).tell.1.st ≠ 4 := by
    simp only [Fd.tell]
    split <;> omega
  have hlt : 2 * (l1.drop u).length + 1 < gk := by
    have := h.le
    rw [List.length_drop]
    split at this <;> omega
  have k5 : Kp (XF fb kv1) wr w5 := k4.step w45 (fun i hi => by injection hi with hi; exact .inl (.inl hi.symm))
  have k6 : Kp (XF fb kv1) wr w6 := k5.step w56 (fun i hi => by injection hi with hi; exact .inl (.inl hi.symm))
  have hrv := row_xf h.ss.row (by omega) hx
  have row6 := row_kp h.ss.row k6 hrv
  have k67 : Kp (fun k => XF fb kv1 k ∨ rv.ownBlock = some k) w6 w7 := (Kp.refl _ w6).step w67 (fun i hi => .inl (.inr hi))
  have k57 : Kp (fun k => XF fb kv2 k ∨ rv.ownBlock = some k) w5 w7 := ((Kp.refl _ w5).step w56 (fun i hi => by injection hi with hi; exact .inl (.inl (.inl hi.symm)))).step w67 (fun i hi => .inl (.inr hi))
  have k7 : Kp (fun k => XF fb kv1 k ∨ rv.ownBlock = some k) wr w7 := k6.trans k67 (fun i hi => .inl hi) (fun i hi => .inl hi)
  have row5 := row_kp h.ss.row k5 hrv
  refine ⟨2 * (l1.drop u).length + 1, hlt, ⟨?_, ?_, ?_, ?_, ok_tell lm, ?_, ⟨?_, ?_⟩, ?_, ?_, ?_, ?_, ?_, ?_, fun e => by simp at e⟩⟩
  · rw [if_neg hst]; exact Nat.le_refl _
  · have hck : Ck wr (fun k => XF fb kv1 k ∨ rv.ownBlock = some k) v' (l1.drop u) := by
      rcases cv with h | ⟨g2, o2, c2, e, h1, h2, h3, h4, h5⟩
      · exact .inl h
      · refine .inr ⟨g2, o2, c2, e, h1, h2, h3, ?_, h5⟩
        have := ov _ _ _ _ e
        rintro (e | e)
        · exact h4 e
        · have := (World.ownsRow.lt h.ss.row _ e).1
          omega
    refine hck.kp k7 (fun k _ hf => hf) ?_
    rintro k hk (e | e)
    · exact .inl (.inl e)
    · simp [Value.ownBlock] at e
  · rw [List.length_drop]; have := h.ll; omega
  · refine ⟨hd6, lf6, _, _, _, isf_nil (b6.kept w67 (fun e => row_box row6 b6 (by omega) fb e.symm rfl)) rfl rfl rfl rfl, fun e => ?_, fun e => ?_⟩
    · simp only [Fd.tell] at e
      split at e <;> omega
    · simp only [Fd.tell] at e
      split at e <;> omega
  · show F2.taken + u + (l1.drop u).length = _
    rw [List.length_drop, t4, ← h.tk]; omega
  · rw [List.length_append, List.flatMap_append]
    simpa using r7
  · intro x hx2
    rcases List.mem_append.1 hx2 with hx2 | hx2
    · refine ((h.ss.all x hx2).wide h.ss.row).kp k7 (fun k _ hf => hf) ?_
      rintro k hk (e | e)
      · exact .inl (.inl e)
      · simp [Value.ownBlock] at e
    · simp at hx2
      subst hx2
      have h8 : StR w5 (fun k => XF fb kv2 k ∨ rv.ownBlock = some k) { (F2.tk u).s with frm := (F2.tk u).frm, to := (F2.tk u).taken } ck cd cm := StR.wide ⟨i5.str.keys, i5.str.data, i5.str.mt, i5.str.ak, i5.str.ad, i5.str.am, i5.str.nd⟩ row5
      refine h8.kp k57 (fun k _ hf => hf) ?_
      rintro k hk (e | e)
      · exact .inl (.inl e)
      · simp [Value.ownBlock] at e
  · have := h.ql
    rw [List.length_append]
    simp
    rw [List.length_drop] at hlt
    omega
  · exact ov
  · rw [h.run, r4]
    simp [Fd.tell]
  · refine h.kp.trans k7 (fun i hi => hi) (fun i hi => ?_)
    rcases hi with (e | e) | e
    · exact .inl (.inl e)
    · rcases h.own i e with e | e
      · exact .inl (.inr e)
      · exact .inr e
    · exact .inr (World.ownsRow.lt h.ss.row _ e).1
  · intro k hk
    simp [Value.ownBlock] at hk
  · intro x hx2 k hk
    rcases List.mem_append.1 hx2 with hx2 | hx2
    · exact h.dnew x hx2 k hk
    · simp at hx2
      subst hx2
      exact Nat.le_trans h.kp.size (hcd k hk)
end Go.Proofs.YtobegepebochkaaGreatDoor
