import Derived.Test.YtobegepebochkaaGreatDoorZj
import Derived.Test.YtobegepebochkaaGreatDoorTr
import Derived.Test.YtobegepebochkaaGreatDoorTv
/-
  Two Feeders in turns.
-/
namespace Go.Proofs.YtobegepebochkaaGreatDoor
open Go.RowKit Go.Maps
set_option linter.unusedVariables false
set_option linter.unusedSimpArgs false

section
variable {w : World} {ops : Array Oper} {rest : List Oper} {o : Oper} {a : Act} {Q : Exit → Act → World → Prop}
/-- append(l, r...) of steps, and which block holds them then. -/
theorem more86b (hgd : o.guard = none) (s x : Operand) (ho : o.op = .call { callee := .builtin .append, args := #[s, x], argTypes := #[57, 57] })
    (B : Nat) (v : Value) (n : Nat) (xs : List Value) (hs : a.eval s = v) (hown : w.ownsRow B 86 16 v n xs) (B2 : Nat) (uv : Value) (m : Nat) (us : List Value) (hx : a.eval x = uv) (hu : w.ownsRow B2 86 16 uv m us) (hnil : m = 0 → uv = .slice none 0 0) (h1 : ∀ u ∈ us, u.oneCell' = true) (hn : n + m ≤ 100000000000) (hB : B ≤ w.heap.size)
    (h : ∀ v' w', w'.ownsRow B 86 16 v' (n + m) (xs ++ us) → w.grownBy w' v.ownBlock → (∀ j, v'.ownBlock = some j → v.ownBlock = some j ∨ w.heap.size ≤ j) → wpList Tryz.prog ops Q rest (a.put o.dst v') w') : wpList Tryz.prog ops Q (o :: rest) a w := by
  obtain ⟨i0, hi, hz0, hz1, hz2⟩ := info_parts Tryz.info86b
  have hul := hu.1
  rcases Nat.eq_zero_or_pos m with h0 | h0
  · have hv := hnil h0
    subst hv
    subst h0
    obtain rfl : us = [] := List.eq_nil_of_length_eq_zero (by simpa using hul)
    refine wpList_append_own_none hgd s x 57 ho B 86 i0 16 Tryz.underlying57 hi _ _ _ hs hown hx ?_
    exact h v w (by simpa using hown) (gb_refl _ _) (fun j hj => .inl hj)
  · obtain ⟨ao, c, rfl, -, h2, -, h4⟩ := row_shape hu
    obtain ⟨g, rfl⟩ := h4 h0
    refine wpList_plain hgd fun K hK => ?_
    refine wp_append_lies _ s x 57 ho B 86 i0 (.agg Z86) 16 184 Tryz.underlying57 hi hz0 hz1 hz2 rfl (by omega) v n xs hs hown ⟨g, 0, none⟩ m c us hx hul ?_ h1 h0 (by unfold maxLen; omega) (by omega) hB _ rfl ?_
    · intro j u hj
      rw [Addr.add_mid, Nat.zero_add]
      exact row_cell hu j u hj
    · intro g' cap w' h5 h6 h7 _
      refine hK _ _ (h _ w' h5 h6 (fun j hj => ?_))
      simp [Value.ownBlock] at hj
      subst hj
      rcases h7 with h7 | h7
      · exact .inl h7
      · exact .inr (by omega)
end
/-- A row of type 9 or 79 stays, whatever a Feeder writes. -/
theorem row_fx {w w' : World} {B e s n fb : Nat} {F : Fd} {v kv ck cd cm : Value} {hd lf : Int} {xs : List Value} (h : w.ownsRow B e s v n xs) (he : e ≠ 136 ∧ e ≠ 5) (hx : IsFx w fb F kv hd lf ck cd cm) (hk : Kp (XF fb kv) w w') : w'.ownsRow B e s v n xs := row_kp h hk (row_xf h he hx)
/-- A Feeder that another Feeder's bytes do not touch. -/
theorem IsF.other {w w' : World} {fb1 fb2 : Nat} {F1 F2 : Fd} {kv1 kv2 : Value} (h1 : IsF w fb1 F1 kv1) (hd : F1.s.data = []) (h2 : IsF w fb2 F2 kv2) (hne : fb1 ≠ fb2) (hn : ∀ j, kv1.ownBlock = some j → kv2.ownBlock ≠ some j) (hk : Kp (XF fb2 kv2) w w') : IsF w' fb1 F1 kv1 := by
  obtain ⟨hd1, lf1, ck, cd, cm, hx, a1, a2⟩ := h1
  obtain ⟨_, _, _, _, _, hy, -, -⟩ := h2
  have hcd := hx.str.nd hd
  subst hcd
  refine ⟨hd1, lf1, ck, _, cm, ⟨hk.box hx.box ?_, ⟨row_fx hx.str.keys (by decide) hy hk, ?_, row_fx hx.str.mt (by decide) hy hk, hx.str.ak, hx.str.ad, hx.str.am, hx.str.nd⟩, row_kp hx.kept hk ?_⟩, a1, a2⟩
  · rintro (e | e)
    · exact hne e
    · exact row_box hy.kept hx.box (by decide) fb1 e rfl
  · rw [hd]; exact World.ownsRow_nil _ _ _ _
  · rintro j hj (e | e)
    · subst e; exact row_box hx.kept hy.box (by decide) _ hj rfl
    · exact hn j hj e
/-- Steps that another Feeder's bytes do not touch. -/
theorem Ss.other {w w' : World} {B fb : Nat} {F : Fd} {kv v : Value} {X Y : Nat → Prop} {q : List Tld} (h : Ss w B X v q) (hF : IsF w fb F kv) (hX : ∀ j, XF fb kv j → X j) (hk : Kp (XF fb kv) w w') (hY : ∀ j, j < w.heap.size → Y j → X j) : Ss w' B Y v q := by
  obtain ⟨_, _, _, _, _, hx, -, -⟩ := hF
  exact h.kp hk (row_xf h.row (by decide) hx) (fun j _ hf => hX j hf) hY
/-- Two Feeders in turns. -/
structure ApI (w3 : World) (fb1 fb2 : Nat) (l1 l2 : Int) (ps qs : List Bs) (k1 k2 : Nat) (F1 F2 : Fd) (kv1 kv2 cv dv : Value) (qc qd : List Tld) (wr : World) : Prop where
  i1 : IsF wr fb1 F1 kv1
  i2 : IsF wr fb2 F2 kv2
  ok1 : F1.Ok
  ok2 : F2.Ok
  kB1 : ∀ j, kv1.ownBlock = some j → w3.heap.size ≤ j
  kB2 : ∀ j, kv2.ownBlock = some j → w3.heap.size ≤ j
  kn : ∀ j, kv1.ownBlock = some j → kv2.ownBlock ≠ some j
  run1 : (fd0 l1).run ((ps.take k1).flatten) = (F1, qc.map Tld.s)
  run2 : (fd0 l2).run ((qs.take k2).flatten) = (F2, qd.map Tld.s)
  s1 : Ss wr w3.heap.size (fun j => XF fb1 kv1 j ∨ XF fb2 kv2 j) cv qc
  s2 : Ss wr w3.heap.size (fun j => XF fb1 kv1 j ∨ XF fb2 kv2 j) dv qd
  cdv : ∀ j, cv.ownBlock = some j → dv.ownBlock ≠ some j
  kp : Kp (fun j => j = fb1 ∨ j = fb2 ∨ w3.heap.size ≤ j) w3 wr
  er : Er wr
theorem ApI.swap {w3 : World} {fb1 fb2 : Nat} {l1 l2 : Int} {ps qs : List Bs} {k1 k2 : Nat} {F1 F2 : Fd} {kv1 kv2 cv dv : Value} {qc qd : List Tld} {wr : World} (h : ApI w3 fb1 fb2 l1 l2 ps qs k1 k2 F1 F2 kv1 kv2 cv dv qc qd wr) : ApI w3 fb2 fb1 l2 l1 qs ps k2 k1 F2 F1 kv2 kv1 dv cv qd qc wr :=
  ⟨h.i2, h.i1, h.ok2, h.ok1, h.kB2, h.kB1, fun j a b => h.kn j b a, h.run2, h.run1, ⟨h.s2.row, fun x hx => (h.s2.all x hx).kp (Kp.refl (fun _ => False) _) (fun _ _ e => e.elim) (fun j _ e => e.symm)⟩, ⟨h.s1.row, fun x hx => (h.s1.all x hx).kp (Kp.refl (fun _ => False) _) (fun _ _ e => e.elim) (fun j _ e => e.symm)⟩, fun j a b => h.cdv j b a,
   h.kp.mono (fun j e => .inl (by rcases e with e | e | e <;> simp [e])), h.er⟩
/-- What becomes of it with one piece more for the first. -/
theorem ApI.feed1 {w3 : World} {fb1 fb2 : Nat} {l1 l2 : Int} {ps qs : List Bs} {k1 k2 : Nat} {F1 F2 : Fd} {kv1 kv2 cv dv : Value} {qc qd : List Tld} {wr : World} (h : ApI w3 fb1 fb2 l1 l2 ps qs k1 k2 F1 F2 kv1 kv2 cv dv qc qd wr) (hne : fb1 ≠ fb2) (h3 : 3 < fb1 ∧ 3 < fb2 ∧ 3 < w3.heap.size) (hlt : fb1 < w3.heap.size ∧ fb2 < w3.heap.size) {p : Bs} (hp : ps[k1]? = some p)
    {w4 w5 : World} {kv' rv2 v' : Value} {q2 : List Tld} (i4 : IsF w4 fb1 (F1.run p).1 kv') (s4 : Ss w4 wr.heap.size (XF fb1 kv') rv2 q2) (e4 : q2.map Tld.s = (F1.run p).2) (k4 : Kp (XF fb1 kv1) wr w4) (o4 : ∀ j, kv'.ownBlock = some j → kv1.ownBlock = some j ∨ wr.heap.size ≤ j) (n4 : ∀ x ∈ q2, ∀ j, x.cd.ownBlock = some j → wr.heap.size ≤ j)
    (r5 : w5.ownsRow w3.heap.size 86 16 v' (qc.length + q2.length) (qc.flatMap tldL ++ q2.flatMap tldL)) (g5 : w4.grownBy w5 cv.ownBlock) (b5 : ∀ j, v'.ownBlock = some j → cv.ownBlock = some j ∨ w4.heap.size ≤ j) :
    ApI w3 fb1 fb2 l1 l2 ps qs (k1 + 1) k2 (F1.run p).1 F2 kv' kv2 v' dv (qc ++ q2) qd w5 := by
  obtain ⟨_, _, _, _, _, hx1, -, -⟩ := id h.i1
  obtain ⟨_, _, _, _, _, hx2, -, -⟩ := id h.i2
  have hsz := h.kp.size
  have hXF : ∀ j, XF fb1 kv1 j → j = fb1 ∨ w3.heap.size ≤ j := by
    rintro j (e | e)
    · exact .inl e
    · exact .inr (h.kB1 j e)
  have hY : ∀ j, j < wr.heap.size → (XF fb1 kv' j ∨ XF fb2 kv2 j) → (XF fb1 kv1 j ∨ XF fb2 kv2 j) := by
    rintro j hj ((e | e) | e)
    · exact .inl (.inl e)
    · rcases o4 j e with e | e
      · exact .inl (.inr e)
      · omega
    · exact .inr e
  have t4 := h.s1.other h.i1 (fun j e => .inl e) k4 hY
  have u4 := h.s2.other h.i1 (fun j e => .inl e) k4 hY
  have row4 := t4.row
  have j2 : IsF w4 fb2 F2 kv2 := h.i2.other h.ok2.dn h.i1 (fun e => hne e.symm) (fun j a b => h.kn j b a) k4
  have kv2lt : ∀ j, kv2.ownBlock = some j → j < wr.heap.size := fun j hj => row_lt hx2.kept j hj
  have hq2 : ∀ x ∈ q2, StR w4 (fun j => XF fb1 kv' j ∨ XF fb2 kv2 j) x.s x.ck x.cd x.cm := by
    intro x hx
    have hs := s4.all x hx
    obtain ⟨_, _, _, _, _, hy2, -, -⟩ := id j2
    refine ⟨hs.keys, hs.data, hs.mt, ?_, ?_, ?_, hs.nd⟩
    · rintro j hj (e | e)
      · exact hs.ak j hj e
      · exact row_xf hs.keys (by decide) hy2 j hj e
    · rintro j hj (e | e)
      · exact hs.ad j hj e
      · have := n4 x hx j hj
        rcases e with e | e
        · have := hx2.box.lt; omega
        · have := kv2lt j e; omega
    · rintro j hj (e | e)
      · exact hs.am j hj e
      · exact row_xf hs.mt (by decide) hy2 j hj e
  have ho := oth_row row4
  refine ⟨i4.oth g5 ho, j2.oth g5 ho, ok_run p h.ok1, h.ok2, ?_, h.kB2, ?_, ?_, h.run2, ⟨?_, ?_⟩, ⟨?_, ?_⟩, ?_, ?_, ?_⟩
  · intro j hj
    rcases o4 j hj with e | e
    · exact h.kB1 j e
    · omega
  · intro j hj e
    rcases o4 j hj with e2 | e2
    · exact h.kn j e2 e
    · have := kv2lt j e; omega
  · rw [flat_take hp, Fd.run_app, h.run1]
    simp [e4]
  · rw [List.length_append, List.flatMap_append]
    exact r5
  · intro x hx
    rcases List.mem_append.1 hx with hx | hx
    · exact (t4.all x hx).oth g5 ho
    · exact (hq2 x hx).oth g5 ho
  · exact row_kept u4.row g5 (fun j hj e => h.cdv j e.symm hj)
  · intro x hx
    exact (u4.all x hx).oth g5 ho
  · intro j hj e
    rcases b5 j hj with e2 | e2
    · exact h.cdv j e2 e
    · have := row_lt h.s2.row j e
      have := k4.size
      omega
  · refine (h.kp.trans k4 (fun i hi => hi) (fun i hi => ?_)).step g5 (fun i hi => .inl (.inr (.inr (World.ownsRow.lt h.s1.row i hi).1)))
    rcases hXF i hi with e | e
    · exact .inl (.inl e)
    · exact .inl (.inr (.inr e))
  · refine h.er.kp (X := fun j => 3 < j) ((k4.mono (G := fun j => 3 < j) (fun i hi => ?_)).step g5 (fun i hi => ?_)) (by omega) (by omega)
    · rcases hXF i hi with e | e
      · left; omega
      · left; omega
    · have := (World.ownsRow.lt h.s1.row i hi).1
      left; omega
end Go.Proofs.YtobegepebochkaaGreatDoor
/-
  Two Feeders in turns: pieces.
-/
namespace Go.Proofs.YtobegepebochkaaGreatDoor
open Go.RowKit Go.Maps
set_option linter.unusedVariables false
set_option linter.unusedSimpArgs false

theorem ApI.tk {w3 : World} {fb1 fb2 : Nat} {l1 l2 : Int} {ps qs : List Bs} {k1 k2 : Nat} {F1 F2 : Fd} {kv1 kv2 cv dv : Value} {qc qd : List Tld} {wr : World} (h : ApI w3 fb1 fb2 l1 l2 ps qs k1 k2 F1 F2 kv1 kv2 cv dv qc qd wr) : F1.taken = ((ps.take k1).flatten).length ∧ qc.length ≤ ps.flatten.length := by
  have h1 := (run_facts ((ps.take k1).flatten) (fd0 l1)).1
  rw [h.run1] at h1
  have h2 : (fd0 l1).taken = 0 := rfl
  rw [h2] at h1
  have h3 := run_len ((ps.take k1).flatten) (fd0 l1)
  rw [h.run1] at h3
  have h4 := flat_le ps k1
  simp only [List.length_map] at h3
  exact ⟨by simpa using h1, by omega⟩
theorem ApI.past1 {w3 : World} {fb1 fb2 : Nat} {l1 l2 : Int} {ps qs : List Bs} {k1 k2 : Nat} {F1 F2 : Fd} {kv1 kv2 cv dv : Value} {qc qd : List Tld} {wr : World} (h : ApI w3 fb1 fb2 l1 l2 ps qs k1 k2 F1 F2 kv1 kv2 cv dv qc qd wr) (hk : ps.length ≤ k1) : ApI w3 fb1 fb2 l1 l2 ps qs (k1 + 1) k2 F1 F2 kv1 kv2 cv dv qc qd wr :=
  ⟨h.i1, h.i2, h.ok1, h.ok2, h.kB1, h.kB2, h.kn, by
    have := h.run1
    rw [List.take_of_length_le hk] at this
    rw [List.take_of_length_le (by omega)]
    exact this, h.run2, h.s1, h.s2, h.cdv, h.kp, h.er⟩
/-- A row of pieces in memory. -/
structure PcR (w : World) (B : Nat) (pv : Value) (vs : List Value) (ps : List Bs) : Prop where
  row : w.ownsRow B 38 1 pv ps.length vs
  all : Ps w B vs ps
theorem PcR.kept0 {w w' : World} {B : Nat} {pv : Value} {vs : List Value} {ps : List Bs} (h : PcR w B pv vs ps) (hf : w.grownBy w' none) : PcR w' B pv vs ps := ⟨row_kept h.row hf (by simp), h.all.kept0 hf⟩
theorem PcR.at {w3 : World} {B fb1 fb2 : Nat} {pa : Option Addr} {pc : Nat} {vs : List Value} {ps : List Bs} (h : PcR w3 B (.slice pa ps.length pc) vs ps) (hb : fb1 < B ∧ fb2 < B) {k : Nat} (hk : k < ps.length) :
    ∃ pg xa xc p, pa = some ⟨pg, 0, none⟩ ∧ ps[k]? = some p ∧ (∀ wr, Kp (fun j => j = fb1 ∨ j = fb2 ∨ w3.heap.size ≤ j) w3 wr → wr.cell? ⟨pg, k, none⟩ = some (.slice xa p.length xc)) ∧ w3.ownsRow B 5 1 (.slice xa p.length xc) p.length (p.map b8) := by
  obtain ⟨p, hp⟩ : ∃ p, ps[k]? = some p := ⟨_, List.getElem?_eq_getElem hk⟩
  obtain ⟨x, hx⟩ : ∃ x, vs[k]? = some x := ⟨_, List.getElem?_eq_getElem (by rw [h.all.1]; exact hk)⟩
  have prow := h.all.2 k p x hp hx
  obtain ⟨xa, xc, rfl, -, -, -, -⟩ := row_shape prow
  have pr := h.row
  obtain ⟨pa2, pc2, epv, -, -, -, hpg⟩ := row_shape pr
  obtain ⟨pg, hpg⟩ := hpg (by omega)
  injection epv with epv _ epc
  rw [hpg] at epv
  subst epv
  have hpgl := World.ownsRow.lt pr pg rfl
  refine ⟨pg, xa, xc, p, rfl, hp, fun wr hkp => ?_, prow⟩
  have hbk : ¬ (pg = fb1 ∨ pg = fb2 ∨ w3.heap.size ≤ pg) := by
    rintro (e | e | e) <;> omega
  have := hkp.block pg hpgl.2 hbk
  simpa [World.cell?, this] using row_cell pr k _ hx
/-- The first is fed a piece. -/
theorem ApI.calls1 {w3 : World} {fb1 fb2 : Nat} {l1 l2 : Int} {ps qs : List Bs} {k1 k2 : Nat} {F1 F2 : Fd} {kv1 kv2 cv dv : Value} {qc qd : List Tld} {wr : World} (h : ApI w3 fb1 fb2 l1 l2 ps qs k1 k2 F1 F2 kv1 kv2 cv dv qc qd wr) (h3 : 3 < fb1 ∧ 3 < fb2 ∧ 3 < w3.heap.size) {B : Nat} (hb : fb1 < B ∧ fb2 < B) (hfl : ps.flatten.length ≤ 12000) {p : Bs} (hp : ps[k1]? = some p) {x : Value} (prow : w3.ownsRow B 5 1 x p.length (p.map b8)) :
    Calls Tryz.prog 45 #[.pointer (some ⟨fb1, 0, none⟩), x] wr fun e w' => FdP F1 p wr fb1 kv1 e w' := by
  have hXw : ∀ j, XF fb1 kv1 j → j = fb1 ∨ w3.heap.size ≤ j := by
    rintro j (e | e)
    · exact .inl e
    · exact .inr (h.kB1 j e)
  have hpx : ∀ j, x.ownBlock = some j → ¬ (j = fb1 ∨ j = fb2 ∨ w3.heap.size ≤ j) := by
    intro j hj
    have h1 := (World.ownsRow.lt prow j hj).1
    have h2 := row_lt prow j hj
    rintro (e | e | e) <;> omega
  have hck : Ck wr (XF fb1 kv1) x p := ck_own (row_kp prow h.kp hpx) (fun j hj hxj => hpx j hj (by rcases hXw j hxj with e | e <;> simp [e]))
  have htk := h.tk.1
  have hfl2 := flat_le ps (k1 + 1)
  have hTl : ((ps.take (k1 + 1)).flatten).length = F1.taken + p.length := by rw [flat_take hp, List.length_append, htk]
  have hX2 : ∀ n, n ≤ 3 → ¬ XF fb1 kv1 n := by
    intro n hn hx2
    rcases hXw n hx2 with e | e <;> omega
  exact feed_45 h.i1 h.ok1 hck (by omega) (by omega) h.er ⟨hX2 2 (by omega), hX2 3 (by omega)⟩ (read_136 fb1)
end Go.Proofs.YtobegepebochkaaGreatDoor
