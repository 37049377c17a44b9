import Derived.Test.YtjkdflnnpdionaaGreatQj
import Derived.Test.YtjkdflnnpdionaaGreatNo
/-
  QueueRanges: where the walk stands.
-/
namespace Go.Proofs.YtjkdflnnpdionaaGreat
open Go.RowKit Go.Shelf
set_option linter.unusedVariables false

theorem own_baseR {w : World} {B : Nat} {e : TypeId} {s : Nat} {v : Value} {n : Nat} {xs : List Value} (h : w.ownsRow B e s v n xs) (k : Nat) (hk : v.ownBlock = some k) : B ≤ k := by
  rcases h.2 with ⟨rfl, _⟩ | ⟨g, cap, cur, rfl, hb, _⟩
  · simp [Value.ownBlock] at hk
  · simp [Value.ownBlock] at hk
    omega
structure Rg (w0 V : World) (P : Nat → Prop) (wb N : Nat) (D : Wd) (lsb : Nat) (L : List (TypeId × Nat × Array Value)) (rv : Value) (R : List Nat) : Prop where
  gr : w0.grownBy V none
  gt : GTf V P wb N D lsb
  pn : ∀ k, V.heap.size ≤ k → P k
  pw : ∀ k, P k → w0.heap.size ≤ k
  bx : ∀ t b vs, (t, b, vs) ∈ L → Box V t b vs ∧ ¬ P b ∧ w0.heap.size ≤ b
  row : V.ownsRow 0 26 1 rv R.length (uvs R)
  rp : ∀ k, rv.ownBlock = some k → ¬ P k ∧ w0.heap.size ≤ k
section
variable {w0 V V' : World} {P : Nat → Prop} {wb N : Nat} {D : Wd} {lsb : Nat} {L L' : List (TypeId × Nat × Array Value)} {rv : Value} {R : List Nat}
theorem Rg.grow (h : Rg w0 V P wb N D lsb L rv R) (hf : V.grownBy V' none) : Rg w0 V' (fun k => P k ∧ (k < V.heap.size ∨ V'.heap.size ≤ k)) wb N D lsb L rv R := by
  have hs := hf.size
  exact ⟨gb_trans h.gr hf, h.gt.keptK (G := fun _ => False) (Kp.of hf) (fun _ _ _ hh => hh) (fun k hk hp => ⟨hp, .inl hk⟩), fun k hk => ⟨h.pn k (Nat.le_trans hs hk), .inr hk⟩, fun k hk => h.pw k hk.1, fun t b vs hx => ⟨(h.bx t b vs hx).1.kept hf (by simp), fun hp => (h.bx t b vs hx).2.1 hp.1, (h.bx t b vs hx).2.2⟩, row_kept h.row hf (by simp), fun k hk => ⟨fun hp => (h.rp k hk).1 hp.1, (h.rp k hk).2⟩⟩
theorem Rg.sub (h : Rg w0 V P wb N D lsb L rv R) (hs : ∀ x, x ∈ L' → x ∈ L) : Rg w0 V P wb N D lsb L' rv R := ⟨h.gr, h.gt, h.pn, h.pw, fun t b vs hx => h.bx t b vs (hs _ hx), h.row, h.rp⟩
/-- A box more, of new memory. -/
theorem Rg.add (h : Rg w0 V P wb N D lsb L rv R) {t : TypeId} {vs : Array Value} (hf : V.grownBy V' none) {b : Nat} (hb : Box V' t b vs) (hn : V.heap.size ≤ b) : Rg w0 V' (fun k => P k ∧ (k < V.heap.size ∨ V'.heap.size ≤ k)) wb N D lsb ((t, b, vs) :: L) rv R := by
  have h1 := h.grow hf
  have hl := hb.lt
  have h0 := h.gr.size
  refine ⟨h1.gr, h1.gt, h1.pn, h1.pw, fun t' b' vs' hx => ?_, h1.row, h1.rp⟩
  rcases List.mem_cons.1 hx with e | hx
  · cases e
    exact ⟨hb, fun hp => by have := hp.2; omega, by omega⟩
  · exact h1.bx t' b' vs' hx
/-- A row of new memory. -/
theorem Rg.rows (h : Rg w0 V P wb N D lsb L rv R) (hf : V.grownBy V' none) {rv' : Value} {R' : List Nat} (hr : V'.ownsRow 0 26 1 rv' R'.length (uvs R')) (hn : ∀ k, rv'.ownBlock = some k → V.heap.size ≤ k) : Rg w0 V' (fun k => P k ∧ (k < V.heap.size ∨ V'.heap.size ≤ k)) wb N D lsb L rv' R' := by
  have h1 := h.grow hf
  have h0 := h.gr.size
  refine ⟨h1.gr, h1.gt, h1.pn, h1.pw, h1.bx, hr, fun k hk => ⟨fun hp => ?_, by have := hn k hk; omega⟩⟩
  have := hn k hk
  have := row_lt hr k hk
  have := hp.2
  omega
/-- A cell of a box is another one. -/
theorem Rg.set {t : TypeId} {b : Nat} {vs : Array Value} (h : Rg w0 V P wb N D lsb ((t, b, vs) :: L) rv R) (i : Nat) (u : Value) (hne : ∀ t' b' vs', (t', b', vs') ∈ L → b' ≠ b) (hnr : ∀ k, rv.ownBlock = some k → k ≠ b) : Rg w0 (V.setCell ⟨b, i, none⟩ u) P wb N D lsb ((t, b, vs.setIfInBounds i u) :: L) rv R := by
  obtain ⟨hb, hnP, hge⟩ := h.bx t b vs (by simp)
  have hg : V.grownBy (V.setCell ⟨b, i, none⟩ u) (some b) := gb_setCell (gb_refl _ _) _
  have hK : Kp (fun k => k = b) V (V.setCell ⟨b, i, none⟩ u) := (Kp.refl _ _).step hg (fun j hj => .inl (by simpa using hj.symm))
  refine ⟨gb_mine h.gr hg hge, h.gt.keptK hK (fun k _ hp e => hnP (e ▸ hp)) (fun k _ hp => hp), fun k hk => h.pn k (Nat.le_trans hg.size hk), h.pw, fun t' b' vs' hx => ?_, row_kept h.row hg (fun k hk e => hnr k hk (by simpa using e)), h.rp⟩
  rcases List.mem_cons.1 hx with e | hx
  · cases e
    exact ⟨hb.set i u, hnP, hge⟩
  · have h2 := h.bx t' b' vs' (List.mem_cons_of_mem _ hx)
    exact ⟨hK.box h2.1 (hne t' b' vs' hx), h2.2⟩
/-- An object that is no row of cells is another one. -/
theorem Rg.put (h : Rg w0 V P wb N D lsb L rv R) {l : Nat} {o o' : Obj} (hl : V.heap[l]? = some o) (ho : o.isCells = false) (hlw : w0.heap.size ≤ l) : ∃ D', Mr D D' ∧ Rg w0 (V.putObj l o') P wb N D' lsb L rv R := by
  have hg := grownBy_putObj' V l o'
  obtain ⟨D', hm, hT⟩ := h.gt.put (o' := o') hl ho
  have hne : ∀ t b vs, (t, b, vs) ∈ L → b ≠ l := fun t b vs hx e => by
    have h1 : V.heap[b]? = some (.cells vs t (0, 0)) := (h.bx t b vs hx).1
    rw [e, hl] at h1
    cases h1
    cases ho
  refine ⟨D', hm, gb_mine h.gr hg hlw, hT, fun k hk => h.pn k (Nat.le_trans hg.size hk), h.pw, fun t b vs hx => ⟨(h.bx t b vs hx).1.kept hg (by simpa using hne t b vs hx), (h.bx t b vs hx).2⟩, row_kept h.row hg (fun k hk e => ?_), h.rp⟩
  obtain ⟨cur, hc⟩ := row_block h.row k hk
  have e' : k = l := by simpa using e
  rw [e', hl] at hc
  cases hc
  cases ho
theorem Rg.lt (h : Rg w0 V P wb N D lsb L rv R) : ∀ k, FB D lsb k → k < V.heap.size := h.gt.lt
/-- visit. -/
theorem Rg.visit (h : Rg w0 V P wb N D lsb L rv R) (hN : N < 300) (dv av bv : Int) (ot lv : Bool) {H : Nat} (h64 : H < 18446744073709551616) {D0 : Wd} (hm0 : Mr D0 D) {n0 : Nat} (hF0 : ∀ k, FB D0 lsb k → k < n0) {G : Nat → Prop} (hG : ∀ k, FB D0 lsb k → G k) :
    Calls Tryz.prog 21 #[.pointer (some ⟨wb, 0, none⟩), .agg #[.int .i64 dv, .int .i64 av, .int .i64 bv, .bool ot, .bool lv], .int .u64 H] V fun y V' => y = .returned (.bool true) ∧ KeepsFrom n0 V V' ∧ KD G V V' ∧ V.heap.size ≤ V'.heap.size ∧ ∃ D', Mr D0 D' ∧ Rg w0 V' P wb N D' lsb L rv R ∧ ∀ t b vs, Box V t b vs → ¬ P b → Box V' t b vs := by
  obtain ⟨vs0, Y, S, cl, g1, g2⟩ := h.gt
  have hT : GTf V (fun k => P k ∧ (Cel V k ∨ V.heap.size ≤ k)) wb N (D.cel V) lsb := ⟨vs0, Y, S, cl, g1.cel, g2⟩
  have hfb : ∀ k, FB (D.cel V) lsb k → Cel V k := by
    rintro k (hk | hk | hk)
    · exact hk.2
    · subst hk; exact row_cel g1.ms.ms.qrow D.gl rfl
    · subst hk; exact g1.ms.rl.blk.cel
  have hm1 := hm0.trans (Mr.cel D V)
  refine (visit_21F hT (fun k hk => ⟨h.pn k hk, .inr hk⟩) hN dv av bv ot lv h64).mono ?_
  rintro y V' ⟨rfl, hK, hKF, D', hm, hT'⟩
  have hKP : Kp P V V' := hK.mono (fun k hk => .inl hk.1)
  refine ⟨rfl, ⟨hKF.size, fun k o hk ho hc => ?_⟩, ⟨hKF.size, fun k o hk ho hc => ?_, fun k hk => ?_⟩, hKF.size, D', hm1.trans hm, ⟨kp_grown h.gr (hKP.less h.pw), hT'.less (fun k _ hp => hp.1), fun k hk => h.pn k (Nat.le_trans hKF.size hk), h.pw, fun t b vs hx => ⟨hKP.box (h.bx t b vs hx).1 (h.bx t b vs hx).2.1, (h.bx t b vs hx).2⟩, row_same h.row (fun k hk => hKP.block k (row_lt h.row k hk) (h.rp k hk).1), h.rp⟩, fun t b vs hb hn => hKP.box hb hn⟩
  · rw [hKF.block k (Array.getElem?_eq_some_iff.1 ho).1 (fun hf => by have := hF0 k (hm1.fb hf); omega)]
    exact ho
  · rw [hKF.block k (Array.getElem?_eq_some_iff.1 ho).1 (fun hf => hk (hG k (hm1.fb hf)))]
    exact ho
  · rw [hKF.block k (Array.getElem?_eq_some_iff.1 hk).1 (fun hf => by
      obtain ⟨cs, t, fz, hc⟩ := hfb k hf
      rw [hk] at hc
      cases hc)]
    exact hk
/-- The list that a range tells. -/
theorem GTf.list (h : GTf V P wb N D lsb) (c kd : Int) : ∃ R : List Nat, R.length ≤ 900 ∧ 0 ∉ R ∧ (∀ x, x ∈ R → x < 18446744073709551616) ∧ (∀ W, V.grownBy W none → Calls Tryz.prog 20 #[.pointer (some ⟨D.lb, 0, none⟩), .int .i64 c, .int .i64 kd] W fun y w' => ∃ v, y = .returned v ∧ W.grownBy w' none ∧ w'.ownsRow W.heap.size 26 1 v R.length (uvs R)) ∧ ∀ W, V.grownBy W none → QLst W D.qb c kd R := by
  obtain ⟨vs, Y, S, cl, hW, hd⟩ := h
  refine ⟨SL S c kd, (hW.list hd c kd).1, (hW.list hd c kd).2.1, ?_, fun W hf => ((hW.kept0 hf).list hd c kd).2.2.rall, fun W hf => (hW.kept0 hf).qlst c kd⟩
  intro x hx
  obtain ⟨bs, p, n, s, hX⟩ := hW.gx
  have hlt := hX.lt (by have := hW.nN; omega)
  unfold SL at hx
  split at hx
  · exact hW.tb x (hW.sub x (hlt.sub _ _ x hx).1)
  · simp at hx
theorem GTf.gs (h : GTf V P wb N D lsb) {D0 : Wd} (hs : SameP D0 D) : GS V P wb N D0 := (h.gt.gs).more hs
end
/-- Marks of ranges that are over. -/
def Dfr (N : Nat) : List Deferred → World → Prop
  | [], _ => True
  | d :: ds, W => (∃ D, d = { target := .collected D, args := #[] } ∧ N ≤ D ∧ W.heap[D]? = some (.deferred (some [])) ∧ ∀ d' ∈ ds, ∀ D', d'.target = .collected D' → D' < D) ∧ Dfr N ds W
theorem Dfr.keeps {N : Nat} {W W' : World} (hk : ∀ k : Nat, W.heap[k]? = some (Obj.deferred (some [])) → W'.heap[k]? = some (Obj.deferred (some []))) : ∀ {ds : List Deferred}, Dfr N ds W → Dfr N ds W'
  | [], h => trivial
  | d :: ds, h => by
    obtain ⟨⟨D, h1, h2, h3, h4⟩, h5⟩ := h
    exact ⟨⟨D, h1, h2, hk D h3, h4⟩, Dfr.keeps hk h5⟩
theorem Dfr.lt {N : Nat} {W : World} : ∀ {ds : List Deferred}, Dfr N ds W → ∀ d ∈ ds, ∀ D, d.target = .collected D → D < W.heap.size
  | [], h, d, hd, D, hD => by simp at hd
  | d :: ds, h, d', hd, D', hD => by
    obtain ⟨⟨D, h1, h2, h3, h4⟩, h5⟩ := h
    rcases List.mem_cons.1 hd with rfl | hd
    · subst h1
      cases hD
      exact (Array.getElem?_eq_some_iff.1 h3).1
    · exact Dfr.lt h5 d' hd D' hD
theorem Dfr.put {N : Nat} {W : World} {D : Nat} {o : Obj} : ∀ {ds : List Deferred}, Dfr N ds W → (∀ d' ∈ ds, ∀ D', d'.target = .collected D' → D' ≠ D) → Dfr N ds (W.putObj D o)
  | [], h, hl => trivial
  | d :: ds, h, hl => by
    obtain ⟨⟨D1, h1, h2, h3, h4⟩, h5⟩ := h
    refine ⟨⟨D1, h1, h2, ?_, h4⟩, Dfr.put h5 (fun d' hd' => hl d' (List.mem_cons_of_mem _ hd'))⟩
    have hlt := hl d List.mem_cons_self D1 (by rw [h1])
    rw [(grownBy_putObj' W D o).block D1 (Array.getElem?_eq_some_iff.1 h3).1 (by simpa using hlt)]
    exact h3
theorem Dfr.grow {N : Nat} {W W' : World} (hf : W.grownBy W' none) {ds : List Deferred} (h : Dfr N ds W) : Dfr N ds W' :=
  h.keeps (fun k hk => by rw [hf.block k (Array.getElem?_eq_some_iff.1 hk).1 (by simp)]; exact hk)
theorem Dfr.cell {N : Nat} {W : World} {b i : Nat} {t : TypeId} {vs : Array Value} {u : Value} (hb : Box W t b vs) {ds : List Deferred} (h : Dfr N ds W) : Dfr N ds (W.setCell ⟨b, i, none⟩ u) :=
  h.keeps (fun k hk => by
    rw [(gb_setCell (gb_refl W (some b)) (i := i) u).block k (Array.getElem?_eq_some_iff.1 hk).1 (fun e => by
      have e' : k = b := by simpa using e
      have h1 : W.heap[b]? = some (.cells vs t (0, 0)) := hb
      rw [e', h1] at hk
      cases hk)]
    exact hk)
end Go.Proofs.YtjkdflnnpdionaaGreat
