import Derived.Test.YtobegepebochkaaGreatDoorRCg
set_option linter.unusedVariables false
set_option linter.unusedSimpArgs false
set_option maxRecDepth 100000
set_option maxHeartbeats 16000000
namespace Go.Proofs.YtobegepebochkaaGreatDoor
open Go.RowKit
def RK (R FB : Nat -> Prop) (w0 w : World) : Prop := ∀ k, R k -> (∃ c, w.heap[k]? = some (.cells c 86 (0, 0))) /\ ¬ FB k /\ w.heap[k]? = w0.heap[k]?
theorem lt_of_cells {w : World} {k : Nat} {b : Obj} (h : w.heap[k]? = some b) : k < w.heap.size := (Array.getElem?_eq_some_iff.1 h).1
theorem RK.bof {R FB FB' : Nat -> Prop} {w0 w w' : World} (h : RK R FB w0 w) (hk : Kp FB w w') {e : TypeId} {s : Nat} {v : Value} {m : Nat} {ys : List Value} (hr : w.ownsRow 0 e s v m ys) (he : e ≠ 86) (hF : ∀ k, FB' k -> FB k \/ v.ownBlock = some k \/ w.heap.size <= k) : RK R FB' w0 w' := fun k hR => by
  obtain ⟨⟨c, h1⟩, h2, h3⟩ := h k hR
  have hl := lt_of_cells h1
  have e1 := hk.block k hl h2
  refine ⟨⟨c, by rw [e1]; exact h1⟩, fun hb => ?_, by rw [e1]; exact h3⟩
  rcases hF k hb with a | a | a
  . exact h2 a
  . obtain ⟨c2, q2⟩ := row_block hr k a
    exact ne_of_type q2 h1 he rfl
  . omega
theorem RK.kp {R FB F : Nat -> Prop} {w0 w w' : World} (h : RK R FB w0 w) (hk : Kp F w w') (hn : ∀ k c, w.heap[k]? = some (.cells c 86 (0, 0)) -> ¬ F k) : RK R FB w0 w' := fun k hR => by
  obtain ⟨⟨c, h1⟩, h2, h3⟩ := h k hR
  have e1 := hk.block k (lt_of_cells h1) (hn k c h1)
  exact ⟨⟨c, by rw [e1]; exact h1⟩, h2, by rw [e1]; exact h3⟩
def Bst (w : World) (bb : Nat) (FT : Nat -> Prop) (J : Nat) (R : Nat -> Prop) : Prop :=
  ∃ s0 FB Fs Ks V W N D, Bof s0 w bb FB /\ Kd w Fs 57 86 16 s0 (.slice none 0 0) Ks 0 V W N D /\ (∀ k, Fs k -> ¬ FB k) /\ Ks <= J /\ (∀ k, FB k -> FT k) /\ (∀ k, Fs k -> FT k) /\ (∀ k, FT k -> k < w.heap.size) /\ RK R FB w w
theorem Bst.same {w w' : World} {bb : Nat} {FT R : Nat -> Prop} {J : Nat} (h : Bst w bb FT J R) (hs : w.heap.size <= w'.heap.size) (hf : ∀ k, FT k -> w'.heap[k]? = w.heap[k]?) (hR : ∀ k, R k -> w'.heap[k]? = w.heap[k]?) : Bst w' bb FT J R := by
  obtain ⟨s0, FB, Fs, Ks, V, W, N, D, h1, h2, h3, h4, h5, h6, h7, h8⟩ := h
  exact ⟨s0, FB, Fs, Ks, V, W, N, D, h1.same hs (fun k hk => hf k (h5 k hk)), h2.same (fun k hk => hf k (h6 k hk)), h3, h4, h5, h6, fun k hk => Nat.lt_of_lt_of_le (h7 k hk) hs, fun k hk => ⟨by rw [hR k hk]; exact (h8 k hk).1, (h8 k hk).2.1, rfl⟩⟩
theorem Bst.lt {w : World} {bb : Nat} {FT R : Nat -> Prop} {J : Nat} (h : Bst w bb FT J R) : ∀ k, FT k -> k < w.heap.size := by
  obtain ⟨s0, FB, Fs, Ks, V, W, N, D, h1, h2, h3, h4, h5, h6, h7, h8⟩ := h
  exact h7
theorem Bst.rlt {w : World} {bb : Nat} {FT R : Nat -> Prop} {J : Nat} (h : Bst w bb FT J R) : ∀ k, R k -> k < w.heap.size := by
  obtain ⟨s0, FB, Fs, Ks, V, W, N, D, h1, h2, h3, h4, h5, h6, h7, h8⟩ := h
  exact fun k hk => lt_of_cells (h8 k hk).1.choose_spec
theorem Bst.kept {w w' : World} {bb : Nat} {FT F R : Nat -> Prop} {J : Nat} (h : Bst w bb FT J R) (hk : Kp F w w') (hd : ∀ k, FT k -> ¬ F k) (hr : ∀ k, R k -> ¬ F k) : Bst w' bb FT J R := h.same hk.size (fun k h1 => hk.block k (h.lt k h1) (hd k h1)) (fun k h1 => hk.block k (h.rlt k h1) (hr k h1))
theorem Bst.kept0 {w w' : World} {bb : Nat} {FT R : Nat -> Prop} {J : Nat} (h : Bst w bb FT J R) (hk : w.grownBy w' none) : Bst w' bb FT J R := h.kept (Kp.of (F := fun _ => False) hk) (fun _ _ h => h) (fun _ _ h => h)
theorem Bst.new {w : World} {bb : Nat} (hb : Box w 31 bb (bkA nilS nilS nilS nilS nilS nilS nilS nilS nilS nilS nilS 0)) : Bst w bb (fun k => k = bb) 0 (fun _ => False) :=
  ⟨nilS, fun k => k = bb, fun _ => False, 0, _, _, _, _, Bof.new hb, Kd.nil w 16 (by decide), fun _ h => h.elim, Nat.le_refl _, fun _ h => h, fun _ h => h.elim, fun k hk => by subst hk; exact hb.lt, fun _ h => h.elim⟩
def Kb2 (q : List Tld) (k : Nat) : Prop := ∃ x ∈ q, x.ck.ownBlock = some k \/ x.cd.ownBlock = some k
theorem tl_one {w : World} {B : Nat} {v : Value} {q : List Tld} (h : Sd w B v q) : ∀ u ∈ q.flatMap tldL, u.oneCell' = true := by
  intro u hu
  rw [List.mem_flatMap] at hu
  obtain ⟨x, hx, hu⟩ := hu
  obtain ⟨a1, c1, e1, _⟩ := row_shape (h.k x hx)
  obtain ⟨a2, c2, e2, _⟩ := row_shape (h.d x hx)
  obtain ⟨a3, c3, e3, _⟩ := row_shape (h.m x hx)
  obtain ⟨s, ck, cd, cm⟩ := x
  simp only at e1 e2 e3
  subst e1 e2 e3
  simp only [tldL, stpL, List.mem_cons, List.not_mem_nil, or_false] at hu
  rcases hu with rfl | rfl | rfl | rfl | rfl | rfl | rfl | rfl | rfl | rfl | rfl | rfl | rfl | rfl | rfl | rfl <;> rfl
structure Q29 (q : List Tld) (i : Nat) (FB : Nat -> Prop) (w : World) : Prop where
  k : ∀ x ∈ q.drop i, w.ownsRow 0 9 1 x.ck x.s.cmd.keys.length (x.s.cmd.keys.map sv)
  d : ∀ x ∈ q.drop i, w.ownsRow 0 5 1 x.cd x.s.data.length (x.s.data.map b8)
  nk : ∀ x ∈ q.drop i, ∀ g, x.ck.ownBlock = some g -> ¬ FB g
  nd : ∀ x ∈ q.drop i, ∀ g, x.cd.ownBlock = some g -> ¬ FB g
theorem Q29.kp {q : List Tld} {i : Nat} {FB FB' : Nat -> Prop} {w w' : World} (h : Q29 q i FB w) (hk : Kp FB w w') (hn : ∀ k, k < w.heap.size -> FB' k -> ¬ FB k -> (∀ x ∈ q.drop i, x.ck.ownBlock ≠ some k /\ x.cd.ownBlock ≠ some k)) : Q29 q i FB' w' :=
  ⟨fun x hx => row_same (h.k x hx) (fun k h1 => hk.block k (row_ge (h.k x hx) h1).2 (h.nk x hx k h1)), fun x hx => row_same (h.d x hx) (fun k h1 => hk.block k (row_ge (h.d x hx) h1).2 (h.nd x hx k h1)),
   fun x hx g hg hb => (hn g (row_ge (h.k x hx) hg).2 hb (h.nk x hx g hg) x hx).1 hg, fun x hx g hg hb => (hn g (row_ge (h.d x hx) hg).2 hb (h.nd x hx g hg) x hx).2 hg⟩
theorem drop_cons {q : List Tld} {i : Nat} (h : i < q.length) : ∃ x, q[i]? = some x /\ q.drop i = x :: q.drop (i + 1) := ⟨q[i], List.getElem?_eq_getElem h, List.drop_eq_getElem_cons h⟩
theorem steps_29 {w : World} {bb : Nat} {FT R : Nat -> Prop} {J : Nat} (h : Bst w bb FT J R) (hJ : J < 100000) {B : Nat} {va : Option Addr} {vc : Nat} {q : List Tld} (hs : Sd w B (.slice va q.length vc) q) (hp : Pw q) (hql : q.length <= 1000000) (hb : ∀ x ∈ q, x.s.cmd.keys.length <= 1000000 /\ x.s.data.length <= 1000000)
    (hvF : ∀ g, (Value.slice va q.length vc).ownBlock = some g -> ¬ FT g) (hxF : ∀ k, Kb2 q k -> ¬ FT k) :
    Calls Tryz.prog 29 #[.pointer (some ⟨bb, 0, none⟩), .slice va q.length vc] w fun y w' => y = .returned (.tuple #[]) /\ Kp (fun k => FT k \/ Kb2 q k) w w' /\ (∀ k, R k -> w'.heap[k]? = w.heap[k]?) /\ ∃ FT', Bst w' bb FT' (J + 1) R /\ ∀ k, FT' k -> FT k \/ (Value.slice va q.length vc).ownBlock = some k \/ Kb2 q k \/ w.heap.size <= k := by
  have hh := h
  obtain ⟨s0, FB, Fs, Ks, V, W, N, D, hB, hd, hdis, hKs, g1, g2, g3, hRK⟩ := h
  obtain ⟨b0, b1, t0, t1, n, Fb, Ft, Kb, Kt, Vb, Wb, Nb, Db, Vt, Wt, Nt, Dt, hbx, k1, k2, l1, l2, m1, m2, hn, f1, f2, f3, f4⟩ := hB
  have h63 := full_65 hbx
  by_cases hf : 200000 < n
  . rw [decide_eq_true hf] at h63
    have hpost : Kp (fun k => FT k \/ Kb2 q k) w w /\ (∀ k, R k -> w.heap[k]? = w.heap[k]?) /\ ∃ FT', Bst w bb FT' (J + 1) R /\ ∀ k, FT' k -> FT k \/ (Value.slice va q.length vc).ownBlock = some k \/ Kb2 q k \/ w.heap.size <= k := by
      obtain ⟨s0, FB, Fs, Ks, V, W, N, D, hB, hd, hdis, hKs, g1, g2, g3, hRK⟩ := hh
      exact ⟨Kp.refl _ _, fun _ _ => rfl, FT, ⟨s0, FB, Fs, Ks, V, W, N, D, hB, hd, hdis, by omega, g1, g2, g3, hRK⟩, fun k hk => .inl hk⟩
    have HP : Hid _ := hpost
    clear hpost hh k1 k2 hd hs hRK
    go_enter Tryz.func29, Tryz.ntmps29
    go_wp2_with (first | (go_at_call 65; go_must (refine h63.mono ?_); rintro y w1 ⟨rfl, hw1⟩; have hw2 := hw1.symm; subst hw2) | fail)
    exact bodyPost_ret (v := .tuple #[]) (results_none Tryz.results29 _ _ _) rfl ⟨rfl, HP.out.1, fun _ _ => rfl, HP.out.2.2⟩
  . rw [decide_eq_false hf] at h63
    obtain ⟨tO, TO⟩ := ty_29
    obtain ⟨m, hm⟩ : ∃ m, q.length = m := ⟨_, rfl⟩
    obtain ⟨hao, hcp, hdh, _, _, _, _⟩ := row_shape hd.hr
    subst hdh
    have c26 : w.cell? ⟨bb, 26, none⟩ = some (.int .i64 n) := hbx.cell 26
    have f26 := hbx.fz 26
    have hwn : IntKind.i64.wrap (n + m) = n + m := by rw [IntKind.wrap_i64]; omega
    have hwn2 : IntKind.i64.wrap (n + m + 1) = n + m + 1 := by rw [IntKind.wrap_i64]; omega
    have hbF : ¬ Fs bb := hd.not hbx (by decide) (by decide)
    have hv0 := row_base hs.row (Nat.zero_le B)
    rw [hm] at hv0 hvF hql ⊢
    have hg1 : w.grownBy (w.setCell ⟨bb, 26, none⟩ (.int .i64 (n + m + 1))) (some bb) := gb_setCell (gb_refl _ _) _
    have hb1 : Box (w.setCell ⟨bb, 26, none⟩ (.int .i64 (n + m + 1))) 31 bb (bkA b0 b1 nilS nilS t0 t1 nilS nilS (.slice hao Ks hcp) nilS nilS (n + m + 1)) := hbx.set 26 _
    have hd1 := hd.kept hg1 (fun k hk e => hbF (by have := Option.some.inj e; subst this; exact hk))
    have hv1 := row_kept hv0 hg1 (fun k hk e => by obtain ⟨c, hc⟩ := row_block hv0 k hk; exact ne_of_type hc hbx (by decide) (Option.some.inj e))
    have hr1 := hd1.hr
    have c12 : (w.setCell ⟨bb, 26, none⟩ (.int .i64 (n + m + 1))).cell? ⟨bb, 22, none⟩ = some (.slice hao Ks hcp) := hb1.cell 22
    have hfh := hd.fh
    have HS : Hid (Sd w B (.slice va q.length vc) q) := hs
    have HH : Hid (Pw q /\ (∀ x ∈ q, x.s.cmd.keys.length <= 1000000 /\ x.s.data.length <= 1000000) /\ ∀ k, Kb2 q k -> ¬ FT k) := ⟨hp, hb, hxF⟩
    have HD : Hid _ := hd
    have HRK : Hid (RK R FB w w) := hRK
    have HK1 : Hid _ := And.intro k1 k2
    have HLL : Hid _ := And.intro l1 l2
    have hoc := tl_one hs
    have hvl : ∀ g, (Value.slice va m vc).ownBlock = some g -> g < w.heap.size := fun g hg => (row_ge hv0 hg).2
    clear hd hs hp hb hxF k1 k2 l1 l2 hh hRK
    go_enter Tryz.func29, Tryz.ntmps29
    go_wp2_with (first | (go_at_call 65; go_must (refine h63.mono ?_); rintro y w1 ⟨rfl, hw1⟩; have hw2 := hw1.symm; subst hw2) | (at_builtin; go_must (refine pushB TO rfl _ _ rfl 0 _ Ks _ (by rfl) hr1 [.slice va m vc] rfl (by simp [Value.oneCell']) (by rw [show (w.setCell ⟨bb, 26, none⟩ (.int .i64 (n + m + 1))).heap.size = w.heap.size by simp]; rfl) (by omega) (Nat.zero_le _) ?_)) | fail)
    intro g2' cap2 w2 hrow2 hgb2 hat2
    have hd2 := hd1.pushV hv1 (fun g hg hk => hvF g hg (g2 g hk)) hql hoc hrow2 hgb2 (fun g hg => by simp [Value.ownBlock] at hg; subst hg; exact hat2.imp id (fun e => by simpa using e))
    have hb2 := hb1.kept hgb2 (fun e => hbF (hfh _ e.symm))
    have f12 := hb2.fz 22
    have k12 : w2.cell? ⟨bb, 22, none⟩ = some (.slice hao Ks hcp) := hb2.cell 22
    have hg3 : w2.grownBy (w2.setCell ⟨bb, 22, none⟩ (.slice (some ⟨g2', 0, none⟩) (Ks + 1) cap2)) (some bb) := gb_setCell (gb_refl _ _) _
    have hb3 : Box (w2.setCell ⟨bb, 22, none⟩ (.slice (some ⟨g2', 0, none⟩) (Ks + 1) cap2)) 31 bb (bkA b0 b1 nilS nilS t0 t1 nilS nilS (.slice (some ⟨g2', 0, none⟩) (Ks + 1) cap2) nilS nilS (n + m + 1)) := hb2.set 22 _
    have hd3 := hd2.kept hg3 (fun k hk e => hd2.not hb2 (by decide) (by decide) (by have := Option.some.inj e; subst this; exact hk))
    have hK3 : Kp (fun k => k = bb \/ Fs k) w (w2.setCell ⟨bb, 22, none⟩ (.slice (some ⟨g2', 0, none⟩) (Ks + 1) cap2)) := (((Kp.refl _ w).step hg1 (fun j hj => by injection hj with hj; subst hj; exact .inl (.inl rfl))).step hgb2 (fun j hj => .inl (.inr (hfh j hj)))).step hg3 (fun j hj => by injection hj with hj; subst hj; exact .inl (.inl rfl))
    have hKh : Kp (fun k => k = bb \/ (Value.slice hao Ks hcp).ownBlock = some k) w (w2.setCell ⟨bb, 22, none⟩ (.slice (some ⟨g2', 0, none⟩) (Ks + 1) cap2)) := (((Kp.refl _ w).step hg1 (fun j hj => by injection hj with hj; subst hj; exact .inl (.inl rfl))).step hgb2 (fun j hj => .inl (.inr hj))).step hg3 (fun j hj => by injection hj with hj; subst hj; exact .inl (.inl rfl))
    have HR3 : Hid (RK R FB w (w2.setCell ⟨bb, 22, none⟩ (.slice (some ⟨g2', 0, none⟩) (Ks + 1) cap2))) := HRK.out.kp hKh (fun k c hc => by
      rintro (rfl | e)
      . exact ne_of_type hc hbx (by decide) rfl
      . obtain ⟨c2, q2⟩ := row_block (Kd.hr HD.out) k e
        exact ne_of_type hc q2 (by decide) rfl)
    clear hKh HRK
    have k13 := HK1.out.1.other HD.out hbx hK3 (by decide) (by decide) (by decide) (by decide) (by decide) (by decide)
    have k23 := HK1.out.2.other HD.out hbx hK3 (by decide) (by decide) (by decide) (by decide) (by decide) (by decide)
    have hs3 := hK3.size
    have hF3 : ∀ k, ((Fs k /\ (Value.slice hao Ks hcp).ownBlock ≠ some k) \/ (Value.slice va m vc).ownBlock = some k \/ (Value.slice (some ⟨g2', 0, none⟩) (Ks + 1) cap2).ownBlock = some k) -> Fs k \/ (Value.slice va m vc).ownBlock = some k \/ w.heap.size <= k := by
      rintro k (⟨hk, _⟩ | hk | hk)
      . exact .inl hk
      . exact .inr (.inl hk)
      . simp [Value.ownBlock] at hk
        subst hk
        rcases hat2 with e | e
        . exact .inl (hfh _ e)
        . exact .inr (.inr e)
    have hBF : Bof (.slice (some ⟨g2', 0, none⟩) (Ks + 1) cap2) (w2.setCell ⟨bb, 22, none⟩ (.slice (some ⟨g2', 0, none⟩) (Ks + 1) cap2)) bb FB :=
      ⟨b0, b1, t0, t1, n + m + 1, Fb, Ft, Kb, Kt, Vb, Wb, Nb, Db, Vt, Wt, Nt, Dt, hb3, k13, k23, HLL.out.1, HLL.out.2, ⟨by omega, m1.2⟩, ⟨by omega, m2.2⟩, by omega, f1, f2, f3, fun k hk => Nat.lt_of_lt_of_le (f4 k hk) hs3⟩
    have hv3 := hd3.vs Ks (by omega)
    rw [upd_same, upd_same, upd_same] at hv3
    have keep3 : ∀ k, k < w.heap.size -> ¬ (k = bb \/ Fs k) -> (w2.setCell ⟨bb, 22, none⟩ (.slice (some ⟨g2', 0, none⟩) (Ks + 1) cap2)).heap[k]? = w.heap[k]? := fun k h1 h2 => hK3.block k h1 h2
    generalize hFF : (fun k => (Fs k /\ (Value.slice hao Ks hcp).ownBlock ≠ some k) \/ (Value.slice va m vc).ownBlock = some k \/ (Value.slice (some ⟨g2', 0, none⟩) (Ks + 1) cap2).ownBlock = some k) = F3 at hd3
    have hF4 : ∀ k, F3 k -> Fs k \/ (Value.slice va m vc).ownBlock = some k \/ w.heap.size <= k := fun k hk => hF3 k (by rw [<- hFF] at hk; exact hk)
    have HBF : Hid _ := hBF
    have HD3 : Hid _ := hd3
    have HK3 : Hid (Kp (fun k => k = bb \/ Fs k) w (w2.setCell ⟨bb, 22, none⟩ (.slice (some ⟨g2', 0, none⟩) (Ks + 1) cap2))) := hK3
    clear hrow2 hgb2 hat2 hb2 hb1 hr1 hg1 hg3 c12 c26 f26 h63 hd2 hd1 hv1 hF3 hFF hb3 hBF hd3 hK3 k13 k23 keep3
    go_wp2
    clear f12 k12
    obtain ⟨X, hX⟩ : ∃ X, X = w2.setCell ⟨bb, 22, none⟩ (.slice (some ⟨g2', 0, none⟩) (Ks + 1) cap2) := ⟨_, rfl⟩
    rw [<- hX] at HBF HD3 HK3 HR3 hv3 hs3
    obtain ⟨S', hS'⟩ : ∃ S', S' = Value.slice (some ⟨g2', 0, none⟩) (Ks + 1) cap2 := ⟨_, rfl⟩
    rw [<- hS'] at HBF HD3
    have hdis3 : ∀ k, F3 k -> ¬ FB k := fun k hk hb => by
      rcases hF4 k hk with e | e | e
      . exact hdis k e hb
      . exact hvF k e (g1 k hb)
      . have := f4 k hb; omega
    have HQ : Hid (Q29 q 0 FB X) := by
      have hnn : ∀ {e : TypeId} {s : Nat} {v : Value} {m : Nat} {ys : List Value}, w.ownsRow 0 e s v m ys -> e ≠ 31 -> e ≠ 57 -> e ≠ 86 -> X.ownsRow 0 e s v m ys := fun hr e1 e2 e3 => row_same hr (fun k hk => HK3.out.block k (row_ge hr hk).2 (by
        obtain ⟨c, hc⟩ := row_block hr k hk
        rintro (rfl | hF)
        . exact ne_of_type hc hbx e1 rfl
        . obtain ⟨c2, h2 | h2⟩ := Kd.ft HD.out k hF
          . exact ne_of_type hc h2 e2 rfl
          . exact ne_of_type hc h2 e3 rfl))
      exact ⟨fun x hx => hnn (HS.out.k x (List.mem_of_mem_drop hx)) (by decide) (by decide) (by decide), fun x hx => hnn (HS.out.d x (List.mem_of_mem_drop hx)) (by decide) (by decide) (by decide), fun x hx g hg hb => HH.out.2.2 g ⟨x, List.mem_of_mem_drop hx, .inl hg⟩ (g1 g hb), fun x hx g hg hb => HH.out.2.2 g ⟨x, List.mem_of_mem_drop hx, .inr hg⟩ (g1 g hb)⟩
    have HKT : Hid (Kp (fun k => FT k \/ Kb2 q k) w X) := HK3.out.mono (fun i hi => .inl (.inl (by rcases hi with rfl | hi; exact g1 _ f1; exact g2 i hi)))
    have hU : ∀ k, FB k -> FB k \/ Kb2 q k \/ w.heap.size <= k := fun k hk => .inl hk
    obtain ⟨V3, hV3⟩ : ∃ V3, V3 = upd V Ks (.slice va m vc) := ⟨_, rfl⟩
    obtain ⟨N3, hN3⟩ : ∃ N3, N3 = upd N Ks m := ⟨_, rfl⟩
    obtain ⟨D3, hD3⟩ : ∃ D3, D3 = upd D Ks (q.flatMap tldL) := ⟨_, rfl⟩
    rw [<- hV3, <- hN3, <- hD3] at HD3
    have eV : V3 Ks = .slice va m vc := by rw [hV3, upd_same]
    have eN : N3 Ks = m := by rw [hN3, upd_same]
    have eD : D3 Ks = q.flatMap tldL := by rw [hD3, upd_same]
    have HE : Hid (V3 Ks = .slice va m vc /\ N3 Ks = m /\ D3 Ks = q.flatMap tldL) := ⟨eV, eN, eD⟩
    have HM : Hid (q.length = m) := hm
    clear hV3 hN3 hD3 eV eN eD hS' HK3 HK1 HLL HD HS hv3 hm hv0 hoc
    rw [<- hX]
    clear hX
    go_loopw [4] (fun v wq => ∃ (i : Nat) (FBr : Nat -> Prop), i <= m /\ v = .int .i64 i /\ Bof S' wq bb FBr /\ Kd wq F3 57 86 16 S' (.slice none 0 0) (Ks + 1) 0 V3 W N3 D3 /\ (∀ k, F3 k -> ¬ FBr k) /\ Q29 q i FBr wq /\ RK R FBr w wq /\ Kp (fun k => FT k \/ Kb2 q k) w wq /\ ∀ k, FBr k -> FB k \/ Kb2 q k \/ w.heap.size <= k) (fun v _ => m - (intOf v).toNat)
    case atStart => exact ⟨0, FB, by omega, rfl, HBF.out, HD3.out, hdis3, HQ.out, HR3.out, HKT.out, hU⟩
    case round =>
      obtain ⟨i, FBr, hi, rfl, hB, hd, hds, hQ, hR, hkp, hU2⟩ := hrel
      clear HBF HD3 hdis3 HQ HKT hU HR3
      have HRr : Hid (RK R FBr w wr) := hR
      clear hR
      by_cases hlt : i < m
      . obtain ⟨x, hx, hdr⟩ := drop_cons (q := q) (i := i) (by rw [HM.out]; exact hlt)
        have hxm : x ∈ q.drop i := by rw [hdr]; simp
        have hxq : x ∈ q := List.mem_of_mem_drop hxm
        have hrv := hd.vs Ks (by omega)
        rw [HE.out.1, HE.out.2.1, HE.out.2.2] at hrv
        obtain ⟨_, _, e0, _, _, _, hpos⟩ := row_shape hrv
        injection e0 with e1 e2 e3
        subst e1
        clear e2 e3
        obtain ⟨gv, hgv⟩ := hpos (by omega)
        subst hgv
        obtain ⟨ka, kc, ek, _⟩ := row_shape (hQ.k x hxm)
        obtain ⟨da, dc, ed, _⟩ := row_shape (hQ.d x hxm)
        have cD : wr.cell? ⟨gv, i * 16 + 6, none⟩ = some (.slice da x.s.data.length dc) := by rw [<- ed]; exact row_cell hrv _ _ (by rw [tl_get q i x 6 hx (by omega)]; rfl)
        have cK : wr.cell? ⟨gv, i * 16 + 1, none⟩ = some (.slice ka x.s.cmd.keys.length kc) := by rw [<- ek]; exact row_cell hrv _ _ (by rw [tl_get q i x 1 hx (by omega)]; rfl)
        have HCK : Hid (wr.cell? ⟨gv, i * 16 + 1, none⟩ = some (.slice ka x.s.cmd.keys.length kc)) := cK
        have hrd := hQ.d x hxm
        have hrk := hQ.k x hxm
        have hnd := hQ.nd x hxm
        have hnk := hQ.nk x hxm
        rw [ed] at hrd hnd
        rw [ek] at hrk hnk
        have hbb := HH.out.2.1 x hxq
        have h20 := bof_bytes hB hrd hbb.2 hnd
        have hPx : ∀ y ∈ q.drop (i + 1), Dj x.ck y.ck /\ Dj x.cd y.cd := fun y hy => by
          have hp := List.Pairwise.sublist (List.drop_sublist i q) HH.out.1
          rw [hdr] at hp
          have := (List.pairwise_cons.1 hp).1 y hy
          exact ⟨this.1, this.2.1⟩
        rw [ek, ed] at hPx
        have hib : (i : Int) < (m : Int) := by omega
        have HA : Hid _ := And.intro hB (And.intro hd (And.intro hds (And.intro hQ (And.intro hkp (And.intro hU2 (And.intro hPx (And.intro hrk hnk)))))))
        have hmem : ∀ y, y ∈ q.drop (i + 1) -> y ∈ q.drop i := fun y hy => by rw [hdr]; exact List.mem_cons_of_mem _ hy
        have HX2 : Hid (x.ck = .slice ka x.s.cmd.keys.length kc /\ x.cd = .slice da x.s.data.length dc /\ x ∈ q /\ (∀ y, y ∈ q.drop (i + 1) -> y ∈ q.drop i) /\ x ∈ q.drop i) := ⟨ek, ed, hxq, hmem, hxm⟩
        clear hB hd hds hQ hkp hU2 hPx hrk hnk hnd hdr hx hxm hxq ek ed hmem
        generalize x.s.data.length = dl at *
        simp only [BfPost] at h20
        go_wp2_with fail
        refine h20.mono ?_
        rintro y w3 ⟨rfl, hk3, FB', hB3, hF3'⟩
        clear h20 cD cK
        obtain ⟨hB, hd, hds, hQ, hkp, hU2, hPx, hrk, hnk⟩ := HA.out
        obtain ⟨ek, ed, hxq, hmem, hxm⟩ := HX2.out
        clear HA
        have hd3 := hd.same (fun k hk => hk3.block k (hd.fl k hk) (hds k hk))
        have tF3 : ∀ {e : TypeId} {s : Nat} {v : Value} {m : Nat} {ys : List Value} {W' : World}, wr.ownsRow 0 e s v m ys -> e ≠ 57 -> e ≠ 86 -> ∀ k, v.ownBlock = some k -> ¬ F3 k := fun hr e2 e3 k hk hF => by
          obtain ⟨c, hc⟩ := row_block hr k hk
          exact hd.not hc e2 e3 hF
        have hds3 : ∀ k, F3 k -> ¬ FB' k := fun k hk hb => by
          rcases hF3' k hb with e | e | e
          . exact hds k hk e
          . exact tF3 (W' := wr) hrd (by decide) (by decide) k e hk
          . have := hd.fl k hk; omega
        have h59 : ∀ {v u : Value} {a b : Nat} {xs ys : List Value}, wr.ownsRow 0 9 1 v a xs -> wr.ownsRow 0 5 1 u b ys -> ∀ k, v.ownBlock = some k -> u.ownBlock ≠ some k := fun h1 h2 k e1 e2 => by
          obtain ⟨c1, q1⟩ := row_block h1 k e1
          obtain ⟨c2, q2⟩ := row_block h2 k e2
          exact ne_of_type q1 q2 (by decide) rfl
        have hQ1 : Q29 q (i + 1) FBr wr := ⟨fun y hy => hQ.k y (hmem y hy), fun y hy => hQ.d y (hmem y hy), fun y hy => hQ.nk y (hmem y hy), fun y hy => hQ.nd y (hmem y hy)⟩
        have hQ3 : Q29 q (i + 1) FB' w3 := hQ1.kp hk3 (fun k hl hF hnF y hy => by
          rcases hF3' k hF with e | e | e
          . exact absurd e hnF
          . exact ⟨fun e2 => h59 (hQ1.k y hy) hrd k e2 e, fun e2 => (hPx y hy).2 k e e2⟩
          . omega)
        have hrk3 := row_same hrk (fun k hk => hk3.block k (row_ge hrk hk).2 (hnk k hk))
        have hnk3 : ∀ g, (Value.slice ka x.s.cmd.keys.length kc).ownBlock = some g -> ¬ FB' g := fun g hg hb => by
          rcases hF3' g hb with e | e | e
          . exact hnk g hg e
          . exact h59 hrk hrd g hg e
          . have := (row_ge hrk hg).2; omega
        have hrv3 := hd3.vs Ks (by omega)
        rw [HE.out.1, HE.out.2.1, HE.out.2.2] at hrv3
        have cK : w3.cell? ⟨gv, i * 16 + 1, none⟩ = some (.slice ka x.s.cmd.keys.length kc) := by
          have e9 := hk3.block gv (row_ge hrv (j := gv) rfl).2 (hds gv (hd.fv Ks gv (by omega) (by rw [HE.out.1]; rfl)))
          have := HCK.out
          rw [World.cell?, e9]
          exact this
        have HRs : Hid (RK R FB' w w3) := HRr.out.bof hk3 hrd (by decide) hF3'
        clear HRr
        have HB3s : w.heap.size <= w3.heap.size := Nat.le_trans hkp.size hk3.size
        have h19 := bof_texts hB3 hrk3 hbb.1 hnk3
        simp only [BfPost] at h19
        have hkp3 : Kp (fun k => FT k \/ Kb2 q k) w w3 := hkp.trans hk3 (fun _ h => h) (fun k hk => by
          rcases hU2 k hk with e | e | e
          . exact .inl (.inl (g1 k e))
          . exact .inl (.inr e)
          . exact .inr e)
        have hU3 : ∀ k, FB' k -> FB k \/ Kb2 q k \/ w.heap.size <= k := fun k hk => by
          rcases hF3' k hk with e | e | e
          . exact hU2 k e
          . exact .inr (.inl ⟨x, hxq, .inr (by rw [ed]; exact e)⟩)
          . exact .inr (.inr (by have := hkp.size; omega))
        have HA : Hid _ := And.intro hd3 (And.intro hds3 (And.intro hQ3 (And.intro hrk3 (And.intro hPx (And.intro hU3 HB3s)))))
        have HKP : Hid _ := hkp3
        clear hB hd hds hQ hkp hrk hnk hd3 hds3 hQ3 hQ1 hrk3 hnk3 hrv3 hB3 hk3 hkp3 tF3 h59 hPx hF3' hU2 hU3 HB3s hrd
        generalize x.s.cmd.keys.length = kl at *
        go_wp2_with fail
        refine h19.mono ?_
        rintro y w4 ⟨rfl, hk4, FB2, hB4, hF4'⟩
        clear h19 cK
        obtain ⟨hd3, hds3, hQ3, hrk3, hPx, hU3, hs3'⟩ := HA.out
        obtain ⟨ek, ed, hxq, hmem, hxm⟩ := HX2.out
        clear HA
        have hd4 := hd3.same (fun k hk => hk4.block k (hd3.fl k hk) (hds3 k hk))
        have hds4 : ∀ k, F3 k -> ¬ FB2 k := fun k hk hb => by
          rcases hF4' k hb with e | e | e
          . exact hds3 k hk e
          . obtain ⟨c, hc⟩ := row_block hrk3 k e
            exact hd3.not hc (by decide) (by decide) hk
          . have := hd3.fl k hk; omega
        have hQ4 : Q29 q (i + 1) FB2 w4 := hQ3.kp hk4 (fun k hl hF hnF y hy => by
          rcases hF4' k hF with e | e | e
          . exact absurd e hnF
          . refine ⟨fun e2 => (hPx y hy).1 k e e2, fun e2 => ?_⟩
            obtain ⟨c1, q1⟩ := row_block hrk3 k e
            obtain ⟨c2, q2⟩ := row_block (hQ3.d y hy) k e2
            exact ne_of_type q1 q2 (by decide) rfl
          . omega)
        have hkp4 : Kp (fun k => FT k \/ Kb2 q k) w w4 := Kp.trans HKP.out hk4 (fun _ h => h) (fun k hk => by
          rcases hU3 k hk with e | e | e
          . exact .inl (.inl (g1 k e))
          . exact .inl (.inr e)
          . exact .inr e)
        have hU4 : ∀ k, FB2 k -> FB k \/ Kb2 q k \/ w.heap.size <= k := fun k hk => by
          rcases hF4' k hk with e | e | e
          . exact hU3 k e
          . exact .inr (.inl ⟨x, hxq, .inl (by rw [ek]; exact e)⟩)
          . exact .inr (.inr (by omega))
        have HR4 : Hid (RK R FB2 w w4) := HRs.out.bof hk4 hrk3 (by decide) hF4'
        clear HRs
        have HP : Hid _ := And.intro hB4 (And.intro hd4 (And.intro hds4 (And.intro hQ4 (And.intro hkp4 hU4))))
        clear hd3 hds3 hQ3 hrk3 hPx hU3 hB4 hd4 hds4 hQ4 hkp4 hU4 hk4 hF4' HKP
        go_wp2
        obtain ⟨p1, p2, p3, p4, p5, p6⟩ := HP.out
        go_roundw
        case rel => exact ⟨i + 1, FB2, by omega, by go_num, p1, p2, p3, p4, HR4.out, p5, p6⟩
        case measure => simp [intOf]; omega
      . obtain rfl : i = m := by omega
        have HP : Hid (Kp (fun k => FT k \/ Kb2 q k) w wr /\ (∀ k, R k -> wr.heap[k]? = w.heap[k]?) /\ ∃ FT', Bst wr bb FT' (J + 1) R /\ ∀ k, FT' k -> FT k \/ (Value.slice va i vc).ownBlock = some k \/ Kb2 q k \/ w.heap.size <= k) := by
          refine ⟨hkp, fun k hk => (HRr.out k hk).2.2, fun k => FBr k \/ F3 k, ⟨S', FBr, F3, Ks + 1, V3, W, N3, D3, hB, hd, hds, by omega, fun k h => .inl h, fun k h => .inr h, ?_, fun k hk => ⟨(HRr.out k hk).1, (HRr.out k hk).2.1, rfl⟩⟩, ?_⟩
          . rintro k (h | h)
            . exact hB.lt k h
            . exact hd.fl k h
          . rintro k (h | h)
            . rcases hU2 k h with e | e | e
              . exact .inl (g1 k e)
              . exact .inr (.inr (.inl e))
              . exact .inr (.inr (.inr e))
            . rcases hF4 k h with e | e | e
              . exact .inl (g2 k e)
              . exact .inr (.inl e)
              . exact .inr (.inr (.inr e))
        clear hB hd hds hQ hkp hU2
        go_wp2
        go_end0
        exact ⟨rfl, HP.out⟩
end Go.Proofs.YtobegepebochkaaGreatDoor
