import Derived.Test.YtjkdflnnpdionaaGreatNc
import Derived.Test.YtjkdflnnpdionaaGreatVj
import Derived.Test.YtjkdflnnpdionaaGreatYc
/-
  Pairs of calls, of the program and of the document: Push, Last, Drop, Shift.
-/
namespace Go.Proofs.YtjkdflnnpdionaaGreat
open Go.RowKit
set_option linter.unusedVariables false

section
variable {w : World} {rb : Nat} {F : Nat → Prop} {Q : Rl} {c d e : Int} {A : Ab} {R : Rb}
set_option maxRecDepth 100000 in
/-- At of a good handle. -/
theorem rat_goodp (h : IsR w rb F Q c d e R) (hR : RFit R) (hr : Rep A R) (hA : Fit2 A) {H p k : Nat} (hH : IsH A H p k) :
    Calls Tryz.prog 96 #[.pointer (some ⟨rb, 0, none⟩), .int .u64 H] w fun y w' => y = .returned (.tuple #[.int .i64 ((A.place p k : Nat) : Int), .int .i64 (A.own p : Nat), .int .i64 0]) ∧ w.grownBy w' none := by
  have hN := hR.N
  obtain ⟨i, a1, a2, a3, a4, a5, a6⟩ := hr.goodp hA hH
  have hf := (rfind_yes h hR a1 a2 a3 a6).mono (R' := fun y w1 => ∃ (cb cc : Nat), y = .returned (.int .i64 i) ∧ w.grownBy w1 none ∧ w1.cell? ⟨rb, 7, none⟩ = some (.slice (some ⟨cb, 0, none⟩) R.N cc) ∧ w1.cell? ⟨cb, i * 4, none⟩ = some (.int .i64 ((A.place p k : Nat) : Int)) ∧ w1.cell? ⟨cb, i * 4 + 1, none⟩ = some (.int .i64 (A.own p : Nat))) (by
    rintro y w1 ⟨rfl, hf⟩
    have h' := h.kept0 hf
    obtain ⟨cb, cc, hcv⟩ := h'.cshape (by omega)
    have c7 := h'.sc 7
    simp [rset, hcv] at c7
    have e0 := h'.ccell hcv a1 (j := 0) (by omega)
    have e1 := h'.ccell hcv a1 (j := 1) (by omega)
    simp [rckC] at e0 e1
    rw [a5] at e1
    rw [a4] at e0
    exact ⟨cb, cc, rfl, hf, c7, e0, e1⟩)
  generalize A.own p = op at *
  generalize A.place p k = pl at *
  generalize R.N = N at *
  have hiz : (i : Int) < (N : Int) := by omega
  have hi0 : ¬ (i : Int) < 0 := by omega
  clear h hR hr hA hH a2 a3 a4 a5 a6
  go_enter Tryz.func96, Tryz.ntmps96
  go_wp2_with (first | (go_at_call 79; go_must (refine hf.mono ?_); rintro y w1 ⟨cb, cc, rfl, hf1, c7, e0, e1⟩) | fail)
  go_quiet (fail)
  go_wp2
  go_ret3
  exact ⟨rfl, gb_trans hf1 (gb_drewN (gb_refl _ _) _)⟩
end

/-- What a call has turned. -/
structure Mv (D D' : Wd) (er : Int) : Prop where
  same : SameP D D'
  A : D'.A = D.A
  xl : D'.xl = D.xl
  xt : D'.xt = D.xt
  zk : Zk D.A D.xl D.zs D'.zs
  z0 : er ≠ 0 → D'.zs = D.zs
def GT (w : World) (P : Nat → Prop) (wb N : Nat) (D : Wd) : Prop := ∃ lsb vs Y S cl, GW w P wb N D lsb vs Y S cl ∧ Dm Y S
def GM (w : World) (P : Nat → Prop) (wb N : Nat) (D : Wd) (er : Int) : Prop := ∃ D', Mv D D' er ∧ GT w P wb N D'
/-- A call of the program and one of the document that answer the same. -/
def Pair (w : World) (P : Nat → Prop) (wb : Nat) (D : Wd) (f1 f2 : Nat) (a1 a2 : Array Value) (C : Int → World → Prop) : Prop :=
  ∃ (er : Int) (B1 : World → Prop), Calls Tryz.prog f1 a1 w (fun y w' => y = .returned (.int .i64 er) ∧ B1 w') ∧ ∀ w1 w2, B1 w1 → w1.grownBy w2 none → Kp P w w2 ∧ Cells w2 wb D ∧ Calls Tryz.prog f2 a2 w2 (fun y w' => y = .returned (.int .i64 er) ∧ C er w')
section
variable {w : World} {P : Nat → Prop} {wb N : Nat} {D : Wd} {lsb : Nat} {vs : Nat → Value} {Y : Nat → List Nat} {cl : Nat → Nat} {S : Lm} {bs : Nat → It} {p n s : Nat → Nat}
theorem GX.rn (h : GX D cl S bs p n s) : D.R.n = 3 := h.rep.n.trans h.n3
/-- At, whatever the document's lists have become. -/
theorem GX.at_ (hM : MS9 w P wb D lsb vs Y) (h : GX D cl S bs p n s) : ∃ pl : Nat → Int, ∀ (W : World) (H : Nat), Kp (fun k => k = lsb) w W → H ∈ D.xl → Calls Tryz.prog 96 #[.pointer (some ⟨D.rb, 0, none⟩), .int .u64 H] W fun y w' => y = .returned (.tuple #[.int .i64 (pl H), .int .i64 (cl H), .int .i64 0]) ∧ W.grownBy w' none := by
  have key : ∀ H, ∃ q : Int, H ∈ D.xl → ∀ W, Kp (fun k => k = lsb) w W → Calls Tryz.prog 96 #[.pointer (some ⟨D.rb, 0, none⟩), .int .u64 H] W fun y w' => y = .returned (.tuple #[.int .i64 q, .int .i64 (cl H), .int .i64 0]) ∧ W.grownBy w' none := fun H => by
    by_cases hH : H ∈ D.xl
    · obtain ⟨x, k, hX, _⟩ := h.its H hH
      refine ⟨((D.A.place x k : Nat) : Int), fun _ W hK => ?_⟩
      have hR := hM.ms.isr.kept hK (fun j hj e => (hM.ms.sep.inP (j := 2) hj).2 (.inl e))
      have := rat_goodp hR h.rf h.rep h.inv.fit hX
      rw [h.cls H hH x k hX] at this
      exact this
    · exact ⟨0, fun hh => absurd hh hH⟩
  exact ⟨fun H => (key H).choose, fun W H hK hH => (key H).choose_spec hH W hK⟩
/-- Is. -/
theorem GX.is_ (hM : MS9 w P wb D lsb vs Y) (h : GX D cl S bs p n s) (hl : D.xl.length ≤ 300) (H : Nat) : Calls Tryz.prog 27 #[.pointer (some ⟨D.lb, 0, none⟩), .int .u64 H] w fun y w' => y = .returned (.bool (decide (H ∈ D.xl))) ∧ w.grownBy w' none := by
  have hb := hM.ms.lbx
  rw [hM.lsv] at hb
  by_cases hx : ∃ x k, IsH D.A H x k
  · obtain ⟨x, k, hX⟩ := hx
    exact is_good hb hM.ms.lrow (by omega) hM.ms.isr h.rf h.rep h.inv.fit hX
  · have hn : H ∉ D.xl := fun hm => by
      obtain ⟨x, k, hX, _⟩ := h.its H hm
      exact hx ⟨x, k, hX⟩
    rw [decide_eq_false hn]
    exact is_bad hb hM.ms.isr h.rf h.rep h.inv.fit (fun x k hX => hx ⟨x, k, hX⟩)
/-- Behind the program's call. -/
def Hlf (w : World) (P : Nat → Prop) (wb : Nat) (D : Wd) (lsb : Nat) (vs : Nat → Value) (Y : Nat → List Nat) (cl : Nat → Nat) (S' : Lm) (w1 : World) : Prop := ∃ zs' L' bs' p' n' s', MS9 w1 P wb { D with zs := zs', L := L' } lsb vs Y ∧ GX { D with zs := zs', L := L' } cl S' bs' p' n' s' ∧ Kp P w w1 ∧ Zk D.A D.xl D.zs zs'
theorem Hlf.kept0 {w1 w2 : World} (h : Hlf w P wb D lsb vs Y cl S w1) (hf : w1.grownBy w2 none) : Hlf w P wb D lsb vs Y cl S w2 := by
  obtain ⟨zs', L', bs', p', n', s', m1, m2, m3, m4⟩ := h
  exact ⟨zs', L', bs', p', n', s', m1.kept0 hf, m2, m3.step hf (by simp), m4⟩
theorem Hlf.kp {w1 : World} (h : Hlf w P wb D lsb vs Y cl S w1) : Kp P w w1 := by
  obtain ⟨_, _, _, _, _, _, _, _, h, _⟩ := h
  exact h
theorem Hlf.refl (hW : GW w P wb N D lsb vs Y S cl) : Hlf w P wb D lsb vs Y cl S w := by
  obtain ⟨bs, p, n, s, hX⟩ := hW.gx
  exact ⟨D.zs, D.L, bs, p, n, s, hW.ms, hX, Kp.refl _ _, Zk.refl _ _ _⟩
theorem Hlf.of (hW : GW w P wb N D lsb vs Y S cl) (hX : GX D cl S bs p n s) {w1 : World} {S' : Lm} {bs' : Nat → It} (hQ : QL w1 D.sb D.qb D.gl D.gc D.F D.B 4 200 64 256 0 0 D.A D.zs D.xl bs' cl S') (hK : Kp (fun k => D.F k ∨ k = D.gl) w w1) : Hlf w P wb D lsb vs Y cl S' w1 := by
  obtain ⟨zs', L', p', n', s', m1, m2, m3, m4⟩ := hX.back hW.ms hQ hK
  exact ⟨zs', L', bs', p', n', s', m1, m2, m3, m4⟩
/-- The program's side alone. -/
theorem Hlf.gw (hW : GW w P wb N D lsb vs Y S cl) (hN : N < 300) {w1 : World} {S' : Lm} (hB : Hlf w P wb D lsb vs Y cl S' w1) : ∃ D', Mv D D' 0 ∧ GW w1 P wb (N + 1) D' lsb vs Y S' cl := by
  obtain ⟨zs', L', bs', p', n', s', m1, m2, m3, m4⟩ := hB
  have h1 := hW.nN
  exact ⟨{ D with zs := zs', L := L' }, ⟨same_refl D, rfl, rfl, rfl, m4, fun h => absurd rfl h⟩, m1, ⟨bs', p', n', s', m2⟩, ⟨by omega, by show D.xt.length ≤ _; omega, by show D.xl.length ≤ _; omega⟩, hW.sub, m4.len.trans hW.zl, hW.nd, hW.tb⟩
/-- What the document's call meets, and what is there behind it. -/
theorem Hlf.fin {w1 : World} {S' : Lm} (hW : GW w P wb N D lsb vs Y S cl) (hP : ∀ k, w.heap.size ≤ k → P k) (hN : N < 300) (hB : Hlf w P wb D lsb vs Y cl S' w1) :
    Cells w1 wb D ∧ (∃ pl : Nat → Int, ∀ (W : World) (H : Nat), Kp (fun k => k = lsb) w1 W → H ∈ D.xl → Calls Tryz.prog 96 #[.pointer (some ⟨D.rb, 0, none⟩), .int .u64 H] W fun y w' => y = .returned (.tuple #[.int .i64 (pl H), .int .i64 (cl H), .int .i64 0]) ∧ W.grownBy w' none) ∧ (∀ H : Nat, Calls Tryz.prog 27 #[.pointer (some ⟨D.lb, 0, none⟩), .int .u64 H] w1 fun y w' => y = .returned (.bool (decide (H ∈ D.xl))) ∧ w1.grownBy w' none) ∧ Lt D.xl S' ∧
    ∃ szb szc, DS w1 D.lb D.rb lsb D.lv vs Y szb szc ∧ ∀ w2 vs3 Y3, Kp (fun k => k = lsb) w1 w2 → DS w2 D.lb D.rb lsb D.lv vs3 Y3 szb szc → (∀ i, i < 9 → NewV w1.heap.size (vs i) (vs3 i)) → Dm Y3 S' → Kp P w w2 ∧ GM w2 P wb (N + 1) D 0 := by
  obtain ⟨zs', L', bs', p', n', s', m1, m2, m3, m4⟩ := hB
  have h1 := hW.nN
  have hl : D.xl.length ≤ 300 := by omega
  obtain ⟨szb, szc, hD⟩ := m1.ds m2.rf m2.rn
  have ha0 := m2.at_ m1
  have hi0 := fun H => m2.is_ m1 hl H
  have hl0 := m2.lt hl
  refine ⟨m1.cells, ha0, hi0, hl0, szb, szc, hD, fun w2 vs3 Y3 hK hD3 hv hdm => ?_⟩
  obtain ⟨g1, g2⟩ := m1.stepD (fun k hk => hP k (Nat.le_trans m3.size hk)) hK hD3 hv
  refine ⟨m3.trans g2 (fun _ h => h) (fun k hk => .inl hk), { D with zs := zs', L := L' }, ⟨same_refl D, rfl, rfl, rfl, m4, fun h => absurd rfl h⟩, lsb, vs3, Y3, S', cl, ⟨g1, ⟨bs', p', n', s', m2⟩, ⟨by omega, ?_, ?_⟩, hW.sub, m4.len.trans hW.zl, hW.nd, hW.tb⟩, hdm⟩
  · show D.xt.length ≤ _; omega
  · show D.xl.length ≤ _; omega
/-- Nothing is changed by the document's call. -/
theorem Hlf.still (hW : GW w P wb N D lsb vs Y S cl) (hd : Dm Y S) (hN : N < 300) (er : Int) {w2 : World} (hf : w.grownBy w2 none) : Kp P w w2 ∧ GM w2 P wb (N + 1) D er :=
  ⟨Kp.of hf, D, ⟨same_refl D, rfl, rfl, rfl, Zk.refl _ _ _, fun _ => rfl⟩, lsb, vs, Y, S, cl, (hW.kept0 hf).more (by omega) (by omega), hd⟩
theorem DS.lists {lb rb : Nat} {lv : Value} {szb szc : Nat} (h : DS w lb rb lsb lv vs Y szb szc) {w' : World} {vs' : Nat → Value} {Y' : Nat → List Nat} (hq : RQ w' lb rb lsb lv vs' Y' szb szc) : DS w' lb rb lsb lv vs' Y' szb szc := ⟨hq, h.nl⟩
theorem upV_new {vs : Nat → Value} {j N : Nat} {v : Value} (hn : ∀ k, v.ownBlock = some k → N ≤ k) : ∀ i, i < 9 → NewV N (vs i) (upV vs j v i) := fun i hi => by
  by_cases e : i = j
  · subst e
    exact .inr (by simpa [upV] using hn)
  · exact .inl (by simp [upV, e])
theorem GX.out (h : GX D cl S bs p n s) {H : Nat} (hH : H ∉ D.xl) : ∀ c k, H ∉ S c k := fun c k hm => hH (h.li.sub _ _ _ hm).1
theorem Dm.upd (hm : Dm Y S) {c k : Nat} {v : List Nat} (hc : c < 3) (hk : k < 3) : Dm (upY Y (3 * c + k) v) (upX S c k v) :=
  ⟨fun c2 k2 hc2 hk2 => by
    by_cases e : c2 = c ∧ k2 = k
    · obtain ⟨rfl, rfl⟩ := e
      rw [upY_same, upX_same]
    · rw [upY_ne _ _ (by omega), upX_ne _ _ e]
      exact hm.ys c2 k2 hc2 hk2⟩
/-- A pair that changes nothing. -/
theorem pair_still {f1 f2 : Nat} {a1 a2 : Array Value} (hW : GW w P wb N D lsb vs Y S cl) (hd : Dm Y S) (hN : N < 300) (er : Int) (h1 : Calls Tryz.prog f1 a1 w (fun y w' => y = .returned (.int .i64 er) ∧ w.grownBy w' none)) (h2 : ∀ W, w.grownBy W none → Calls Tryz.prog f2 a2 W (fun y w' => y = .returned (.int .i64 er) ∧ W.grownBy w' none)) : Pair w P wb D f1 f2 a1 a2 (fun er w' => Kp P w w' ∧ GM w' P wb (N + 1) D er) := by
  refine ⟨er, fun w1 => w.grownBy w1 none, h1, fun w1 w2 hB hf => ⟨Kp.of (gb_trans hB hf), (hW.ms.kept0 (gb_trans hB hf)).cells, (h2 w2 (gb_trans hB hf)).mono ?_⟩⟩
  rintro y w3 ⟨rfl, hf3⟩
  exact ⟨rfl, Hlf.still hW hd hN er (gb_trans (gb_trans hB hf) hf3)⟩
end
section
variable {w : World} {qb sb : Nat}
theorem may_arg {H : Nat} {k : Int} (hk : ¬ (1 ≤ k ∧ k ≤ 3)) (w : World) :
    Calls Tryz.prog 73 #[.pointer (some ⟨qb, 0, none⟩), .int .u64 H, .int .i64 k] w fun y w' => y = .returned (.int .i64 1) ∧ w.grownBy w' none := by
  have hin := fun W => isKind_no k hk W
  clear hk
  go_enter Tryz.func73, Tryz.ntmps73
  go_wp2_with (first | (go_at_call 76; go_must (refine (hin _).mono ?_); rintro y w' ⟨rfl, rfl⟩) | fail)
  go_ret
  exact ⟨rfl, gb_refl _ _⟩
theorem push_er {er : Int} (h0 : er = 1 ∨ er = 20 ∨ er = 8) {H : Nat} {k : Int} (hm : Calls Tryz.prog 73 #[.pointer (some ⟨qb, 0, none⟩), .int .u64 H, .int .i64 k] w fun y w' => y = .returned (.int .i64 er) ∧ w.grownBy w' none) :
    Calls Tryz.prog 23 #[.pointer (some ⟨qb, 0, none⟩), .int .u64 H, .int .i64 k] w fun y w' => y = .returned (.int .i64 er) ∧ w.grownBy w' none := by
  rcases h0 with rfl | rfl | rfl
  all_goals
    go_enter Tryz.func23, Tryz.ntmps23
    go_wp2_with (first | (go_at_call 73; go_must (refine hm.mono ?_); rintro y w1 ⟨rfl, hf1⟩) | fail)
    go_ret
    exact ⟨rfl, hf1⟩
theorem last_er {er : Int} (h0 : er = 1 ∨ er = 20 ∨ er = 8) {H : Nat} {k : Int} (hm : Calls Tryz.prog 73 #[.pointer (some ⟨qb, 0, none⟩), .int .u64 H, .int .i64 k] w fun y w' => y = .returned (.int .i64 er) ∧ w.grownBy w' none) :
    Calls Tryz.prog 24 #[.pointer (some ⟨qb, 0, none⟩), .int .u64 H, .int .i64 k] w fun y w' => y = .returned (.int .i64 er) ∧ w.grownBy w' none := by
  rcases h0 with rfl | rfl | rfl
  all_goals
    go_enter Tryz.func24, Tryz.ntmps24
    go_wp2_with (first | (go_at_call 73; go_must (refine hm.mono ?_); rintro y w1 ⟨rfl, hf1⟩) | fail)
    go_ret
    exact ⟨rfl, hf1⟩
end
section
variable {w : World} {P : Nat → Prop} {wb N : Nat} {D : Wd} {lsb : Nat} {vs : Nat → Value} {Y : Nat → List Nat} {cl : Nat → Nat} {S : Lm} {bs : Nat → It} {p n s : Nat → Nat}
/-- push. -/
theorem pair_push (hW : GW w P wb N D lsb vs Y S cl) (hd : Dm Y S) (hP : ∀ k, w.heap.size ≤ k → P k) (hN : N < 300) {H : Nat} (h64 : H < 18446744073709551616) (kd : Int) : Pair w P wb D 23 31 #[.pointer (some ⟨D.qb, 0, none⟩), .int .u64 H, .int .i64 kd] #[.pointer (some ⟨D.lb, 0, none⟩), .int .u64 H, .int .i64 kd, .bool false] (fun er w' => Kp P w w' ∧ GM w' P wb (N + 1) D er) := by
  obtain ⟨bs, p, n, s, hX⟩ := hW.gx
  have hM := hW.ms
  have hl : D.xl.length ≤ 300 := by have := hW.nN; omega
  have hlt := hX.lt hl
  have hqm := hX.qm hM
  have dq := fun (W : World) (hf : w.grownBy W none) => (Hlf.refl hW).kept0 hf |>.fin hW hP hN
  by_cases hkd : 1 ≤ kd ∧ kd ≤ 3
  · obtain ⟨k2, rfl⟩ : ∃ k2 : Nat, kd = (k2 : Int) + 1 := ⟨(kd - 1).toNat, by omega⟩
    have hk2 : k2 < 3 := by omega
    by_cases hH : H ∈ D.xl
    · rcases hX.cases hH with ⟨hs4, hno⟩ | ⟨k, U, V, hk, hsk, hXk⟩
      · have hc3 := hX.c3 hH
        refine ⟨0, Hlf w P wb D lsb vs Y cl (upX S (cl H) k2 (H :: S (cl H) k2)), ?_, fun w1 w2 hB hf => ?_⟩
        · refine (q_push (hX.lq hM hl) hH hk2 (fun k2 => hno _ _) (by have := hlt.ln (cl H) k2; omega)).mono ?_
          rintro y w1 ⟨rfl, hK, hQ⟩
          exact ⟨rfl, Hlf.of hW hX hQ hK⟩
        · obtain ⟨hce, ⟨pl, hAt⟩, hIs, hlt2, szb, szc, hD, hfin⟩ := (hB.kept0 hf).fin hW hP hN
          refine ⟨(hB.kept0 hf).kp, hce, ?_⟩
          have hI := hIs H
          rw [decide_eq_true hH] at hI
          have hpu := rpush_yes hD.rq hD.nl (H := H) (c := cl H) (k := k2) (pl := pl H) hc3 hk2 (hd.lens hlt (3 * cl H + k2) (by omega)) (hd.nowhere hno) hI (fun W hg => hAt W H (Kp.of hg) hH)
          refine hpu.mono ?_
          rintro y w3 ⟨rfl, hK3, v', hq, hv⟩
          rw [hd.ys _ _ hc3 hk2] at hq
          exact ⟨rfl, hfin w3 _ _ hK3 (hD.lists hq) (upV_new hv) (hd.upd hc3 hk2)⟩
      · refine pair_still hW hd hN 8 (push_er (.inr (.inr rfl)) (q_mayT hqm hH hk2 hk hsk)) (fun W hf => ?_)
        obtain ⟨hce, hAt, hIs, hlt2, szb, szc, hD, hfin⟩ := dq W hf
        have hI := hIs H
        rw [decide_eq_true hH] at hI
        exact rpush_twice hD.rq (k := k2) hk2 (hd.stands hlt (hX.c3 hH) hk hXk) hI
    · refine pair_still hW hd hN 20 (push_er (.inr (.inl rfl)) (q_mayN hqm hk2 (hX.noI h64 hH))) (fun W hf => ?_)
      obtain ⟨hce, hAt, hIs, hlt2, szb, szc, hD, hfin⟩ := dq W hf
      have hI := hIs H
      rw [decide_eq_false hH] at hI
      exact rpush_handle hk2 hI
  · refine pair_still hW hd hN 1 (push_er (.inl rfl) (may_arg hkd w)) (fun W hf => (rpush_arg hkd W).mono ?_)
    rintro y w3 ⟨rfl, rfl⟩
    exact ⟨rfl, gb_refl _ _⟩
/-- last. -/
theorem pair_last (hW : GW w P wb N D lsb vs Y S cl) (hd : Dm Y S) (hP : ∀ k, w.heap.size ≤ k → P k) (hN : N < 300) {H : Nat} (h64 : H < 18446744073709551616) (kd : Int) : Pair w P wb D 24 31 #[.pointer (some ⟨D.qb, 0, none⟩), .int .u64 H, .int .i64 kd] #[.pointer (some ⟨D.lb, 0, none⟩), .int .u64 H, .int .i64 kd, .bool true] (fun er w' => Kp P w w' ∧ GM w' P wb (N + 1) D er) := by
  obtain ⟨bs, p, n, s, hX⟩ := hW.gx
  have hM := hW.ms
  have hl : D.xl.length ≤ 300 := by have := hW.nN; omega
  have hlt := hX.lt hl
  have hqm := hX.qm hM
  have dq := fun (W : World) (hf : w.grownBy W none) => (Hlf.refl hW).kept0 hf |>.fin hW hP hN
  by_cases hkd : 1 ≤ kd ∧ kd ≤ 3
  · obtain ⟨k2, rfl⟩ : ∃ k2 : Nat, kd = (k2 : Int) + 1 := ⟨(kd - 1).toNat, by omega⟩
    have hk2 : k2 < 3 := by omega
    by_cases hH : H ∈ D.xl
    · rcases hX.cases hH with ⟨hs4, hno⟩ | ⟨k, U, V, hk, hsk, hXk⟩
      · have hc3 := hX.c3 hH
        refine ⟨0, Hlf w P wb D lsb vs Y cl (upX S (cl H) k2 (S (cl H) k2 ++ [H])), ?_, fun w1 w2 hB hf => ?_⟩
        · refine (q_last (hX.lq hM hl) hH hk2 (fun k2 => hno _ _) (by have := hlt.ln (cl H) k2; omega)).mono ?_
          rintro y w1 ⟨rfl, hK, hQ⟩
          exact ⟨rfl, Hlf.of hW hX hQ hK⟩
        · obtain ⟨hce, ⟨pl, hAt⟩, hIs, hlt2, szb, szc, hD, hfin⟩ := (hB.kept0 hf).fin hW hP hN
          refine ⟨(hB.kept0 hf).kp, hce, ?_⟩
          have hI := hIs H
          rw [decide_eq_true hH] at hI
          have hpu := rlast_yes hD.rq hD.nl (H := H) (c := cl H) (k := k2) (pl := pl H) hc3 hk2 (hd.lens hlt (3 * cl H + k2) (by omega)) (hd.nowhere hno) hI (fun W hg => hAt W H (Kp.of hg) hH)
          refine hpu.mono ?_
          rintro y w3 ⟨rfl, hK3, v', hq, hv⟩
          rw [hd.ys _ _ hc3 hk2] at hq
          exact ⟨rfl, hfin w3 _ _ hK3 (hD.lists hq) (upV_new hv) (hd.upd hc3 hk2)⟩
      · refine pair_still hW hd hN 8 (last_er (.inr (.inr rfl)) (q_mayT hqm hH hk2 hk hsk)) (fun W hf => ?_)
        obtain ⟨hce, hAt, hIs, hlt2, szb, szc, hD, hfin⟩ := dq W hf
        have hI := hIs H
        rw [decide_eq_true hH] at hI
        exact rpush_twice hD.rq (k := k2) hk2 (hd.stands hlt (hX.c3 hH) hk hXk) hI
    · refine pair_still hW hd hN 20 (last_er (.inr (.inl rfl)) (q_mayN hqm hk2 (hX.noI h64 hH))) (fun W hf => ?_)
      obtain ⟨hce, hAt, hIs, hlt2, szb, szc, hD, hfin⟩ := dq W hf
      have hI := hIs H
      rw [decide_eq_false hH] at hI
      exact rpush_handle hk2 hI
  · refine pair_still hW hd hN 1 (last_er (.inl rfl) (may_arg hkd w)) (fun W hf => (rpush_arg hkd W).mono ?_)
    rintro y w3 ⟨rfl, rfl⟩
    exact ⟨rfl, gb_refl _ _⟩
/-- drop. -/
theorem pair_drop (hW : GW w P wb N D lsb vs Y S cl) (hd : Dm Y S) (hP : ∀ k, w.heap.size ≤ k → P k) (hN : N < 300) {H : Nat} (h64 : H < 18446744073709551616) : Pair w P wb D 25 32 #[.pointer (some ⟨D.qb, 0, none⟩), .int .u64 H] #[.pointer (some ⟨D.lb, 0, none⟩), .int .u64 H] (fun er w' => Kp P w w' ∧ GM w' P wb (N + 1) D er) := by
  obtain ⟨bs, p, n, s, hX⟩ := hW.gx
  have hM := hW.ms
  have hl : D.xl.length ≤ 300 := by have := hW.nN; omega
  have hlt := hX.lt hl
  have hqm := hX.qm hM
  have dq := fun (W : World) (hf : w.grownBy W none) => (Hlf.refl hW).kept0 hf |>.fin hW hP hN
  have hno20 : ∀ st : Int, ¬ (1 ≤ st ∧ st ≤ 3) → (Calls Tryz.prog 77 #[.pointer (some ⟨D.qb, 0, none⟩), .int .u64 H] w fun y w' => y = .returned (.int .i64 st) ∧ w.grownBy w' none) → (∀ c k, H ∉ S c k) → Pair w P wb D 25 32 #[.pointer (some ⟨D.qb, 0, none⟩), .int .u64 H] #[.pointer (some ⟨D.lb, 0, none⟩), .int .u64 H] (fun er w' => Kp P w w' ∧ GM w' P wb (N + 1) D er) := fun st hst hc hno => by
    refine pair_still hW hd hN 20 (drop_none hst hc) (fun W hf => ?_)
    obtain ⟨hce, hAt, hIs, hlt2, szb, szc, hD, hfin⟩ := dq W hf
    refine (drop_no hD.rq hD.nl (hd.nowhere hno)).mono ?_
    rintro y w3 ⟨rfl, rfl⟩
    exact ⟨rfl, gb_refl _ _⟩
  by_cases hH : H ∈ D.xl
  · rcases hX.cases hH with ⟨hs4, hno⟩ | ⟨k, U, V, hk, hsk, hXk⟩
    · have hst := q_state hqm hH
      rw [hs4] at hst
      exact hno20 _ (by omega) hst hno
    · have hc3 := hX.c3 hH
      refine ⟨0, Hlf w P wb D lsb vs Y cl (upX S (cl H) k (U ++ V)), (q_drop (hX.lq hM hl) hXk).mono ?_, fun w1 w2 hB hf => ?_⟩
      · rintro y w1 ⟨rfl, hK, hQ⟩
        exact ⟨rfl, Hlf.of hW hX hQ hK⟩
      · obtain ⟨hce, ⟨pl, hAt⟩, hIs, hlt2, szb, szc, hD, hfin⟩ := (hB.kept0 hf).fin hW hP hN
        refine ⟨(hB.kept0 hf).kp, hce, (drop_yes hD.rq hD.nl (hd.stands hlt hc3 hk hXk)).mono ?_⟩
        rintro y w3 ⟨rfl, hK3, v', hq, hv⟩
        exact ⟨rfl, hfin w3 _ _ hK3 (hD.lists hq) (upV_new hv) (hd.upd hc3 hk)⟩
  · exact hno20 0 (by omega) (q_stateN hqm (hX.noI h64 hH)) (hX.out hH)
/-- Shift. -/
theorem pair_shift (hW : GW w P wb N D lsb vs Y S cl) (hd : Dm Y S) (hP : ∀ k, w.heap.size ≤ k → P k) (hN : N < 300) {H : Nat} (h64 : H < 18446744073709551616) (kd : Int) : Pair w P wb D 26 33 #[.pointer (some ⟨D.qb, 0, none⟩), .int .u64 H, .int .i64 kd] #[.pointer (some ⟨D.lb, 0, none⟩), .int .u64 H, .int .i64 kd] (fun er w' => Kp P w w' ∧ GM w' P wb (N + 1) D er) := by
  obtain ⟨bs, p, n, s, hX⟩ := hW.gx
  have hM := hW.ms
  have hl : D.xl.length ≤ 300 := by have := hW.nN; omega
  have hlt := hX.lt hl
  have hqm := hX.qm hM
  have dq := fun (W : World) (hf : w.grownBy W none) => (Hlf.refl hW).kept0 hf |>.fin hW hP hN
  by_cases hkd : 1 ≤ kd ∧ kd ≤ 3
  · obtain ⟨k2, rfl⟩ : ∃ k2 : Nat, kd = (k2 : Int) + 1 := ⟨(kd - 1).toNat, by omega⟩
    have hk2 : k2 < 3 := by omega
    have hno20 : ∀ st : Int, ¬ (1 ≤ st ∧ st ≤ 3) → (Calls Tryz.prog 77 #[.pointer (some ⟨D.qb, 0, none⟩), .int .u64 H] w fun y w' => y = .returned (.int .i64 st) ∧ w.grownBy w' none) → (∀ c k, H ∉ S c k) → Pair w P wb D 26 33 #[.pointer (some ⟨D.qb, 0, none⟩), .int .u64 H, .int .i64 ((k2 : Int) + 1)] #[.pointer (some ⟨D.lb, 0, none⟩), .int .u64 H, .int .i64 ((k2 : Int) + 1)] (fun er w' => Kp P w w' ∧ GM w' P wb (N + 1) D er) := fun st hst hc hno => by
      refine pair_still hW hd hN 20 (shift_none hk2 hst hc) (fun W hf => ?_)
      obtain ⟨hce, hAt, hIs, hlt2, szb, szc, hD, hfin⟩ := dq W hf
      refine (shift_no hD.rq hD.nl (hd.nowhere hno) hk2).mono ?_
      rintro y w3 ⟨rfl, rfl⟩
      exact ⟨rfl, gb_refl _ _⟩
    by_cases hH : H ∈ D.xl
    · rcases hX.cases hH with ⟨hs4, hno⟩ | ⟨k, U, V, hk, hsk, hXk⟩
      · have hst := q_state hqm hH
        rw [hs4] at hst
        exact hno20 _ (by omega) hst hno
      · have hc3 := hX.c3 hH
        refine ⟨0, Hlf w P wb D lsb vs Y cl (upX (upX S (cl H) k (U ++ V)) (cl H) k2 (H :: (upX S (cl H) k (U ++ V)) (cl H) k2)), (q_shift (hX.lq hM hl) hXk hk2 (by have := hlt.ln (cl H) k2; omega)).mono ?_, fun w1 w2 hB hf => ?_⟩
        · rintro y w1 ⟨rfl, hK, hQ⟩
          exact ⟨rfl, Hlf.of hW hX hQ hK⟩
        · obtain ⟨hce, ⟨pl, hAt⟩, hIs, hlt2, szb, szc, hD, hfin⟩ := (hB.kept0 hf).fin hW hP hN
          refine ⟨(hB.kept0 hf).kp, hce, (shift_yes hD.rq hD.nl (hd.stands hlt hc3 hk hXk) hc3 hk2 (hd.lens hlt) (fun W hK => hAt W H hK hH)).mono ?_⟩
          rintro y w3 ⟨rfl, hK3, vs', hq, hv⟩
          have hdm := (hd.upd (v := U ++ V) hc3 hk).upd (v := H :: upX S (cl H) k (U ++ V) (cl H) k2) hc3 hk2
          have he : upY Y (3 * cl H + k) (U ++ V) (3 * cl H + k2) = upX S (cl H) k (U ++ V) (cl H) k2 := (hd.upd (v := U ++ V) hc3 hk).ys (cl H) k2 hc3 hk2
          rw [he] at hq
          exact ⟨rfl, hfin w3 _ _ hK3 (hD.lists hq) hv hdm⟩
    · exact hno20 0 (by omega) (q_stateN hqm (hX.noI h64 hH)) (hX.out hH)
  · refine pair_still hW hd hN 1 (shift_argP hkd w) (fun W hf => (shift_arg hkd W).mono ?_)
    rintro y w3 ⟨rfl, rfl⟩
    exact ⟨rfl, gb_refl _ _⟩
end
end Go.Proofs.YtjkdflnnpdionaaGreat
