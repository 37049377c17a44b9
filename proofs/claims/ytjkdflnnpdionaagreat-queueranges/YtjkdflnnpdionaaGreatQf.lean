import Derived.Test.YtjkdflnnpdionaaGreatMz
/-
  Pairs of calls with a fine frame: Push, Last, Drop, Shift turn but the arena, the lists' ends and the document's nine lists.
-/
namespace Go.Proofs.YtjkdflnnpdionaaGreat
open Go.RowKit
set_option linter.unusedVariables false

/-- What such a call may turn. -/
def FB (D : Wd) (lsb : Nat) (k : Nat) : Prop := D.F k ∨ k = D.gl ∨ k = lsb
def GTf (w : World) (P : Nat → Prop) (wb N : Nat) (D : Wd) (lsb : Nat) : Prop := ∃ vs Y S cl, GW w P wb N D lsb vs Y S cl ∧ Dm Y S
def GMf (w : World) (P : Nat → Prop) (wb N : Nat) (D : Wd) (lsb : Nat) (er : Int) : Prop := ∃ D', Mv D D' er ∧ D'.F = D.F ∧ D'.gl = D.gl ∧ GTf w P wb N D' lsb
section
variable {w : World} {P P' : Nat → Prop} {wb N : Nat} {D : Wd} {lsb : Nat} {vs : Nat → Value} {Y : Nat → List Nat} {cl : Nat → Nat} {S : Lm} {bs : Nat → It} {p n s : Nat → Nat}
theorem GTf.gt (h : GTf w P wb N D lsb) : GT w P wb N D := by
  obtain ⟨vs, Y, S, cl, h1, h2⟩ := h
  exact ⟨lsb, vs, Y, S, cl, h1, h2⟩
theorem GTf.kept0 {w' : World} (h : GTf w P wb N D lsb) (hf : w.grownBy w' none) : GTf w' P wb N D lsb := by
  obtain ⟨vs, Y, S, cl, h1, h2⟩ := h
  exact ⟨vs, Y, S, cl, h1.kept0 hf, h2⟩
theorem GTf.less (h : GTf w P wb N D lsb) (hs : ∀ k, k < w.heap.size → P k → P' k) : GTf w P' wb N D lsb := by
  obtain ⟨vs, Y, S, cl, h1, h2⟩ := h
  exact ⟨vs, Y, S, cl, h1.less hs, h2⟩
theorem GTf.cells (h : GTf w P wb N D lsb) : Cells w wb D := h.gt.cells
theorem GTf.hlt (h : GTf w P wb N D lsb) : wb < w.heap.size := h.gt.hlt
theorem GTf.handle (h : GTf w P wb N D lsb) (o : Opv) (hh : o.h < 18446744073709551616) : ∃ H : Nat, H < 18446744073709551616 ∧
    Calls Tryz.prog 30 #[.pointer (some ⟨wb, 0, none⟩), .agg o.cs] w fun y w' => y = .returned (.int .u64 H) ∧ w.grownBy w' none := h.gt.handle o hh
theorem GMf.cells {er : Int} (h : GMf w P wb N D lsb er) : Cells w wb D := by
  obtain ⟨D', hm, _, _, hT⟩ := h
  exact cells_of hm.same hT.cells
theorem GMf.less {er : Int} (h : GMf w P wb N D lsb er) (hs : ∀ k, k < w.heap.size → P k → P' k) : GMf w P' wb N D lsb er := by
  obtain ⟨D', h1, h2, h3, h4⟩ := h
  exact ⟨D', h1, h2, h3, h4.less hs⟩
/-- Behind the program's call, with its frame. -/
def HlfF (w : World) (P : Nat → Prop) (wb : Nat) (D : Wd) (lsb : Nat) (vs : Nat → Value) (Y : Nat → List Nat) (cl : Nat → Nat) (S' : Lm) (w1 : World) : Prop := Hlf w P wb D lsb vs Y cl S' w1 ∧ Kp (fun k => D.F k ∨ k = D.gl) w w1
theorem HlfF.kept0 {w1 w2 : World} (h : HlfF w P wb D lsb vs Y cl S w1) (hf : w1.grownBy w2 none) : HlfF w P wb D lsb vs Y cl S w2 := ⟨h.1.kept0 hf, h.2.step hf (by simp)⟩
theorem HlfF.refl (hW : GW w P wb N D lsb vs Y S cl) : HlfF w P wb D lsb vs Y cl S w := ⟨Hlf.refl hW, Kp.refl _ _⟩
theorem HlfF.of (hW : GW w P wb N D lsb vs Y S cl) (hX : GX D cl S bs p n s) {w1 : World} {S' : Lm} {bs' : Nat → It} (hQ : QL w1 D.sb D.qb D.gl D.gc D.F D.B 4 200 64 256 0 0 D.A D.zs D.xl bs' cl S') (hK : Kp (fun k => D.F k ∨ k = D.gl) w w1) : HlfF w P wb D lsb vs Y cl S' w1 := ⟨Hlf.of hW hX hQ hK, hK⟩
/-- What the document's call meets, and what is there behind it. -/
theorem HlfF.fin {w1 : World} {S' : Lm} (hW : GW w P wb N D lsb vs Y S cl) (hP : ∀ k, w.heap.size ≤ k → P k) (hN : N < 300) (hBB : HlfF w P wb D lsb vs Y cl S' w1) :
    Cells w1 wb D ∧ (∃ pl : Nat → Int, ∀ (W : World) (H : Nat), Kp (fun k => k = lsb) w1 W → H ∈ D.xl → Calls Tryz.prog 96 #[.pointer (some ⟨D.rb, 0, none⟩), .int .u64 H] W fun y w' => y = .returned (.tuple #[.int .i64 (pl H), .int .i64 (cl H), .int .i64 0]) ∧ W.grownBy w' none) ∧ (∀ H : Nat, Calls Tryz.prog 27 #[.pointer (some ⟨D.lb, 0, none⟩), .int .u64 H] w1 fun y w' => y = .returned (.bool (decide (H ∈ D.xl))) ∧ w1.grownBy w' none) ∧ Lt D.xl S' ∧
    ∃ szb szc, DS w1 D.lb D.rb lsb D.lv vs Y szb szc ∧ ∀ w2 vs3 Y3, Kp (fun k => k = lsb) w1 w2 → DS w2 D.lb D.rb lsb D.lv vs3 Y3 szb szc → (∀ i, i < 9 → NewV w1.heap.size (vs i) (vs3 i)) → Dm Y3 S' → Kp P w w2 ∧ Kp (FB D lsb) w w2 ∧ GMf w2 P wb (N + 1) D lsb 0 := by
  obtain ⟨hB, hKF⟩ := hBB
  obtain ⟨zs', L', bs', p', n', s', m1, m2, m3, m4⟩ := hB
  have h1 := hW.nN
  have hl : D.xl.length ≤ 300 := by omega
  obtain ⟨szb, szc, hD⟩ := m1.ds m2.rf m2.rn
  have ha0 := m2.at_ m1
  have hi0 := fun H => m2.is_ m1 hl H
  have hl0 := m2.lt hl
  refine ⟨m1.cells, ha0, hi0, hl0, szb, szc, hD, fun w2 vs3 Y3 hK hD3 hv hdm => ?_⟩
  obtain ⟨g1, g2⟩ := m1.stepD (fun k hk => hP k (Nat.le_trans m3.size hk)) hK hD3 hv
  refine ⟨m3.trans g2 (fun _ h => h) (fun k hk => .inl hk), hKF.trans hK (fun k hk => hk.elim .inl (fun h => .inr (.inl h))) (fun k hk => .inl (.inr (.inr hk))), { D with zs := zs', L := L' }, ⟨same_refl D, rfl, rfl, rfl, m4, fun h => absurd rfl h⟩, rfl, rfl, vs3, Y3, S', cl, ⟨g1, ⟨bs', p', n', s', m2⟩, ⟨by omega, ?_, ?_⟩, hW.sub, m4.len.trans hW.zl, hW.nd, hW.tb⟩, hdm⟩
  · show D.xt.length ≤ _; omega
  · show D.xl.length ≤ _; omega
theorem HlfF.still (hW : GW w P wb N D lsb vs Y S cl) (hd : Dm Y S) (hN : N < 300) (er : Int) {w2 : World} (hf : w.grownBy w2 none) : Kp P w w2 ∧ Kp (FB D lsb) w w2 ∧ GMf w2 P wb (N + 1) D lsb er :=
  ⟨Kp.of hf, Kp.of hf, D, ⟨same_refl D, rfl, rfl, rfl, Zk.refl _ _ _, fun _ => rfl⟩, rfl, rfl, vs, Y, S, cl, (hW.kept0 hf).more (by omega) (by omega), hd⟩
theorem pair_stillF {f1 f2 : Nat} {a1 a2 : Array Value} (hW : GW w P wb N D lsb vs Y S cl) (hd : Dm Y S) (hN : N < 300) (er : Int) (h1 : Calls Tryz.prog f1 a1 w (fun y w' => y = .returned (.int .i64 er) ∧ w.grownBy w' none)) (h2 : ∀ W, w.grownBy W none → Calls Tryz.prog f2 a2 W (fun y w' => y = .returned (.int .i64 er) ∧ W.grownBy w' none)) : Pair w P wb D f1 f2 a1 a2 (fun er w' => Kp P w w' ∧ Kp (FB D lsb) w w' ∧ GMf w' P wb (N + 1) D lsb er) := by
  refine ⟨er, fun w1 => w.grownBy w1 none, h1, fun w1 w2 hB hf => ⟨Kp.of (gb_trans hB hf), (hW.ms.kept0 (gb_trans hB hf)).cells, (h2 w2 (gb_trans hB hf)).mono ?_⟩⟩
  rintro y w3 ⟨rfl, hf3⟩
  exact ⟨rfl, HlfF.still hW hd hN er (gb_trans (gb_trans hB hf) hf3)⟩
theorem pair_pushF (hW : GW w P wb N D lsb vs Y S cl) (hd : Dm Y S) (hP : ∀ k, w.heap.size ≤ k → P k) (hN : N < 300) {H : Nat} (h64 : H < 18446744073709551616) (kd : Int) : Pair w P wb D 23 31 #[.pointer (some ⟨D.qb, 0, none⟩), .int .u64 H, .int .i64 kd] #[.pointer (some ⟨D.lb, 0, none⟩), .int .u64 H, .int .i64 kd, .bool false] (fun er w' => Kp P w w' ∧ Kp (FB D lsb) w w' ∧ GMf w' P wb (N + 1) D lsb er) := by
  obtain ⟨bs, p, n, s, hX⟩ := hW.gx
  have hM := hW.ms
  have hl : D.xl.length ≤ 300 := by have := hW.nN; omega
  have hlt := hX.lt hl
  have hqm := hX.qm hM
  have dq := fun (W : World) (hf : w.grownBy W none) => (HlfF.refl hW).kept0 hf |>.fin hW hP hN
  by_cases hkd : 1 ≤ kd ∧ kd ≤ 3
  · obtain ⟨k2, rfl⟩ : ∃ k2 : Nat, kd = (k2 : Int) + 1 := ⟨(kd - 1).toNat, by omega⟩
    have hk2 : k2 < 3 := by omega
    by_cases hH : H ∈ D.xl
    · rcases hX.cases hH with ⟨hs4, hno⟩ | ⟨k, U, V, hk, hsk, hXk⟩
      · have hc3 := hX.c3 hH
        refine ⟨0, HlfF w P wb D lsb vs Y cl (upX S (cl H) k2 (H :: S (cl H) k2)), ?_, fun w1 w2 hB hf => ?_⟩
        · refine (q_push (hX.lq hM hl) hH hk2 (fun k2 => hno _ _) (by have := hlt.ln (cl H) k2; omega)).mono ?_
          rintro y w1 ⟨rfl, hK, hQ⟩
          exact ⟨rfl, HlfF.of hW hX hQ hK⟩
        · obtain ⟨hce, ⟨pl, hAt⟩, hIs, hlt2, szb, szc, hD, hfin⟩ := (hB.kept0 hf).fin hW hP hN
          refine ⟨(hB.kept0 hf).1.kp, hce, ?_⟩
          have hI := hIs H
          rw [decide_eq_true hH] at hI
          have hpu := rpush_yes hD.rq hD.nl (H := H) (c := cl H) (k := k2) (pl := pl H) hc3 hk2 (hd.lens hlt (3 * cl H + k2) (by omega)) (hd.nowhere hno) hI (fun W hg => hAt W H (Kp.of hg) hH)
          refine hpu.mono ?_
          rintro y w3 ⟨rfl, hK3, v', hq, hv⟩
          rw [hd.ys _ _ hc3 hk2] at hq
          exact ⟨rfl, hfin w3 _ _ hK3 (hD.lists hq) (upV_new hv) (hd.upd hc3 hk2)⟩
      · refine pair_stillF hW hd hN 8 (push_er (.inr (.inr rfl)) (q_mayT hqm hH hk2 hk hsk)) (fun W hf => ?_)
        obtain ⟨hce, hAt, hIs, hlt2, szb, szc, hD, hfin⟩ := dq W hf
        have hI := hIs H
        rw [decide_eq_true hH] at hI
        exact rpush_twice hD.rq (k := k2) hk2 (hd.stands hlt (hX.c3 hH) hk hXk) hI
    · refine pair_stillF hW hd hN 20 (push_er (.inr (.inl rfl)) (q_mayN hqm hk2 (hX.noI h64 hH))) (fun W hf => ?_)
      obtain ⟨hce, hAt, hIs, hlt2, szb, szc, hD, hfin⟩ := dq W hf
      have hI := hIs H
      rw [decide_eq_false hH] at hI
      exact rpush_handle hk2 hI
  · refine pair_stillF hW hd hN 1 (push_er (.inl rfl) (may_arg hkd w)) (fun W hf => (rpush_arg hkd W).mono ?_)
    rintro y w3 ⟨rfl, rfl⟩
    exact ⟨rfl, gb_refl _ _⟩
theorem pair_lastF (hW : GW w P wb N D lsb vs Y S cl) (hd : Dm Y S) (hP : ∀ k, w.heap.size ≤ k → P k) (hN : N < 300) {H : Nat} (h64 : H < 18446744073709551616) (kd : Int) : Pair w P wb D 24 31 #[.pointer (some ⟨D.qb, 0, none⟩), .int .u64 H, .int .i64 kd] #[.pointer (some ⟨D.lb, 0, none⟩), .int .u64 H, .int .i64 kd, .bool true] (fun er w' => Kp P w w' ∧ Kp (FB D lsb) w w' ∧ GMf w' P wb (N + 1) D lsb er) := by
  obtain ⟨bs, p, n, s, hX⟩ := hW.gx
  have hM := hW.ms
  have hl : D.xl.length ≤ 300 := by have := hW.nN; omega
  have hlt := hX.lt hl
  have hqm := hX.qm hM
  have dq := fun (W : World) (hf : w.grownBy W none) => (HlfF.refl hW).kept0 hf |>.fin hW hP hN
  by_cases hkd : 1 ≤ kd ∧ kd ≤ 3
  · obtain ⟨k2, rfl⟩ : ∃ k2 : Nat, kd = (k2 : Int) + 1 := ⟨(kd - 1).toNat, by omega⟩
    have hk2 : k2 < 3 := by omega
    by_cases hH : H ∈ D.xl
    · rcases hX.cases hH with ⟨hs4, hno⟩ | ⟨k, U, V, hk, hsk, hXk⟩
      · have hc3 := hX.c3 hH
        refine ⟨0, HlfF w P wb D lsb vs Y cl (upX S (cl H) k2 (S (cl H) k2 ++ [H])), ?_, fun w1 w2 hB hf => ?_⟩
        · refine (q_last (hX.lq hM hl) hH hk2 (fun k2 => hno _ _) (by have := hlt.ln (cl H) k2; omega)).mono ?_
          rintro y w1 ⟨rfl, hK, hQ⟩
          exact ⟨rfl, HlfF.of hW hX hQ hK⟩
        · obtain ⟨hce, ⟨pl, hAt⟩, hIs, hlt2, szb, szc, hD, hfin⟩ := (hB.kept0 hf).fin hW hP hN
          refine ⟨(hB.kept0 hf).1.kp, hce, ?_⟩
          have hI := hIs H
          rw [decide_eq_true hH] at hI
          have hpu := rlast_yes hD.rq hD.nl (H := H) (c := cl H) (k := k2) (pl := pl H) hc3 hk2 (hd.lens hlt (3 * cl H + k2) (by omega)) (hd.nowhere hno) hI (fun W hg => hAt W H (Kp.of hg) hH)
          refine hpu.mono ?_
          rintro y w3 ⟨rfl, hK3, v', hq, hv⟩
          rw [hd.ys _ _ hc3 hk2] at hq
          exact ⟨rfl, hfin w3 _ _ hK3 (hD.lists hq) (upV_new hv) (hd.upd hc3 hk2)⟩
      · refine pair_stillF hW hd hN 8 (last_er (.inr (.inr rfl)) (q_mayT hqm hH hk2 hk hsk)) (fun W hf => ?_)
        obtain ⟨hce, hAt, hIs, hlt2, szb, szc, hD, hfin⟩ := dq W hf
        have hI := hIs H
        rw [decide_eq_true hH] at hI
        exact rpush_twice hD.rq (k := k2) hk2 (hd.stands hlt (hX.c3 hH) hk hXk) hI
    · refine pair_stillF hW hd hN 20 (last_er (.inr (.inl rfl)) (q_mayN hqm hk2 (hX.noI h64 hH))) (fun W hf => ?_)
      obtain ⟨hce, hAt, hIs, hlt2, szb, szc, hD, hfin⟩ := dq W hf
      have hI := hIs H
      rw [decide_eq_false hH] at hI
      exact rpush_handle hk2 hI
  · refine pair_stillF hW hd hN 1 (last_er (.inl rfl) (may_arg hkd w)) (fun W hf => (rpush_arg hkd W).mono ?_)
    rintro y w3 ⟨rfl, rfl⟩
    exact ⟨rfl, gb_refl _ _⟩
theorem pair_dropF (hW : GW w P wb N D lsb vs Y S cl) (hd : Dm Y S) (hP : ∀ k, w.heap.size ≤ k → P k) (hN : N < 300) {H : Nat} (h64 : H < 18446744073709551616) : Pair w P wb D 25 32 #[.pointer (some ⟨D.qb, 0, none⟩), .int .u64 H] #[.pointer (some ⟨D.lb, 0, none⟩), .int .u64 H] (fun er w' => Kp P w w' ∧ Kp (FB D lsb) w w' ∧ GMf w' P wb (N + 1) D lsb er) := by
  obtain ⟨bs, p, n, s, hX⟩ := hW.gx
  have hM := hW.ms
  have hl : D.xl.length ≤ 300 := by have := hW.nN; omega
  have hlt := hX.lt hl
  have hqm := hX.qm hM
  have dq := fun (W : World) (hf : w.grownBy W none) => (HlfF.refl hW).kept0 hf |>.fin hW hP hN
  have hno20 : ∀ st : Int, ¬ (1 ≤ st ∧ st ≤ 3) → (Calls Tryz.prog 77 #[.pointer (some ⟨D.qb, 0, none⟩), .int .u64 H] w fun y w' => y = .returned (.int .i64 st) ∧ w.grownBy w' none) → (∀ c k, H ∉ S c k) → Pair w P wb D 25 32 #[.pointer (some ⟨D.qb, 0, none⟩), .int .u64 H] #[.pointer (some ⟨D.lb, 0, none⟩), .int .u64 H] (fun er w' => Kp P w w' ∧ Kp (FB D lsb) w w' ∧ GMf w' P wb (N + 1) D lsb er) := fun st hst hc hno => by
    refine pair_stillF hW hd hN 20 (drop_none hst hc) (fun W hf => ?_)
    obtain ⟨hce, hAt, hIs, hlt2, szb, szc, hD, hfin⟩ := dq W hf
    refine (drop_no hD.rq hD.nl (hd.nowhere hno)).mono ?_
    rintro y w3 ⟨rfl, rfl⟩
    exact ⟨rfl, gb_refl _ _⟩
  by_cases hH : H ∈ D.xl
  · rcases hX.cases hH with ⟨hs4, hno⟩ | ⟨k, U, V, hk, hsk, hXk⟩
    · have hst := q_state hqm hH
      rw [hs4] at hst
      exact hno20 _ (by omega) hst hno
    · have hc3 := hX.c3 hH
      refine ⟨0, HlfF w P wb D lsb vs Y cl (upX S (cl H) k (U ++ V)), (q_drop (hX.lq hM hl) hXk).mono ?_, fun w1 w2 hB hf => ?_⟩
      · rintro y w1 ⟨rfl, hK, hQ⟩
        exact ⟨rfl, HlfF.of hW hX hQ hK⟩
      · obtain ⟨hce, ⟨pl, hAt⟩, hIs, hlt2, szb, szc, hD, hfin⟩ := (hB.kept0 hf).fin hW hP hN
        refine ⟨(hB.kept0 hf).1.kp, hce, (drop_yes hD.rq hD.nl (hd.stands hlt hc3 hk hXk)).mono ?_⟩
        rintro y w3 ⟨rfl, hK3, v', hq, hv⟩
        exact ⟨rfl, hfin w3 _ _ hK3 (hD.lists hq) (upV_new hv) (hd.upd hc3 hk)⟩
  · exact hno20 0 (by omega) (q_stateN hqm (hX.noI h64 hH)) (hX.out hH)
theorem pair_shiftF (hW : GW w P wb N D lsb vs Y S cl) (hd : Dm Y S) (hP : ∀ k, w.heap.size ≤ k → P k) (hN : N < 300) {H : Nat} (h64 : H < 18446744073709551616) (kd : Int) : Pair w P wb D 26 33 #[.pointer (some ⟨D.qb, 0, none⟩), .int .u64 H, .int .i64 kd] #[.pointer (some ⟨D.lb, 0, none⟩), .int .u64 H, .int .i64 kd] (fun er w' => Kp P w w' ∧ Kp (FB D lsb) w w' ∧ GMf w' P wb (N + 1) D lsb er) := by
  obtain ⟨bs, p, n, s, hX⟩ := hW.gx
  have hM := hW.ms
  have hl : D.xl.length ≤ 300 := by have := hW.nN; omega
  have hlt := hX.lt hl
  have hqm := hX.qm hM
  have dq := fun (W : World) (hf : w.grownBy W none) => (HlfF.refl hW).kept0 hf |>.fin hW hP hN
  by_cases hkd : 1 ≤ kd ∧ kd ≤ 3
  · obtain ⟨k2, rfl⟩ : ∃ k2 : Nat, kd = (k2 : Int) + 1 := ⟨(kd - 1).toNat, by omega⟩
    have hk2 : k2 < 3 := by omega
    have hno20 : ∀ st : Int, ¬ (1 ≤ st ∧ st ≤ 3) → (Calls Tryz.prog 77 #[.pointer (some ⟨D.qb, 0, none⟩), .int .u64 H] w fun y w' => y = .returned (.int .i64 st) ∧ w.grownBy w' none) → (∀ c k, H ∉ S c k) → Pair w P wb D 26 33 #[.pointer (some ⟨D.qb, 0, none⟩), .int .u64 H, .int .i64 ((k2 : Int) + 1)] #[.pointer (some ⟨D.lb, 0, none⟩), .int .u64 H, .int .i64 ((k2 : Int) + 1)] (fun er w' => Kp P w w' ∧ Kp (FB D lsb) w w' ∧ GMf w' P wb (N + 1) D lsb er) := fun st hst hc hno => by
      refine pair_stillF hW hd hN 20 (shift_none hk2 hst hc) (fun W hf => ?_)
      obtain ⟨hce, hAt, hIs, hlt2, szb, szc, hD, hfin⟩ := dq W hf
      refine (shift_no hD.rq hD.nl (hd.nowhere hno) hk2).mono ?_
      rintro y w3 ⟨rfl, rfl⟩
      exact ⟨rfl, gb_refl _ _⟩
    by_cases hH : H ∈ D.xl
    · rcases hX.cases hH with ⟨hs4, hno⟩ | ⟨k, U, V, hk, hsk, hXk⟩
      · have hst := q_state hqm hH
        rw [hs4] at hst
        exact hno20 _ (by omega) hst hno
      · have hc3 := hX.c3 hH
        refine ⟨0, HlfF w P wb D lsb vs Y cl (upX (upX S (cl H) k (U ++ V)) (cl H) k2 (H :: (upX S (cl H) k (U ++ V)) (cl H) k2)), (q_shift (hX.lq hM hl) hXk hk2 (by have := hlt.ln (cl H) k2; omega)).mono ?_, fun w1 w2 hB hf => ?_⟩
        · rintro y w1 ⟨rfl, hK, hQ⟩
          exact ⟨rfl, HlfF.of hW hX hQ hK⟩
        · obtain ⟨hce, ⟨pl, hAt⟩, hIs, hlt2, szb, szc, hD, hfin⟩ := (hB.kept0 hf).fin hW hP hN
          refine ⟨(hB.kept0 hf).1.kp, hce, (shift_yes hD.rq hD.nl (hd.stands hlt hc3 hk hXk) hc3 hk2 (hd.lens hlt) (fun W hK => hAt W H hK hH)).mono ?_⟩
          rintro y w3 ⟨rfl, hK3, vs', hq, hv⟩
          have hdm := (hd.upd (v := U ++ V) hc3 hk).upd (v := H :: upX S (cl H) k (U ++ V) (cl H) k2) hc3 hk2
          have he : upY Y (3 * cl H + k) (U ++ V) (3 * cl H + k2) = upX S (cl H) k (U ++ V) (cl H) k2 := (hd.upd (v := U ++ V) hc3 hk).ys (cl H) k2 hc3 hk2
          rw [he] at hq
          exact ⟨rfl, hfin w3 _ _ hK3 (hD.lists hq) hv hdm⟩
    · exact hno20 0 (by omega) (q_stateN hqm (hX.noI h64 hH)) (hX.out hH)
  · refine pair_stillF hW hd hN 1 (shift_argP hkd w) (fun W hf => (shift_arg hkd W).mono ?_)
    rintro y w3 ⟨rfl, rfl⟩
    exact ⟨rfl, gb_refl _ _⟩
end
end Go.Proofs.YtjkdflnnpdionaaGreat
