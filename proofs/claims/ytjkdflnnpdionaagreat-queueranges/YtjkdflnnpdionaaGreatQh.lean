import Derived.Test.YtjkdflnnpdionaaGreatQg
import Derived.Test.YtjkdflnnpdionaaGreatNs
/-
  The World's blocks are cells: other objects may turn; visit.
-/
namespace Go.Proofs.YtjkdflnnpdionaaGreat
open Go.RowKit
set_option linter.unusedVariables false

/-- Cells lie there. -/
def Cel (w : World) (k : Nat) : Prop := ∃ cs t fz, w.heap[k]? = some (.cells cs t fz)
theorem Box.cel {w : World} {t : TypeId} {b : Nat} {vs : Array Value} (h : Box w t b vs) : Cel w b := ⟨_, _, _, h⟩
theorem row_cel {w : World} {B : Nat} {e : TypeId} {s : Nat} {v : Value} {n : Nat} {xs : List Value} (h : w.ownsRow B e s v n xs) : ∀ k, v.ownBlock = some k → Cel w k := fun k hk => by
  obtain ⟨cur, h1⟩ := row_block h k hk
  exact ⟨_, _, _, h1⟩
theorem IsS.cel {w : World} {sb : Nat} {F : Nat → Prop} {B : Bl} {b c d e f g : Int} {A : Ab} {zs : List Int} (h : IsS w sb F B b c d e f g A zs) : IsS w sb (fun k => F k ∧ Cel w k) B b c d e f g A zs :=
  ⟨h.box, h.kinds, h.pages, h.chunks, h.rows, h.ar, ⟨h.fs, h.box.cel⟩, ⟨h.fk, row_cel h.kinds _ rfl⟩, fun k hk => ⟨h.fp k hk, row_cel h.pages k hk⟩, fun p hp => ⟨h.fc p hp, _, _, _, h.chunks p hp⟩, fun i k hi hk => ⟨h.fr i k hi hk, row_cel (h.rows i hi) k hk⟩, ⟨⟨h.fa.1, _, _, _, h.ar.hb⟩, ⟨h.fa.2, _, _, _, h.ar.hg⟩⟩, fun k hk => h.lt k hk.1, h.cinj, h.rinj, h.bm⟩
theorem IsR.cel {w : World} {rb : Nat} {F : Nat → Prop} {Q : Rl} {c d e : Int} {R : Rb} (h : IsR w rb F Q c d e R) : IsR w rb (fun k => F k ∧ Cel w k) Q c d e R :=
  ⟨h.box, h.sz, h.ow, h.ck, h.rs, h.rr, ⟨h.fb, h.box.cel⟩, fun k hk => ⟨h.fs k hk, row_cel h.sz k hk⟩, fun k hk => ⟨h.fo k hk, row_cel h.ow k hk⟩, fun k hk => ⟨h.fc k hk, row_cel h.ck k hk⟩, fun k hk => ⟨h.fv k hk, row_cel h.rs k hk⟩, fun i k hi hk => ⟨h.fr i k hi hk, row_cel (h.rr i hi) k hk⟩, fun k hk => h.lt k hk.1, h.so, h.sr, h.ri⟩
def Wd.cel (D : Wd) (w : World) : Wd := { D with F := fun k => D.F k ∧ Cel w k, G := fun k => D.G k ∧ Cel w k }
section
variable {w : World} {P P' : Nat → Prop} {wb N : Nat} {D D' : Wd} {lsb : Nat} {vs : Nat → Value} {Y : Nat → List Nat} {cl : Nat → Nat} {S : Lm}
theorem MS8.cel (h : MS8 w P wb D) : MS8 w (fun k => P k ∧ Cel w k) wb (D.cel w) := by
  refine ⟨h.box, h.iss.cel, h.qbx, h.qrow, h.isr.cel, h.lbx, h.lrow, h.trow, ?_⟩
  obtain ⟨c, hc⟩ := h.sep.ex
  refine ⟨c, fun j k hj => ?_⟩
  match j, hj with
  | 1, hj => exact ⟨(hc 1 k hj.1).1, (hc 1 k hj.1).2, hj.2⟩
  | 2, hj => exact ⟨(hc 2 k hj.1).1, (hc 2 k hj.1).2, hj.2⟩
  | 3, hj => exact ⟨(hc 3 k hj).1, (hc 3 k hj).2, row_cel h.lrow k hj⟩
  | 4, hj => exact ⟨(hc 4 k hj).1, (hc 4 k hj).2, row_cel h.trow k hj⟩
  | 5, hj => exact ⟨(hc 5 k hj).1, (hc 5 k hj).2, (show k = wb from hj) ▸ h.box.cel⟩
  | 6, hj => exact ⟨(hc 6 k hj).1, (hc 6 k hj).2, (show k = D.lb from hj) ▸ h.lbx.cel⟩
  | 7, hj => exact ⟨(hc 7 k hj).1, (hc 7 k hj).2, (show k = D.qb from hj) ▸ h.qbx.cel⟩
  | 8, hj => exact ⟨(hc 8 k hj).1, (hc 8 k hj).2, (show k = D.gl from hj) ▸ row_cel h.qrow D.gl rfl⟩
theorem RL.cel (h : RL w lsb vs Y) : ∀ k, Rk lsb vs k → Cel w k := by
  rintro k (rfl | ⟨j, hj, hk⟩)
  · exact h.blk.cel
  · exact row_cel (h.ls j hj) k hk
theorem MS9.cel (h : MS9 w P wb D lsb vs Y) : MS9 w (fun k => P k ∧ (Cel w k ∨ w.heap.size ≤ k)) wb (D.cel w) lsb vs Y := by
  refine ⟨?_, h.lsv, h.rl, fun k hk => ⟨h.pr k hk, .inl (h.rl.cel k hk)⟩⟩
  obtain ⟨m1, m2, m3, m4, m5, m6, m7, m8, ⟨c, hc⟩⟩ := h.ms.cel
  exact ⟨m1, m2, m3, m4, m5, m6, m7, m8, ⟨c, fun j k hj => ⟨(hc j k hj).1, ⟨(hc j k hj).2.1.1, .inl (hc j k hj).2.2⟩, (hc j k hj).2.1.2⟩⟩⟩
theorem GW.cel (h : GW w P wb N D lsb vs Y S cl) : GW w (fun k => P k ∧ (Cel w k ∨ w.heap.size ≤ k)) wb N (D.cel w) lsb vs Y S cl := by
  obtain ⟨bs, p, n, s, hX⟩ := h.gx
  exact ⟨h.ms.cel, ⟨bs, p, n, s, hX.inv, hX.n3, hX.ps, hX.m, hX.rf, hX.rep, hX.its, hX.lk, hX.bare, hX.li, hX.cls⟩, h.nN, h.sub, h.zl, h.nd, h.tb⟩
theorem GW.keptF {w' : World} {G : Nat → Prop} (h : GW w P wb N D lsb vs Y S cl) (hK : Kp G w w') (hn : ∀ k, k < w.heap.size → P k → ¬ G k) (hP' : ∀ k, k < w.heap.size → P k → P' k) : GW w' P' wb N D lsb vs Y S cl :=
  ⟨h.ms.keptK hK hn hP', h.gx, h.nN, h.sub, h.zl, h.nd, h.tb⟩
/-- What a range's round has turned of the World. -/
structure Mr (D D' : Wd) : Prop where
  same : SameP D D'
  A : D'.A = D.A
  xl : D'.xl = D.xl
  xt : D'.xt = D.xt
  gl : D'.gl = D.gl
  F : ∀ k, D'.F k → D.F k
theorem Mr.refl (D : Wd) : Mr D D := ⟨same_refl D, rfl, rfl, rfl, rfl, fun _ h => h⟩
theorem Mr.trans {A B C : Wd} (h : Mr A B) (g : Mr B C) : Mr A C := ⟨h.same.trans g.same, g.A.trans h.A, g.xl.trans h.xl, g.xt.trans h.xt, g.gl.trans h.gl, fun k hk => h.F k (g.F k hk)⟩
theorem Mr.cel (D : Wd) (w : World) : Mr D (D.cel w) := ⟨same_refl D, rfl, rfl, rfl, rfl, fun _ h => h.1⟩
theorem Mr.fb (h : Mr D D') {k : Nat} (hk : FB D' lsb k) : FB D lsb k := by
  rcases hk with hk | hk | hk
  · exact .inl (h.F k hk)
  · exact .inr (.inl (hk.trans h.gl))
  · exact .inr (.inr hk)
theorem GTf.keptK {w' : World} {G : Nat → Prop} (h : GTf w P wb N D lsb) (hK : Kp G w w') (hn : ∀ k, k < w.heap.size → P k → ¬ G k) (hP' : ∀ k, k < w.heap.size → P k → P' k) : GTf w' P' wb N D lsb := by
  obtain ⟨vs, Y, S, cl, h1, h2⟩ := h
  exact ⟨vs, Y, S, cl, h1.keptF hK hn hP', h2⟩
/-- An object that is no row of cells is another one. -/
theorem GTf.put (h : GTf w P wb N D lsb) {l : Nat} {o o' : Obj} (hl : w.heap[l]? = some o) (ho : o.isCells = false) : ∃ D', Mr D D' ∧ GTf (w.putObj l o') P wb N D' lsb := by
  obtain ⟨vs, Y, S, cl, h1, h2⟩ := h
  have hK : Kp (fun k => k = l) w (w.putObj l o') := (Kp.refl _ _).step (grownBy_putObj' w l o') (fun i hi => by simp at hi; exact .inl hi.symm)
  refine ⟨D.cel w, Mr.cel D w, vs, Y, S, cl, h1.cel.keptF hK (fun k hk hp => ?_) (fun k hk hp => hp.1), h2⟩
  rintro rfl
  rcases hp.2 with ⟨cs, t, fz, hc⟩ | hs
  · rw [hl] at hc
    cases hc
    cases ho
  · omega
theorem GMf.down {w' : World} {er : Int} (h : GMf w' P wb (N + 1) D lsb er) (hG : GTf w P' wb N D lsb) : ∃ D', Mr D D' ∧ GTf w' P wb N D' lsb := by
  obtain ⟨D', hm, hF, hgl, vs, Y, S, cl, h1, h2⟩ := h
  obtain ⟨_, _, _, _, g1, _⟩ := hG
  have hn := g1.nN
  refine ⟨D', ⟨hm.same, hm.A, hm.xl, hm.xt, hgl, fun k hk => by rw [← hF]; exact hk⟩, vs, Y, S, cl, ⟨h1.ms, h1.gx, ⟨hn.1, by rw [hm.xt]; exact hn.2.1, by rw [hm.xl]; exact hn.2.2⟩, h1.sub, h1.zl, h1.nd, h1.tb⟩, h2⟩
theorem GTf.lt (h : GTf w P wb N D lsb) : ∀ k, FB D lsb k → k < w.heap.size := by
  obtain ⟨vs, Y, S, cl, h1, h2⟩ := h
  rintro k (hk | hk | hk)
  · exact h1.ms.ms.iss.lt k hk
  · subst hk; exact h1.ms.ms.gll
  · subst hk; exact h1.ms.rl.blk.lt
theorem GTf.told (h : GTf w P wb N D lsb) : ∃ ta tc, D.xt.length ≤ 300 ∧ (0 < D.xt.length → ∃ tg, ta = some ⟨tg, 0, none⟩ ∧ ∀ W, w.grownBy W none → ∀ (k H : Nat), D.xt[k]? = some H → W.cell? ⟨tg, k, none⟩ = some (.int .u64 (H : Nat))) ∧ (∀ W, w.grownBy W none → W.cell? ⟨wb, 4, none⟩ = some (.slice ta D.xt.length tc)) ∧ ∀ H, H ∈ D.xt → H < 18446744073709551616 := by
  obtain ⟨vs, Y, S, cl, h1, h2⟩ := h
  have hn := h1.nN
  obtain ⟨ao, cc, htv, _, _, _, hao⟩ := row_shape h1.ms.ms.trow
  refine ⟨ao, cc, by omega, fun h0 => ?_, fun W hf => ?_, h1.tb⟩
  · obtain ⟨tg, rfl⟩ := hao h0
    refine ⟨tg, rfl, fun W hf k H hk => ?_⟩
    have := (h1.ms.kept0 hf).ms.trow
    rw [htv] at this
    exact row_cell this k _ (uvs_get hk)
  · have := (h1.ms.ms.box.kept hf (by simp)).cell 4
    rw [htv] at this
    exact this
end
end Go.Proofs.YtjkdflnnpdionaaGreat
