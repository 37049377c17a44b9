/-
  TideFlush: the world in memory; flush, comesTo.
-/
import Derived.Test.YtagcmfaljfaikaaV
namespace Go.Proofs.Ytagcmfaljfaikaa
open Go.RowKit
set_option linter.unusedVariables false

/-- A thing: the i-th has the token i + 1; those below d are gone. -/
def bornC (d : Nat) (i : Nat) : List Value := [.int .u64 ((i + 1 : Nat) : Int), .bool (decide (i < d))]
theorem bornC_len (d i : Nat) : (bornC d i).length = 2 := rfl
def bornK (d k : Nat) (i : Nat) : List Value := [.int .u64 ((i + 1 : Nat) : Int), .bool (decide (i < d ∨ i < k))]
theorem bornK_len (d k i : Nat) : (bornK d k i).length = 2 := rfl
theorem bornK_zero (d : Nat) : bornK d 0 = bornC d := by funext i; simp [bornK, bornC]
theorem bornK_all (d m : Nat) (h : d ≤ m) : ∀ i, i < m → bornK d m i = bornC m i := fun i hi => by
  simp [bornK, bornC, hi]

def wA (cb : Nat) (tv : Value) (m : Nat) (now comes : Int) : Array Value := #[.pointer (some ⟨cb, 0, none⟩), tv, .int .u64 m, .int .i64 now, .int .i64 comes]
def pend (comes : Int) : Int := if comes ≤ 1099511627776 then comes else 1099511627777

/-- A world's row of things and its block. -/
structure Thg (w wr : World) (wb cb : Nat) (tv : Value) (m : Nat) (now comes : Int) (f : Nat → List Value) : Prop where
  box : Box wr 76 wb (wA cb tv m now comes)
  row : wr.ownsRow w.heap.size 81 2 tv m (rng m f)
  lw : w.heap.size ≤ wb
theorem Thg.tg {w wr : World} {wb cb : Nat} {tv : Value} {m : Nat} {now comes : Int} {f : Nat → List Value} (h : Thg w wr wb cb tv m now comes f) {g : Nat} (hg : tv.ownBlock = some g) : wb ≠ g ∧ w.heap.size ≤ g ∧ g < wr.heap.size := by
  obtain ⟨cur, h1⟩ := row_block h.row g hg
  refine ⟨fun e => ne_of_type h.box h1 (by decide) e, ?_, lt_of_block h1⟩
  rcases h.row.2 with ⟨h2, _⟩ | ⟨g2, c, cur, h2, h3, h4, _⟩
  · rw [h2] at hg; simp [Value.ownBlock] at hg
  · rw [h2] at hg; simp [Value.ownBlock] at hg; rw [← hg]; exact h3

set_option maxRecDepth 100000 in
set_option maxHeartbeats 4000000 in
theorem flush_57 {w wz : World} {wb cb : Nat} {tv : Value} {m d : Nat} {now comes : Int} (h : Thg w wz wb cb tv m now comes (bornC d)) (hd : d ≤ m) (hm : m < 1000000) :
    Calls Try.prog 57 #[.pointer (some ⟨wb, 0, none⟩)] wz fun y w' => y = .returned (.tuple #[]) ∧ Kp (fun k => tv.ownBlock = some k) wz w' ∧ Thg w w' wb cb tv m now comes (bornC m) := by
  go_enter Try.func57, Try.ntmps57
  go_wp2
  go_loopw [2] (fun v wr => ∃ k : Nat, k ≤ m ∧ v = .int .i64 k ∧ Kp (fun k => tv.ownBlock = some k) wz wr ∧ Thg w wr wb cb tv m now comes (bornK d k)) (fun v _ => m - (intOf v).toNat)
  case atStart => exact ⟨0, by omega, rfl, Kp.refl _ _, by rw [bornK_zero]; exact h⟩
  case round =>
    clear h
    obtain ⟨k, hk, rfl, hK, ht⟩ := hrel
    obtain ⟨ao, cp, hdv, _, _, hmax, hpos⟩ := row_shape ht.row
    subst hdv
    have c1 : wr.cell? ⟨wb, 1, none⟩ = some (.slice ao m cp) := ht.box.cell 1
    by_cases hkm : k < m
    · obtain ⟨g, rfl⟩ := hpos (by omega)
      obtain ⟨n1, n2, n3⟩ := ht.tg (g := g) rfl
      have hr := ht.row
      have e0 := row_cell hr (k * 2) _ (by have := rng_get (bornK_len d k) (n := m) (i := k) (j := 0) hkm (by omega); simpa [bornK] using this)
      have e1 := row_cell hr (k * 2 + 1) _ (by have := rng_get (bornK_len d k) (n := m) (i := k) (j := 1) hkm (by omega); simpa [bornK] using this)
      obtain ⟨cur, hcur⟩ := row_block hr g rfl
      have f1 := (show Box wr 81 g cur from hcur).fz (k * 2 + 1)
      have hgs : wr.grownBy (wr.setCell ⟨g, k * 2 + 1, none⟩ (.bool true)) (some g) := gb_setCell (gb_refl _ _) _
      have hr2 := row_set hr (k * 2 + 1) (.bool true)
      rw [rng_set (bornK_len d k) (i := k) (j := 1) (by omega) (.bool true) (g := bornK d (k + 1)) (fun i hi => by unfold bornK; rw [show decide (i < d ∨ i < k + 1) = decide (i < d ∨ i < k) from decide_eq_decide.2 (by omega)]) (by simp [bornK]) hkm] at hr2
      have ht2 : Thg w (wr.setCell ⟨g, k * 2 + 1, none⟩ (.bool true)) wb cb (.slice (some ⟨g, 0, none⟩) m cp) m now comes (bornK d (k + 1)) := ⟨ht.box.kept hgs (some_ne n1), hr2, ht.lw⟩
      have hK2 := hK.step hgs (fun j hj => .inl hj)
      have hib : (k : Int) < m := by omega
      clear ht hr hr2 hgs hK hcur
      go_wp2
      exact ⟨⟨k + 1, by omega, by go_num, hK2, ht2⟩, by simp [intOf]; omega⟩
    · obtain rfl : k = m := by omega
      have ht2 : Thg w wr wb cb (.slice ao k cp) k now comes (bornC k) := ⟨ht.box, by rw [← rng_congr (bornK_all d k hd)]; exact ht.row, ht.lw⟩
      clear ht
      go_wp2
      go_end0
      exact ⟨rfl, hK, ht2⟩

/-- What TideFlush keeps: m things, d of them gone; the clock and the world's own account of it. -/
structure FSt (w wr : World) (wb cb : Nat) (tv : Value) (m d : Nat) (now comes : Int) : Prop where
  th : Thg w wr wb cb tv m now comes (bornC d)
  ck : Box wr 102 cb (ckA ⟨now, d, pend comes⟩)
  g : w.grownBy wr none
  lc : w.heap.size ≤ cb
  dm : d ≤ m
  n1 : 1 ≤ now
  n2 : now ≤ 1000000000
  c0 : comes = 0 ∨ now < comes
  c1 : comes ≤ 5000000000000000000
section
variable {w wr w' : World} {wb cb : Nat} {tv : Value} {m d : Nat} {now comes : Int}
theorem FSt.kept0 (h : FSt w wr wb cb tv m d now comes) (hf : wr.grownBy w' none) : FSt w w' wb cb tv m d now comes :=
  ⟨⟨h.th.box.kept hf (by simp), row_kept h.th.row hf (by simp), h.th.lw⟩, h.ck.kept hf (by simp), gb_trans h.g hf, h.lc, h.dm, h.n1, h.n2, h.c0, h.c1⟩
theorem FSt.ok (h : FSt w wr wb cb tv m d now comes) : CkOk ⟨now, d, pend comes⟩ := by
  have := h.n1; have := h.n2; have := h.c0; have := h.c1
  refine ⟨h.n1, by simp only []; omega, ?_, ?_⟩
  · simp only []
    unfold pend; split <;> omega
  · simp only []
    unfold pend isI; split <;> omega
theorem FSt.cells (h : FSt w wr wb cb tv m d now comes) : wr.cell? ⟨wb, 0, none⟩ = some (.pointer (some ⟨cb, 0, none⟩)) ∧ wr.cell? ⟨wb, 1, none⟩ = some tv ∧ wr.cell? ⟨wb, 2, none⟩ = some (.int .u64 m) ∧ wr.cell? ⟨wb, 3, none⟩ = some (.int .i64 now) ∧ wr.cell? ⟨wb, 4, none⟩ = some (.int .i64 comes) :=
  ⟨h.th.box.cell 0, h.th.box.cell 1, h.th.box.cell 2, h.th.box.cell 3, h.th.box.cell 4⟩
/-- the clock has turned -/
theorem Thg.clock (h : Thg w wr wb cb tv m now comes (bornC d)) {k : Array Value} (hc : Box wr 102 cb k) (hf : wr.grownBy w' (some cb)) : Thg w w' wb cb tv m now comes (bornC d) :=
  ⟨h.box.kept hf (box_ne h.box hc (by decide)), row_kept h.row hf (fun j hj e => by
    obtain ⟨cur, h1⟩ := row_block h.row j hj
    exact ne_of_type h1 hc (by decide) (Option.some.inj e)), h.lw⟩
/-- a cell of the world's block is set -/
theorem Thg.set3 (h : Thg w wr wb cb tv m now comes (bornC d)) (v : Int) : Thg w (wr.setCell ⟨wb, 3, none⟩ (.int .i64 v)) wb cb tv m v comes (bornC d) :=
  ⟨h.box.set 3 (.int .i64 v), row_kept h.row (gb_setCell (gb_refl _ _) _) (fun j hj e => (h.tg hj).1 (Option.some.inj e).symm), h.lw⟩
theorem Thg.set4 (h : Thg w wr wb cb tv m now comes (bornC d)) (v : Int) : Thg w (wr.setCell ⟨wb, 4, none⟩ (.int .i64 v)) wb cb tv m now v (bornC d) :=
  ⟨h.box.set 4 (.int .i64 v), row_kept h.row (gb_setCell (gb_refl _ _) _) (fun j hj e => (h.tg hj).1 (Option.some.inj e).symm), h.lw⟩

/-- Where the clock and the account stand in the middle of a call. -/
structure Mid (w wr : World) (wb cb : Nat) (tv : Value) (m d : Nat) (now comes : Int) (k : Ck) : Prop where
  th : Thg w wr wb cb tv m now comes (bornC d)
  ck : Box wr 102 cb (ckA k)
  g : w.grownBy wr none
  lc : w.heap.size ≤ cb
theorem Mid.kept0 {k : Ck} (h : Mid w wr wb cb tv m d now comes k) (hf : wr.grownBy w' none) : Mid w w' wb cb tv m d now comes k :=
  ⟨⟨h.th.box.kept hf (by simp), row_kept h.th.row hf (by simp), h.th.lw⟩, h.ck.kept hf (by simp), gb_trans h.g hf, h.lc⟩
theorem Mid.cells {k : Ck} (h : Mid w wr wb cb tv m d now comes k) : wr.cell? ⟨wb, 0, none⟩ = some (.pointer (some ⟨cb, 0, none⟩)) ∧ wr.cell? ⟨wb, 1, none⟩ = some tv ∧ wr.cell? ⟨wb, 2, none⟩ = some (.int .u64 m) ∧ wr.cell? ⟨wb, 3, none⟩ = some (.int .i64 now) ∧ wr.cell? ⟨wb, 4, none⟩ = some (.int .i64 comes) :=
  ⟨h.th.box.cell 0, h.th.box.cell 1, h.th.box.cell 2, h.th.box.cell 3, h.th.box.cell 4⟩
theorem FSt.mid (h : FSt w wr wb cb tv m d now comes) : Mid w wr wb cb tv m d now comes ⟨now, d, pend comes⟩ := ⟨h.th, h.ck, h.g, h.lc⟩
theorem Mid.clock {k k' : Ck} (h : Mid w wr wb cb tv m d now comes k) (hf : wr.grownBy w' (some cb)) (hb : Box w' 102 cb (ckA k')) : Mid w w' wb cb tv m d now comes k' :=
  ⟨h.th.clock h.ck hf, hb, gb_mine h.g hf h.lc, h.lc⟩
theorem Mid.set3 {k : Ck} (h : Mid w wr wb cb tv m d now comes k) (v : Int) : Mid w (wr.setCell ⟨wb, 3, none⟩ (.int .i64 v)) wb cb tv m d v comes k :=
  ⟨h.th.set3 v, h.ck.kept (gb_setCell (gb_refl _ _) _) (box_ne h.ck h.th.box (by decide)), gb_mine h.g (gb_setCell (gb_refl _ _) _) h.th.lw, h.lc⟩
theorem Mid.set4 {k : Ck} (h : Mid w wr wb cb tv m d now comes k) (v : Int) : Mid w (wr.setCell ⟨wb, 4, none⟩ (.int .i64 v)) wb cb tv m d now v k :=
  ⟨h.th.set4 v, h.ck.kept (gb_setCell (gb_refl _ _) _) (box_ne h.ck h.th.box (by decide)), gb_mine h.g (gb_setCell (gb_refl _ _) _) h.th.lw, h.lc⟩
theorem Mid.flush {k : Ck} (h : Mid w wr wb cb tv m d now comes k) (hd : d ≤ m) (hm : m < 1000000) :
    Calls Try.prog 57 #[.pointer (some ⟨wb, 0, none⟩)] wr fun y w' => y = .returned (.tuple #[]) ∧ Mid w w' wb cb tv m m now comes k := by
  refine (flush_57 h.th hd hm).mono ?_
  rintro y w' ⟨rfl, hK, ht⟩
  refine ⟨rfl, ht, ?_, gb_of_kp h.g hK (fun j hj => (h.th.tg hj).2.1), h.lc⟩
  refine hK.box h.ck (fun e => ?_)
  obtain ⟨cur, h1⟩ := row_block h.th.row cb e
  exact ne_of_type h1 h.ck (by decide) rfl
end

end Go.Proofs.Ytagcmfaljfaikaa
