import Derived.Test.YtjkdflnnpdionaaGreatPc
import Derived.Test.YtjkdflnnpdionaaGreatMz
/-
  Images ahead of a call and behind it.
-/
namespace Go.Proofs.YtjkdflnnpdionaaGreat
open Go.RowKit
set_option linter.unusedVariables false

/-- Behind a call: the image from ahead of it, and what it has turned. -/
structure Fn (w0 w : World) (P : Nat → Prop) (wb N : Nat) (D : Wd) (er : Int) (gw cw : Nat) : Prop where
  gr : w0.grownBy w none
  row : w.ownsRow 0 5 1 (.slice (some ⟨gw, 0, none⟩) 16384 cw) 16384 (bv D.zs)
  by_ : isBytes D.zs
  zl : D.zs.length = 16384
  gm : GM w P wb N D er
/-- Both images. -/
structure Fm (w0 w : World) (P : Nat → Prop) (wb N : Nat) (D : Wd) (er : Int) (gw cw gn cn : Nat) (zs : List Int) : Prop where
  fn : Fn w0 w P wb N D er gw cw
  rn : w.ownsRow 0 5 1 (.slice (some ⟨gn, 0, none⟩) 16384 cn) 16384 (bv zs)
  yb : isBytes zs
  zk : Zk D.A D.xl D.zs zs
  z0 : er ≠ 0 → zs = D.zs
section
variable {w0 w : World} {P : Nat → Prop} {wb N : Nat} {D : Wd} {er : Int} {gw cw gn cn : Nat} {zs : List Int}
theorem GM.kept0 {w' : World} (h : GM w P wb N D er) (hf : w.grownBy w' none) : GM w' P wb N D er := by
  obtain ⟨D', h1, h2⟩ := h
  exact ⟨D', h1, h2.kept0 hf⟩
theorem Fn.kept0 {w' : World} (h : Fn w0 w P wb N D er gw cw) (hf : w.grownBy w' none) : Fn w0 w' P wb N D er gw cw :=
  ⟨gb_trans h.gr hf, row_kept h.row hf (by simp), h.by_, h.zl, h.gm.kept0 hf⟩
theorem Fm.kept0 {w' : World} (h : Fm w0 w P wb N D er gw cw gn cn zs) (hf : w.grownBy w' none) : Fm w0 w' P wb N D er gw cw gn cn zs :=
  ⟨h.fn.kept0 hf, row_kept h.rn hf (by simp), h.yb, h.zk, h.z0⟩
theorem Fn.now (h : Fn w0 w P wb N D er gw cw) : Calls Tryz.prog 29 #[.pointer (some ⟨wb, 0, none⟩)] w fun y w' => ∃ gn cn zs, y = .returned (.slice (some ⟨gn, 0, none⟩) 16384 cn) ∧ Hid (Fm w0 w' P wb N D er gw cw gn cn zs) := by
  obtain ⟨D', hm, lsb, vs, Y, S, cl, hW, hd⟩ := h.gm
  obtain ⟨hb, hc⟩ := images_29 hW
  refine hc.mono ?_
  rintro y w' ⟨g, cap, rfl, hf, hr⟩
  exact ⟨g, cap, D'.zs, rfl, h.kept0 hf, row_base hr (Nat.zero_le _), hb, hm.zk, fun e => hm.z0 e⟩
theorem Fm.apart (h : Fm w0 w P wb N D er gw cw gn cn zs) : Calls Tryz.prog 37 #[.pointer (some ⟨wb, 0, none⟩), .slice (some ⟨gw, 0, none⟩) 16384 cw, .slice (some ⟨gn, 0, none⟩) 16384 cn] w fun y w' => y = .returned (.bool true) ∧ Hid (Fm w0 w' P wb N D er gw cw gn cn zs) := by
  obtain ⟨D', hm, lsb, vs, Y, S, cl, hW, hd⟩ := h.fn.gm
  refine (apart_37 hW h.fn.row h.rn (by rw [hm.A, hm.xl]; exact h.zk) h.fn.zl h.fn.by_ h.yb).mono ?_
  rintro y w' ⟨rfl, hf⟩
  exact ⟨rfl, h.kept0 hf⟩
theorem Fm.same (h : Fm w0 w P wb N D er gw cw gn cn zs) (he : er ≠ 0) : Calls Tryz.prog 38 #[.slice (some ⟨gw, 0, none⟩) 16384 cw, .slice (some ⟨gn, 0, none⟩) 16384 cn] w fun y w' => y = .returned (.bool true) ∧ w = w' := by
  have hz := h.z0 he
  have hl : zs.length = 16384 := h.zk.len.trans h.fn.zl
  have := equal_67 (bv_has h.fn.row h.fn.zl) (bv_has h.rn hl) h.fn.by_ h.yb cw cn
  rw [decide_eq_true hz.symm] at this
  exact this
theorem Fm.gs {D0 : Wd} (h : Fm w0 w P wb N D er gw cw gn cn zs) (hs : SameP D0 D) : w0.grownBy w none ∧ GS w P wb N D0 := by
  obtain ⟨D', hm, hT⟩ := h.fn.gm
  exact ⟨h.fn.gr, hT.gs.more (hs.trans hm.same)⟩
end
section
variable {w0 w : World} {P : Nat → Prop} {wb N : Nat} {D : Wd}
/-- Ahead of a call: the image, the operation's box. -/
structure Fb (w0 wr w : World) (P : Nat → Prop) (wb N : Nat) (D : Wd) (gw cw : Nat) (o : Opv) : Prop where
  gr0 : w0.grownBy wr none
  gr : wr.grownBy w none
  row : w.ownsRow wr.heap.size 5 1 (.slice (some ⟨gw, 0, none⟩) 16384 cw) 16384 (bv D.zs)
  by_ : isBytes D.zs
  zl : D.zs.length = 16384
  gt : GT wr P wb N D
  bx : Box w 28 wr.heap.size o.cs
  hP : ∀ k, P k ↔ w0.heap.size ≤ k
variable {wr : World} {gw cw : Nat} {o : Opv}
theorem Fb.kept0 {w' : World} (h : Fb w0 wr w P wb N D gw cw o) (hf : w.grownBy w' none) : Fb w0 wr w' P wb N D gw cw o :=
  ⟨h.gr0, gb_trans h.gr hf, row_kept h.row hf (by simp), h.by_, h.zl, h.gt, h.bx.kept hf (by simp), h.hP⟩
/-- All but what came in between. -/
def Pb (P : Nat → Prop) (m n : Nat) (k : Nat) : Prop := P k ∧ (k < m ∨ n ≤ k)
theorem Fb.gtb (h : Fb w0 wr w P wb N D gw cw o) : GT w (Pb P wr.heap.size w.heap.size) wb N D ∧ ∀ k, w.heap.size ≤ k → Pb P wr.heap.size w.heap.size k :=
  ⟨(h.gt.less (fun k hk hp => ⟨hp, .inl hk⟩)).kept0 h.gr, fun k hk => ⟨(h.hP k).2 (Nat.le_trans h.gr0.size (Nat.le_trans h.gr.size hk)), .inr hk⟩⟩
theorem Fb.box {w' : World} (h : Fb w0 wr w P wb N D gw cw o) (hK : Kp (Pb P wr.heap.size w.heap.size) w w') : Box w' 28 wr.heap.size o.cs :=
  hK.box h.bx (fun hh => by
    have := h.bx.lt
    rcases hh.2 with h1 | h1 <;> omega)
theorem Fb.fin {w' : World} {er : Int} (h : Fb w0 wr w P wb N D gw cw o) (hK : Kp (Pb P wr.heap.size w.heap.size) w w') (hG : GM w' (Pb P wr.heap.size w.heap.size) wb (N + 1) D er) : Fn w0 w' P wb (N + 1) D er gw cw := by
  refine ⟨kp_grown (gb_trans h.gr0 h.gr) (hK.less (fun k hk => (h.hP k).1 hk.1)), row_base (row_same h.row (fun k hk => ?_)) (Nat.zero_le _), h.by_, h.zl, hG.less (fun k _ hk => hk.1)⟩
  obtain ⟨cur, hc⟩ := row_block h.row k hk
  have h1 := own_base h.row k hk
  have h2 := lt_of_block hc
  exact hK.block k h2 (fun hh => by rcases hh.2 with h3 | h3 <;> omega)
theorem Fb.still (h : Fb w0 wr w P wb N D gw cw o) (hN : N < 300) (er : Int) : Fn w0 w P wb (N + 1) D er gw cw := by
  obtain ⟨lsb, vs, Y, S, cl, hW, hd⟩ := h.gt
  exact ⟨gb_trans h.gr0 h.gr, row_base h.row (Nat.zero_le _), h.by_, h.zl, (Hlf.still hW hd hN er h.gr).2⟩
theorem Fb.new {w0 wr : World} {P : Nat → Prop} (hg : w0.grownBy wr none) (hT : GT wr P wb N D) (hP : ∀ k, P k ↔ w0.heap.size ≤ k) (o : Opv) : Calls Tryz.prog 29 #[.pointer (some ⟨wb, 0, none⟩)] (wr.alloc (.cells o.cs 28)) fun y w' => ∃ gw cw, y = .returned (.slice (some ⟨gw, 0, none⟩) 16384 cw) ∧ Box w' 28 wr.heap.size o.cs ∧ Hid (Fb w0 wr w' P wb N D gw cw o) := by
  have hal := World.grownBy_alloc wr (.cells o.cs 28) none
  have hb0 := Box.new wr 28 o.cs
  have hT2 := hT
  obtain ⟨lsb, vs, Y, S, cl, hW, hd⟩ := hT
  obtain ⟨hb, hc⟩ := images_29 (hW.kept0 hal)
  refine hc.mono ?_
  rintro y w' ⟨g, cap, rfl, hf, hr⟩
  exact ⟨g, cap, rfl, hb0.kept hf (by simp), hg, gb_trans hal hf, row_base hr hal.size, hb, hW.zl, hT2, hb0.kept hf (by simp), hP⟩
/-- The handle. -/
theorem Fb.handle (h : Fb w0 wr w P wb N D gw cw o) (hh : o.h < 18446744073709551616) : Calls Tryz.prog 30 #[.pointer (some ⟨wb, 0, none⟩), .agg o.cs] w fun y w' => ∃ H : Nat, y = .returned (.int .u64 H) ∧ H < 18446744073709551616 ∧ Box w' 28 wr.heap.size o.cs ∧ Hid (Fb w0 wr w' P wb N D gw cw o) := by
  obtain ⟨H, h64, hc⟩ := (h.gt.kept0 h.gr).handle o hh
  refine hc.mono ?_
  rintro y w' ⟨rfl, hf⟩
  exact ⟨H, rfl, h64, h.bx.kept hf (by simp), h.kept0 hf⟩
/-- What a pair of calls gives here. -/
def Pq (w0 wr w : World) (P : Nat → Prop) (wb N : Nat) (D : Wd) (gw cw : Nat) (o : Opv) (f1 f2 : Nat) (a1 a2 : Array Value) : Prop :=
  ∃ er : Int, Calls Tryz.prog f1 a1 w (fun y w1 => y = .returned (.int .i64 er) ∧ Cells w1 wb D ∧ Box w1 28 wr.heap.size o.cs ∧ ∀ w2, w1.grownBy w2 none → Cells w2 wb D ∧ Box w2 28 wr.heap.size o.cs ∧ Calls Tryz.prog f2 a2 w2 (fun y w' => y = .returned (.int .i64 er) ∧ Cells w' wb D ∧ Box w' 28 wr.heap.size o.cs ∧ Hid (Fn w0 w' P wb (N + 1) D er gw cw)))
theorem Fb.pair {f1 f2 : Nat} {a1 a2 : Array Value} (h : Fb w0 wr w P wb N D gw cw o) (hp : Pair w (Pb P wr.heap.size w.heap.size) wb D f1 f2 a1 a2 (fun er w' => Kp (Pb P wr.heap.size w.heap.size) w w' ∧ GM w' (Pb P wr.heap.size w.heap.size) wb (N + 1) D er)) : Pq w0 wr w P wb N D gw cw o f1 f2 a1 a2 := by
  obtain ⟨er, B1, h1, h2⟩ := hp
  refine ⟨er, h1.mono ?_⟩
  rintro y w1 ⟨rfl, hB⟩
  obtain ⟨hK, hc, _⟩ := h2 w1 w1 hB (gb_refl _ _)
  refine ⟨rfl, hc, h.box hK, fun w2 hf => ?_⟩
  obtain ⟨hK2, hc2, hcall⟩ := h2 w1 w2 hB hf
  refine ⟨hc2, h.box hK2, hcall.mono ?_⟩
  rintro y w3 ⟨rfl, hK3, hG3⟩
  exact ⟨rfl, hG3.cells, h.box hK3, h.fin hK3 hG3⟩
theorem Fb.push (h : Fb w0 wr w P wb N D gw cw o) (hN : N < 300) {H : Nat} (h64 : H < 18446744073709551616) (kd : Int) : Pq w0 wr w P wb N D gw cw o 23 31 #[.pointer (some ⟨D.qb, 0, none⟩), .int .u64 H, .int .i64 kd] #[.pointer (some ⟨D.lb, 0, none⟩), .int .u64 H, .int .i64 kd, .bool false] := by
  obtain ⟨⟨lsb, vs, Y, S, cl, hW, hd⟩, hP⟩ := h.gtb
  exact h.pair (pair_push hW hd hP hN h64 kd)
theorem Fb.last (h : Fb w0 wr w P wb N D gw cw o) (hN : N < 300) {H : Nat} (h64 : H < 18446744073709551616) (kd : Int) : Pq w0 wr w P wb N D gw cw o 24 31 #[.pointer (some ⟨D.qb, 0, none⟩), .int .u64 H, .int .i64 kd] #[.pointer (some ⟨D.lb, 0, none⟩), .int .u64 H, .int .i64 kd, .bool true] := by
  obtain ⟨⟨lsb, vs, Y, S, cl, hW, hd⟩, hP⟩ := h.gtb
  exact h.pair (pair_last hW hd hP hN h64 kd)
theorem Fb.drop (h : Fb w0 wr w P wb N D gw cw o) (hN : N < 300) {H : Nat} (h64 : H < 18446744073709551616) : Pq w0 wr w P wb N D gw cw o 25 32 #[.pointer (some ⟨D.qb, 0, none⟩), .int .u64 H] #[.pointer (some ⟨D.lb, 0, none⟩), .int .u64 H] := by
  obtain ⟨⟨lsb, vs, Y, S, cl, hW, hd⟩, hP⟩ := h.gtb
  exact h.pair (pair_drop hW hd hP hN h64)
theorem Fb.shift (h : Fb w0 wr w P wb N D gw cw o) (hN : N < 300) {H : Nat} (h64 : H < 18446744073709551616) (kd : Int) : Pq w0 wr w P wb N D gw cw o 26 33 #[.pointer (some ⟨D.qb, 0, none⟩), .int .u64 H, .int .i64 kd] #[.pointer (some ⟨D.lb, 0, none⟩), .int .u64 H, .int .i64 kd] := by
  obtain ⟨⟨lsb, vs, Y, S, cl, hW, hd⟩, hP⟩ := h.gtb
  exact h.pair (pair_shift hW hd hP hN h64 kd)
end
end Go.Proofs.YtjkdflnnpdionaaGreat
