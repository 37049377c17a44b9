import Derived.Test.YtoaaaeefcipdcaaG
import Derived.Laws.CopyOwn
import Derived.Test.YtoaaaeefcipdcaaF
import Derived.Deep.RegionHeld3
import Derived.Laws.AppendOwnNone
/-
  Write and Move: bytes laid by copy.
-/
namespace Go.Proofs.Ytoaaaeefcipdcaa
open Go.RowKit
set_option linter.unusedVariables false

/-- Bytes laid over others from a place on. -/
def lay (zs : List Int) (x : Nat) (ys : List Int) : List Int := zs.take x ++ ys ++ zs.drop (x + ys.length)
theorem length_lay {zs ys : List Int} {x : Nat} (h : x + ys.length ≤ zs.length) : (lay zs x ys).length = zs.length := by simp [lay]; omega
theorem isBytes_lay {zs ys : List Int} {x : Nat} (hz : isBytes zs) (hy : isBytes ys) : isBytes (lay zs x ys) := by
  intro z h
  simp only [lay, List.mem_append] at h
  rcases h with (h | h) | h
  · exact hz z (List.mem_of_mem_take h)
  · exact hy z h
  · exact hz z (List.mem_of_mem_drop h)
theorem vals_lay (zs : List Int) (x : Nat) (ys : List Int) : vals (lay zs x ys) = ((vals zs).toList.take x ++ (ys.map (Value.int .u8)) ++ (vals zs).toList.drop (x + (ys.map (Value.int .u8)).length)).toArray := by
  simp [vals, lay, List.map_take, List.map_drop]

theorem run_copy {w : World} {g : Nat} {zs : List Int} (hg : w.heap[g]? = some (.cells (vals zs) 5 (0, 0))) {x o n cap c : Nat} {a : Option Addr} {ys : List Int} (hy : Has w a n ys) (ho : 0 < n → o = x) (hx : x + n ≤ zs.length) (ty : TypeId) :
    (Builtin.copy_ #[42, 42] ty #[.slice (some ⟨g, o, none⟩) n cap, .slice a n c]).run Try.prog w = .ok (goInt n) (w.setRow g (vals (lay zs x ys))) := by
  have hs : (Try.prog.info? 5).map (·.size) = some 1 := by kernel_rfl
  obtain ⟨hl, hc⟩ := hy
  rcases Nat.eq_zero_or_pos n with hn | hn
  · subst hn
    obtain rfl : ys = [] := List.eq_nil_of_length_eq_zero hl
    rw [run_copy_none (P := Try.prog) w 42 42 ty 5 _ a 0 cap 0 c Try.underlying42 hs rfl]
    have e : lay zs x [] = zs := by simp [lay]
    rw [e, setRow_self w g _ _ _ hg]
    rfl
  · obtain ⟨bb, oo, rfl, hcc⟩ := hc hn
    have ho' := ho hn
    subst ho'
    have hlen : (ys.map (Value.int .u8)).length = n := by simpa using hl
    rw [run_copy_row (P := Try.prog) w 42 42 ty 5 g o n cap ⟨bb, oo, none⟩ n c (vals zs) 5 (ys.map (Value.int .u8)) Try.underlying42 hs hg (by rw [hlen]; simp)
      (fun j v hv => by
        have hj : j < n := by
          have := (List.getElem?_eq_some_iff.1 hv).1
          omega
        have := hcc j hj
        rw [show (⟨bb, oo, none⟩ : Addr).add j = ⟨bb, oo + j, none⟩ by simp [Addr.add], this]
        rw [← hv]
        simp [List.getD, show j < ys.length by omega])
      (by rw [hlen]; simp [vals]; omega) (fun v hv => by obtain ⟨z, _, rfl⟩ := List.mem_map.1 hv; rfl)]
    rw [hlen, vals_lay, hlen]

theorem gb_setRow {a b : World} {g : Nat} (h : a.grownBy b (some g)) (cs : Array Value) : a.grownBy (b.setRow g cs) (some g) :=
  ⟨h.os, h.tape, h.output, by simpa using h.size, fun k hk hn => by
    rw [setRow_other b g k cs (by intro e; exact hn (by rw [e]))]; exact h.block k hk hn⟩

theorem write_yes {w : World} {b g ps pages : Nat} {zs : List Int} (hA : IsA w b g ps pages zs) (x : Int) (a : Option Addr) (n c : Nat) (ys : List Int) (hy : Has w a n ys) (hb : isBytes ys) (hn : (n : Int) ≤ 9223372036854775807) (ht : There ps zs.length x n) :
    Calls Try.prog 108 #[.pointer (some ⟨b, 0, none⟩), .int .i64 x, .slice a n c] w fun e w' => e = .returned (.int .i64 0) ∧ w.grownBy w' (some g) ∧ IsA w' b g ps pages (lay zs x.toNat ys) := by
  have hx : x.toNat + n ≤ zs.length := by obtain ⟨_, _, h3, _⟩ := ht; omega
  go_enter Try.func108, Try.ntmps108
  go_wp2_with (go_at_call 116; go_must (refine (hA.part_yes x n ht).mono ?_); rintro e w' ⟨⟨o, rfl, ho⟩, q, rfl⟩; have hcp := run_copy (w := w.drewN q) (c := c) (cap := zs.length - x.toNat) hA.hg (hy.drewN q) (o := o) (x := x.toNat) (by simpa using ho) hx 3)
  go_ret
  have hf : w.grownBy ((w.drewN q).setRow g (vals (lay zs x.toNat ys))) (some g) := gb_setRow (gb_drewN (gb_refl _ _) q) _
  have hl : (lay zs x.toNat ys).length = zs.length := length_lay (by rw [hy.1]; exact hx)
  exact ⟨rfl, hf, hA.turned hf (setRow_heap _ _ _ _ _ _ hA.hg) hl (isBytes_lay hA.hz hb)⟩

theorem write_no {w : World} {b g ps pages : Nat} {zs : List Int} (hA : IsA w b g ps pages zs) (x : Int) (a : Option Addr) (n c : Nat) (hx : x ≤ 9223372036854775807) (hn : (n : Int) ≤ 9223372036854775807) (ht : ¬ There ps zs.length x n) :
    Calls Try.prog 108 #[.pointer (some ⟨b, 0, none⟩), .int .i64 x, .slice a n c] w fun e w' => e = .returned (.int .i64 20) ∧ w.grownBy w' none := by
  go_enter Try.func108, Try.ntmps108
  go_wp2_with (go_at_call 116; go_must (refine (hA.part_no x n (by omega) ht).mono ?_); rintro e w' ⟨rfl, q, rfl⟩)
  go_ret
  exact ⟨rfl, gb_drewN (gb_refl _ _) _⟩

end Go.Proofs.Ytoaaaeefcipdcaa
/-
  Read, Page and Fill.
-/
namespace Go.Proofs.Ytoaaaeefcipdcaa
open Go.RowKit
set_option linter.unusedVariables false

theorem Has.alloc {w : World} {a : Option Addr} {n : Nat} {xs : List Int} (h : Has w a n xs) (o : Obj) : Has (w.alloc o) a n xs := by
  refine ⟨h.1, fun hn => ?_⟩
  obtain ⟨b, o', e1, e2⟩ := h.2 hn
  refine ⟨b, o', e1, fun i hi => ?_⟩
  have := e2 i hi
  rw [World.cell?_alloc_lt _ _ _ (World.block_lt_of_cell? _ _ this)]
  exact this
theorem gb_mine {a b c : World} {g : Nat} (h : a.grownBy b none) (k : b.grownBy c (some g)) (hg : a.heap.size ≤ g) : a.grownBy c none :=
  ⟨k.os.trans h.os, k.tape.trans h.tape, k.output.trans h.output, Nat.le_trans h.size k.size, fun i hi _ => (k.block i (Nat.lt_of_lt_of_le hi h.size) (by simp; omega)).trans (h.block i hi (by simp))⟩
theorem lay_all {n : Nat} {ys : List Int} (h : ys.length = n) : lay (List.replicate n 0) 0 ys = ys := by
  simp [lay, h]

theorem read_yes {w : World} {b g ps pages : Nat} {zs : List Int} (hA : IsA w b g ps pages zs) (x n : Int) (ht : There ps zs.length x n) :
    Calls Try.prog 77 #[.pointer (some ⟨b, 0, none⟩), .int .i64 x, .int .i64 n] w fun e w' => e = .returned (.tuple #[.slice (some ⟨w.heap.size, 0, none⟩) n.toNat n.toNat, .int .i64 0]) ∧ w.grownBy w' none ∧
      w'.heap[w.heap.size]? = some (.cells (vals (cut zs x.toNat n.toNat)) 5 (0, 0)) := by
  have hbd := hA.bounds
  have hx : x.toNat + n.toNat ≤ zs.length := by obtain ⟨_, _, h3, _⟩ := ht; omega
  have hn0 : 0 ≤ n := ht.1
  obtain ⟨m, rfl⟩ := Int.eq_ofNat_of_zero_le hn0
  simp only [Int.toNat_natCast] at hx ⊢
  have hmk := run_make_bytes m (by omega)
  go_enter Try.func77, Try.ntmps77
  go_wp2_with fail
  refine (hA.part_yes x m ht).mono ?_
  rintro e w' ⟨⟨o, rfl, ho⟩, q, rfl⟩
  have hcp := run_copy (w := (w.drewN q).alloc (.cells (vals (List.replicate m 0)) 5)) (g := w.heap.size) (zs := List.replicate m 0) (x := 0) (o := 0) (cap := m) (c := zs.length - x.toNat) (heap_alloc_new (w.drewN q) _)
    (((hA.has ht ho).drewN q).alloc _) (fun _ => rfl) (by simp) 3
  simp only [Int.toNat_natCast] at hcp
  rw [lay_all (length_cut hx)] at hcp
  go_wp2
  go_ret2
  refine ⟨rfl, gb_mine (gb_alloc (gb_drewN (gb_refl _ _) q) _) (gb_setRow (gb_refl _ _) _) (Nat.le_refl _), ?_⟩
  exact setRow_heap _ _ _ _ _ _ (heap_alloc_new (w.drewN q) _)

theorem read_no {w : World} {b g ps pages : Nat} {zs : List Int} (hA : IsA w b g ps pages zs) (x n : Int) (hx : x ≤ 9223372036854775807) (ht : ¬ There ps zs.length x n) :
    Calls Try.prog 77 #[.pointer (some ⟨b, 0, none⟩), .int .i64 x, .int .i64 n] w fun e w' => e = .returned (.tuple #[.slice none 0 0, .int .i64 20]) ∧ w.grownBy w' none := by
  go_enter Try.func77, Try.ntmps77
  go_wp2_with (go_at_call 116; go_must (refine (hA.part_no x n (by omega) ht).mono ?_); rintro e w' ⟨rfl, q, rfl⟩)
  go_ret2
  exact ⟨rfl, gb_drewN (gb_refl _ _) _⟩

theorem lay_snoc {zs us : List Int} {x : Nat} (v : Int) (h : x + us.length < zs.length) : (lay zs x us).set (x + us.length) v = lay zs x (us ++ [v]) := by
  have e : zs.drop (x + us.length) = zs[x + us.length] :: zs.drop (x + us.length + 1) := List.drop_eq_getElem_cons h
  have hx : (zs.take x ++ us).length = x + us.length := by simp; omega
  unfold lay
  rw [e, List.set_append_right _ _ (by rw [hx]; exact Nat.le_refl _), hx]
  simp [Nat.add_assoc]

set_option maxHeartbeats 1000000 in
theorem fill_yes {w : World} {b g ps pages : Nat} {zs : List Int} (hA : IsA w b g ps pages zs) (x n v : Int) (hv : 0 ≤ v ∧ v < 256) (ht : There ps zs.length x n) :
    Calls Try.prog 82 #[.pointer (some ⟨b, 0, none⟩), .int .i64 x, .int .i64 n, .int .u8 v] w fun e w' => e = .returned (.int .i64 0) ∧ w.grownBy w' (some g) ∧ IsA w' b g ps pages (lay zs x.toNat (List.replicate n.toNat v)) := by
  have hbd := hA.bounds
  have hx : x.toNat + n.toNat ≤ zs.length := by obtain ⟨_, _, h3, _⟩ := ht; omega
  have hn0 : 0 ≤ n := ht.1
  obtain ⟨m, rfl⟩ := Int.eq_ofNat_of_zero_le hn0
  simp only [Int.toNat_natCast] at hx ⊢
  go_enter Try.func82, Try.ntmps82
  go_wp2_with fail
  refine (hA.part_yes x m ht).mono ?_
  rintro e w' ⟨⟨o, rfl, ho⟩, q, rfl⟩
  have ho' : 0 < m → o = x.toNat := fun h => ho (by omega)
  clear ho
  have HO : Hid (0 < m → o = x.toNat) := ho'
  clear ho'
  go_wp2
  go_loopw [23] (fun c wr => ∃ (i : Nat) (ys : List Int), i ≤ m ∧ c = .int .i64 i ∧ Hid (ys = lay zs x.toNat (List.replicate i v)) ∧ ys.length = zs.length ∧ wr.heap[g]? = some (.cells (vals ys) 5 (0, 0)) ∧ w.grownBy wr (some g)) (fun c _ => m - (intOf c).toNat)
  case atStart => exact ⟨0, zs, by omega, rfl, by show _ = _; simp [lay], rfl, hA.hg, gb_drewN (gb_refl _ _) _⟩
  case round =>
    obtain ⟨i, ys, hi, rfl, hys, hl, hgr, hfr⟩ := hrel
    by_cases hlt : i < m
    · have hoo : o = x.toNat := HO.out (by omega)
      subst hoo
      have hcell := cell_of_vals hgr (x.toNat + i) (by omega)
      have hfz := frozen_of_row wr g (x.toNat + i) _ _ hgr
      have HG : Hid (wr.heap[g]? = some (.cells (vals ys) 5 (0, 0))) := hgr
      have HY : Hid (ys.set (x.toNat + i) v = lay zs x.toNat (List.replicate (i + 1) v)) := by
        have e := hys.out
        have := lay_snoc (zs := zs) (us := List.replicate i v) (x := x.toNat) v (by simp; omega)
        rw [List.length_replicate] at this
        show _ = _
        rw [e, this, List.replicate_succ']
      clear hgr
      go_wp2
      go_roundw
      case rel => exact ⟨i + 1, ys.set (x.toNat + i) v, by omega, by go_num, HY, by simpa using hl, set_vals HG.out _ _, gb_setCell hfr _⟩
      case measure => first | (simp [intOf]; done) | (simp [intOf]; omega)
    · obtain rfl : i = m := by omega
      have HG : Hid (wr.heap[g]? = some (.cells (vals ys) 5 (0, 0))) := hgr
      clear hgr
      go_wp2
      go_ret
      have e := hys.out
      refine ⟨rfl, hfr, hA.turned hfr (by rw [← e]; exact HG.out) (length_lay (by simp; omega)) (isBytes_lay hA.hz ?_)⟩
      intro z hz
      have := List.eq_of_mem_replicate hz
      omega

theorem fill_no {w : World} {b g ps pages : Nat} {zs : List Int} (hA : IsA w b g ps pages zs) (x n v : Int) (hx : x ≤ 9223372036854775807) (ht : ¬ There ps zs.length x n) :
    Calls Try.prog 82 #[.pointer (some ⟨b, 0, none⟩), .int .i64 x, .int .i64 n, .int .u8 v] w fun e w' => e = .returned (.int .i64 20) ∧ w.grownBy w' none := by
  go_enter Try.func82, Try.ntmps82
  go_wp2_with (go_at_call 116; go_must (refine (hA.part_no x n (by omega) ht).mono ?_); rintro e w' ⟨rfl, q, rfl⟩)
  go_ret
  exact ⟨rfl, gb_drewN (gb_refl _ _) _⟩

end Go.Proofs.Ytoaaaeefcipdcaa
/-
  A row of bytes of the call's own, lengthened by append.
-/
namespace Go.Proofs.Ytoaaaeefcipdcaa
open Go.RowKit
set_option linter.unusedVariables false

/-- The slice (ao, length of us, cap) is a row of the call's own from block B on, and holds the bytes us. -/
def Own (B : Nat) (w : World) (ao : Option Addr) (cap : Nat) (us : List Int) : Prop := w.ownsRow B 5 1 (.slice ao us.length cap) us.length (us.map (Value.int .u8))

def blk (ao : Option Addr) : Option Nat := ao.map (·.block)
theorem ownBlock_blk (ao : Option Addr) (n c : Nat) : (Value.slice ao n c).ownBlock = blk ao := by cases ao <;> rfl

theorem Own.nil (B : Nat) (w : World) : Own B w none 0 [] := World.ownsRow_nil w B 5 1
theorem Own.has {B : Nat} {w : World} {ao : Option Addr} {cap : Nat} {us : List Int} (h : Own B w ao cap us) : Has w ao us.length us := by
  refine ⟨rfl, fun hn => ?_⟩
  rcases h.2 with ⟨_, h0⟩ | ⟨g, cap', cur, hv, _, hg, _⟩
  · omega
  · simp only [Value.slice.injEq] at hv
    obtain ⟨rfl, _, rfl⟩ := hv
    refine ⟨g, 0, rfl, fun i hi => ?_⟩
    have := h.cells (g := g) rfl i (.int .u8 (us.getD i 0)) (by simp [List.getD, hi])
    rw [Addr.add_mid] at this
    exact this
theorem Own.kept {B : Nat} {w w' : World} {ao : Option Addr} {cap : Nat} {us : List Int} (h : Own B w ao cap us) {row : Option Nat} (hf : w.grownBy w' row) (hne : blk ao = none ∨ blk ao ≠ row) : Own B w' ao cap us :=
  World.ownsRow.kept h hf (by rw [ownBlock_blk]; exact hne)
theorem Own.lt {B : Nat} {w : World} {ao : Option Addr} {cap : Nat} {us : List Int} (h : Own B w ao cap us) : ∀ k, blk ao = some k → B ≤ k ∧ k < w.heap.size := by
  intro k hk
  exact World.ownsRow.lt h k (by rw [ownBlock_blk]; exact hk)
theorem Own.nilcap {B : Nat} {w : World} {cap : Nat} {us : List Int} (h : Own B w none cap us) : cap = 0 ∧ us = [] := by
  rcases h.2 with ⟨h1, h2⟩ | ⟨g, c, cur, hv, _⟩
  · simp at h1 h2; exact ⟨h1.2, h2⟩
  · simp at hv

/-- What an append leaves: blocks below B are as they were. -/
theorem gb_far {a b c : World} {row : Option Nat} {B : Nat} (h : a.grownBy b none) (k : b.grownBy c row) (hr : ∀ i, row = some i → B ≤ i) (hB : a.heap.size ≤ B) : a.grownBy c none :=
  ⟨k.os.trans h.os, k.tape.trans h.tape, k.output.trans h.output, Nat.le_trans h.size k.size, fun i hi _ => (k.block i (Nat.lt_of_lt_of_le hi h.size) (fun e => by have := hr i e.symm; omega)).trans (h.block i hi (by simp))⟩
theorem far_ne {row : Option Nat} {B k : Nat} (hr : ∀ i, row = some i → B ≤ i) (hk : k < B) : some k ≠ row := fun e => by have := hr k e.symm; omega

section
variable {w : World} {ops : Array Oper} {rest : List Oper} {o : Oper} {a : Act} {Q : Exit → Act → World → Prop}

/-- append(l, b...): the bytes of whatever slice. -/
theorem wpList_more (hgd : o.guard = none) (s x : Operand) (ho : o.op = .call { callee := .builtin .append, args := #[s, x], argTypes := #[42, 42] }) (B : Nat) (ao : Option Addr) (cap : Nat) (us : List Int)
    (hs : a.eval s = .slice ao us.length cap) (hown : Own B w ao cap us) (ad : Option Addr) (n c : Nat) (ys : List Int) (hx : a.eval x = .slice ad n c) (hy : Has w ad n ys) (hc : ad = none → c = 0) (hlen : us.length + n ≤ 140737488355328) (hB : B ≤ w.heap.size)
    (h : ∀ ao' cap' w', Own B w' ao' cap' (us ++ ys) → w.grownBy w' (blk ao) → wpList Try.prog ops Q rest (a.put o.dst (.slice ao' (us.length + n) cap')) w') : wpList Try.prog ops Q (o :: rest) a w := by
  obtain ⟨i0, hi, hz0, hz1, hz2⟩ := info_parts Try.info5
  obtain ⟨hl, hcells⟩ := hy
  cases ad with
  | none =>
    have hn : n = 0 := by
      rcases Nat.eq_zero_or_pos n with h1 | h1
      · exact h1
      · obtain ⟨_, _, h2, _⟩ := hcells h1; cases h2
    subst hn
    obtain rfl : ys = [] := List.eq_nil_of_length_eq_zero hl
    have hc0 := hc rfl
    subst hc0
    refine wpList_append_own_none hgd s x 42 ho B 5 i0 1 Try.underlying42 hi _ _ _ hs hown hx ?_
    have := h ao cap w (by simpa using hown) (gb_refl _ _)
    simpa using this
  | some ad =>
    refine wpList_append_own w hgd s x 42 ho B 5 i0 (.int .u8 0) 1 1 Try.underlying42 hi hz0 hz1 hz2 rfl (by decide) _ _ _ hs hown ad n c (ys.map (Value.int .u8)) hx (by simpa using hl) ?_ ?_ ?_ ?_ hB ?_
    · intro j u hj
      have hjn : j < n := by
        have := (List.getElem?_eq_some_iff.1 hj).1
        simp at this; omega
      obtain ⟨bb, oo, e1, e2⟩ := hcells (by omega)
      cases e1
      rw [Addr.add_mid, e2 j hjn, ← hj]
      simp [List.getD, show j < ys.length by omega]
    · intro u hu
      obtain ⟨z, _, rfl⟩ := List.mem_map.1 hu
      rfl
    · unfold maxLen; omega
    · omega
    · intro v' w' hown' hgr _
      rcases hown'.2 with ⟨hv, hn0⟩ | ⟨g, cap', cur, hv, hb, hg, h1, h2, h3, h4⟩
      · subst hv
        have e0 : us = [] := List.eq_nil_of_length_eq_zero (by omega)
        have e1 : ys = [] := List.eq_nil_of_length_eq_zero (by omega)
        subst e0; subst e1
        have hn0' : n = 0 := by simpa using hl.symm
        subst hn0'
        rw [ownBlock_blk] at hgr
        exact h none 0 w' (Own.nil _ _) hgr
      · subst hv
        rw [ownBlock_blk] at hgr
        refine h (some ⟨g, 0, none⟩) cap' w' ?_ hgr
        unfold Own
        rw [List.length_append, hl, List.map_append]
        exact hown'

/-- append(l, z): one byte, laid in a block of its own first. -/
theorem wpList_push (hgd : o.guard = none) (s x : Operand) (ho : o.op = .call { callee := .builtin .append, args := #[s, x], argTypes := #[42, 42] }) (B : Nat) (ao : Option Addr) (cap : Nat) (us : List Int) (z : Int)
    (hs : a.eval s = .slice ao us.length cap) (hown : Own B w ao cap us) (hx : a.eval x = .slice (some ⟨w.heap.size, 0, none⟩) 1 1) (hlen : us.length + 1 ≤ 140737488355328) (hB : B ≤ w.heap.size)
    (h : ∀ ao' cap' w', Own B w' ao' cap' (us ++ [z]) → w.grownBy w' (blk ao) → wpList Try.prog ops Q rest (a.put o.dst (.slice ao' (us.length + 1) cap')) w') : wpList Try.prog ops Q (o :: rest) a (w.alloc (.cells #[.int .u8 z] 5)) := by
  refine wpList_more hgd s x ho B ao cap us hs (World.ownsRow.alloc hown _) _ 1 1 [z] hx ⟨rfl, fun _ => ⟨_, _, rfl, fun i hi => ?_⟩⟩ (by simp) hlen (by simp; omega) ?_
  · obtain rfl : i = 0 := by omega
    simp
  · intro ao' cap' w' h1 h2
    exact h ao' cap' w' h1 (gb_trans (World.grownBy_alloc _ _ _) h2)
end

end Go.Proofs.Ytoaaaeefcipdcaa
