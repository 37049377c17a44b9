/-
  Memory: what is kept, bytes in slices, rows of the call's own.
-/
import Derived.Test.YtphhofbdekbggaaB
import Derived.Laws.Rows
import Derived.Laws.BytesArg
import Derived.Laws.AppendOwnNone
import Derived.ArgAppend
import Derived.OwnWalk
import Derived.Deep.AppendLies
import Derived.Deep.MidRow
import Derived.Deep.RegionHeld3
namespace Go.Proofs.Ytphhofbdekbggaa
open Go.RowKit
set_option linter.unusedVariables false

/-- The bytes laid, as values. -/
def vals (zs : List Int) : Array Value := (zs.map (Value.int .u8)).toArray
theorem vals_get (zs : List Int) (i : Nat) (h : i < zs.length) : (vals zs)[i]? = some (.int .u8 (zs.getD i 0)) := by
  simp [vals, List.getD, h]
theorem cell_of_vals {w : World} {g : Nat} {zs : List Int} (h : w.heap[g]? = some (.cells (vals zs) 5 (0, 0))) (i : Nat) (hi : i < zs.length) : w.cell? ⟨g, i, none⟩ = some (.int .u8 (zs.getD i 0)) := by
  rw [cell_of_row w g i _ _ _ h]; exact vals_get zs i hi
theorem set_vals {w : World} {g : Nat} {zs : List Int} (h : w.heap[g]? = some (.cells (vals zs) 5 (0, 0))) (i : Nat) (v : Int) : (w.setCell ⟨g, i, none⟩ (.int .u8 v)).heap[g]? = some (.cells (vals (zs.set i v)) 5 (0, 0)) := by
  rw [heap_setCell_same w g i _ _ _ h]
  simp [vals]
theorem gb_refl (w : World) (row : Option Nat) : w.grownBy w row := ⟨rfl, rfl, rfl, Nat.le_refl _, fun _ _ _ => rfl⟩
theorem gb_trans {a b c : World} {row : Option Nat} (h : a.grownBy b row) (k : b.grownBy c row) : a.grownBy c row :=
  ⟨k.os.trans h.os, k.tape.trans h.tape, k.output.trans h.output, Nat.le_trans h.size k.size, fun i hi hn => (k.block i (Nat.lt_of_lt_of_le hi h.size) hn).trans (h.block i hi hn)⟩
theorem gb_drewN {a b : World} {row : Option Nat} (h : a.grownBy b row) (n : Nat) : a.grownBy (b.drewN n) row := ⟨h.os, h.tape, h.output, h.size, h.block⟩
theorem gb_drew {a b : World} {row : Option Nat} (h : a.grownBy b row) : a.grownBy b.drew row := ⟨h.os, h.tape, h.output, h.size, h.block⟩
theorem gb_none {a b : World} (row : Option Nat) (h : a.grownBy b none) : a.grownBy b row := ⟨h.os, h.tape, h.output, h.size, fun i hi _ => h.block i hi (by simp)⟩
theorem gb_setCell {a b : World} {g i : Nat} (h : a.grownBy b (some g)) (v : Value) : a.grownBy (b.setCell ⟨g, i, none⟩ v) (some g) :=
  ⟨h.os, h.tape, h.output, by simpa using h.size, fun k hk hn => by
    rw [heap_setCell_other _ _ _ _ (by intro e; exact hn (by rw [e]))]; exact h.block k hk hn⟩
theorem gb_alloc {a b : World} {row : Option Nat} (h : a.grownBy b row) (o : Obj) : a.grownBy (b.alloc o) row :=
  gb_trans h (World.grownBy_alloc b o row)
theorem getD_mem {zs : List Int} {i : Nat} (h : i < zs.length) : zs.getD i 0 ∈ zs := by
  rw [List.getD_eq_getElem?_getD, List.getElem?_eq_getElem h]
  exact List.getElem_mem _
def isBytes (xs : List Int) : Prop := ∀ z ∈ xs, 0 ≤ z ∧ z < 256
/-- The slice (a, n, c) holds the bytes xs in this world. -/
def Has (w : World) (a : Option Addr) (n : Nat) (xs : List Int) : Prop :=
  xs.length = n ∧ (0 < n → ∃ b o, a = some ⟨b, o, none⟩ ∧ ∀ i, i < n → w.cell? ⟨b, o + i, none⟩ = some (.int .u8 (xs.getD i 0)))
theorem conv_zero {P : Program} (w : World) (src e : TypeId) (hs : P.underlying src = some (.slice e)) (he : P.underlying e = some (.int .u8)) (a : Option Addr) (c : Nat) (dst : TypeId) (hd : P.underlying dst = some .string) :
    (convert src dst (.slice a 0 c)).run P w = .ok (.string (strOfNums [])) w := by
  cases a with
  | none => exact run_convert_bytes_nil w src e hs he 0 c dst hd
  | some a =>
    rw [run_convert_bytes_string w src dst e _ 0 c hs he hd]
    simp [Conv.bytesToString, loadCells, loadCellsFrom]
    rfl
theorem Has.conv {w : World} {a : Option Addr} {n : Nat} {xs : List Int} (h : Has w a n xs) (c : Nat) : (convert 45 9 (.slice a n c)).run Try.prog w = .ok (.string (strOfNums xs)) w := by
  obtain ⟨hl, hc⟩ := h
  rcases Nat.eq_zero_or_pos n with hn | hn
  · subst hn
    obtain rfl : xs = [] := List.eq_nil_of_length_eq_zero hl
    exact conv_zero w 45 5 Try.underlying45 Try.underlying5 a c 9 Try.underlying9
  · obtain ⟨b, o, rfl, hcc⟩ := hc hn
    exact run_convert_bytes_arg (P := Try.prog) w 45 5 Try.underlying45 Try.underlying5 b o n c xs hl hcc 9 Try.underlying9
theorem map_inj : ∀ {xs ys : List Int}, isBytes xs → isBytes ys → (xs.map fun n => UInt8.ofNat n.toNat) = (ys.map fun n => UInt8.ofNat n.toNat) → xs = ys
  | [], [], _, _, _ => rfl
  | [], _ :: _, _, _, h => by simp at h
  | _ :: _, [], _, _, h => by simp at h
  | x :: xs, y :: ys, hx, hy, h => by
    simp only [List.map_cons, List.cons.injEq] at h
    have a := hx x (by simp)
    have c := hy y (by simp)
    have e : (UInt8.ofNat x.toNat).toNat = (UInt8.ofNat y.toNat).toNat := by rw [h.1]
    simp only [UInt8.toNat_ofNat'] at e
    have e1 : x = y := by omega
    rw [e1, map_inj (fun z hz => hx z (by simp [hz])) (fun z hz => hy z (by simp [hz])) h.2]
theorem str_inj {xs ys : List Int} (hx : isBytes xs) (hy : isBytes ys) : ((strOfNums xs).toList == (strOfNums ys).toList) = decide (xs = ys) := by
  rw [ByteArray.toList_eq, ByteArray.toList_eq, strOfNums_data, strOfNums_data]
  by_cases h : xs = ys
  · subst h; simp
  · have : ¬ (xs.map fun n => UInt8.ofNat n.toNat) = (ys.map fun n => UInt8.ofNat n.toNat) := fun e => h (map_inj hx hy e)
    simp only [h, decide_false]
    exact beq_eq_false_iff_ne.2 this
theorem Has.drewN {w : World} {a : Option Addr} {n : Nat} {xs : List Int} (h : Has w a n xs) (q : Nat) : Has (w.drewN q) a n xs := h
/-- A part of an arena's bytes. -/
def cut (zs : List Int) (x n : Nat) : List Int := (zs.drop x).take n
theorem length_cut {zs : List Int} {x n : Nat} (h : x + n ≤ zs.length) : (cut zs x n).length = n := by simp [cut]; omega
theorem getD_cut {zs : List Int} {x n i : Nat} (h : i < n) : (cut zs x n).getD i 0 = zs.getD (x + i) 0 := by
  simp [cut, h, List.getElem?_drop]
theorem isBytes_cut {zs : List Int} (h : isBytes zs) (x n : Nat) : isBytes (cut zs x n) := fun z hz => h z (List.mem_of_mem_drop (List.mem_of_mem_take hz))
theorem gb_setRow {a b : World} {g : Nat} (h : a.grownBy b (some g)) (cs : Array Value) : a.grownBy (b.setRow g cs) (some g) :=
  ⟨h.os, h.tape, h.output, by simpa using h.size, fun k hk hn => by
    rw [setRow_other b g k cs (by intro e; exact hn (by rw [e]))]; exact h.block k hk hn⟩
theorem Has.alloc {w : World} {a : Option Addr} {n : Nat} {xs : List Int} (h : Has w a n xs) (o : Obj) : Has (w.alloc o) a n xs := by
  refine ⟨h.1, fun hn => ?_⟩
  obtain ⟨b, o', e1, e2⟩ := h.2 hn
  refine ⟨b, o', e1, fun i hi => ?_⟩
  have := e2 i hi
  rw [World.cell?_alloc_lt _ _ _ (World.block_lt_of_cell? _ _ this)]
  exact this
theorem gb_mine {a b c : World} {g : Nat} (h : a.grownBy b none) (k : b.grownBy c (some g)) (hg : a.heap.size ≤ g) : a.grownBy c none :=
  ⟨k.os.trans h.os, k.tape.trans h.tape, k.output.trans h.output, Nat.le_trans h.size k.size, fun i hi _ => (k.block i (Nat.lt_of_lt_of_le hi h.size) (by simp; omega)).trans (h.block i hi (by simp))⟩
theorem Try.info5 : (Try.prog.info? 5).map (fun i => (i.zero, i.size, i.bytes)) = some (some (.int .u8 0), 1, 1) := by kernel_rfl
theorem made_zeros (N : Nat) : madeCells (Value.int .u8 0).cells N = vals (List.replicate N 0) := by
  apply Array.ext'
  apply List.ext_getElem?
  intro i
  by_cases h : i < N <;> simp [madeCells, Value.cells, vals, h, Nat.mod_one]
/-- The slice (ao, length of us, cap) is a row of the call's own from block B on, and holds the bytes us. -/
def Own (B : Nat) (w : World) (ao : Option Addr) (cap : Nat) (us : List Int) : Prop := w.ownsRow B 5 1 (.slice ao us.length cap) us.length (us.map (Value.int .u8))
def blk (ao : Option Addr) : Option Nat := ao.map (·.block)
theorem ownBlock_blk (ao : Option Addr) (n c : Nat) : (Value.slice ao n c).ownBlock = blk ao := by cases ao <;> rfl
theorem Own.nil (B : Nat) (w : World) : Own B w none 0 [] := World.ownsRow_nil w B 5 1
theorem Own.has {B : Nat} {w : World} {ao : Option Addr} {cap : Nat} {us : List Int} (h : Own B w ao cap us) : Has w ao us.length us := by
  refine ⟨rfl, fun hn => ?_⟩
  rcases h.2 with ⟨_, h0⟩ | ⟨g, cap', cur, hv, _, hg, _⟩
  · omega
  · simp only [Value.slice.injEq] at hv
    obtain ⟨rfl, _, rfl⟩ := hv
    refine ⟨g, 0, rfl, fun i hi => ?_⟩
    have := h.cells (g := g) rfl i (.int .u8 (us.getD i 0)) (by simp [List.getD, hi])
    rw [Addr.add_mid] at this
    exact this
theorem Own.kept {B : Nat} {w w' : World} {ao : Option Addr} {cap : Nat} {us : List Int} (h : Own B w ao cap us) {row : Option Nat} (hf : w.grownBy w' row) (hne : blk ao = none ∨ blk ao ≠ row) : Own B w' ao cap us :=
  World.ownsRow.kept h hf (by rw [ownBlock_blk]; exact hne)
theorem Own.lt {B : Nat} {w : World} {ao : Option Addr} {cap : Nat} {us : List Int} (h : Own B w ao cap us) : ∀ k, blk ao = some k → B ≤ k ∧ k < w.heap.size := by
  intro k hk
  exact World.ownsRow.lt h k (by rw [ownBlock_blk]; exact hk)
theorem Own.nilcap {B : Nat} {w : World} {cap : Nat} {us : List Int} (h : Own B w none cap us) : cap = 0 ∧ us = [] := by
  rcases h.2 with ⟨h1, h2⟩ | ⟨g, c, cur, hv, _⟩
  · simp at h1 h2; exact ⟨h1.2, h2⟩
  · simp at hv
/-- What an append leaves: blocks below B are as they were. -/
theorem gb_far {a b c : World} {row : Option Nat} {B : Nat} (h : a.grownBy b none) (k : b.grownBy c row) (hr : ∀ i, row = some i → B ≤ i) (hB : a.heap.size ≤ B) : a.grownBy c none :=
  ⟨k.os.trans h.os, k.tape.trans h.tape, k.output.trans h.output, Nat.le_trans h.size k.size, fun i hi _ => (k.block i (Nat.lt_of_lt_of_le hi h.size) (fun e => by have := hr i e.symm; omega)).trans (h.block i hi (by simp))⟩
theorem far_ne {row : Option Nat} {B k : Nat} (hr : ∀ i, row = some i → B ≤ i) (hk : k < B) : some k ≠ row := fun e => by have := hr k e.symm; omega
section
variable {w : World} {ops : Array Oper} {rest : List Oper} {o : Oper} {a : Act} {Q : Exit → Act → World → Prop}
/-- append(l, b...): the bytes of whatever slice. -/
theorem wpList_more (hgd : o.guard = none) (s x : Operand) (ho : o.op = .call { callee := .builtin .append, args := #[s, x], argTypes := #[45, 45] }) (B : Nat) (ao : Option Addr) (cap : Nat) (us : List Int)
    (hs : a.eval s = .slice ao us.length cap) (hown : Own B w ao cap us) (ad : Option Addr) (n c : Nat) (ys : List Int) (hx : a.eval x = .slice ad n c) (hy : Has w ad n ys) (hc : ad = none → c = 0) (hlen : us.length + n ≤ 140737488355328) (hB : B ≤ w.heap.size)
    (h : ∀ ao' cap' w', Own B w' ao' cap' (us ++ ys) → w.grownBy w' (blk ao) → wpList Try.prog ops Q rest (a.put o.dst (.slice ao' (us.length + n) cap')) w') : wpList Try.prog ops Q (o :: rest) a w := by
  obtain ⟨i0, hi, hz0, hz1, hz2⟩ := info_parts Try.info5
  obtain ⟨hl, hcells⟩ := hy
  cases ad with
  | none =>
    have hn : n = 0 := by
      rcases Nat.eq_zero_or_pos n with h1 | h1
      · exact h1
      · obtain ⟨_, _, h2, _⟩ := hcells h1; cases h2
    subst hn
    obtain rfl : ys = [] := List.eq_nil_of_length_eq_zero hl
    have hc0 := hc rfl
    subst hc0
    refine wpList_append_own_none hgd s x 45 ho B 5 i0 1 Try.underlying45 hi _ _ _ hs hown hx ?_
    have := h ao cap w (by simpa using hown) (gb_refl _ _)
    simpa using this
  | some ad =>
    refine wpList_append_own w hgd s x 45 ho B 5 i0 (.int .u8 0) 1 1 Try.underlying45 hi hz0 hz1 hz2 rfl (by decide) _ _ _ hs hown ad n c (ys.map (Value.int .u8)) hx (by simpa using hl) ?_ ?_ ?_ ?_ hB ?_
    · intro j u hj
      have hjn : j < n := by
        have := (List.getElem?_eq_some_iff.1 hj).1
        simp at this; omega
      obtain ⟨bb, oo, e1, e2⟩ := hcells (by omega)
      cases e1
      rw [Addr.add_mid, e2 j hjn, ← hj]
      simp [List.getD, show j < ys.length by omega]
    · intro u hu
      obtain ⟨z, _, rfl⟩ := List.mem_map.1 hu
      rfl
    · unfold maxLen; omega
    · omega
    · intro v' w' hown' hgr _
      rcases hown'.2 with ⟨hv, hn0⟩ | ⟨g, cap', cur, hv, hb, hg, h1, h2, h3, h4⟩
      · subst hv
        have e0 : us = [] := List.eq_nil_of_length_eq_zero (by omega)
        have e1 : ys = [] := List.eq_nil_of_length_eq_zero (by omega)
        subst e0; subst e1
        have hn0' : n = 0 := by simpa using hl.symm
        subst hn0'
        rw [ownBlock_blk] at hgr
        exact h none 0 w' (Own.nil _ _) hgr
      · subst hv
        rw [ownBlock_blk] at hgr
        refine h (some ⟨g, 0, none⟩) cap' w' ?_ hgr
        unfold Own
        rw [List.length_append, hl, List.map_append]
        exact hown'
/-- append(l, z): one byte, laid in a block of its own first. -/
theorem wpList_push (hgd : o.guard = none) (s x : Operand) (ho : o.op = .call { callee := .builtin .append, args := #[s, x], argTypes := #[45, 45] }) (B : Nat) (ao : Option Addr) (cap : Nat) (us : List Int) (z : Int)
    (hs : a.eval s = .slice ao us.length cap) (hown : Own B w ao cap us) (hx : a.eval x = .slice (some ⟨w.heap.size, 0, none⟩) 1 1) (hlen : us.length + 1 ≤ 140737488355328) (hB : B ≤ w.heap.size)
    (h : ∀ ao' cap' w', Own B w' ao' cap' (us ++ [z]) → w.grownBy w' (blk ao) → wpList Try.prog ops Q rest (a.put o.dst (.slice ao' (us.length + 1) cap')) w') : wpList Try.prog ops Q (o :: rest) a (w.alloc (.cells #[.int .u8 z] 5)) := by
  refine wpList_more hgd s x ho B ao cap us hs (World.ownsRow.alloc hown _) _ 1 1 [z] hx ⟨rfl, fun _ => ⟨_, _, rfl, fun i hi => ?_⟩⟩ (by simp) hlen (by simp; omega) ?_
  · obtain rfl : i = 0 := by omega
    simp
  · intro ao' cap' w' h1 h2
    exact h ao' cap' w' h1 (gb_trans (World.grownBy_alloc _ _ _) h2)
end
/-- A variable of its own that holds the values vs. -/
def Box (w : World) (t : TypeId) (b : Nat) (vs : Array Value) : Prop := w.heap[b]? = some (.cells vs t (0, 0))
theorem Box.kept {w w' : World} {t : TypeId} {b : Nat} {vs : Array Value} (h : Box w t b vs) {row : Option Nat} (hf : w.grownBy w' row) (hn : some b ≠ row) : Box w' t b vs := by
  have hlt : b < w.heap.size := (Array.getElem?_eq_some_iff.1 h).1
  unfold Box
  rw [hf.block b hlt hn]
  exact h
theorem Box.cell {w : World} {t : TypeId} {b : Nat} {vs : Array Value} (h : Box w t b vs) (i : Nat) : w.cell? ⟨b, i, none⟩ = vs[i]? := cell_of_row w b i _ _ _ h
theorem Box.new (w : World) (t : TypeId) (vs : Array Value) : Box (w.alloc (.cells vs t)) t w.heap.size vs := heap_alloc_new w _
theorem Box.fz {w : World} {t : TypeId} {b : Nat} {vs : Array Value} (h : Box w t b vs) (i : Nat) : w.frozen? ⟨b, i, none⟩ = false := by simp [World.frozen?, show w.heap[b]? = _ from h]
theorem Box.lt {w : World} {t : TypeId} {b : Nat} {vs : Array Value} (h : Box w t b vs) : b < w.heap.size := (Array.getElem?_eq_some_iff.1 h).1
theorem Box.set {w : World} {t : TypeId} {b : Nat} {vs : Array Value} (h : Box w t b vs) (i : Nat) (v : Value) : Box (w.setCell ⟨b, i, none⟩ v) t b (vs.setIfInBounds i v) := heap_setCell_same w b i _ _ _ h
theorem gb_cellN {w w' : World} (hf : w.grownBy w' none) {x : Addr} {v : Value} (h : w.cell? x = some v) : w'.cell? x = some v := by
  have hlt := World.block_lt_of_cell? _ _ h
  have := hf.block x.block hlt (by simp)
  simpa [World.cell?, this] using h
theorem gb_cell {w w' : World} {row : Option Nat} (hf : w.grownBy w' row) {x : Addr} {v : Value} (h : w.cell? x = some v) (hn : some x.block ≠ row) : w'.cell? x = some v := by
  have hlt := World.block_lt_of_cell? _ _ h
  have := hf.block x.block hlt hn
  simpa [World.cell?, this] using h
theorem lt_of_block {w : World} {k : Nat} {o : Obj} (h : w.heap[k]? = some o) : k < w.heap.size := (Array.getElem?_eq_some_iff.1 h).1
theorem row_block {w : World} {B : Nat} {e : TypeId} {s : Nat} {v : Value} {n : Nat} {xs : List Value} (h : w.ownsRow B e s v n xs) : ∀ k, v.ownBlock = some k → ∃ cur, w.heap[k]? = some (.cells cur e (0, 0)) := by
  intro k hk
  rcases h.2 with ⟨rfl, rfl⟩ | ⟨g, c, cur, rfl, h2, h3, h4, h5, h6⟩
  · simp [Value.ownBlock] at hk
  · simp [Value.ownBlock] at hk; subst hk; exact ⟨cur, h3⟩
theorem row_cell {w : World} {B : Nat} {e : TypeId} {s : Nat} {g n c : Nat} {xs : List Value} (h : w.ownsRow B e s (.slice (some ⟨g, 0, none⟩) n c) n xs) (i : Nat) (u : Value) (hu : xs[i]? = some u) : w.cell? ⟨g, i, none⟩ = some u := by
  have := h.cells (g := g) rfl i u hu
  rw [Addr.add_mid, Nat.zero_add] at this
  exact this
theorem row_shape {w : World} {B : Nat} {e : TypeId} {s : Nat} {v : Value} {n : Nat} {xs : List Value} (h : w.ownsRow B e s v n xs) : ∃ ao c, v = .slice ao n c ∧ (ao = none → n = 0 ∧ c = 0) ∧ n ≤ c ∧ c ≤ maxLen ∧ (0 < n → ∃ g, ao = some ⟨g, 0, none⟩) := by
  rcases h.2 with ⟨rfl, rfl⟩ | ⟨g, c, cur, rfl, h2, h3, h4, h5, h6⟩
  · exact ⟨none, 0, rfl, fun _ => ⟨rfl, rfl⟩, Nat.le_refl _, by unfold maxLen; omega, fun h => by omega⟩
  · exact ⟨_, c, rfl, fun h => by simp at h, h4, h5, fun _ => ⟨g, rfl⟩⟩
theorem row_same {w w' : World} {B : Nat} {e : TypeId} {s : Nat} {v : Value} {n : Nat} {xs : List Value} (h1 : w.ownsRow B e s v n xs) (hf : ∀ k, v.ownBlock = some k → w'.heap[k]? = w.heap[k]?) : w'.ownsRow B e s v n xs := by
  refine ⟨h1.1, ?_⟩
  rcases h1.2 with h3 | ⟨g, c, cur, rfl, h4, h5, h6⟩
  · exact .inl h3
  · exact .inr ⟨g, c, cur, rfl, h4, by rw [hf g rfl]; exact h5, h6⟩
theorem row_kept {w w' : World} {B : Nat} {e : TypeId} {s : Nat} {v : Value} {n : Nat} {xs : List Value} (h1 : w.ownsRow B e s v n xs) {row : Option Nat} (hf : w.grownBy w' row) (hn : ∀ k, v.ownBlock = some k → some k ≠ row) : w'.ownsRow B e s v n xs :=
  row_same h1 fun k hk => by
    obtain ⟨cur, hc⟩ := row_block h1 k hk
    exact hf.block k (lt_of_block hc) (hn k hk)
theorem row_base {w : World} {B B' : Nat} {e : TypeId} {s : Nat} {v : Value} {n : Nat} {xs : List Value} (h : w.ownsRow B e s v n xs) (hB : B' ≤ B) : w.ownsRow B' e s v n xs := by
  refine ⟨h.1, ?_⟩
  rcases h.2 with h1 | ⟨g, c, cur, h1, h2, h3⟩
  · exact .inl h1
  · exact .inr ⟨g, c, cur, h1, Nat.le_trans hB h2, h3⟩
/-- The last elements are cut off. -/
theorem row_take {w : World} {B : Nat} {e : TypeId} {s g n c m : Nat} {xs : List Value} (h : w.ownsRow B e s (.slice (some ⟨g, 0, none⟩) n c) n xs) (hm : m ≤ n) : w.ownsRow B e s (.slice (some ⟨g, 0, none⟩) m c) m (xs.take (m * s)) := by
  have hms : m * s ≤ n * s := Nat.mul_le_mul_right s hm
  refine ⟨by rw [List.length_take, h.1]; omega, ?_⟩
  rcases h.2 with ⟨h1, _⟩ | ⟨g', c', cur, h1, h2, h3, h4, h5, h6, h7⟩
  · simp at h1
  · simp at h1
    obtain ⟨rfl, rfl⟩ := h1
    refine .inr ⟨g, c, cur, rfl, h2, h3, by omega, h5, h6, ?_⟩
    rw [← h7, List.take_take]
    congr 1; omega
/-- A cell of the row is another one. -/
theorem row_set {w : World} {B : Nat} {e : TypeId} {s g n c : Nat} {xs : List Value} (h : w.ownsRow B e s (.slice (some ⟨g, 0, none⟩) n c) n xs) (i : Nat) (v : Value) : (w.setCell ⟨g, i, none⟩ v).ownsRow B e s (.slice (some ⟨g, 0, none⟩) n c) n (xs.set i v) := by
  refine ⟨by simpa using h.1, ?_⟩
  rcases h.2 with ⟨h1, _⟩ | ⟨g', c', cur, h1, h2, h3, h4, h5, h6, h7⟩
  · simp at h1
  · simp at h1
    obtain ⟨rfl, rfl⟩ := h1
    refine .inr ⟨g, c, _, rfl, h2, heap_setCell_same w g i _ _ _ h3, h4, h5, by simpa using h6, ?_⟩
    rw [← h7]
    simp [List.take_set]
section
variable {P : Program} {w : World} {ops : Array Oper} {rest : List Oper} {o : Oper} {a : Act} {Q : Exit → Act → World → Prop}
/-- append(l, x): one element, laid in a block of its own first. -/
theorem wpList_pushN (hgd : o.guard = none) (s x : Operand) (t : TypeId) (ho : o.op = .call { callee := .builtin .append, args := #[s, x], argTypes := #[t, t] }) (e : TypeId) (i : TypeInfo) (z : Value) (size bytes : Nat)
    (ht : P.underlying t = some (.slice e)) (hi : P.info? e = some i) (hz : i.zero = some z) (hsize : i.size = size) (hby : i.bytes = bytes) (hzs : z.cells.size = size) (hsz : 0 < size) (hb : bytes ≤ 1000)
    (B : Nat) (v : Value) (n : Nat) (xs : List Value) (hs : a.eval s = v) (hown : w.ownsRow B e size v n xs) (us : List Value) (hul : us.length = size) (hu : ∀ u ∈ us, u.oneCell' = true) (hx : a.eval x = .slice (some ⟨w.heap.size, 0, none⟩) 1 1) (hn : n ≤ 100000000000) (hB : B ≤ w.heap.size)
    (h : ∀ g cap w', w'.ownsRow B e size (.slice (some ⟨g, 0, none⟩) (n + 1) cap) (n + 1) (xs ++ us) → w.grownBy w' v.ownBlock → (v.ownBlock = some g ∨ w.heap.size ≤ g) → wpList P ops Q rest (a.put o.dst (.slice (some ⟨g, 0, none⟩) (n + 1) cap)) w') : wpList P ops Q (o :: rest) a (w.alloc (.cells us.toArray e)) := by
  refine wpList_plain hgd fun K hK => ?_
  have hbb : (n + 1) * bytes ≤ 140737488355328 := Nat.le_trans (Nat.mul_le_mul (Nat.succ_le_succ hn) hb) (by omega)
  refine wp_append_lies _ s x t ho B e i z size bytes ht hi hz hsize hby hzs hsz v n xs hs (World.ownsRow.alloc hown _) ⟨w.heap.size, 0, none⟩ 1 1 us hx (by omega) ?_ hu (by omega) (by unfold maxLen; omega) hbb (by simp; omega) (w.heap.size + 1) (by simp) ?_
  · exact World.news_of_block (cs := us.toArray) (t := e) (fr := (0, 0)) (heap_alloc_new w _)
  · intro g cap w' h1 h2 h3 h4
    refine hK _ _ (h g cap w' h1 (gb_trans (World.grownBy_alloc w _ _) h2) ?_)
    rcases h3 with h3 | h3
    · exact .inl h3
    · exact .inr (by omega)
end
theorem run_make_room (N : Nat) (h : N ≤ 281474976710656) (w : World) : (Instr.makeSlice 45 (.int .i64 0) (.int .i64 N)).run Try.prog w = .ok (.slice (some ⟨w.heap.size, 0, none⟩) 0 N) (w.alloc (.cells (vals (List.replicate N 0)) 5)) := by
  obtain ⟨i0, hi, hz0, hz1, hz2⟩ := info_parts Try.info5
  have := run_make (P := Try.prog) w 45 5 i0 (.int .u8 0) Try.underlying45 hi hz0 .i64 .i64 0 N (by omega) (by omega) (by rw [hz2]; omega) (by omega)
  rw [this, hz1]
  simp [made_zeros]
theorem Own.made (B : Nat) (w : World) (N : Nat) (hB : B ≤ w.heap.size) (hN : N ≤ 281474976710656) : Own B (w.alloc (.cells (vals (List.replicate N 0)) 5)) (some ⟨w.heap.size, 0, none⟩) N [] :=
  World.ownsRow_made w _ N hB (by unfold maxLen; omega) (by simp [vals])
theorem Own.shape {B : Nat} {w : World} {ao : Option Addr} {cap : Nat} {us : List Int} (h : Own B w ao cap us) (hn : 0 < us.length) : ∃ g, ao = some ⟨g, 0, none⟩ ∧ B ≤ g ∧ us.length ≤ cap ∧ cap ≤ maxLen := by
  rcases h.2 with ⟨h1, h2⟩ | ⟨g, c, cur, h1, h2, h3, h4, h5, h6⟩
  · omega
  · simp only [Value.slice.injEq] at h1
    obtain ⟨rfl, _, rfl⟩ := h1
    exact ⟨g, rfl, h2, h4, h5⟩
/-- A part of what a slice holds. -/
theorem Has.piece {w : World} {g n : Nat} {ys : List Int} (h : Has w (some ⟨g, 0, none⟩) n ys) (x k o : Nat) (hx : x + k ≤ n) (ho : 0 < k → o = x) : Has w (some ⟨g, o, none⟩) k (cut ys x k) := by
  refine ⟨length_cut (by rw [h.1]; exact hx), fun hk => ⟨g, o, rfl, fun i hi => ?_⟩⟩
  obtain ⟨b', o', e1, e2⟩ := h.2 (by omega)
  cases e1
  rw [getD_cut hi, ho hk]
  have := e2 (x + i) (by omega)
  rw [Nat.zero_add] at this
  exact this
def marksTo (k : Nat) : List Int := (List.range k).map fun (i : Nat) => 165 - (i : Int)
theorem marksTo_succ (k : Nat) : marksTo (k + 1) = marksTo k ++ [165 - (k : Int)] := by simp [marksTo, List.range_succ]
theorem length_marksTo (k : Nat) : (marksTo k).length = k := by simp [marksTo]
theorem getD_marksTo (k i : Nat) (h : i < k) : (marksTo k).getD i 0 = 165 - (i : Int) := by simp [marksTo, List.getD, h]
theorem getD_right {xs ys : List Int} {i : Nat} : (xs ++ ys).getD (xs.length + i) 0 = ys.getD i 0 := by
  simp [List.getD, List.getElem?_append_right]
theorem Has.kept0 {w w' : World} {a : Option Addr} {n : Nat} {xs : List Int} (h : Has w a n xs) (hf : w.grownBy w' none) : Has w' a n xs :=
  ⟨h.1, fun hn => by
    obtain ⟨b, o, e, hc⟩ := h.2 hn
    exact ⟨b, o, e, fun i hi => gb_cellN hf (hc i hi)⟩⟩

end Go.Proofs.Ytphhofbdekbggaa
