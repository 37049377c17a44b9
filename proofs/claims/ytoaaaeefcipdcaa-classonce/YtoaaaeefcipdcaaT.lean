import Derived.Test.YtoaaaeefcipdcaaSa
import Derived.Test.YtoaaaeefcipdcaaMp
import Derived.Test.YtoaaaeefcipdcaaD
import Derived.ArgAppend
import Derived.OwnWalk
import Derived.Deep.AppendLies
/-
  Tools: boxes, what is kept, rows that append lengthens.
-/
namespace Go.Proofs.Ytoaaaeefcipdcaa
open Go.RowKit
set_option linter.unusedVariables false

/-- A variable of its own that holds the values vs. -/
def Box (w : World) (t : TypeId) (b : Nat) (vs : Array Value) : Prop := w.heap[b]? = some (.cells vs t (0, 0))
theorem Box.kept {w w' : World} {t : TypeId} {b : Nat} {vs : Array Value} (h : Box w t b vs) {row : Option Nat} (hf : w.grownBy w' row) (hn : some b ≠ row) : Box w' t b vs := by
  have hlt : b < w.heap.size := (Array.getElem?_eq_some_iff.1 h).1
  unfold Box
  rw [hf.block b hlt hn]
  exact h
theorem Box.cell {w : World} {t : TypeId} {b : Nat} {vs : Array Value} (h : Box w t b vs) (i : Nat) : w.cell? ⟨b, i, none⟩ = vs[i]? := cell_of_row w b i _ _ _ h
theorem Box.new (w : World) (t : TypeId) (vs : Array Value) : Box (w.alloc (.cells vs t)) t w.heap.size vs := heap_alloc_new w _
theorem Box.fz {w : World} {t : TypeId} {b : Nat} {vs : Array Value} (h : Box w t b vs) (i : Nat) : w.frozen? ⟨b, i, none⟩ = false := by simp [World.frozen?, show w.heap[b]? = _ from h]
theorem Box.lt {w : World} {t : TypeId} {b : Nat} {vs : Array Value} (h : Box w t b vs) : b < w.heap.size := (Array.getElem?_eq_some_iff.1 h).1
theorem Box.set {w : World} {t : TypeId} {b : Nat} {vs : Array Value} (h : Box w t b vs) (i : Nat) (v : Value) : Box (w.setCell ⟨b, i, none⟩ v) t b (vs.setIfInBounds i v) := heap_setCell_same w b i _ _ _ h

theorem gb_cellN {w w' : World} (hf : w.grownBy w' none) {x : Addr} {v : Value} (h : w.cell? x = some v) : w'.cell? x = some v := by
  have hlt := World.block_lt_of_cell? _ _ h
  have := hf.block x.block hlt (by simp)
  simpa [World.cell?, this] using h
theorem gb_cell {w w' : World} {row : Option Nat} (hf : w.grownBy w' row) {x : Addr} {v : Value} (h : w.cell? x = some v) (hn : some x.block ≠ row) : w'.cell? x = some v := by
  have hlt := World.block_lt_of_cell? _ _ h
  have := hf.block x.block hlt hn
  simpa [World.cell?, this] using h
theorem lt_of_block {w : World} {k : Nat} {o : Obj} (h : w.heap[k]? = some o) : k < w.heap.size := (Array.getElem?_eq_some_iff.1 h).1

/-- Blocks that lay there and are not of F are as they were. -/
structure Kp (F : Nat → Prop) (w w' : World) : Prop where
  os : w'.os = w.os
  tape : w'.tape = w.tape
  output : w'.output = w.output
  size : w.heap.size ≤ w'.heap.size
  block : ∀ k, k < w.heap.size → ¬ F k → w'.heap[k]? = w.heap[k]?
theorem Kp.refl (F : Nat → Prop) (w : World) : Kp F w w := ⟨rfl, rfl, rfl, Nat.le_refl _, fun _ _ _ => rfl⟩
theorem Kp.step {F : Nat → Prop} {w a b : World} (h : Kp F w a) {row : Option Nat} (k : a.grownBy b row) (hr : ∀ i, row = some i → F i ∨ w.heap.size ≤ i) : Kp F w b :=
  ⟨k.os.trans h.os, k.tape.trans h.tape, k.output.trans h.output, Nat.le_trans h.size k.size, fun i hi hF => (k.block i (Nat.lt_of_lt_of_le hi h.size) (fun e => by rcases hr i e.symm with h1 | h1; exact hF h1; omega)).trans (h.block i hi hF)⟩
theorem Kp.of {F : Nat → Prop} {w w' : World} (h : w.grownBy w' none) : Kp F w w' := (Kp.refl F w).step h (by simp)
theorem Kp.trans {F G H : Nat → Prop} {a b c : World} (h : Kp F a b) (k : Kp G b c) (hF : ∀ i, F i → H i) (hG : ∀ i, G i → H i ∨ a.heap.size ≤ i) : Kp H a c :=
  ⟨k.os.trans h.os, k.tape.trans h.tape, k.output.trans h.output, Nat.le_trans h.size k.size, fun i hi hn => (k.block i (Nat.lt_of_lt_of_le hi h.size) (fun e => by rcases hG i e with h1 | h1; exact hn h1; omega)).trans (h.block i hi (fun e => hn (hF i e)))⟩
theorem Kp.mono {F G : Nat → Prop} {a b : World} (h : Kp F a b) (hF : ∀ i, F i → G i ∨ a.heap.size ≤ i) : Kp G a b :=
  (Kp.refl G a).trans h (fun _ h => h) hF
/-- Nothing that lay there has turned. -/
theorem Kp.grown {F : Nat → Prop} {a b : World} (h : Kp F a b) (hF : ∀ i, F i → a.heap.size ≤ i) : a.grownBy b none :=
  ⟨h.os, h.tape, h.output, h.size, fun i hi _ => h.block i hi (fun e => by have := hF i e; omega)⟩
theorem Kp.box {F : Nat → Prop} {a b : World} (h : Kp F a b) {t : TypeId} {k : Nat} {vs : Array Value} (hb : Box a t k vs) (hn : ¬ F k) : Box b t k vs := by
  unfold Box; rw [h.block k hb.lt hn]; exact hb

theorem ne_of_type {w : World} {a b : Nat} {c1 c2 : Array Value} {t1 t2 : TypeId} {z1 z2 : Nat × Nat} (h1 : w.heap[a]? = some (.cells c1 t1 z1)) (h2 : w.heap[b]? = some (.cells c2 t2 z2)) (h : t1 ≠ t2) : a ≠ b := by
  intro e; subst e
  rw [h1] at h2
  injection h2 with h2
  injection h2 with _ h3 _
  exact h h3

theorem row_block {w : World} {B : Nat} {e : TypeId} {s : Nat} {v : Value} {n : Nat} {xs : List Value} (h : w.ownsRow B e s v n xs) : ∀ k, v.ownBlock = some k → ∃ cur, w.heap[k]? = some (.cells cur e (0, 0)) := by
  intro k hk
  rcases h.2 with ⟨rfl, rfl⟩ | ⟨g, c, cur, rfl, h2, h3, h4, h5, h6⟩
  · simp [Value.ownBlock] at hk
  · simp [Value.ownBlock] at hk; subst hk; exact ⟨cur, h3⟩
theorem row_cell {w : World} {B : Nat} {e : TypeId} {s : Nat} {g n c : Nat} {xs : List Value} (h : w.ownsRow B e s (.slice (some ⟨g, 0, none⟩) n c) n xs) (i : Nat) (u : Value) (hu : xs[i]? = some u) : w.cell? ⟨g, i, none⟩ = some u := by
  have := h.cells (g := g) rfl i u hu
  rw [Addr.add_mid, Nat.zero_add] at this
  exact this
theorem row_shape {w : World} {B : Nat} {e : TypeId} {s : Nat} {v : Value} {n : Nat} {xs : List Value} (h : w.ownsRow B e s v n xs) : ∃ ao c, v = .slice ao n c ∧ (ao = none → n = 0 ∧ c = 0) ∧ n ≤ c ∧ c ≤ maxLen ∧ (0 < n → ∃ g, ao = some ⟨g, 0, none⟩) := by
  rcases h.2 with ⟨rfl, rfl⟩ | ⟨g, c, cur, rfl, h2, h3, h4, h5, h6⟩
  · exact ⟨none, 0, rfl, fun _ => ⟨rfl, rfl⟩, Nat.le_refl _, by unfold maxLen; omega, fun h => by omega⟩
  · exact ⟨_, c, rfl, fun h => by simp at h, h4, h5, fun _ => ⟨g, rfl⟩⟩
theorem row_same {w w' : World} {B : Nat} {e : TypeId} {s : Nat} {v : Value} {n : Nat} {xs : List Value} (h1 : w.ownsRow B e s v n xs) (hf : ∀ k, v.ownBlock = some k → w'.heap[k]? = w.heap[k]?) : w'.ownsRow B e s v n xs := by
  refine ⟨h1.1, ?_⟩
  rcases h1.2 with h3 | ⟨g, c, cur, rfl, h4, h5, h6⟩
  · exact .inl h3
  · exact .inr ⟨g, c, cur, rfl, h4, by rw [hf g rfl]; exact h5, h6⟩
theorem row_kept {w w' : World} {B : Nat} {e : TypeId} {s : Nat} {v : Value} {n : Nat} {xs : List Value} (h1 : w.ownsRow B e s v n xs) {row : Option Nat} (hf : w.grownBy w' row) (hn : ∀ k, v.ownBlock = some k → some k ≠ row) : w'.ownsRow B e s v n xs :=
  row_same h1 fun k hk => by
    obtain ⟨cur, hc⟩ := row_block h1 k hk
    exact hf.block k (lt_of_block hc) (hn k hk)
theorem row_base {w : World} {B B' : Nat} {e : TypeId} {s : Nat} {v : Value} {n : Nat} {xs : List Value} (h : w.ownsRow B e s v n xs) (hB : B' ≤ B) : w.ownsRow B' e s v n xs := by
  refine ⟨h.1, ?_⟩
  rcases h.2 with h1 | ⟨g, c, cur, h1, h2, h3⟩
  · exact .inl h1
  · exact .inr ⟨g, c, cur, h1, Nat.le_trans hB h2, h3⟩
/-- The last elements are cut off. -/
theorem row_take {w : World} {B : Nat} {e : TypeId} {s g n c m : Nat} {xs : List Value} (h : w.ownsRow B e s (.slice (some ⟨g, 0, none⟩) n c) n xs) (hm : m ≤ n) : w.ownsRow B e s (.slice (some ⟨g, 0, none⟩) m c) m (xs.take (m * s)) := by
  have hms : m * s ≤ n * s := Nat.mul_le_mul_right s hm
  refine ⟨by rw [List.length_take, h.1]; omega, ?_⟩
  rcases h.2 with ⟨h1, _⟩ | ⟨g', c', cur, h1, h2, h3, h4, h5, h6, h7⟩
  · simp at h1
  · simp at h1
    obtain ⟨rfl, rfl⟩ := h1
    refine .inr ⟨g, c, cur, rfl, h2, h3, by omega, h5, h6, ?_⟩
    rw [← h7, List.take_take]
    congr 1; omega
/-- A cell of the row is another one. -/
theorem row_set {w : World} {B : Nat} {e : TypeId} {s g n c : Nat} {xs : List Value} (h : w.ownsRow B e s (.slice (some ⟨g, 0, none⟩) n c) n xs) (i : Nat) (v : Value) : (w.setCell ⟨g, i, none⟩ v).ownsRow B e s (.slice (some ⟨g, 0, none⟩) n c) n (xs.set i v) := by
  refine ⟨by simpa using h.1, ?_⟩
  rcases h.2 with ⟨h1, _⟩ | ⟨g', c', cur, h1, h2, h3, h4, h5, h6, h7⟩
  · simp at h1
  · simp at h1
    obtain ⟨rfl, rfl⟩ := h1
    refine .inr ⟨g, c, _, rfl, h2, heap_setCell_same w g i _ _ _ h3, h4, h5, by simpa using h6, ?_⟩
    rw [← h7]
    simp [List.take_set]

section
variable {P : Program} {w : World} {ops : Array Oper} {rest : List Oper} {o : Oper} {a : Act} {Q : Exit → Act → World → Prop}

/-- append(l, x): one element, laid in a block of its own first. -/
theorem wpList_pushN (hgd : o.guard = none) (s x : Operand) (t : TypeId) (ho : o.op = .call { callee := .builtin .append, args := #[s, x], argTypes := #[t, t] }) (e : TypeId) (i : TypeInfo) (z : Value) (size bytes : Nat)
    (ht : P.underlying t = some (.slice e)) (hi : P.info? e = some i) (hz : i.zero = some z) (hsize : i.size = size) (hby : i.bytes = bytes) (hzs : z.cells.size = size) (hsz : 0 < size) (hb : bytes ≤ 1000)
    (B : Nat) (v : Value) (n : Nat) (xs : List Value) (hs : a.eval s = v) (hown : w.ownsRow B e size v n xs) (us : List Value) (hul : us.length = size) (hu : ∀ u ∈ us, u.oneCell' = true) (hx : a.eval x = .slice (some ⟨w.heap.size, 0, none⟩) 1 1) (hn : n ≤ 100000000000) (hB : B ≤ w.heap.size)
    (h : ∀ g cap w', w'.ownsRow B e size (.slice (some ⟨g, 0, none⟩) (n + 1) cap) (n + 1) (xs ++ us) → w.grownBy w' v.ownBlock → (v.ownBlock = some g ∨ w.heap.size ≤ g) → wpList P ops Q rest (a.put o.dst (.slice (some ⟨g, 0, none⟩) (n + 1) cap)) w') : wpList P ops Q (o :: rest) a (w.alloc (.cells us.toArray e)) := by
  refine wpList_plain hgd fun K hK => ?_
  have hbb : (n + 1) * bytes ≤ 140737488355328 := Nat.le_trans (Nat.mul_le_mul (Nat.succ_le_succ hn) hb) (by omega)
  refine wp_append_lies _ s x t ho B e i z size bytes ht hi hz hsize hby hzs hsz v n xs hs (World.ownsRow.alloc hown _) ⟨w.heap.size, 0, none⟩ 1 1 us hx (by omega) ?_ hu (by omega) (by unfold maxLen; omega) hbb (by simp; omega) (w.heap.size + 1) (by simp) ?_
  · exact World.news_of_block (cs := us.toArray) (t := e) (fr := (0, 0)) (heap_alloc_new w _)
  · intro g cap w' h1 h2 h3 h4
    refine hK _ _ (h g cap w' h1 (gb_trans (World.grownBy_alloc w _ _) h2) ?_)
    rcases h3 with h3 | h3
    · exact .inl h3
    · exact .inr (by omega)
end

theorem Try.info3 : (Try.prog.info? 3).map (fun i => (i.zero, i.size, i.bytes)) = some (some (.int .i64 0), 1, 8) := by kernel_rfl
section
variable {w : World} {ops : Array Oper} {rest : List Oper} {o : Oper} {a : Act} {Q : Exit → Act → World → Prop}
theorem push3 (hgd : o.guard = none) (s x : Operand) (ho : o.op = .call { callee := .builtin .append, args := #[s, x], argTypes := #[46, 46] })
    (B : Nat) (v : Value) (n : Nat) (xs : List Value) (hs : a.eval s = v) (hown : w.ownsRow B 3 1 v n xs) (u : Int) (hx : a.eval x = .slice (some ⟨w.heap.size, 0, none⟩) 1 1) (hn : n ≤ 100000000000) (hB : B ≤ w.heap.size)
    (h : ∀ g cap w', w'.ownsRow B 3 1 (.slice (some ⟨g, 0, none⟩) (n + 1) cap) (n + 1) (xs ++ [.int .i64 u]) → w.grownBy w' v.ownBlock → (v.ownBlock = some g ∨ w.heap.size ≤ g) → wpList Try.prog ops Q rest (a.put o.dst (.slice (some ⟨g, 0, none⟩) (n + 1) cap)) w') : wpList Try.prog ops Q (o :: rest) a (w.alloc (.cells #[.int .i64 u] 3)) := by
  obtain ⟨i0, hi, hz0, hz1, hz2⟩ := info_parts Try.info3
  exact wpList_pushN hgd s x 46 ho 3 i0 _ 1 8 Try.underlying46 hi hz0 hz1 hz2 rfl (by omega) (by omega) B v n xs hs hown [.int .i64 u] rfl (by simp [Value.oneCell']) hx hn hB h
end

end Go.Proofs.Ytoaaaeefcipdcaa
