import Derived.Test.YtndjimdegkdljaaProg
import Derived.RowKit
import Derived.KernelRfl
import Derived.WalkKit
import Derived.WalkSpells
import Derived.WalkLawsBesides
import Derived.Deep.QuietTactic
import Derived.BigQuiet
import Derived.Laws.Rows
import Derived.Laws.AppendOwnNone
import Derived.ArgAppend
import Derived.OwnWalk
import Derived.Deep.AppendLies
import Derived.Deep.MidRow
import Derived.Deep.RegionHeld3
import Derived.Maps.OwnOps
import Derived.Maps.OwnSet
import Derived.MapKept
import Derived.Maps.RangeRun
import Derived.Lib.Hide
/-
  Memory: what is kept, rows of the call's own, boxes; heaps with a gap, as functions.
-/
namespace Go.Proofs.Ytndjimdegkdljaa
open Go.RowKit
set_option linter.unusedVariables false
set_option linter.unusedSimpArgs false

theorem gb_refl (w : World) (row : Option Nat) : w.grownBy w row := ⟨rfl, rfl, rfl, Nat.le_refl _, fun _ _ _ => rfl⟩
theorem gb_trans {a b c : World} {row : Option Nat} (h : a.grownBy b row) (k : b.grownBy c row) : a.grownBy c row :=
  ⟨k.os.trans h.os, k.tape.trans h.tape, k.output.trans h.output, Nat.le_trans h.size k.size, fun i hi hn => (k.block i (Nat.lt_of_lt_of_le hi h.size) hn).trans (h.block i hi hn)⟩
theorem gb_drewN {a b : World} {row : Option Nat} (h : a.grownBy b row) (n : Nat) : a.grownBy (b.drewN n) row := ⟨h.os, h.tape, h.output, h.size, h.block⟩
theorem gb_drew {a b : World} {row : Option Nat} (h : a.grownBy b row) : a.grownBy b.drew row := ⟨h.os, h.tape, h.output, h.size, h.block⟩
theorem gb_none {a b : World} (row : Option Nat) (h : a.grownBy b none) : a.grownBy b row := ⟨h.os, h.tape, h.output, h.size, fun i hi _ => h.block i hi (by simp)⟩
theorem gb_setCell {a b : World} {g i : Nat} (h : a.grownBy b (some g)) (v : Value) : a.grownBy (b.setCell ⟨g, i, none⟩ v) (some g) :=
  ⟨h.os, h.tape, h.output, by simpa using h.size, fun k hk hn => by
    rw [heap_setCell_other _ _ _ _ (by intro e; exact hn (by rw [e]))]; exact h.block k hk hn⟩
theorem gb_alloc {a b : World} {row : Option Nat} (h : a.grownBy b row) (o : Obj) : a.grownBy (b.alloc o) row :=
  gb_trans h (World.grownBy_alloc b o row)
theorem gb_setRow {a b : World} {g : Nat} (h : a.grownBy b (some g)) (cs : Array Value) : a.grownBy (b.setRow g cs) (some g) :=
  ⟨h.os, h.tape, h.output, by simpa using h.size, fun k hk hn => by
    rw [setRow_other b g k cs (by intro e; exact hn (by rw [e]))]; exact h.block k hk hn⟩
theorem gb_mine {a b c : World} {g : Nat} (h : a.grownBy b none) (k : b.grownBy c (some g)) (hg : a.heap.size ≤ g) : a.grownBy c none :=
  ⟨k.os.trans h.os, k.tape.trans h.tape, k.output.trans h.output, Nat.le_trans h.size k.size, fun i hi _ => (k.block i (Nat.lt_of_lt_of_le hi h.size) (by simp; omega)).trans (h.block i hi (by simp))⟩
theorem gb_far {a b c : World} {row : Option Nat} {B : Nat} (h : a.grownBy b none) (k : b.grownBy c row) (hr : ∀ i, row = some i → B ≤ i) (hB : a.heap.size ≤ B) : a.grownBy c none :=
  ⟨k.os.trans h.os, k.tape.trans h.tape, k.output.trans h.output, Nat.le_trans h.size k.size, fun i hi _ => (k.block i (Nat.lt_of_lt_of_le hi h.size) (fun e => by have := hr i e.symm; omega)).trans (h.block i hi (by simp))⟩
theorem far_ne {row : Option Nat} {B k : Nat} (hr : ∀ i, row = some i → B ≤ i) (hk : k < B) : some k ≠ row := fun e => by have := hr k e.symm; omega

/-- A variable of its own that holds the values vs. -/
def Box (w : World) (t : TypeId) (b : Nat) (vs : Array Value) : Prop := w.heap[b]? = some (.cells vs t (0, 0))
theorem Box.kept {w w' : World} {t : TypeId} {b : Nat} {vs : Array Value} (h : Box w t b vs) {row : Option Nat} (hf : w.grownBy w' row) (hn : some b ≠ row) : Box w' t b vs := by
  have hlt : b < w.heap.size := (Array.getElem?_eq_some_iff.1 h).1
  unfold Box
  rw [hf.block b hlt hn]
  exact h
theorem Box.cell {w : World} {t : TypeId} {b : Nat} {vs : Array Value} (h : Box w t b vs) (i : Nat) : w.cell? ⟨b, i, none⟩ = vs[i]? := cell_of_row w b i _ _ _ h
theorem Box.new (w : World) (t : TypeId) (vs : Array Value) : Box (w.alloc (.cells vs t)) t w.heap.size vs := heap_alloc_new w _
theorem Box.fz {w : World} {t : TypeId} {b : Nat} {vs : Array Value} (h : Box w t b vs) (i : Nat) : w.frozen? ⟨b, i, none⟩ = false := by simp [World.frozen?, show w.heap[b]? = _ from h]
theorem Box.lt {w : World} {t : TypeId} {b : Nat} {vs : Array Value} (h : Box w t b vs) : b < w.heap.size := (Array.getElem?_eq_some_iff.1 h).1
theorem Box.set {w : World} {t : TypeId} {b : Nat} {vs : Array Value} (h : Box w t b vs) (i : Nat) (v : Value) : Box (w.setCell ⟨b, i, none⟩ v) t b (vs.setIfInBounds i v) := heap_setCell_same w b i _ _ _ h

theorem gb_cellN {w w' : World} (hf : w.grownBy w' none) {x : Addr} {v : Value} (h : w.cell? x = some v) : w'.cell? x = some v := by
  have hlt := World.block_lt_of_cell? _ _ h
  have := hf.block x.block hlt (by simp)
  simpa [World.cell?, this] using h
theorem gb_cell {w w' : World} {row : Option Nat} (hf : w.grownBy w' row) {x : Addr} {v : Value} (h : w.cell? x = some v) (hn : some x.block ≠ row) : w'.cell? x = some v := by
  have hlt := World.block_lt_of_cell? _ _ h
  have := hf.block x.block hlt hn
  simpa [World.cell?, this] using h
theorem lt_of_block {w : World} {k : Nat} {o : Obj} (h : w.heap[k]? = some o) : k < w.heap.size := (Array.getElem?_eq_some_iff.1 h).1

/-- Blocks that lay there and are not of F are as they were. -/
structure Kp (F : Nat → Prop) (w w' : World) : Prop where
  os : w'.os = w.os
  tape : w'.tape = w.tape
  output : w'.output = w.output
  size : w.heap.size ≤ w'.heap.size
  block : ∀ k, k < w.heap.size → ¬ F k → w'.heap[k]? = w.heap[k]?
theorem Kp.refl (F : Nat → Prop) (w : World) : Kp F w w := ⟨rfl, rfl, rfl, Nat.le_refl _, fun _ _ _ => rfl⟩
theorem Kp.step {F : Nat → Prop} {w a b : World} (h : Kp F w a) {row : Option Nat} (k : a.grownBy b row) (hr : ∀ i, row = some i → F i ∨ w.heap.size ≤ i) : Kp F w b :=
  ⟨k.os.trans h.os, k.tape.trans h.tape, k.output.trans h.output, Nat.le_trans h.size k.size, fun i hi hF => (k.block i (Nat.lt_of_lt_of_le hi h.size) (fun e => by rcases hr i e.symm with h1 | h1; exact hF h1; omega)).trans (h.block i hi hF)⟩
theorem Kp.of {F : Nat → Prop} {w w' : World} (h : w.grownBy w' none) : Kp F w w' := (Kp.refl F w).step h (by simp)
theorem Kp.trans {F G H : Nat → Prop} {a b c : World} (h : Kp F a b) (k : Kp G b c) (hF : ∀ i, F i → H i) (hG : ∀ i, G i → H i ∨ a.heap.size ≤ i) : Kp H a c :=
  ⟨k.os.trans h.os, k.tape.trans h.tape, k.output.trans h.output, Nat.le_trans h.size k.size, fun i hi hn => (k.block i (Nat.lt_of_lt_of_le hi h.size) (fun e => by rcases hG i e with h1 | h1; exact hn h1; omega)).trans (h.block i hi (fun e => hn (hF i e)))⟩
theorem Kp.mono {F G : Nat → Prop} {a b : World} (h : Kp F a b) (hF : ∀ i, F i → G i ∨ a.heap.size ≤ i) : Kp G a b :=
  (Kp.refl G a).trans h (fun _ h => h) hF
/-- Nothing that lay there has turned. -/
theorem Kp.grown {F : Nat → Prop} {a b : World} (h : Kp F a b) (hF : ∀ i, F i → a.heap.size ≤ i) : a.grownBy b none :=
  ⟨h.os, h.tape, h.output, h.size, fun i hi _ => h.block i hi (fun e => by have := hF i e; omega)⟩
theorem Kp.box {F : Nat → Prop} {a b : World} (h : Kp F a b) {t : TypeId} {k : Nat} {vs : Array Value} (hb : Box a t k vs) (hn : ¬ F k) : Box b t k vs := by
  unfold Box; rw [h.block k hb.lt hn]; exact hb

theorem ne_of_type {w : World} {a b : Nat} {c1 c2 : Array Value} {t1 t2 : TypeId} {z1 z2 : Nat × Nat} (h1 : w.heap[a]? = some (.cells c1 t1 z1)) (h2 : w.heap[b]? = some (.cells c2 t2 z2)) (h : t1 ≠ t2) : a ≠ b := by
  intro e; subst e
  rw [h1] at h2
  injection h2 with h2
  injection h2 with _ h3 _
  exact h h3

theorem row_block {w : World} {B : Nat} {e : TypeId} {s : Nat} {v : Value} {n : Nat} {xs : List Value} (h : w.ownsRow B e s v n xs) : ∀ k, v.ownBlock = some k → ∃ cur, w.heap[k]? = some (.cells cur e (0, 0)) := by
  intro k hk
  rcases h.2 with ⟨rfl, rfl⟩ | ⟨g, c, cur, rfl, h2, h3, h4, h5, h6⟩
  · simp [Value.ownBlock] at hk
  · simp [Value.ownBlock] at hk; subst hk; exact ⟨cur, h3⟩
theorem row_cell {w : World} {B : Nat} {e : TypeId} {s : Nat} {g n c : Nat} {xs : List Value} (h : w.ownsRow B e s (.slice (some ⟨g, 0, none⟩) n c) n xs) (i : Nat) (u : Value) (hu : xs[i]? = some u) : w.cell? ⟨g, i, none⟩ = some u := by
  have := h.cells (g := g) rfl i u hu
  rw [Addr.add_mid, Nat.zero_add] at this
  exact this
theorem row_shape {w : World} {B : Nat} {e : TypeId} {s : Nat} {v : Value} {n : Nat} {xs : List Value} (h : w.ownsRow B e s v n xs) : ∃ ao c, v = .slice ao n c ∧ (ao = none → n = 0 ∧ c = 0) ∧ n ≤ c ∧ c ≤ maxLen ∧ (0 < n → ∃ g, ao = some ⟨g, 0, none⟩) := by
  rcases h.2 with ⟨rfl, rfl⟩ | ⟨g, c, cur, rfl, h2, h3, h4, h5, h6⟩
  · exact ⟨none, 0, rfl, fun _ => ⟨rfl, rfl⟩, Nat.le_refl _, by unfold maxLen; omega, fun h => by omega⟩
  · exact ⟨_, c, rfl, fun h => by simp at h, h4, h5, fun _ => ⟨g, rfl⟩⟩
theorem row_same {w w' : World} {B : Nat} {e : TypeId} {s : Nat} {v : Value} {n : Nat} {xs : List Value} (h1 : w.ownsRow B e s v n xs) (hf : ∀ k, v.ownBlock = some k → w'.heap[k]? = w.heap[k]?) : w'.ownsRow B e s v n xs := by
  refine ⟨h1.1, ?_⟩
  rcases h1.2 with h3 | ⟨g, c, cur, rfl, h4, h5, h6⟩
  · exact .inl h3
  · exact .inr ⟨g, c, cur, rfl, h4, by rw [hf g rfl]; exact h5, h6⟩
theorem row_kept {w w' : World} {B : Nat} {e : TypeId} {s : Nat} {v : Value} {n : Nat} {xs : List Value} (h1 : w.ownsRow B e s v n xs) {row : Option Nat} (hf : w.grownBy w' row) (hn : ∀ k, v.ownBlock = some k → some k ≠ row) : w'.ownsRow B e s v n xs :=
  row_same h1 fun k hk => by
    obtain ⟨cur, hc⟩ := row_block h1 k hk
    exact hf.block k (lt_of_block hc) (hn k hk)
theorem row_base {w : World} {B B' : Nat} {e : TypeId} {s : Nat} {v : Value} {n : Nat} {xs : List Value} (h : w.ownsRow B e s v n xs) (hB : B' ≤ B) : w.ownsRow B' e s v n xs := by
  refine ⟨h.1, ?_⟩
  rcases h.2 with h1 | ⟨g, c, cur, h1, h2, h3⟩
  · exact .inl h1
  · exact .inr ⟨g, c, cur, h1, Nat.le_trans hB h2, h3⟩
/-- The last elements are cut off. -/
theorem row_take {w : World} {B : Nat} {e : TypeId} {s g n c m : Nat} {xs : List Value} (h : w.ownsRow B e s (.slice (some ⟨g, 0, none⟩) n c) n xs) (hm : m ≤ n) : w.ownsRow B e s (.slice (some ⟨g, 0, none⟩) m c) m (xs.take (m * s)) := by
  have hms : m * s ≤ n * s := Nat.mul_le_mul_right s hm
  refine ⟨by rw [List.length_take, h.1]; omega, ?_⟩
  rcases h.2 with ⟨h1, _⟩ | ⟨g', c', cur, h1, h2, h3, h4, h5, h6, h7⟩
  · simp at h1
  · simp at h1
    obtain ⟨rfl, rfl⟩ := h1
    refine .inr ⟨g, c, cur, rfl, h2, h3, by omega, h5, h6, ?_⟩
    rw [← h7, List.take_take]
    congr 1; omega
/-- A cell of the row is another one. -/
theorem row_set {w : World} {B : Nat} {e : TypeId} {s g n c : Nat} {xs : List Value} (h : w.ownsRow B e s (.slice (some ⟨g, 0, none⟩) n c) n xs) (i : Nat) (v : Value) : (w.setCell ⟨g, i, none⟩ v).ownsRow B e s (.slice (some ⟨g, 0, none⟩) n c) n (xs.set i v) := by
  refine ⟨by simpa using h.1, ?_⟩
  rcases h.2 with ⟨h1, _⟩ | ⟨g', c', cur, h1, h2, h3, h4, h5, h6, h7⟩
  · simp at h1
  · simp at h1
    obtain ⟨rfl, rfl⟩ := h1
    refine .inr ⟨g, c, _, rfl, h2, heap_setCell_same w g i _ _ _ h3, h4, h5, by simpa using h6, ?_⟩
    rw [← h7]
    simp [List.take_set]

section
variable {P : Program} {w : World} {ops : Array Oper} {rest : List Oper} {o : Oper} {a : Act} {Q : Exit → Act → World → Prop}

/-- append(l, x): one element, laid in a block of its own first. -/
theorem wpList_pushN (hgd : o.guard = none) (s x : Operand) (t : TypeId) (ho : o.op = .call { callee := .builtin .append, args := #[s, x], argTypes := #[t, t] }) (e : TypeId) (i : TypeInfo) (z : Value) (size bytes : Nat)
    (ht : P.underlying t = some (.slice e)) (hi : P.info? e = some i) (hz : i.zero = some z) (hsize : i.size = size) (hby : i.bytes = bytes) (hzs : z.cells.size = size) (hsz : 0 < size) (hb : bytes ≤ 1000)
    (B : Nat) (v : Value) (n : Nat) (xs : List Value) (hs : a.eval s = v) (hown : w.ownsRow B e size v n xs) (us : List Value) (hul : us.length = size) (hu : ∀ u ∈ us, u.oneCell' = true) (hx : a.eval x = .slice (some ⟨w.heap.size, 0, none⟩) 1 1) (hn : n ≤ 100000000000) (hB : B ≤ w.heap.size)
    (h : ∀ g cap w', w'.ownsRow B e size (.slice (some ⟨g, 0, none⟩) (n + 1) cap) (n + 1) (xs ++ us) → w.grownBy w' v.ownBlock → (v.ownBlock = some g ∨ w.heap.size ≤ g) → wpList P ops Q rest (a.put o.dst (.slice (some ⟨g, 0, none⟩) (n + 1) cap)) w') : wpList P ops Q (o :: rest) a (w.alloc (.cells us.toArray e)) := by
  refine wpList_plain hgd fun K hK => ?_
  have hbb : (n + 1) * bytes ≤ 140737488355328 := Nat.le_trans (Nat.mul_le_mul (Nat.succ_le_succ hn) hb) (by omega)
  refine wp_append_lies _ s x t ho B e i z size bytes ht hi hz hsize hby hzs hsz v n xs hs (World.ownsRow.alloc hown _) ⟨w.heap.size, 0, none⟩ 1 1 us hx (by omega) ?_ hu (by omega) (by unfold maxLen; omega) hbb (by simp; omega) (w.heap.size + 1) (by simp) ?_
  · exact World.news_of_block (cs := us.toArray) (t := e) (fr := (0, 0)) (heap_alloc_new w _)
  · intro g cap w' h1 h2 h3 h4
    refine hK _ _ (h g cap w' h1 (gb_trans (World.grownBy_alloc w _ _) h2) ?_)
    rcases h3 with h3 | h3
    · exact .inl h3
    · exact .inr (by omega)
end


/-! Rows of elements of several cells. -/
def rng (n : Nat) (f : Nat → List Value) : List Value := (List.range n).flatMap f
theorem rng_zero (f : Nat → List Value) : rng 0 f = [] := rfl
theorem rng_succ (n : Nat) (f : Nat → List Value) : rng (n + 1) f = rng n f ++ f n := by simp [rng, List.range_succ]
theorem rng_len {f : Nat → List Value} {s : Nat} (h : ∀ i, (f i).length = s) : ∀ n, (rng n f).length = n * s
  | 0 => by simp [rng]
  | n + 1 => by rw [rng_succ, List.length_append, rng_len h n, h, Nat.add_mul, Nat.one_mul]
theorem rng_get {f : Nat → List Value} {s : Nat} (h : ∀ i, (f i).length = s) : ∀ {n i j : Nat}, i < n → j < s → (rng n f)[i * s + j]? = (f i)[j]?
  | 0, _, _, hi, _ => by omega
  | n + 1, i, j, hi, hj => by
    rw [rng_succ]
    rcases Nat.lt_or_ge i n with h1 | h1
    · have hms : (i + 1) * s ≤ n * s := Nat.mul_le_mul_right s h1
      rw [Nat.add_mul, Nat.one_mul] at hms
      rw [List.getElem?_append_left (by rw [rng_len h]; omega)]
      exact rng_get h h1 hj
    · have : i = n := by omega
      subst this
      rw [List.getElem?_append_right (by rw [rng_len h]; omega), rng_len h]
      congr 1; omega
theorem rng_congr {f g : Nat → List Value} : ∀ {n : Nat}, (∀ i, i < n → f i = g i) → rng n f = rng n g
  | 0, _ => rfl
  | n + 1, h => by rw [rng_succ, rng_succ, rng_congr (fun i hi => h i (by omega)), h n (by omega)]
theorem rng_set {f g : Nat → List Value} {s : Nat} (h : ∀ i, (f i).length = s) {i j : Nat} (hj : j < s) (v : Value) (hg : ∀ k, k ≠ i → g k = f k) (hi : g i = (f i).set j v) : ∀ {n : Nat}, i < n → (rng n f).set (i * s + j) v = rng n g
  | 0, hn => by omega
  | n + 1, hn => by
    rw [rng_succ, rng_succ]
    rcases Nat.lt_or_ge i n with h1 | h1
    · have hms : (i + 1) * s ≤ n * s := Nat.mul_le_mul_right s h1
      rw [Nat.add_mul, Nat.one_mul] at hms
      rw [List.set_append_left _ _ (by rw [rng_len h]; omega), rng_set h hj v hg hi h1, hg n (by omega)]
    · have : i = n := by omega
      subst this
      rw [List.set_append_right _ _ (by rw [rng_len h]; omega), rng_len h, hi]
      congr 1
      · exact rng_congr fun k hk => (hg k (by omega)).symm
      · congr 1; omega


/-! Heaps. -/
def upd {α : Type} (f : Nat → α) (i : Nat) (v : α) : Nat → α := fun j => if j = i then v else f j
theorem upd_same {α : Type} (f : Nat → α) (i : Nat) (v : α) : upd f i v i = v := by simp [upd]
theorem upd_other {α : Type} (f : Nat → α) {i j : Nat} (v : α) (h : j ≠ i) : upd f i v j = f j := by simp [upd, h]
theorem upd_upd {α : Type} (f : Nat → α) (i : Nat) (u v : α) : upd (upd f i u) i v = upd f i v := by funext j; simp only [upd]; split <;> rfl
end Go.Proofs.Ytndjimdegkdljaa
/-
  Rows of rows, whatever their elements: what append leaves, lists kept beside copies, lists that are grown.
-/
namespace Go.Proofs.Ytndjimdegkdljaa
open Go.RowKit
set_option linter.unusedVariables false
set_option linter.unusedSimpArgs false

/-- The type sl of rows whose elements, of type el, have sz cells. -/
structure Ty (sl el : TypeId) (ti : TypeInfo) (zv : Value) (sz bs : Nat) : Prop where
  u : Try.prog.underlying sl = some (.slice el)
  i : Try.prog.info? el = some ti
  z : ti.zero = some zv
  s : ti.size = sz
  b : ti.bytes = bs
  zs : zv.cells.size = sz
  pos : 0 < sz
  le : bs ≤ 1000

theorem some_ne2 {a b : Nat} (h : a ≠ b) : some a ≠ some b := fun e => h (Option.some.inj e)
theorem row_ge {w : World} {B : Nat} {e : TypeId} {s : Nat} {v : Value} {n : Nat} {xs : List Value} (h : w.ownsRow B e s v n xs) {j : Nat} (hj : v.ownBlock = some j) : B ≤ j ∧ j < w.heap.size := World.ownsRow.lt h j hj
theorem gb_of_kp {w a b : World} {G : Nat → Prop} (h : w.grownBy a none) (k : Kp G a b) (hG : ∀ j, G j → w.heap.size ≤ j) : w.grownBy b none :=
  (((Kp.of (F := fun _ => False) h).trans k (fun _ h => h) (fun j hj => .inr (hG j hj)))).grown (fun _ h => h.elim)

/-- What append of m elements leaves of a row's value v. -/
def Psh (w w' : World) (v : Value) (n m : Nat) (v' : Value) : Prop :=
  (∃ g cap, v = .slice (some ⟨g, 0, none⟩) n cap ∧ n + m ≤ cap ∧ v' = .slice (some ⟨g, 0, none⟩) (n + m) cap ∧ w.grownBy w' (some g)) ∨
  (∃ g cap, v' = .slice (some ⟨g, 0, none⟩) (n + m) cap ∧ w.heap.size ≤ g ∧ w.grownBy w' none)

theorem psh_trans {w w1 w' : World} {v v' : Value} {n m : Nat} (h1 : ∀ r, w.grownBy w1 r) (h : Psh w1 w' v n m v') : Psh w w' v n m v' := by
  rcases h with ⟨g, cap, a1, a2, a3, a4⟩ | ⟨g, cap, a1, a2, a3⟩
  · exact .inl ⟨g, cap, a1, a2, a3, gb_trans (h1 _) a4⟩
  · exact .inr ⟨g, cap, a1, Nat.le_trans (h1 none).size a2, gb_trans (h1 _) a3⟩
/-- Only the row's own block turns. -/
theorem Psh.gb {w w' : World} {v v' : Value} {n m : Nat} (h : Psh w w' v n m v') : w.grownBy w' v.ownBlock := by
  rcases h with ⟨g, cap, rfl, _, _, h⟩ | ⟨g, cap, _, _, h⟩
  · exact h
  · exact gb_none _ h
theorem Psh.at' {w w' : World} {v v' : Value} {n m g : Nat} (h : Psh w w' v n m v') (hg : v'.ownBlock = some g) : v.ownBlock = some g ∨ w.heap.size ≤ g := by
  rcases h with ⟨g1, cap, rfl, _, rfl, _⟩ | ⟨g1, cap, rfl, h1, _⟩
  · exact .inl (by simpa [Value.ownBlock] using hg)
  · simp [Value.ownBlock] at hg; exact .inr (by omega)
theorem mul_bd {n bs : Nat} (hn : n ≤ 100000000000) (hb : bs ≤ 1000) : n * bs ≤ 140737488355328 := Nat.le_trans (Nat.mul_le_mul hn hb) (by omega)

section
variable {sl el : TypeId} {ti : TypeInfo} {z : Value} {sz bs : Nat}
theorem run_psh (T : Ty sl el ti z sz bs) (w : World) (ty : TypeId) (v : Value) (n : Nat) (xs : List Value) (hown : w.ownsRow 0 el sz v n xs) (ad : Addr) (m c : Nat) (news : List Value) (hl : news.length = m * sz) (hnews : ∀ j u, news[j]? = some u → w.cell? (ad.add j) = some u) (h1 : ∀ u ∈ news, u.oneCell' = true) (hm : 0 < m) (hn : n + m ≤ 1000000000) :
    ∃ v' w', (Builtin.append_ #[sl, sl] ty #[v, .slice (some ad) m c]).run Try.prog w = .ok v' w' ∧ w'.ownsRow 0 el sz v' (n + m) (xs ++ news) ∧ Psh w w' v n m v' := by
  have hbd : (n + m) * bs ≤ 140737488355328 := mul_bd (by omega) T.le
  rcases hown.2 with ⟨rfl, h0⟩ | ⟨g, cap, cur, rfl, h2, h3, h4, h5, h6, h7⟩
  · subst h0
    obtain ⟨g, cap, w', hr, a1, a2, a3, _⟩ := run_append_lies (P := Try.prog) w sl ty 0 el ti _ sz bs T.u T.i T.z T.s T.b T.zs T.pos _ 0 xs hown ad m c news hl hnews h1 hm (by unfold maxLen; omega) hbd (Nat.zero_le _) _ rfl
    refine ⟨_, w', hr, a1, .inr ⟨g, cap, rfl, ?_, a2⟩⟩
    rcases a3 with a3 | a3
    · simp [Value.ownBlock] at a3
    · omega
  · by_cases hf : n + m ≤ cap
    · obtain ⟨w', hr, a1, a2⟩ := run_append_fits (P := Try.prog) w 0 sl ty el ti sz T.u T.i T.s g n cap xs hown ad m c news hl hnews h1 hf
      exact ⟨_, w', hr, a1, .inl ⟨g, cap, rfl, hf, rfl, a2⟩⟩
    · obtain ⟨v', w', hr, a1, a2⟩ := run_append_arg_grows (P := Try.prog) w sl ty el ti _ sz bs T.u T.i T.z T.s T.b T.zs T.pos ⟨g, 0, none⟩ n cap xs hown.1 (fun j u hj => hown.cells rfl j u hj) ad m c news hl hnews (by omega) (by unfold maxLen; omega) hbd
      obtain ⟨g', cap', rfl, hb, _⟩ := a1.form (by omega)
      exact ⟨_, w', hr, row_base a1 (Nat.zero_le _), .inr ⟨g', cap', rfl, hb, a2⟩⟩
theorem run_psh0 (T : Ty sl el ti z sz bs) (w : World) (ty : TypeId) (B : Nat) (v : Value) (n : Nat) (xs : List Value) (hown : w.ownsRow B el sz v n xs) (u : Value) (hu : (∃ a c, u = .slice a 0 c)) :
    (Builtin.append_ #[sl, sl] ty #[v, u]).run Try.prog w = .ok v w := by
  obtain ⟨a, c, rfl⟩ := hu
  rcases a with _ | a
  · exact run_append_owned_none (P := Try.prog) (w := w) B sl ty el ti sz T.u T.i _ _ _ hown
  · obtain ⟨ao, cp, rfl, hn, _⟩ := row_shape hown
    have hfc := run_firstCells_some (P := Try.prog) w ti.size 0 a 0 c [] (by simp) (by simp)
    rcases ao with _ | ao
    · obtain ⟨rfl, rfl⟩ := hn rfl
      simp [Builtin.append_, run_underlying T.u, sizeOf, typeInfo, T.i, Builtin.lenOf, hfc, storeCells]
    · simp [Builtin.append_, run_underlying T.u, sizeOf, typeInfo, T.i, Builtin.lenOf, hfc, storeCells]
      intro h
      omega

variable {w : World} {ops : Array Oper} {rest : List Oper} {o : Oper} {a : Act} {Q : Exit → Act → World → Prop}
/-- append(l, x) in a plain region. -/
theorem pushG (T : Ty sl el ti z sz bs) (hgd : o.guard = none) (s x : Operand) (ho : o.op = .call { callee := .builtin .append, args := #[s, x], argTypes := #[sl, sl] })
    (v : Value) (n : Nat) (xs : List Value) (hs : a.eval s = v) (hown : w.ownsRow 0 el sz v n xs) (us : List Value) (hul : us.length = sz) (hu : ∀ u ∈ us, u.oneCell' = true) (hx : a.eval x = .slice (some ⟨w.heap.size, 0, none⟩) 1 1) (hn : n ≤ 100000000)
    (h : ∀ v' w', w'.ownsRow 0 el sz v' (n + 1) (xs ++ us) → Psh w w' v n 1 v' → wpList Try.prog ops Q rest (a.put o.dst v') w') : wpList Try.prog ops Q (o :: rest) a (w.alloc (.cells us.toArray el)) := by
  refine wpList_plain hgd fun K hK => ?_
  obtain ⟨v', w', hr, a1, a2⟩ := run_psh T (w.alloc (.cells us.toArray el)) o.type v n xs (World.ownsRow.alloc hown _) ⟨w.heap.size, 0, none⟩ 1 1 us (by omega) (World.news_of_block (cs := us.toArray) (t := el) (fr := (0, 0)) (heap_alloc_new w _)) hu (by omega) (by omega)
  unfold Oper.wp
  simp [execOp, ho, resolve, invoke, builtin, hs, hx, hr, Result.andThen]
  exact hK _ _ (h v' w' a1 (psh_trans (fun r => World.grownBy_alloc w _ r) a2))
/-- The same of a row of the call's own, above B. -/
theorem pushB (T : Ty sl el ti z sz bs) (hgd : o.guard = none) (s x : Operand) (ho : o.op = .call { callee := .builtin .append, args := #[s, x], argTypes := #[sl, sl] })
    (B : Nat) (v : Value) (n : Nat) (xs : List Value) (hs : a.eval s = v) (hown : w.ownsRow B el sz v n xs) (us : List Value) (hul : us.length = sz) (hu : ∀ u ∈ us, u.oneCell' = true) (hx : a.eval x = .slice (some ⟨w.heap.size, 0, none⟩) 1 1) (hn : n ≤ 100000000) (hB : B ≤ w.heap.size)
    (h : ∀ g cap w', w'.ownsRow B el sz (.slice (some ⟨g, 0, none⟩) (n + 1) cap) (n + 1) (xs ++ us) → w.grownBy w' v.ownBlock → (v.ownBlock = some g ∨ w.heap.size ≤ g) → wpList Try.prog ops Q rest (a.put o.dst (.slice (some ⟨g, 0, none⟩) (n + 1) cap)) w') : wpList Try.prog ops Q (o :: rest) a (w.alloc (.cells us.toArray el)) :=
  wpList_pushN hgd s x sl ho el ti z sz bs T.u T.i T.z T.s T.b T.zs T.pos T.le B v n xs hs hown us hul hu hx (by omega) hB h
/-- append(l, m...) in a region that draws. -/
theorem step_more {K : Act → World → Prop} {E : Prop} (T : Ty sl el ti z sz bs) (hgd : o.guard = none) (s x : Operand)
    (ho : o.op = .call { callee := .builtin .append, args := #[s, x], argTypes := #[sl, sl] }) (v : Value) (n : Nat) (xs : List Value) (hs : a.eval s = v) (hown : w.ownsRow 0 el sz v n xs) (ad : Addr) (m c : Nat) (news : List Value) (hx : a.eval x = .slice (some ad) m c) (hl : news.length = m * sz) (hnews : ∀ j u, news[j]? = some u → w.cell? (ad.add j) = some u) (h1 : ∀ u ∈ news, u.oneCell' = true) (hm : 0 < m) (hn : n + m ≤ 1000000000)
    (h : ∀ g c w', w'.ownsRow 0 el sz (.slice (some ⟨g, 0, none⟩) (n + m) c) (n + m) (xs ++ news) → Psh w w' v n m (.slice (some ⟨g, 0, none⟩) (n + m) c) → K (a.put o.dst (.slice (some ⟨g, 0, none⟩) (n + m) c)) w') :
    if Region.wanted o (yielded ops a.tmps) = true then Oper.wp Try.prog o a w K Q else E := by
  have hw : Region.wanted o (yielded ops a.tmps) = true := by simp [Region.wanted, hgd]
  rw [if_pos hw]
  obtain ⟨v', w', hr, a1, a2⟩ := run_psh T w o.type v n xs hown ad m c news hl hnews h1 hm hn
  obtain ⟨g', c', rfl, _, _⟩ := a1.form (by omega)
  unfold Oper.wp
  simp [execOp, ho, resolve, invoke, builtin, hs, hx, hr, Result.andThen]
  exact h g' c' w' a1 a2
/-- append([]T{}, l...) in a region that draws: a copy of its own. -/
theorem step_copy {K : Act → World → Prop} {D : Prop} {xs : List Value} {n : Nat} {v : Value} {g0 : Nat} (T : Ty sl el ti z sz bs) (hgd : o.guard = none) (s x : Operand)
    (ho : o.op = .call { callee := .builtin .append, args := #[s, x], argTypes := #[sl, sl] }) (hs : a.eval s = .slice (some ⟨g0, 0, none⟩) 0 0) (B : Nat) (hown0 : w.ownsRow B el sz (.slice (some ⟨g0, 0, none⟩) 0 0) 0 []) (hrow : w.ownsRow 0 el sz v n xs) (h1c : ∀ u ∈ xs, u.oneCell' = true) (hx : a.eval x = v) (hl : n ≤ 1000000) (hB : B ≤ w.heap.size)
    (h : ∀ g c w', w'.ownsRow B el sz (.slice (some ⟨g, 0, none⟩) n c) n xs → w.grownBy w' (some g0) → (g0 = g ∨ g = w.heap.size) → K (a.put o.dst (.slice (some ⟨g, 0, none⟩) n c)) w') :
    if Region.wanted o (yielded ops a.tmps) = true then Oper.wp Try.prog o a w K Q else D := by
  by_cases h0 : n = 0
  · subst h0
    have hxs : xs = [] := List.length_eq_zero_iff.1 (by rw [hrow.1]; omega)
    subst hxs
    have hw : Region.wanted o (yielded ops a.tmps) = true := by simp [Region.wanted, hgd]
    rw [if_pos hw]
    obtain ⟨ao, cp, hdv, _⟩ := row_shape hrow
    have hrun := run_psh0 T w o.type B _ 0 [] hown0 v ⟨ao, cp, hdv⟩
    unfold Oper.wp
    simp [execOp, ho, resolve, invoke, builtin, hs, hx, hrun, Result.andThen]
    exact h g0 0 _ hown0 (gb_refl _ _) (.inl rfl)
  · obtain ⟨ao, cp, hdv, _, _, _, hpos⟩ := row_shape hrow
    obtain ⟨g, rfl⟩ := hpos (by omega)
    subst hdv
    refine step_append_lies _ hgd s x sl ho B el ti _ sz bs T.u T.i T.z T.s T.b T.zs T.pos (.slice (some ⟨g0, 0, none⟩) 0 0) 0 [] hs hown0 ⟨g, 0, none⟩ n cp xs hx hrow.1 (fun j u hj => ?_) h1c (by omega) (by unfold maxLen; omega) (mul_bd (by omega) T.le) hB w.heap.size rfl ?_
    · rw [Addr.add_mid, Nat.zero_add]; exact row_cell hrow j u hj
    · intro g2 cap2 w' h1 h2 h3 _
      have h4 := h g2 cap2 w' (by simpa using h1) (by simpa [Value.ownBlock] using h2) (h3.imp (fun e => by simpa [Value.ownBlock] using e) id)
      simpa using h4
/-- append of one element in a region that draws, of a row above B. -/
theorem step_push {K : Act → World → Prop} {D : Prop} {w5 : World} (T : Ty sl el ti z sz bs) (hgd : o.guard = none) (s x : Operand) (ho : o.op = .call { callee := .builtin .append, args := #[s, x], argTypes := #[sl, sl] })
    (B : Nat) (v : Value) (n : Nat) (xs : List Value) (hs : a.eval s = v) (us : List Value) (hul : us.length = sz) (hu : ∀ u ∈ us, u.oneCell' = true) (hw : w = w5.alloc (.cells us.toArray el)) (hown : w5.ownsRow B el sz v n xs) (hx : a.eval x = .slice (some ⟨w5.heap.size, 0, none⟩) 1 1) (hn : n ≤ 100000000) (hB : B ≤ w5.heap.size)
    (h : ∀ g cap w', w'.ownsRow B el sz (.slice (some ⟨g, 0, none⟩) (n + 1) cap) (n + 1) (xs ++ us) → w5.grownBy w' v.ownBlock → (v.ownBlock = some g ∨ w5.heap.size ≤ g) → K (a.put o.dst (.slice (some ⟨g, 0, none⟩) (n + 1) cap)) w') :
    if Region.wanted o (yielded ops a.tmps) = true then Oper.wp Try.prog o a w K Q else D := by
  subst hw
  refine step_append_lies _ hgd s x sl ho B el ti _ sz bs T.u T.i T.z T.s T.b T.zs T.pos v n xs hs (World.ownsRow.alloc hown _) ⟨w5.heap.size, 0, none⟩ 1 1 us hx (by omega) (World.news_of_block (cs := us.toArray) (t := el) (fr := (0, 0)) (heap_alloc_new w5 _)) hu (by omega) (by unfold maxLen; omega) (mul_bd (by omega) T.le) (by simp; omega) (w5.heap.size + 1) (by simp) ?_
  intro g7 c7 w7 hown7 hgr7 hat7 hlt7
  exact h g7 c7 w7 hown7 (gb_trans (gb_alloc (gb_refl _ _) _) hgr7) (hat7.imp id (fun e => by omega))
end
end Go.Proofs.Ytndjimdegkdljaa
/-
  Names and files, as plain functions and lists.
-/
namespace Go.Proofs.Ytndjimdegkdljaa
open Go.RowKit
set_option linter.unusedVariables false
set_option linter.unusedSimpArgs false

abbrev Bs := List UInt8
/-- A string as a value. -/
abbrev sv (s : Bs) : Value := .string ⟨s.toArray⟩
theorem sv_inj {a b : Bs} (h : sv a = sv b) : a = b := by
  simp only [sv, Value.string.injEq, ByteArray.mk.injEq] at h
  have := congrArg Array.toList h
  simpa using this
/-- Which name has which file. -/
abbrev NS := Bs → Option Nat
def ups (m : NS) (s : Bs) (v : Option Nat) : NS := fun t => if t = s then v else m t
/-- A change: a file f that had the name fr (none, if that is empty) has the name nw (or none). -/
structure Ch where
  fr : Bs
  nw : Bs
  f : Nat
def Ch.app (c : Ch) (m : NS) : NS := fun s => if c.nw ≠ [] ∧ s = c.nw then some c.f else if s = c.fr then none else m s
def after (m : NS) (l : List Ch) : NS := l.foldl (fun m c => c.app m) m
theorem after_nil (m : NS) : after m [] = m := rfl
theorem after_snoc (m : NS) (l : List Ch) (c : Ch) : after m (l ++ [c]) = c.app (after m l) := by simp [after]

/-- A list of names that tells the same as the function. -/
structure Rep (L : List (Bs × Nat)) (m : NS) : Prop where
  nd : (L.map Prod.fst).Nodup
  lk : ∀ s, L.lookup s = m s
theorem Rep.nil : Rep [] (fun _ => none) := ⟨by simp, fun s => rfl⟩
theorem lk_mem {L : List (Bs × Nat)} {s : Bs} {k : Nat} (h : L.lookup s = some k) : (s, k) ∈ L := by
  induction L with
  | nil => simp at h
  | cons p t ih =>
    obtain ⟨a, b⟩ := p
    rw [List.lookup_cons] at h
    by_cases hs : s = a
    · subst hs; simp at h; subst h; simp
    · have : (s == a) = false := by simpa using hs
      rw [this] at h
      exact List.mem_cons_of_mem _ (ih h)
theorem lk_none {L : List (Bs × Nat)} {s : Bs} (h : L.lookup s = none) : s ∉ L.map Prod.fst := by
  induction L with
  | nil => simp
  | cons p t ih =>
    obtain ⟨a, b⟩ := p
    rw [List.lookup_cons] at h
    by_cases hs : s = a
    · subst hs; simp at h
    · have : (s == a) = false := by simpa using hs
      rw [this] at h
      simp only [List.map_cons, List.mem_cons, not_or]
      exact ⟨hs, ih h⟩
theorem mem_lk {L : List (Bs × Nat)} (hn : (L.map Prod.fst).Nodup) {s : Bs} {k : Nat} (h : (s, k) ∈ L) : L.lookup s = some k := by
  induction L with
  | nil => simp at h
  | cons p t ih =>
    obtain ⟨a, b⟩ := p
    simp only [List.map_cons, List.nodup_cons] at hn
    rcases List.mem_cons.1 h with h | h'
    · injection h with h1 h2
      subst h1 h2
      simp
    · have hs : s ≠ a := fun e => hn.1 (by subst e; exact List.mem_map_of_mem (f := Prod.fst) h')
      rw [List.lookup_cons, show (s == a) = false by simpa using hs]
      exact ih hn.2 h'
theorem Rep.mem {L : List (Bs × Nat)} {m : NS} (h : Rep L m) {s : Bs} {k : Nat} : (s, k) ∈ L ↔ m s = some k := by
  rw [← h.lk]
  exact ⟨mem_lk h.nd, lk_mem⟩
theorem Rep.of {L : List (Bs × Nat)} {m : NS} (hn : (L.map Prod.fst).Nodup) (hm : ∀ s k, (s, k) ∈ L ↔ m s = some k) : Rep L m := by
  refine ⟨hn, fun s => ?_⟩
  cases h : L.lookup s with
  | some k => exact ((hm s k).1 (lk_mem h)).symm
  | none =>
    cases h2 : m s with
    | none => rfl
    | some k =>
      have := mem_lk hn ((hm s k).2 h2)
      rw [h] at this
      cases this
/-- Without a name. -/
theorem Rep.without {L : List (Bs × Nat)} {m : NS} (h : Rep L m) (s : Bs) : Rep (L.filter (fun p => p.1 ≠ s)) (ups m s none) := by
  refine Rep.of ?_ fun t k => ?_
  · exact List.Sublist.nodup (List.Sublist.map _ List.filter_sublist) h.nd
  · simp only [List.mem_filter, decide_eq_true_eq, h.mem, ups]
    by_cases ht : t = s
    · subst ht; simp
    · simp [ht]
theorem Rep.push {L : List (Bs × Nat)} {m : NS} (h : Rep L m) {s : Bs} (hs : m s = none) (k : Nat) : Rep (L ++ [(s, k)]) (ups m s (some k)) := by
  have hn := lk_none (L := L) (s := s) (by rw [h.lk]; exact hs)
  refine Rep.of ?_ fun t j => ?_
  · rw [List.map_append, List.nodup_append]
    refine ⟨h.nd, by simp, fun a ha b hb => ?_⟩
    simp only [List.map_cons, List.map_nil, List.mem_singleton] at hb
    subst hb
    exact fun e => hn (e ▸ ha)
  · simp only [List.mem_append, List.mem_singleton, h.mem, ups, Prod.mk.injEq]
    by_cases ht : t = s
    · subst ht
      simp only [hs, true_and, if_true, reduceCtorEq, false_or, Option.some.injEq]
      exact eq_comm
    · simp [ht]
/-- The name's file is another one. -/
def reset (L : List (Bs × Nat)) (s : Bs) (k : Nat) : List (Bs × Nat) := L.map fun p => if p.1 = s then (s, k) else p
theorem reset_keys (L : List (Bs × Nat)) (s : Bs) (k : Nat) : (reset L s k).map Prod.fst = L.map Prod.fst := by
  simp only [reset, List.map_map]
  refine List.map_congr_left fun p hp => ?_
  simp only [Function.comp]
  split
  · next h => exact h.symm
  · rfl
theorem Rep.reset {L : List (Bs × Nat)} {m : NS} (h : Rep L m) {s : Bs} {j : Nat} (hs : m s = some j) (k : Nat) : Rep (reset L s k) (ups m s (some k)) := by
  refine Rep.of (by rw [reset_keys]; exact h.nd) fun t i => ?_
  simp only [Ytndjimdegkdljaa.reset, List.mem_map, ups]
  constructor
  · rintro ⟨⟨a, b⟩, hp, he⟩
    simp only at he
    split at he
    · injection he with e1 e2
      subst e1 e2
      simp
    · next hne =>
      injection he with e1 e2
      subst e1 e2
      rw [if_neg hne]
      exact h.mem.1 hp
  · intro he
    by_cases ht : t = s
    · subst ht
      rw [if_pos rfl] at he
      injection he with he
      subst he
      exact ⟨(t, j), h.mem.2 hs, by simp⟩
    · rw [if_neg ht] at he
      exact ⟨(t, i), h.mem.2 he, by simp [ht]⟩
theorem nodup_of {α β : Type} (f : α → β) : ∀ {l : List α}, (l.map f).Nodup → l.Nodup
  | [], _ => List.nodup_nil
  | a :: l, h => by
    simp only [List.map_cons, List.nodup_cons] at h
    exact List.nodup_cons.2 ⟨fun ha => h.1 (List.mem_map_of_mem (f := f) ha), nodup_of f h.2⟩
theorem Rep.nodup {L : List (Bs × Nat)} {m : NS} (h : Rep L m) : L.Nodup := nodup_of _ h.nd
theorem Rep.perm {L L' : List (Bs × Nat)} {m : NS} (h : Rep L m) (h' : Rep L' m) : L.Perm L' := by
  refine (List.perm_ext_iff_of_nodup h.nodup h'.nodup).2 fun p => ?_
  obtain ⟨s, k⟩ := p
  rw [h.mem, h'.mem]
/-- What a change makes of a list. -/
theorem Rep.app {L : List (Bs × Nat)} {m : NS} (h : Rep L m) (c : Ch) (ht : c.nw = []) : Rep (L.filter (fun p => p.1 ≠ c.fr)) (c.app m) := by
  have := h.without c.fr
  have e : c.app m = ups m c.fr none := by
    funext s
    simp [Ch.app, ups, ht]
  rw [e]; exact this
theorem Rep.app' {L : List (Bs × Nat)} {m : NS} (h : Rep L m) (c : Ch) (ht : c.nw ≠ []) : Rep ((L.filter (fun p => p.1 ≠ c.fr)).filter (fun p => p.1 ≠ c.nw) ++ [(c.nw, c.f)]) (c.app m) := by
  have h1 := ((h.without c.fr).without c.nw).push (s := c.nw) (by simp [ups]) c.f
  have e : c.app m = ups (ups (ups m c.fr none) c.nw none) c.nw (some c.f) := by
    funext s
    simp only [Ch.app, ups, ht, ne_eq, not_false_eq_true, true_and]
    by_cases hs : s = c.nw
    · simp [hs]
    · simp [hs]
  rw [e]; exact h1
end Go.Proofs.Ytndjimdegkdljaa
/-
  Names in memory: a map from names to files.
-/
namespace Go.Proofs.Ytndjimdegkdljaa
open Go.RowKit Go.MapKept
set_option linter.unusedVariables false
set_option linter.unusedSimpArgs false

abbrev pv (b : Nat) : Value := .pointer (some ⟨b, 0, none⟩)
theorem pv_inj {a b : Nat} (h : pv a = pv b) : a = b := by
  simp only [pv, Value.pointer.injEq, Option.some.injEq, Addr.mk.injEq] at h
  exact h.1
theorem key9 (s : Bs) : IsKey .string (sv s) := trivial
/-- What entries tell: file k lies in block fb k. -/
structure NmR (es : Array MapEntry) (fb : Nat → Nat) (m : NS) : Prop where
  dn : ∀ e ∈ es.toList, ∃ s k, e.key = sv s ∧ e.val = pv (fb k) ∧ m s = some k
  up : ∀ s k, m s = some k → ∃ e ∈ es.toList, e.key = sv s ∧ e.val = pv (fb k)
theorem NmR.key {es : Array MapEntry} {fb : Nat → Nat} {m : NS} (h : NmR es fb m) : ∀ x ∈ es.toList, IsKey .string x.key := fun x hx => by
  obtain ⟨s, k, h1, _⟩ := h.dn x hx
  rw [h1]; exact key9 s
/-- Block b is such a map. -/
def NmM (w : World) (b : Nat) (fb : Nat → Nat) (m : NS) : Prop := ∃ es clock, w.heap[b]? = some (.map es clock) ∧ Stamped es clock ∧ NmR es fb m
theorem NmM.lt {w : World} {b : Nat} {fb : Nat → Nat} {m : NS} (h : NmM w b fb m) : b < w.heap.size := by
  obtain ⟨es, cl, h1, _⟩ := h; exact lt_of_block h1
theorem NmM.same {w w' : World} {b : Nat} {fb : Nat → Nat} {m : NS} (h : NmM w b fb m) (e : w'.heap[b]? = w.heap[b]?) : NmM w' b fb m := by
  obtain ⟨es, cl, h1, h2⟩ := h; exact ⟨es, cl, e.trans h1, h2⟩
theorem NmM.kept {w w' : World} {b : Nat} {fb : Nat → Nat} {m : NS} {row : Option Nat} (h : NmM w b fb m) (hg : w.grownBy w' row) (hne : some b ≠ row) : NmM w' b fb m := h.same (hg.block b h.lt hne)
theorem NmM.made (w : World) (fb : Nat → Nat) : NmM (w.alloc (.map #[] 0)) w.heap.size fb (fun _ => none) :=
  ⟨#[], 0, heap_alloc_new w _, stamped_empty 0, ⟨fun e he => by simp at he, fun s k h => by simp at h⟩⟩
theorem NmM.fb {w : World} {b : Nat} {fb fb' : Nat → Nat} {m : NS} (h : NmM w b fb m) (e : ∀ s k, m s = some k → fb' k = fb k) : NmM w b fb' m := by
  obtain ⟨es, cl, h1, h2, h3⟩ := h
  refine ⟨es, cl, h1, h2, fun x hx => ?_, fun s k hk => ?_⟩
  · obtain ⟨s, k, a1, a2, a3⟩ := h3.dn x hx
    exact ⟨s, k, a1, by rw [e s k a3]; exact a2, a3⟩
  · obtain ⟨x, hx, a1, a2⟩ := h3.up s k hk
    exact ⟨x, hx, a1, by rw [e s k hk]; exact a2⟩
theorem NmM.congr {w : World} {b : Nat} {fb : Nat → Nat} {m m' : NS} (h : NmM w b fb m) (e : ∀ s, m' s = m s) : NmM w b fb m' := by
  have : m' = m := funext e
  rw [this]; exact h

/-- What a lookup tells. -/
def lkv (fb : Nat → Nat) : Option Nat → Value
  | some k => pv (fb k)
  | none => .pointer none
theorem zero94 (w : World) : (zeroValue 94).run Try.prog w = .ok (.pointer none) w := by kernel_rfl
theorem stamped_one {es : Array MapEntry} {cl : Nat} (h : Stamped es cl) {x y : MapEntry} (hx : x ∈ es.toList) (hy : y ∈ es.toList) (e : x.key = y.key) : x = y :=
  entry_eq_of_key ((stamped_iff es cl).1 h).2.2 hx hy e
theorem gb_block {w : World} {r : Nat} {o : Obj} : w.grownBy { w with heap := w.heap.setIfInBounds r o } (some r) :=
  ⟨rfl, rfl, rfl, by simp, fun i hi hn => by
    have : i ≠ r := fun e => hn (by rw [e])
    simp [Ne.symm this]⟩

theorem nm_look {w : World} {b : Nat} {fb : Nat → Nat} {m : NS} (h : NmM w b fb m) (s : Bs) : (Instr.lookup 71 (.map (some b)) (sv s) false).run Try.prog w = .ok (lkv fb (m s)) w := by
  obtain ⟨es, cl, hb, hs, hr⟩ := h
  rcases findNow_spec (key9 s) es.toList 0 hr.key with ⟨h1, h2⟩ | ⟨j, e, h1, h2, h3⟩
  · have hm : m s = none := by
      cases hm : m s with
      | none => rfl
      | some k =>
        obtain ⟨x, hx, a1, _⟩ := hr.up s k hm
        exact absurd a1 (h2 x hx)
    rw [hm]
    simp [Instr.lookup, run_underlying Try.underlying71, Go.MapKept.run_getObj_map hb, Go.MapKept.run_checkKey Try.underlying9 (key9 s), Go.MapKept.run_findKey Try.underlying9 h1, zero94, Result.andThen, lkv]
  · obtain ⟨s', k, a1, a2, a3⟩ := hr.dn e (List.mem_of_getElem? h2)
    have : s' = s := sv_inj (a1.symm.trans h3)
    subst this
    rw [a3]
    simp [Instr.lookup, run_underlying Try.underlying71, Go.MapKept.run_getObj_map hb, Go.MapKept.run_checkKey Try.underlying9 (key9 s'), Go.MapKept.run_findKey Try.underlying9 h1, Result.andThen, lkv, a2]

theorem nm_del {w : World} {b : Nat} {fb : Nat → Nat} {m : NS} (h : NmM w b fb m) (s : Bs) (ty : TypeId) :
    ∃ w', (Builtin.delete_ #[71, 9] ty #[.map (some b), sv s]).run Try.prog w = .ok (.tuple #[]) w' ∧ NmM w' b fb (ups m s none) ∧ w.grownBy w' (some b) := by
  obtain ⟨es, cl, hb, hs, hr⟩ := h
  rcases findNow_spec (key9 s) es.toList 0 hr.key with ⟨h1, h2⟩ | ⟨j, e, h1, h2, h3⟩
  · refine ⟨{ w with heap := w.heap.setIfInBounds b (.map es cl) }, by
      simp [Builtin.delete_, run_underlying Try.underlying71, Go.MapKept.run_getObj_map hb, Go.MapKept.run_checkKey Try.underlying9 (key9 s), Go.MapKept.run_findKey Try.underlying9 h1, Go.MapKept.run_setObj_map _ hb, Result.andThen], ⟨es, cl, (heap_set hb).1, hs, ?_, ?_⟩, gb_block⟩
    · intro x hx
      obtain ⟨t, k, a1, a2, a3⟩ := hr.dn x hx
      have hts : t ≠ s := fun e => h2 x hx (by rw [a1, e])
      exact ⟨t, k, a1, a2, by simp [ups, hts, a3]⟩
    · intro t k hk
      have hts : t ≠ s := fun e => by simp [ups, e] at hk
      exact hr.up t k (by simpa [ups, hts] using hk)
  · have hj : j < es.toList.length := (List.getElem?_eq_some_iff.1 h2).1
    have hspl : es.toList = es.toList.take j ++ e :: es.toList.drop (j + 1) := by
      have := (List.getElem?_eq_some_iff.1 h2).2
      rw [← this, List.getElem_cons_drop, List.take_append_drop]
    have her : (es.eraseIdxIfInBounds j).toList = es.toList.take j ++ es.toList.drop (j + 1) := by
      have : j < es.size := by simpa using hj
      simp only [Array.eraseIdxIfInBounds, this, dite_true, Array.toList_eraseIdx]
      exact List.eraseIdx_eq_take_drop_succ _ _
    have hmem : ∀ x, x ∈ (es.eraseIdxIfInBounds j).toList ↔ x ∈ es.toList ∧ x.key ≠ sv s := by
      intro x
      have hkeys := ((stamped_iff es cl).1 hs).2.2
      rw [her]
      rw [hspl] at hkeys
      rw [List.pairwise_append] at hkeys
      obtain ⟨k1, k2, k3⟩ := hkeys
      rw [List.pairwise_cons] at k2
      constructor
      · intro hx
        rcases List.mem_append.1 hx with hx | hx
        · exact ⟨by rw [hspl]; exact List.mem_append_left _ hx, by rw [← h3]; exact k3 x hx e (by simp)⟩
        · exact ⟨by rw [hspl]; exact List.mem_append_right _ (List.mem_cons_of_mem _ hx), by rw [← h3]; exact fun q => k2.1 x hx q.symm⟩
      · rintro ⟨hx, hne⟩
        rw [hspl] at hx
        rcases List.mem_append.1 hx with hx | hx
        · exact List.mem_append_left _ hx
        · rcases List.mem_cons.1 hx with rfl | hx
          · exact absurd h3 hne
          · exact List.mem_append_right _ hx
    refine ⟨{ w with heap := w.heap.setIfInBounds b (.map (es.eraseIdxIfInBounds j) cl) }, by
      simp [Builtin.delete_, run_underlying Try.underlying71, Go.MapKept.run_getObj_map hb, Go.MapKept.run_checkKey Try.underlying9 (key9 s), Go.MapKept.run_findKey Try.underlying9 h1, Go.MapKept.run_setObj_map _ hb, Result.andThen], ⟨_, cl, (heap_set hb).1, stamped_erase hs j, ?_, ?_⟩, gb_block⟩
    · intro x hx
      obtain ⟨hx1, hx2⟩ := (hmem x).1 hx
      obtain ⟨t, k, a1, a2, a3⟩ := hr.dn x hx1
      have hts : t ≠ s := fun e => hx2 (by rw [a1, e])
      exact ⟨t, k, a1, a2, by simp [ups, hts, a3]⟩
    · intro t k hk
      have hts : t ≠ s := fun e => by simp [ups, e] at hk
      obtain ⟨x, hx, a1, a2⟩ := hr.up t k (by simpa [ups, hts] using hk)
      exact ⟨x, (hmem x).2 ⟨hx, by rw [a1]; exact fun q => hts (sv_inj q)⟩, a1, a2⟩

theorem nm_set {w : World} {b : Nat} {fb : Nat → Nat} {m : NS} (h : NmM w b fb m) (s : Bs) (k : Nat) :
    ∃ w', (Instr.mapUpdate 71 (.map (some b)) (sv s) (pv (fb k))).run Try.prog w = .ok () w' ∧ NmM w' b fb (ups m s (some k)) ∧ w.grownBy w' (some b) := by
  obtain ⟨es, cl, hb, hs, hr⟩ := h
  rcases findNow_spec (key9 s) es.toList 0 hr.key with ⟨h1, h2⟩ | ⟨j, e, h1, h2, h3⟩
  · refine ⟨{ w with heap := w.heap.setIfInBounds b (.map (es.push { key := sv s, val := pv (fb k), born := cl }) (cl + 1)) }, by
      simp [Instr.mapUpdate, run_underlying Try.underlying71, Go.MapKept.run_getObj_map hb, Go.MapKept.run_checkKey Try.underlying9 (key9 s), Go.MapKept.run_findKey Try.underlying9 h1, Go.MapKept.run_setObj_map _ hb, Result.andThen], ⟨_, _, (heap_set hb).1, stamped_push hs h2, ?_, ?_⟩, gb_block⟩
    · intro x hx
      simp only [Array.toList_push, List.mem_append, List.mem_singleton] at hx
      rcases hx with hx | rfl
      · obtain ⟨t, i, a1, a2, a3⟩ := hr.dn x hx
        have hts : t ≠ s := fun e => h2 x hx (by rw [a1, e])
        exact ⟨t, i, a1, a2, by simp [ups, hts, a3]⟩
      · exact ⟨s, k, rfl, rfl, by simp [ups]⟩
    · intro t i hi
      by_cases hts : t = s
      · subst hts
        simp only [ups, if_true, Option.some.injEq] at hi
        subst hi
        exact ⟨_, by simp only [Array.toList_push, List.mem_append, List.mem_singleton]; exact .inr rfl, rfl, rfl⟩
      · obtain ⟨x, hx, a1, a2⟩ := hr.up t i (by simpa [ups, hts] using hi)
        exact ⟨x, by simp only [Array.toList_push, List.mem_append]; exact .inl hx, a1, a2⟩
  · have hj : es[j]? = some e := by simpa using h2
    have hget : ∀ i : Nat, (es.modify j fun e => { e with key := sv s, val := pv (fb k) }).toList[i]? = if j = i then (es.toList[i]?).map (fun e => { e with key := sv s, val := pv (fb k) }) else es.toList[i]? := by
      intro i
      simp only [Array.getElem?_toList, Array.getElem?_modify]
    refine ⟨{ w with heap := w.heap.setIfInBounds b (.map (es.modify j fun e => { e with key := sv s, val := pv (fb k) }) cl) }, by
      simp [Instr.mapUpdate, run_underlying Try.underlying71, Go.MapKept.run_getObj_map hb, Go.MapKept.run_checkKey Try.underlying9 (key9 s), Go.MapKept.run_findKey Try.underlying9 h1, hj, h3, run_keyThatStays (key9 s), Go.MapKept.run_setObj_map _ hb, Result.andThen], ⟨_, _, (heap_set hb).1, stamped_modify hs _ _ (fun _ _ => rfl) (fun e' _ he' => by rw [hj] at he'; cases he'; exact h3.symm), ?_, ?_⟩, gb_block⟩
    · intro x hx
      obtain ⟨i, hi⟩ := List.mem_iff_getElem?.1 hx
      rw [hget] at hi
      split at hi
      · next hji =>
        subst hji
        rw [h2] at hi
        simp only [Option.map_some, Option.some.injEq] at hi
        subst hi
        exact ⟨s, k, rfl, rfl, by simp [ups]⟩
      · next hji =>
        have hx' := List.mem_of_getElem? hi
        obtain ⟨t, l, a1, a2, a3⟩ := hr.dn x hx'
        have hts : t ≠ s := fun q => hji (by
          have hxe := stamped_one hs hx' (List.mem_of_getElem? h2) (by rw [a1, h3, q])
          subst hxe
          have hnd := hs.2.1
          exact (List.getElem?_inj (List.getElem?_eq_some_iff.1 h2).1 (nodup_of _ hnd)).1 (h2.trans hi.symm))
        exact ⟨t, l, a1, a2, by simp [ups, hts, a3]⟩
    · intro t i hi
      by_cases hts : t = s
      · subst hts
        simp only [ups, if_true, Option.some.injEq] at hi
        subst hi
        exact ⟨{ e with key := sv t, val := pv (fb k) }, List.mem_iff_getElem?.2 ⟨j, by rw [hget, if_pos rfl, h2]; rfl⟩, rfl, rfl⟩
      · obtain ⟨x, hx, a1, a2⟩ := hr.up t i (by simpa [ups, hts] using hi)
        obtain ⟨l, hl⟩ := List.mem_iff_getElem?.1 hx
        have hjl : j ≠ l := fun q => by
          subst q
          rw [h2] at hl
          cases hl
          exact hts (sv_inj (a1.symm.trans h3))
        exact ⟨x, List.mem_iff_getElem?.2 ⟨l, by rw [hget, if_neg hjl]; exact hl⟩, a1, a2⟩
end Go.Proofs.Ytndjimdegkdljaa
/-
  Small functions: names, numbers between bounds, refusals.
-/
namespace Go.Proofs.Ytndjimdegkdljaa
open Go.RowKit
set_option linter.unusedVariables false
set_option linter.unusedSimpArgs false
attribute [local go_sem] Oper.semAt_some

def okN (s : Bs) : Bool := decide (1 ≤ s.length) && decide (s.length ≤ 32)
theorem isName_79 (s : Bs) (hs : s.length ≤ 9223372036854775807) (w : World) : Calls Try.prog 79 #[sv s] w fun e w' => e = .returned (.bool (okN s)) ∧ w' = w := by
  have hz : (ByteArray.mk s.toArray).size = s.length := rfl
  show Calls Try.prog 79 #[.string ⟨s.toArray⟩] w _
  unfold okN
  by_cases h1 : 1 ≤ s.length
  · have d1 : decide ((1 : Int) ≤ (s.length : Int)) = true := decide_eq_true (by omega)
    have d1' : (1 : Int) ≤ (s.length : Int) := by omega
    go_enter Try.func79, Try.ntmps79
    go_wp2
    go_ret
    refine ⟨?_, rfl⟩
    simp [h1]
    omega
  · have d1 : decide ((1 : Int) ≤ (s.length : Int)) = false := decide_eq_false (by omega)
    have d1' : ¬ (1 : Int) ≤ (s.length : Int) := by omega
    go_enter Try.func79, Try.ntmps79
    go_wp2
    go_ret
    refine ⟨?_, rfl⟩
    simp [h1]
theorem legal_73 (s : Bs) (hs : s.length ≤ 9223372036854775807) (w : World) : Calls Try.prog 73 #[sv s] w fun e w' => e = .returned (.bool (okN s)) ∧ w' = w := by
  have hz : (ByteArray.mk s.toArray).size = s.length := rfl
  show Calls Try.prog 73 #[.string ⟨s.toArray⟩] w _
  unfold okN
  by_cases h1 : 1 ≤ s.length
  · have d1 : decide ((1 : Int) ≤ (s.length : Int)) = true := decide_eq_true (by omega)
    have d1' : (1 : Int) ≤ (s.length : Int) := by omega
    go_enter Try.func73, Try.ntmps73
    go_wp2
    go_ret
    refine ⟨?_, rfl⟩
    simp [h1]
    omega
  · have d1 : decide ((1 : Int) ≤ (s.length : Int)) = false := decide_eq_false (by omega)
    have d1' : ¬ (1 : Int) ≤ (s.length : Int) := by omega
    go_enter Try.func73, Try.ntmps73
    go_wp2
    go_ret
    refine ⟨?_, rfl⟩
    simp [h1]

/-- n, but no less than 0 and no more than most. -/
def btw (n most : Int) : Int := if n < 0 then 0 else if most < n then most else n
theorem within_46 (n m : Int) (hm : 0 ≤ m) (w : World) : Calls Try.prog 46 #[.int .i64 n, .int .i64 m] w fun e w' => e = .returned (.int .i64 (btw n m)) ∧ w' = w := by
  have hb : btw n m = min (max n 0) m := by unfold btw; (repeat' split) <;> omega
  rw [hb]
  go_enter Try.func46, Try.ntmps46
  go_wp2
  all_goals
    go_ret
    refine ⟨?_, rfl⟩
    rename_i h1
    show Ending.returned (Value.int .i64 _) = Ending.returned (Value.int .i64 _)
    congr 2
    split at h1 <;> omega
theorem between_50 (n m : Int) (w : World) : Calls Try.prog 50 #[.int .i64 n, .int .i64 m] w fun e w' => e = .returned (.int .i64 (btw n m)) ∧ w' = w := by
  unfold btw
  go_enter Try.func50, Try.ntmps50
  go_wp2
  all_goals
    go_ret
    exact ⟨by simp [*], rfl⟩

/-- An error's value: nil, if why is 0; else a Fault. -/
def ErrV (w : World) (v : Value) (call name : Bs) (why : Int) : Prop :=
  (why = 0 ∧ v = .nilIface) ∨ (why ≠ 0 ∧ ∃ g, v = .iface 55 (pv g) ∧ Box w 57 g #[sv call, sv name, .iface 54 (.int .i64 why)])
theorem ErrV.kept {w w' : World} {v : Value} {call name : Bs} {why : Int} (h : ErrV w v call name why) (hg : w.grownBy w' none) : ErrV w' v call name why := by
  rcases h with h | ⟨h1, g, h2, h3⟩
  · exact .inl h
  · exact .inr ⟨h1, g, h2, h3.kept hg (by simp)⟩
theorem refusal_30 (call name : Bs) (why : Int) (w : World) : Calls Try.prog 30 #[sv call, sv name, .int .i64 why] w fun e w' => ∃ v, e = .returned v ∧ ErrV w' v call name why ∧ w.grownBy w' none := by
  by_cases h0 : why = 0
  · subst h0
    go_enter Try.func30, Try.ntmps30
    go_wp2
    go_ret
    exact ⟨_, rfl, .inl ⟨rfl, rfl⟩, gb_refl _ _⟩
  · have d0 : decide (why = 0) = false := decide_eq_false h0
    go_enter Try.func30, Try.ntmps30
    go_wp2
    go_ret
    exact ⟨_, rfl, .inr ⟨h0, _, rfl, Box.new _ _ _⟩, gb_alloc (gb_refl _ _) _⟩
theorem unwrap_20 {w : World} {g : Nat} {call name : Bs} {x : Value} (hb : Box w 57 g #[sv call, sv name, x]) : Calls Try.prog 20 #[pv g] w fun e w' => e = .returned x ∧ w' = w := by
  have c2 : w.cell? ⟨g, 2, none⟩ = some x := hb.cell 2
  show Calls Try.prog 20 #[.pointer (some ⟨g, 0, none⟩)] w _
  go_enter Try.func20, Try.ntmps20
  go_wp2
  go_ret
  exact ⟨rfl, rfl⟩
def etM (n : Int) : Bs := if n = 9 then [111, 117, 116, 32, 111, 102, 32, 116, 111, 107, 101, 110, 115] else if n = 10 then [98, 117, 115, 121] else if n = 180 then [105, 110, 112, 117, 116, 32, 111, 114, 32, 111, 117, 116, 112, 117, 116] else if n = 181 then [110, 111, 32, 115, 112, 97, 99, 101] else if n = 182 then [109, 105, 115, 115, 105, 110, 103] else if n = 183 then [101, 120, 105, 115, 116, 115] else if n = 184 then [110, 111, 32, 112, 111, 119, 101, 114] else if n = 185 then [99, 111, 114, 114, 117, 112, 116] else if n = 186 then [98, 97, 100, 32, 110, 97, 109, 101] else if n = 190 then [110, 111, 32, 115, 117, 99, 104, 32, 115, 101, 114, 118, 101, 114] else if n = 200 then [116, 105, 109, 101, 100, 32, 111, 117, 116] else if n = 201 then [99, 108, 111, 115, 101, 100] else if n = 202 then [103, 97, 114, 98, 108, 101, 100] else [117, 110, 107, 110, 111, 119, 110]
def etx (n : Int) : Bs := if n = 0 then [111, 107] else if n = 1 then [98, 97, 100, 32, 97, 114, 103, 117, 109, 101, 110, 116] else if n = 2 then [116, 111, 111, 32, 109, 97, 110, 121] else if n = 3 then [116, 111, 111, 32, 102, 101, 119, 32, 112, 97, 103, 101, 115] else if n = 4 then [116, 104, 101, 32, 99, 108, 111, 99, 107, 39, 115, 32, 101, 110, 100] else if n = 5 then [110, 111, 32, 115, 117, 99, 104, 32, 99, 111, 110, 110, 101, 99, 116, 105, 111, 110] else if n = 6 then [116, 111, 111, 32, 108, 111, 110, 103] else if n = 7 then [98, 97, 100, 32, 102, 111, 114, 109] else if n = 8 then [116, 104, 101, 114, 101, 32, 97, 108, 114, 101, 97, 100, 121] else if n = 20 then [110, 111, 32, 115, 117, 99, 104, 32, 112, 108, 97, 99, 101, 32, 111, 114, 32, 104, 97, 110, 100, 108, 101] else if n = 21 then [110, 111, 32, 114, 111, 111, 109] else if n = 30 then [98, 97, 100, 32, 107, 101, 121] else etM n
theorem more_70 (n : Int) (w : World) : Calls Try.prog 70 #[.int .i64 n] w fun e w' => e = .returned (sv (etM n)) ∧ w' = w := by
  by_cases h9 : n = 9
  · subst h9
    go_enter Try.func70, Try.ntmps70
    go_wp2
    go_ret
    exact ⟨rfl, rfl⟩
  by_cases h10 : n = 10
  · subst h10
    go_enter Try.func70, Try.ntmps70
    go_wp2
    go_ret
    exact ⟨rfl, rfl⟩
  by_cases h180 : n = 180
  · subst h180
    go_enter Try.func70, Try.ntmps70
    go_wp2
    go_ret
    exact ⟨rfl, rfl⟩
  by_cases h181 : n = 181
  · subst h181
    go_enter Try.func70, Try.ntmps70
    go_wp2
    go_ret
    exact ⟨rfl, rfl⟩
  by_cases h182 : n = 182
  · subst h182
    go_enter Try.func70, Try.ntmps70
    go_wp2
    go_ret
    exact ⟨rfl, rfl⟩
  by_cases h183 : n = 183
  · subst h183
    go_enter Try.func70, Try.ntmps70
    go_wp2
    go_ret
    exact ⟨rfl, rfl⟩
  by_cases h184 : n = 184
  · subst h184
    go_enter Try.func70, Try.ntmps70
    go_wp2
    go_ret
    exact ⟨rfl, rfl⟩
  by_cases h185 : n = 185
  · subst h185
    go_enter Try.func70, Try.ntmps70
    go_wp2
    go_ret
    exact ⟨rfl, rfl⟩
  by_cases h186 : n = 186
  · subst h186
    go_enter Try.func70, Try.ntmps70
    go_wp2
    go_ret
    exact ⟨rfl, rfl⟩
  by_cases h190 : n = 190
  · subst h190
    go_enter Try.func70, Try.ntmps70
    go_wp2
    go_ret
    exact ⟨rfl, rfl⟩
  by_cases h200 : n = 200
  · subst h200
    go_enter Try.func70, Try.ntmps70
    go_wp2
    go_ret
    exact ⟨rfl, rfl⟩
  by_cases h201 : n = 201
  · subst h201
    go_enter Try.func70, Try.ntmps70
    go_wp2
    go_ret
    exact ⟨rfl, rfl⟩
  by_cases h202 : n = 202
  · subst h202
    go_enter Try.func70, Try.ntmps70
    go_wp2
    go_ret
    exact ⟨rfl, rfl⟩
  obtain ⟨T, hT⟩ : ∃ T, etM n = T := ⟨_, rfl⟩
  rw [hT]
  have HT := Lib.hid hT
  clear hT
  have d9 : (n == 9) = false := by simp [h9]
  have d10 : (n == 10) = false := by simp [h10]
  have d180 : (n == 180) = false := by simp [h180]
  have d181 : (n == 181) = false := by simp [h181]
  have d182 : (n == 182) = false := by simp [h182]
  have d183 : (n == 183) = false := by simp [h183]
  have d184 : (n == 184) = false := by simp [h184]
  have d185 : (n == 185) = false := by simp [h185]
  have d186 : (n == 186) = false := by simp [h186]
  have d190 : (n == 190) = false := by simp [h190]
  have d200 : (n == 200) = false := by simp [h200]
  have d201 : (n == 201) = false := by simp [h201]
  have d202 : (n == 202) = false := by simp [h202]
  go_enter Try.func70, Try.ntmps70
  go_wp2
  go_ret
  refine ⟨?_, rfl⟩
  rw [← HT.out]
  simp [etM, h9, h10, h180, h181, h182, h183, h184, h185, h186, h190, h200, h201, h202]
theorem error_31 (n : Int) (w : World) : Calls Try.prog 31 #[.int .i64 n] w fun e w' => e = .returned (sv (etx n)) ∧ w' = w := by
  have h70 := more_70 n w
  by_cases h0 : n = 0
  · subst h0
    go_enter Try.func31, Try.ntmps31
    go_wp2
    go_ret
    exact ⟨rfl, rfl⟩
  by_cases h1 : n = 1
  · subst h1
    go_enter Try.func31, Try.ntmps31
    go_wp2
    go_ret
    exact ⟨rfl, rfl⟩
  by_cases h2 : n = 2
  · subst h2
    go_enter Try.func31, Try.ntmps31
    go_wp2
    go_ret
    exact ⟨rfl, rfl⟩
  by_cases h3 : n = 3
  · subst h3
    go_enter Try.func31, Try.ntmps31
    go_wp2
    go_ret
    exact ⟨rfl, rfl⟩
  by_cases h4 : n = 4
  · subst h4
    go_enter Try.func31, Try.ntmps31
    go_wp2
    go_ret
    exact ⟨rfl, rfl⟩
  by_cases h5 : n = 5
  · subst h5
    go_enter Try.func31, Try.ntmps31
    go_wp2
    go_ret
    exact ⟨rfl, rfl⟩
  by_cases h6 : n = 6
  · subst h6
    go_enter Try.func31, Try.ntmps31
    go_wp2
    go_ret
    exact ⟨rfl, rfl⟩
  by_cases h7 : n = 7
  · subst h7
    go_enter Try.func31, Try.ntmps31
    go_wp2
    go_ret
    exact ⟨rfl, rfl⟩
  by_cases h8 : n = 8
  · subst h8
    go_enter Try.func31, Try.ntmps31
    go_wp2
    go_ret
    exact ⟨rfl, rfl⟩
  by_cases h20 : n = 20
  · subst h20
    go_enter Try.func31, Try.ntmps31
    go_wp2
    go_ret
    exact ⟨rfl, rfl⟩
  by_cases h21 : n = 21
  · subst h21
    go_enter Try.func31, Try.ntmps31
    go_wp2
    go_ret
    exact ⟨rfl, rfl⟩
  by_cases h30 : n = 30
  · subst h30
    go_enter Try.func31, Try.ntmps31
    go_wp2
    go_ret
    exact ⟨rfl, rfl⟩
  obtain ⟨T, hT⟩ : ∃ T, etx n = T := ⟨_, rfl⟩
  rw [hT]
  have HT := Lib.hid hT
  clear hT
  have d0 : (n == 0) = false := by simp [h0]
  have d1 : (n == 1) = false := by simp [h1]
  have d2 : (n == 2) = false := by simp [h2]
  have d3 : (n == 3) = false := by simp [h3]
  have d4 : (n == 4) = false := by simp [h4]
  have d5 : (n == 5) = false := by simp [h5]
  have d6 : (n == 6) = false := by simp [h6]
  have d7 : (n == 7) = false := by simp [h7]
  have d8 : (n == 8) = false := by simp [h8]
  have d20 : (n == 20) = false := by simp [h20]
  have d21 : (n == 21) = false := by simp [h21]
  have d30 : (n == 30) = false := by simp [h30]
  go_enter Try.func31, Try.ntmps31
  go_wp2_with (go_at_call 70; go_must (refine h70.mono ?_); rintro e w1 ⟨rfl, hw1⟩; have hw2 := hw1.symm; subst hw2)
  go_ret
  refine ⟨?_, rfl⟩
  rw [← HT.out]
  simp [etx, h0, h1, h2, h3, h4, h5, h6, h7, h8, h20, h21, h30]
theorem ite_len {c : Prop} [Decidable c] {a b : Bs} (ha : a.length ≤ 64) (hb : b.length ≤ 64) : (if c then a else b).length ≤ 64 := by split <;> assumption
theorem etx_len (n : Int) : (etx n).length ≤ 64 := by
  unfold etx etM
  repeat (refine ite_len (by decide) ?_)
  decide
end Go.Proofs.Ytndjimdegkdljaa
