/-
  Memory: what is kept, rows of the call's own, boxes; heaps with a gap, as functions.
-/
import Derived.Test.YtagcmfaljfaikaaRows
import Derived.WalkKit
import Derived.WalkSpells
import Derived.WalkLawsBesides
import Derived.Deep.QuietTactic
import Derived.BigQuiet
import Derived.Laws.Rows
import Derived.Laws.AppendOwnNone
import Derived.ArgAppend
import Derived.OwnWalk
import Derived.Deep.AppendLies
import Derived.Deep.MidRow
import Derived.Deep.RegionHeld3
import Derived.Maps.OwnOps
import Derived.Maps.OwnSet
namespace Go.Proofs.Ytagcmfaljfaikaa
open Go.RowKit
set_option linter.unusedVariables false

theorem gb_refl (w : World) (row : Option Nat) : w.grownBy w row := ⟨rfl, rfl, rfl, Nat.le_refl _, fun _ _ _ => rfl⟩
theorem gb_trans {a b c : World} {row : Option Nat} (h : a.grownBy b row) (k : b.grownBy c row) : a.grownBy c row :=
  ⟨k.os.trans h.os, k.tape.trans h.tape, k.output.trans h.output, Nat.le_trans h.size k.size, fun i hi hn => (k.block i (Nat.lt_of_lt_of_le hi h.size) hn).trans (h.block i hi hn)⟩
theorem gb_drewN {a b : World} {row : Option Nat} (h : a.grownBy b row) (n : Nat) : a.grownBy (b.drewN n) row := ⟨h.os, h.tape, h.output, h.size, h.block⟩
theorem gb_drew {a b : World} {row : Option Nat} (h : a.grownBy b row) : a.grownBy b.drew row := ⟨h.os, h.tape, h.output, h.size, h.block⟩
theorem gb_none {a b : World} (row : Option Nat) (h : a.grownBy b none) : a.grownBy b row := ⟨h.os, h.tape, h.output, h.size, fun i hi _ => h.block i hi (by simp)⟩
theorem gb_setCell {a b : World} {g i : Nat} (h : a.grownBy b (some g)) (v : Value) : a.grownBy (b.setCell ⟨g, i, none⟩ v) (some g) :=
  ⟨h.os, h.tape, h.output, by simpa using h.size, fun k hk hn => by
    rw [heap_setCell_other _ _ _ _ (by intro e; exact hn (by rw [e]))]; exact h.block k hk hn⟩
theorem gb_alloc {a b : World} {row : Option Nat} (h : a.grownBy b row) (o : Obj) : a.grownBy (b.alloc o) row :=
  gb_trans h (World.grownBy_alloc b o row)
theorem gb_setRow {a b : World} {g : Nat} (h : a.grownBy b (some g)) (cs : Array Value) : a.grownBy (b.setRow g cs) (some g) :=
  ⟨h.os, h.tape, h.output, by simpa using h.size, fun k hk hn => by
    rw [setRow_other b g k cs (by intro e; exact hn (by rw [e]))]; exact h.block k hk hn⟩
theorem gb_mine {a b c : World} {g : Nat} (h : a.grownBy b none) (k : b.grownBy c (some g)) (hg : a.heap.size ≤ g) : a.grownBy c none :=
  ⟨k.os.trans h.os, k.tape.trans h.tape, k.output.trans h.output, Nat.le_trans h.size k.size, fun i hi _ => (k.block i (Nat.lt_of_lt_of_le hi h.size) (by simp; omega)).trans (h.block i hi (by simp))⟩
theorem gb_far {a b c : World} {row : Option Nat} {B : Nat} (h : a.grownBy b none) (k : b.grownBy c row) (hr : ∀ i, row = some i → B ≤ i) (hB : a.heap.size ≤ B) : a.grownBy c none :=
  ⟨k.os.trans h.os, k.tape.trans h.tape, k.output.trans h.output, Nat.le_trans h.size k.size, fun i hi _ => (k.block i (Nat.lt_of_lt_of_le hi h.size) (fun e => by have := hr i e.symm; omega)).trans (h.block i hi (by simp))⟩
theorem far_ne {row : Option Nat} {B k : Nat} (hr : ∀ i, row = some i → B ≤ i) (hk : k < B) : some k ≠ row := fun e => by have := hr k e.symm; omega

/-- A variable of its own that holds the values vs. -/
def Box (w : World) (t : TypeId) (b : Nat) (vs : Array Value) : Prop := w.heap[b]? = some (.cells vs t (0, 0))
theorem Box.kept {w w' : World} {t : TypeId} {b : Nat} {vs : Array Value} (h : Box w t b vs) {row : Option Nat} (hf : w.grownBy w' row) (hn : some b ≠ row) : Box w' t b vs := by
  have hlt : b < w.heap.size := (Array.getElem?_eq_some_iff.1 h).1
  unfold Box
  rw [hf.block b hlt hn]
  exact h
theorem Box.cell {w : World} {t : TypeId} {b : Nat} {vs : Array Value} (h : Box w t b vs) (i : Nat) : w.cell? ⟨b, i, none⟩ = vs[i]? := cell_of_row w b i _ _ _ h
theorem Box.new (w : World) (t : TypeId) (vs : Array Value) : Box (w.alloc (.cells vs t)) t w.heap.size vs := heap_alloc_new w _
theorem Box.fz {w : World} {t : TypeId} {b : Nat} {vs : Array Value} (h : Box w t b vs) (i : Nat) : w.frozen? ⟨b, i, none⟩ = false := by simp [World.frozen?, show w.heap[b]? = _ from h]
theorem Box.lt {w : World} {t : TypeId} {b : Nat} {vs : Array Value} (h : Box w t b vs) : b < w.heap.size := (Array.getElem?_eq_some_iff.1 h).1
theorem Box.set {w : World} {t : TypeId} {b : Nat} {vs : Array Value} (h : Box w t b vs) (i : Nat) (v : Value) : Box (w.setCell ⟨b, i, none⟩ v) t b (vs.setIfInBounds i v) := heap_setCell_same w b i _ _ _ h

theorem gb_cellN {w w' : World} (hf : w.grownBy w' none) {x : Addr} {v : Value} (h : w.cell? x = some v) : w'.cell? x = some v := by
  have hlt := World.block_lt_of_cell? _ _ h
  have := hf.block x.block hlt (by simp)
  simpa [World.cell?, this] using h
theorem gb_cell {w w' : World} {row : Option Nat} (hf : w.grownBy w' row) {x : Addr} {v : Value} (h : w.cell? x = some v) (hn : some x.block ≠ row) : w'.cell? x = some v := by
  have hlt := World.block_lt_of_cell? _ _ h
  have := hf.block x.block hlt hn
  simpa [World.cell?, this] using h
theorem lt_of_block {w : World} {k : Nat} {o : Obj} (h : w.heap[k]? = some o) : k < w.heap.size := (Array.getElem?_eq_some_iff.1 h).1

/-- Blocks that lay there and are not of F are as they were. -/
structure Kp (F : Nat → Prop) (w w' : World) : Prop where
  os : w'.os = w.os
  tape : w'.tape = w.tape
  output : w'.output = w.output
  size : w.heap.size ≤ w'.heap.size
  block : ∀ k, k < w.heap.size → ¬ F k → w'.heap[k]? = w.heap[k]?
theorem Kp.refl (F : Nat → Prop) (w : World) : Kp F w w := ⟨rfl, rfl, rfl, Nat.le_refl _, fun _ _ _ => rfl⟩
theorem Kp.step {F : Nat → Prop} {w a b : World} (h : Kp F w a) {row : Option Nat} (k : a.grownBy b row) (hr : ∀ i, row = some i → F i ∨ w.heap.size ≤ i) : Kp F w b :=
  ⟨k.os.trans h.os, k.tape.trans h.tape, k.output.trans h.output, Nat.le_trans h.size k.size, fun i hi hF => (k.block i (Nat.lt_of_lt_of_le hi h.size) (fun e => by rcases hr i e.symm with h1 | h1; exact hF h1; omega)).trans (h.block i hi hF)⟩
theorem Kp.of {F : Nat → Prop} {w w' : World} (h : w.grownBy w' none) : Kp F w w' := (Kp.refl F w).step h (by simp)
theorem Kp.trans {F G H : Nat → Prop} {a b c : World} (h : Kp F a b) (k : Kp G b c) (hF : ∀ i, F i → H i) (hG : ∀ i, G i → H i ∨ a.heap.size ≤ i) : Kp H a c :=
  ⟨k.os.trans h.os, k.tape.trans h.tape, k.output.trans h.output, Nat.le_trans h.size k.size, fun i hi hn => (k.block i (Nat.lt_of_lt_of_le hi h.size) (fun e => by rcases hG i e with h1 | h1; exact hn h1; omega)).trans (h.block i hi (fun e => hn (hF i e)))⟩
theorem Kp.mono {F G : Nat → Prop} {a b : World} (h : Kp F a b) (hF : ∀ i, F i → G i ∨ a.heap.size ≤ i) : Kp G a b :=
  (Kp.refl G a).trans h (fun _ h => h) hF
/-- Nothing that lay there has turned. -/
theorem Kp.grown {F : Nat → Prop} {a b : World} (h : Kp F a b) (hF : ∀ i, F i → a.heap.size ≤ i) : a.grownBy b none :=
  ⟨h.os, h.tape, h.output, h.size, fun i hi _ => h.block i hi (fun e => by have := hF i e; omega)⟩
theorem Kp.box {F : Nat → Prop} {a b : World} (h : Kp F a b) {t : TypeId} {k : Nat} {vs : Array Value} (hb : Box a t k vs) (hn : ¬ F k) : Box b t k vs := by
  unfold Box; rw [h.block k hb.lt hn]; exact hb

theorem ne_of_type {w : World} {a b : Nat} {c1 c2 : Array Value} {t1 t2 : TypeId} {z1 z2 : Nat × Nat} (h1 : w.heap[a]? = some (.cells c1 t1 z1)) (h2 : w.heap[b]? = some (.cells c2 t2 z2)) (h : t1 ≠ t2) : a ≠ b := by
  intro e; subst e
  rw [h1] at h2
  injection h2 with h2
  injection h2 with _ h3 _
  exact h h3

theorem row_block {w : World} {B : Nat} {e : TypeId} {s : Nat} {v : Value} {n : Nat} {xs : List Value} (h : w.ownsRow B e s v n xs) : ∀ k, v.ownBlock = some k → ∃ cur, w.heap[k]? = some (.cells cur e (0, 0)) := by
  intro k hk
  rcases h.2 with ⟨rfl, rfl⟩ | ⟨g, c, cur, rfl, h2, h3, h4, h5, h6⟩
  · simp [Value.ownBlock] at hk
  · simp [Value.ownBlock] at hk; subst hk; exact ⟨cur, h3⟩
theorem row_cell {w : World} {B : Nat} {e : TypeId} {s : Nat} {g n c : Nat} {xs : List Value} (h : w.ownsRow B e s (.slice (some ⟨g, 0, none⟩) n c) n xs) (i : Nat) (u : Value) (hu : xs[i]? = some u) : w.cell? ⟨g, i, none⟩ = some u := by
  have := h.cells (g := g) rfl i u hu
  rw [Addr.add_mid, Nat.zero_add] at this
  exact this
theorem row_shape {w : World} {B : Nat} {e : TypeId} {s : Nat} {v : Value} {n : Nat} {xs : List Value} (h : w.ownsRow B e s v n xs) : ∃ ao c, v = .slice ao n c ∧ (ao = none → n = 0 ∧ c = 0) ∧ n ≤ c ∧ c ≤ maxLen ∧ (0 < n → ∃ g, ao = some ⟨g, 0, none⟩) := by
  rcases h.2 with ⟨rfl, rfl⟩ | ⟨g, c, cur, rfl, h2, h3, h4, h5, h6⟩
  · exact ⟨none, 0, rfl, fun _ => ⟨rfl, rfl⟩, Nat.le_refl _, by unfold maxLen; omega, fun h => by omega⟩
  · exact ⟨_, c, rfl, fun h => by simp at h, h4, h5, fun _ => ⟨g, rfl⟩⟩
theorem row_same {w w' : World} {B : Nat} {e : TypeId} {s : Nat} {v : Value} {n : Nat} {xs : List Value} (h1 : w.ownsRow B e s v n xs) (hf : ∀ k, v.ownBlock = some k → w'.heap[k]? = w.heap[k]?) : w'.ownsRow B e s v n xs := by
  refine ⟨h1.1, ?_⟩
  rcases h1.2 with h3 | ⟨g, c, cur, rfl, h4, h5, h6⟩
  · exact .inl h3
  · exact .inr ⟨g, c, cur, rfl, h4, by rw [hf g rfl]; exact h5, h6⟩
theorem row_kept {w w' : World} {B : Nat} {e : TypeId} {s : Nat} {v : Value} {n : Nat} {xs : List Value} (h1 : w.ownsRow B e s v n xs) {row : Option Nat} (hf : w.grownBy w' row) (hn : ∀ k, v.ownBlock = some k → some k ≠ row) : w'.ownsRow B e s v n xs :=
  row_same h1 fun k hk => by
    obtain ⟨cur, hc⟩ := row_block h1 k hk
    exact hf.block k (lt_of_block hc) (hn k hk)
theorem row_base {w : World} {B B' : Nat} {e : TypeId} {s : Nat} {v : Value} {n : Nat} {xs : List Value} (h : w.ownsRow B e s v n xs) (hB : B' ≤ B) : w.ownsRow B' e s v n xs := by
  refine ⟨h.1, ?_⟩
  rcases h.2 with h1 | ⟨g, c, cur, h1, h2, h3⟩
  · exact .inl h1
  · exact .inr ⟨g, c, cur, h1, Nat.le_trans hB h2, h3⟩
/-- The last elements are cut off. -/
theorem row_take {w : World} {B : Nat} {e : TypeId} {s g n c m : Nat} {xs : List Value} (h : w.ownsRow B e s (.slice (some ⟨g, 0, none⟩) n c) n xs) (hm : m ≤ n) : w.ownsRow B e s (.slice (some ⟨g, 0, none⟩) m c) m (xs.take (m * s)) := by
  have hms : m * s ≤ n * s := Nat.mul_le_mul_right s hm
  refine ⟨by rw [List.length_take, h.1]; omega, ?_⟩
  rcases h.2 with ⟨h1, _⟩ | ⟨g', c', cur, h1, h2, h3, h4, h5, h6, h7⟩
  · simp at h1
  · simp at h1
    obtain ⟨rfl, rfl⟩ := h1
    refine .inr ⟨g, c, cur, rfl, h2, h3, by omega, h5, h6, ?_⟩
    rw [← h7, List.take_take]
    congr 1; omega
/-- A cell of the row is another one. -/
theorem row_set {w : World} {B : Nat} {e : TypeId} {s g n c : Nat} {xs : List Value} (h : w.ownsRow B e s (.slice (some ⟨g, 0, none⟩) n c) n xs) (i : Nat) (v : Value) : (w.setCell ⟨g, i, none⟩ v).ownsRow B e s (.slice (some ⟨g, 0, none⟩) n c) n (xs.set i v) := by
  refine ⟨by simpa using h.1, ?_⟩
  rcases h.2 with ⟨h1, _⟩ | ⟨g', c', cur, h1, h2, h3, h4, h5, h6, h7⟩
  · simp at h1
  · simp at h1
    obtain ⟨rfl, rfl⟩ := h1
    refine .inr ⟨g, c, _, rfl, h2, heap_setCell_same w g i _ _ _ h3, h4, h5, by simpa using h6, ?_⟩
    rw [← h7]
    simp [List.take_set]

section
variable {P : Program} {w : World} {ops : Array Oper} {rest : List Oper} {o : Oper} {a : Act} {Q : Exit → Act → World → Prop}

/-- append(l, x): one element, laid in a block of its own first. -/
theorem wpList_pushN (hgd : o.guard = none) (s x : Operand) (t : TypeId) (ho : o.op = .call { callee := .builtin .append, args := #[s, x], argTypes := #[t, t] }) (e : TypeId) (i : TypeInfo) (z : Value) (size bytes : Nat)
    (ht : P.underlying t = some (.slice e)) (hi : P.info? e = some i) (hz : i.zero = some z) (hsize : i.size = size) (hby : i.bytes = bytes) (hzs : z.cells.size = size) (hsz : 0 < size) (hb : bytes ≤ 1000)
    (B : Nat) (v : Value) (n : Nat) (xs : List Value) (hs : a.eval s = v) (hown : w.ownsRow B e size v n xs) (us : List Value) (hul : us.length = size) (hu : ∀ u ∈ us, u.oneCell' = true) (hx : a.eval x = .slice (some ⟨w.heap.size, 0, none⟩) 1 1) (hn : n ≤ 100000000000) (hB : B ≤ w.heap.size)
    (h : ∀ g cap w', w'.ownsRow B e size (.slice (some ⟨g, 0, none⟩) (n + 1) cap) (n + 1) (xs ++ us) → w.grownBy w' v.ownBlock → (v.ownBlock = some g ∨ w.heap.size ≤ g) → wpList P ops Q rest (a.put o.dst (.slice (some ⟨g, 0, none⟩) (n + 1) cap)) w') : wpList P ops Q (o :: rest) a (w.alloc (.cells us.toArray e)) := by
  refine wpList_plain hgd fun K hK => ?_
  have hbb : (n + 1) * bytes ≤ 140737488355328 := Nat.le_trans (Nat.mul_le_mul (Nat.succ_le_succ hn) hb) (by omega)
  refine wp_append_lies _ s x t ho B e i z size bytes ht hi hz hsize hby hzs hsz v n xs hs (World.ownsRow.alloc hown _) ⟨w.heap.size, 0, none⟩ 1 1 us hx (by omega) ?_ hu (by omega) (by unfold maxLen; omega) hbb (by simp; omega) (w.heap.size + 1) (by simp) ?_
  · exact World.news_of_block (cs := us.toArray) (t := e) (fr := (0, 0)) (heap_alloc_new w _)
  · intro g cap w' h1 h2 h3 h4
    refine hK _ _ (h g cap w' h1 (gb_trans (World.grownBy_alloc w _ _) h2) ?_)
    rcases h3 with h3 | h3
    · exact .inl h3
    · exact .inr (by omega)
end


/-! Rows of elements of several cells. -/
def rng (n : Nat) (f : Nat → List Value) : List Value := (List.range n).flatMap f
theorem rng_zero (f : Nat → List Value) : rng 0 f = [] := rfl
theorem rng_succ (n : Nat) (f : Nat → List Value) : rng (n + 1) f = rng n f ++ f n := by simp [rng, List.range_succ]
theorem rng_len {f : Nat → List Value} {s : Nat} (h : ∀ i, (f i).length = s) : ∀ n, (rng n f).length = n * s
  | 0 => by simp [rng]
  | n + 1 => by rw [rng_succ, List.length_append, rng_len h n, h, Nat.add_mul, Nat.one_mul]
theorem rng_get {f : Nat → List Value} {s : Nat} (h : ∀ i, (f i).length = s) : ∀ {n i j : Nat}, i < n → j < s → (rng n f)[i * s + j]? = (f i)[j]?
  | 0, _, _, hi, _ => by omega
  | n + 1, i, j, hi, hj => by
    rw [rng_succ]
    rcases Nat.lt_or_ge i n with h1 | h1
    · have hms : (i + 1) * s ≤ n * s := Nat.mul_le_mul_right s h1
      rw [Nat.add_mul, Nat.one_mul] at hms
      rw [List.getElem?_append_left (by rw [rng_len h]; omega)]
      exact rng_get h h1 hj
    · have : i = n := by omega
      subst this
      rw [List.getElem?_append_right (by rw [rng_len h]; omega), rng_len h]
      congr 1; omega
theorem rng_congr {f g : Nat → List Value} : ∀ {n : Nat}, (∀ i, i < n → f i = g i) → rng n f = rng n g
  | 0, _ => rfl
  | n + 1, h => by rw [rng_succ, rng_succ, rng_congr (fun i hi => h i (by omega)), h n (by omega)]
theorem rng_set {f g : Nat → List Value} {s : Nat} (h : ∀ i, (f i).length = s) {i j : Nat} (hj : j < s) (v : Value) (hg : ∀ k, k ≠ i → g k = f k) (hi : g i = (f i).set j v) : ∀ {n : Nat}, i < n → (rng n f).set (i * s + j) v = rng n g
  | 0, hn => by omega
  | n + 1, hn => by
    rw [rng_succ, rng_succ]
    rcases Nat.lt_or_ge i n with h1 | h1
    · have hms : (i + 1) * s ≤ n * s := Nat.mul_le_mul_right s h1
      rw [Nat.add_mul, Nat.one_mul] at hms
      rw [List.set_append_left _ _ (by rw [rng_len h]; omega), rng_set h hj v hg hi h1, hg n (by omega)]
    · have : i = n := by omega
      subst this
      rw [List.set_append_right _ _ (by rw [rng_len h]; omega), rng_len h, hi]
      congr 1
      · exact rng_congr fun k hk => (hg k (by omega)).symm
      · congr 1; omega


/-! Heaps. -/
def upd {α : Type} (f : Nat → α) (i : Nat) (v : α) : Nat → α := fun j => if j = i then v else f j
theorem upd_same {α : Type} (f : Nat → α) (i : Nat) (v : α) : upd f i v i = v := by simp [upd]
theorem upd_other {α : Type} (f : Nat → α) {i j : Nat} (v : α) (h : j ≠ i) : upd f i v j = f j := by simp [upd, h]
theorem upd_upd {α : Type} (f : Nat → α) (i : Nat) (u v : α) : upd (upd f i u) i v = upd f i v := by funext j; simp only [upd]; split <;> rfl

structure En where
  h : Int
  x : Int
  t : Int

/-- told ahead of -/
abbrev ah (a b : En) : Prop := a.x < b.x ∨ (a.x = b.x ∧ a.t < b.t)

theorem ah_irrefl (a : En) : ¬ ah a a := by unfold ah; omega
theorem ah_trans {a b c : En} (h : ah a b) (k : ah b c) : ah a c := by unfold ah at *; omega
theorem nah_trans {a b c : En} (h : ¬ ah b a) (k : ¬ ah c b) : ¬ ah c a := by unfold ah at *; omega
theorem ah_nah {a b : En} (h : ah a b) : ¬ ah b a := by unfold ah at *; omega
theorem ah_nah_trans {a b c : En} (h : ah a b) (k : ¬ ah c b) : ¬ ah c a := nah_trans (ah_nah h) k

/-- the entries of a row of n are those of S, each once -/
structure Img (n : Nat) (r : Nat → En) (S : En → Prop) : Prop where
  inn : ∀ i, i < n → S (r i)
  all : ∀ x, S x → ∃ i, i < n ∧ r i = x
  one : ∀ i j, i < n → j < n → (r i).h = (r j).h → i = j

theorem Img.congr {n : Nat} {r q : Nat → En} {S : En → Prop} (h : Img n r S) (hq : ∀ i, i < n → q i = r i) : Img n q S :=
  ⟨fun i hi => by rw [hq i hi]; exact h.inn i hi, fun x hx => by obtain ⟨i, hi, e⟩ := h.all x hx; exact ⟨i, hi, by rw [hq i hi]; exact e⟩, fun i j hi hj e => h.one i j hi hj (by rw [← hq i hi, ← hq j hj]; exact e)⟩

/-- the gap goes to p, what lay at p to the gap -/
theorem Img.swap {n : Nat} {r : Nat → En} {S : En → Prop} {g p : Nat} {e : En} (h : Img n (upd r g e) S) (hg : g < n) (hp : p < n) (hne : p ≠ g) :
    Img n (upd (upd r g (r p)) p e) S := by
  let σ : Nat → Nat := fun i => if i = p then g else if i = g then p else i
  have hσ : ∀ i, i < n → σ i < n := by intro i hi; simp only [σ]; split; exact hg; split; exact hp; exact hi
  have hv : ∀ i, upd (upd r g (r p)) p e i = upd r g e (σ i) := by
    intro i; simp only [upd, σ]
    by_cases h1 : i = p
    · simp [h1]
    · by_cases h2 : i = g
      · subst h2; simp [h1, hne]
      · simp [h1, h2]
  have hss : ∀ i, σ (σ i) = i := by
    intro i; simp only [σ]
    by_cases h1 : i = p
    · subst h1; by_cases h2 : g = i <;> simp [h2]
    · by_cases h2 : i = g
      · simp [h2]
      · simp [h1, h2]
  refine ⟨fun i hi => ?_, fun x hx => ?_, fun i j hi hj e => ?_⟩
  · rw [hv]; exact h.inn _ (hσ i hi)
  · obtain ⟨i, hi, e⟩ := h.all x hx
    exact ⟨σ i, hσ i hi, by rw [hv, hss]; exact e⟩
  · rw [hv, hv] at e
    have := h.one _ _ (hσ i hi) (hσ j hj) e
    rw [← hss i, ← hss j, this]

def par (i : Nat) : Nat := (i - 1) / 2
def Hp (n : Nat) (r : Nat → En) : Prop := ∀ i, 0 < i → i < n → ¬ ah (r i) (r (par i))

theorem par_lt {i : Nat} (h : 0 < i) : par i < i := by unfold par; omega

structure RInv (n : Nat) (r : Nat → En) (g : Nat) (e : En) : Prop where
  off : ∀ i, 0 < i → i < n → i ≠ g → par i ≠ g → ¬ ah (r i) (r (par i))
  kid : ∀ i, 0 < i → i < n → par i = g → ¬ ah (r i) e
  top : ∀ i, 0 < i → i < n → par i = g → 0 < g → ¬ ah (r i) (r (par g))

theorem RInv.fin {n : Nat} {r : Nat → En} {g : Nat} {e : En} (h : RInv n r g e) (hg : g = 0 ∨ ¬ ah e (r (par g))) : Hp n (upd r g e) := by
  intro i h0 hi
  by_cases h1 : i = g
  · subst h1
    have := par_lt h0
    rw [upd_same, upd_other _ _ (by omega)]
    rcases hg with hg | hg
    · omega
    · exact hg
  · rw [upd_other _ _ h1]
    by_cases h2 : par i = g
    · rw [h2, upd_same]; exact h.kid i h0 hi h2
    · rw [upd_other _ _ h2]; exact h.off i h0 hi h1 h2

theorem RInv.step {n : Nat} {r : Nat → En} {g : Nat} {e : En} (h : RInv n r g e) (h0 : 0 < g) (hg : g < n) (ha : ah e (r (par g))) : RInv n (upd r g (r (par g))) (par g) e := by
  have hp := par_lt h0
  refine ⟨fun i i0 hi h1 h2 => ?_, fun i i0 hi h1 => ?_, fun i i0 hi h1 h2 => ?_⟩
  · by_cases h3 : i = g
    · subst h3; exact absurd rfl h2
    · rw [upd_other _ _ h3]
      by_cases h4 : par i = g
      · rw [h4, upd_same]; exact h.top i i0 hi h4 h0
      · rw [upd_other _ _ h4]; exact h.off i i0 hi h3 h4
  · by_cases h3 : i = g
    · subst h3; rw [upd_same]; exact ah_nah ha
    · rw [upd_other _ _ h3]
      have := h.off i i0 hi h3 (by rw [h1]; omega)
      rw [h1] at this
      exact nah_trans (ah_nah ha) this
  · have hpp := par_lt h2
    rw [upd_other (i := g) (j := par (par g)) _ _ (by omega)]
    have hpar := h.off (par g) h2 (by omega) (by omega) (by omega)
    by_cases h3 : i = g
    · subst h3; rw [upd_same]; exact hpar
    · rw [upd_other _ _ h3]
      have := h.off i i0 hi h3 (by rw [h1]; omega)
      rw [h1] at this
      exact nah_trans hpar this

structure SInv (n : Nat) (r : Nat → En) (g : Nat) (e : En) : Prop where
  off : ∀ i, 0 < i → i < n → i ≠ g → par i ≠ g → ¬ ah (r i) (r (par i))
  up : 0 < g → ¬ ah e (r (par g))
  top : ∀ i, 0 < i → i < n → par i = g → 0 < g → ¬ ah (r i) (r (par g))

theorem SInv.fin {n : Nat} {r : Nat → En} {g : Nat} {e : En} (h : SInv n r g e) (hg : ∀ i, 0 < i → i < n → par i = g → ¬ ah (r i) e) : Hp n (upd r g e) := by
  intro i h0 hi
  by_cases h1 : i = g
  · subst h1
    have := par_lt h0
    rw [upd_same, upd_other _ _ (by omega)]
    exact h.up h0
  · rw [upd_other _ _ h1]
    by_cases h2 : par i = g
    · rw [h2, upd_same]; exact hg i h0 hi h2
    · rw [upd_other _ _ h2]; exact h.off i h0 hi h1 h2

theorem SInv.step {n : Nat} {r : Nat → En} {g c : Nat} {e : En} (h : SInv n r g e) (c0 : 0 < c) (hc : c < n) (hpc : par c = g) (hle : ∀ i, 0 < i → i < n → par i = g → ¬ ah (r i) (r c)) (ha : ¬ ah e (r c)) : SInv n (upd r g (r c)) c e := by
  have hp := par_lt c0
  refine ⟨fun i i0 hi h1 h2 => ?_, fun _ => ?_, fun i i0 hi h1 h2 => ?_⟩
  · by_cases h3 : i = g
    · subst h3; rw [upd_same]
      have hpi := par_lt i0
      rw [upd_other _ _ (by omega)]
      exact h.top c c0 hc hpc i0
    · rw [upd_other _ _ h3]
      by_cases h4 : par i = g
      · rw [h4, upd_same]; exact hle i i0 hi h4
      · rw [upd_other _ _ h4]; exact h.off i i0 hi h3 h4
  · rw [hpc, upd_same]; exact ha
  · have hpi := par_lt i0
    rw [hpc, upd_same, upd_other _ _ (by omega)]
    have := h.off i i0 hi (by omega) (by omega)
    rw [h1] at this
    exact this

/-- a heap whose last is cut off and whose entry at g is struck -/
theorem Hp.rinv {n : Nat} {r : Nat → En} {g : Nat} {e : En} (h : Hp (n + 1) r) (h0 : 0 < g) (hg : g < n) (ha : ah e (r (par g))) : RInv n r g e := by
  refine ⟨fun i i0 hi _ _ => h i i0 (by omega), fun i i0 hi h1 => ?_, fun i i0 hi h1 _ => ?_⟩
  · have a := h i i0 (by omega); rw [h1] at a
    have b := h g h0 (by omega)
    exact nah_trans (ah_nah ha) (nah_trans b a)
  · have a := h i i0 (by omega); rw [h1] at a
    exact nah_trans (h g h0 (by omega)) a
theorem Hp.sinv {n : Nat} {r : Nat → En} {g : Nat} {e : En} (h : Hp (n + 1) r) (hg : g < n) (ha : 0 < g → ¬ ah e (r (par g))) : SInv n r g e := by
  refine ⟨fun i i0 hi _ _ => h i i0 (by omega), ha, fun i i0 hi h1 h0 => ?_⟩
  have a := h i i0 (by omega); rw [h1] at a
  exact nah_trans (h g h0 (by omega)) a
/-- a heap with one more place at its end -/
theorem Hp.grow {n : Nat} {r : Nat → En} {e : En} (h : Hp n r) : RInv (n + 1) (upd r n e) n e := by
  refine ⟨fun i i0 hi h1 _ => ?_, fun i i0 hi h1 => ?_, fun i i0 hi h1 _ => ?_⟩
  · have := par_lt i0
    rw [upd_other _ _ h1, upd_other _ _ (by omega)]; exact h i i0 (by omega)
  · have := par_lt i0; omega
  · have := par_lt i0; omega
theorem Hp.least {n : Nat} {r : Nat → En} (h : Hp n r) (i : Nat) (hi : i < n) : ¬ ah (r i) (r 0) := by
  induction i using Nat.strongRecOn with
  | _ i ih =>
    by_cases h0 : i = 0
    · subst h0; exact ah_irrefl _
    · have hp := par_lt (Nat.pos_of_ne_zero h0)
      exact nah_trans (ih (par i) hp (by omega)) (h i (by omega) hi)
theorem Hp.cut {n : Nat} {r : Nat → En} (h : Hp (n + 1) r) : Hp n r := fun i i0 hi => h i i0 (by omega)

/-- an entry more, at the end -/
theorem Img.add {n : Nat} {r : Nat → En} {S : En → Prop} {e : En} (h : Img n r S) (hn : ∀ x, S x → x.h ≠ e.h) : Img (n + 1) (upd (upd r n e) n e) (fun x => S x ∨ x = e) := by
  rw [upd_upd]
  refine ⟨fun i hi => ?_, fun x hx => ?_, fun i j hi hj hh => ?_⟩
  · by_cases h1 : i = n
    · subst h1; right; rw [upd_same]
    · left; rw [upd_other _ _ h1]; exact h.inn i (by omega)
  · rcases hx with hx | hx
    · obtain ⟨i, hi, e'⟩ := h.all x hx
      exact ⟨i, by omega, by rw [upd_other _ _ (by omega)]; exact e'⟩
    · exact ⟨n, by omega, by rw [upd_same]; exact hx.symm⟩
  · by_cases h1 : i = n <;> by_cases h2 : j = n
    · omega
    · rw [h1, upd_same, upd_other _ _ h2] at hh; exact absurd hh.symm (hn _ (h.inn j (by omega)))
    · rw [h2, upd_same, upd_other _ _ h1] at hh; exact absurd hh (hn _ (h.inn i (by omega)))
    · rw [upd_other _ _ h1, upd_other _ _ h2] at hh; exact h.one i j (by omega) (by omega) hh
/-- the entry at g is struck, the last one lies in its place -/
theorem Img.strike {n : Nat} {r : Nat → En} {S : En → Prop} {g : Nat} (h : Img (n + 1) r S) (hg : g < n) : Img n (upd r g (r n)) (fun x => S x ∧ x.h ≠ (r g).h) := by
  refine ⟨fun i hi => ?_, fun x hx => ?_, fun i j hi hj hh => ?_⟩
  · by_cases h1 : i = g
    · rw [h1, upd_same]; exact ⟨h.inn n (by omega), fun e => by have := h.one n g (by omega) (by omega) e; omega⟩
    · rw [upd_other _ _ h1]; exact ⟨h.inn i (by omega), fun e => h1 (h.one i g (by omega) (by omega) e)⟩
  · obtain ⟨i, hi, e⟩ := h.all x hx.1
    by_cases h1 : i = n
    · exact ⟨g, hg, by rw [upd_same, ← h1]; exact e⟩
    · exact ⟨i, by omega, by rw [upd_other _ _ (fun h2 => hx.2 (by rw [← e, h2]))]; exact e⟩
  · by_cases h1 : i = g <;> by_cases h2 : j = g
    · omega
    · rw [h1, upd_same, upd_other _ _ h2] at hh; have := h.one n j (by omega) (by omega) hh; omega
    · rw [h2, upd_same, upd_other _ _ h1] at hh; have := h.one i n (by omega) (by omega) hh; omega
    · rw [upd_other _ _ h1, upd_other _ _ h2] at hh; exact h.one i j (by omega) (by omega) hh
theorem Img.drop {n : Nat} {r : Nat → En} {S : En → Prop} (h : Img (n + 1) r S) : Img n r (fun x => S x ∧ x.h ≠ (r n).h) := by
  refine ⟨fun i hi => ⟨h.inn i (by omega), fun e => by have := h.one i n (by omega) (by omega) e; omega⟩, fun x hx => ?_, fun i j hi hj => h.one i j (by omega) (by omega)⟩
  obtain ⟨i, hi, e⟩ := h.all x hx.1
  exact ⟨i, by by_cases h1 : i = n; exact absurd (by rw [← e, h1]) hx.2; omega, e⟩


end Go.Proofs.Ytagcmfaljfaikaa
