import Derived.WalkKit
import Derived.WalkSpells
import Derived.WalkLawsBesides
import Derived.Deep.QuietTactic
import Derived.BigQuiet
import Derived.Laws.Rows
import Derived.Laws.AppendOwnNone
import Derived.ArgAppend
import Derived.OwnWalk
import Derived.Deep.AppendLies
import Derived.Deep.MidRow
import Derived.Deep.RegionHeld3
import Derived.Maps.OwnOps
import Derived.Maps.OwnSet
import Derived.Test.YtobegepebochkaaGreatDoorRows
set_option linter.unusedVariables false
set_option linter.unusedSimpArgs false
namespace Go.Proofs.YtobegepebochkaaGreatDoor
open Go.RowKit
theorem gb_refl (w : World) (row : Option Nat) : w.grownBy w row := ⟨rfl, rfl, rfl, Nat.le_refl _, fun _ _ _ => rfl⟩
theorem gb_trans {a b c : World} {row : Option Nat} (h : a.grownBy b row) (k : b.grownBy c row) : a.grownBy c row :=
  ⟨k.os.trans h.os, k.tape.trans h.tape, k.output.trans h.output, Nat.le_trans h.size k.size, fun i hi hn => (k.block i (Nat.lt_of_lt_of_le hi h.size) hn).trans (h.block i hi hn)⟩
theorem gb_drewN {a b : World} {row : Option Nat} (h : a.grownBy b row) (n : Nat) : a.grownBy (b.drewN n) row := ⟨h.os, h.tape, h.output, h.size, h.block⟩
theorem gb_drew {a b : World} {row : Option Nat} (h : a.grownBy b row) : a.grownBy b.drew row := ⟨h.os, h.tape, h.output, h.size, h.block⟩
theorem gb_none {a b : World} (row : Option Nat) (h : a.grownBy b none) : a.grownBy b row := ⟨h.os, h.tape, h.output, h.size, fun i hi _ => h.block i hi (by simp)⟩
theorem gb_setCell {a b : World} {g i : Nat} (h : a.grownBy b (some g)) (v : Value) : a.grownBy (b.setCell ⟨g, i, none⟩ v) (some g) :=
  ⟨h.os, h.tape, h.output, by simpa using h.size, fun k hk hn => by
    rw [heap_setCell_other _ _ _ _ (by intro e; exact hn (by rw [e]))]; exact h.block k hk hn⟩
theorem gb_alloc {a b : World} {row : Option Nat} (h : a.grownBy b row) (o : Obj) : a.grownBy (b.alloc o) row :=
  gb_trans h (World.grownBy_alloc b o row)
theorem gb_mine {a b c : World} {g : Nat} (h : a.grownBy b none) (k : b.grownBy c (some g)) (hg : a.heap.size ≤ g) : a.grownBy c none :=
  ⟨k.os.trans h.os, k.tape.trans h.tape, k.output.trans h.output, Nat.le_trans h.size k.size, fun i hi _ => (k.block i (Nat.lt_of_lt_of_le hi h.size) (by simp; omega)).trans (h.block i hi (by simp))⟩
theorem gb_far {a b c : World} {row : Option Nat} {B : Nat} (h : a.grownBy b none) (k : b.grownBy c row) (hr : ∀ i, row = some i → B ≤ i) (hB : a.heap.size ≤ B) : a.grownBy c none :=
  ⟨k.os.trans h.os, k.tape.trans h.tape, k.output.trans h.output, Nat.le_trans h.size k.size, fun i hi _ => (k.block i (Nat.lt_of_lt_of_le hi h.size) (fun e => by have := hr i e.symm; omega)).trans (h.block i hi (by simp))⟩
def Box (w : World) (t : TypeId) (b : Nat) (vs : Array Value) : Prop := w.heap[b]? = some (.cells vs t (0, 0))
theorem Box.kept {w w' : World} {t : TypeId} {b : Nat} {vs : Array Value} (h : Box w t b vs) {row : Option Nat} (hf : w.grownBy w' row) (hn : some b ≠ row) : Box w' t b vs := by
  have hlt : b < w.heap.size := (Array.getElem?_eq_some_iff.1 h).1
  unfold Box
  rw [hf.block b hlt hn]
  exact h
theorem Box.cell {w : World} {t : TypeId} {b : Nat} {vs : Array Value} (h : Box w t b vs) (i : Nat) : w.cell? ⟨b, i, none⟩ = vs[i]? := cell_of_row w b i _ _ _ h
theorem Box.new (w : World) (t : TypeId) (vs : Array Value) : Box (w.alloc (.cells vs t)) t w.heap.size vs := heap_alloc_new w _
theorem Box.fz {w : World} {t : TypeId} {b : Nat} {vs : Array Value} (h : Box w t b vs) (i : Nat) : w.frozen? ⟨b, i, none⟩ = false := by simp [World.frozen?, show w.heap[b]? = _ from h]
theorem Box.lt {w : World} {t : TypeId} {b : Nat} {vs : Array Value} (h : Box w t b vs) : b < w.heap.size := (Array.getElem?_eq_some_iff.1 h).1
theorem Box.set {w : World} {t : TypeId} {b : Nat} {vs : Array Value} (h : Box w t b vs) (i : Nat) (v : Value) : Box (w.setCell ⟨b, i, none⟩ v) t b (vs.setIfInBounds i v) := heap_setCell_same w b i _ _ _ h
theorem gb_cellN {w w' : World} (hf : w.grownBy w' none) {x : Addr} {v : Value} (h : w.cell? x = some v) : w'.cell? x = some v := by
  have hlt := World.block_lt_of_cell? _ _ h
  have := hf.block x.block hlt (by simp)
  simpa [World.cell?, this] using h
theorem gb_cell {w w' : World} {row : Option Nat} (hf : w.grownBy w' row) {x : Addr} {v : Value} (h : w.cell? x = some v) (hn : some x.block ≠ row) : w'.cell? x = some v := by
  have hlt := World.block_lt_of_cell? _ _ h
  have := hf.block x.block hlt hn
  simpa [World.cell?, this] using h
theorem lt_of_block {w : World} {k : Nat} {o : Obj} (h : w.heap[k]? = some o) : k < w.heap.size := (Array.getElem?_eq_some_iff.1 h).1
structure Kp (F : Nat → Prop) (w w' : World) : Prop where
  os : w'.os = w.os
  tape : w'.tape = w.tape
  output : w'.output = w.output
  size : w.heap.size ≤ w'.heap.size
  block : ∀ k, k < w.heap.size → ¬ F k → w'.heap[k]? = w.heap[k]?
theorem Kp.refl (F : Nat → Prop) (w : World) : Kp F w w := ⟨rfl, rfl, rfl, Nat.le_refl _, fun _ _ _ => rfl⟩
theorem Kp.step {F : Nat → Prop} {w a b : World} (h : Kp F w a) {row : Option Nat} (k : a.grownBy b row) (hr : ∀ i, row = some i → F i ∨ w.heap.size ≤ i) : Kp F w b :=
  ⟨k.os.trans h.os, k.tape.trans h.tape, k.output.trans h.output, Nat.le_trans h.size k.size, fun i hi hF => (k.block i (Nat.lt_of_lt_of_le hi h.size) (fun e => by rcases hr i e.symm with h1 | h1; exact hF h1; omega)).trans (h.block i hi hF)⟩
theorem Kp.of {F : Nat → Prop} {w w' : World} (h : w.grownBy w' none) : Kp F w w' := (Kp.refl F w).step h (by simp)
theorem Kp.trans {F G H : Nat → Prop} {a b c : World} (h : Kp F a b) (k : Kp G b c) (hF : ∀ i, F i → H i) (hG : ∀ i, G i → H i ∨ a.heap.size ≤ i) : Kp H a c :=
  ⟨k.os.trans h.os, k.tape.trans h.tape, k.output.trans h.output, Nat.le_trans h.size k.size, fun i hi hn => (k.block i (Nat.lt_of_lt_of_le hi h.size) (fun e => by rcases hG i e with h1 | h1; exact hn h1; omega)).trans (h.block i hi (fun e => hn (hF i e)))⟩
theorem Kp.mono {F G : Nat → Prop} {a b : World} (h : Kp F a b) (hF : ∀ i, F i → G i ∨ a.heap.size ≤ i) : Kp G a b :=
  (Kp.refl G a).trans h (fun _ h => h) hF
theorem Kp.grown {F : Nat → Prop} {a b : World} (h : Kp F a b) (hF : ∀ i, F i → a.heap.size ≤ i) : a.grownBy b none :=
  ⟨h.os, h.tape, h.output, h.size, fun i hi _ => h.block i hi (fun e => by have := hF i e; omega)⟩
theorem Kp.box {F : Nat → Prop} {a b : World} (h : Kp F a b) {t : TypeId} {k : Nat} {vs : Array Value} (hb : Box a t k vs) (hn : ¬ F k) : Box b t k vs := by
  unfold Box; rw [h.block k hb.lt hn]; exact hb
theorem ne_of_type {w : World} {a b : Nat} {c1 c2 : Array Value} {t1 t2 : TypeId} {z1 z2 : Nat × Nat} (h1 : w.heap[a]? = some (.cells c1 t1 z1)) (h2 : w.heap[b]? = some (.cells c2 t2 z2)) (h : t1 ≠ t2) : a ≠ b := by
  intro e; subst e
  rw [h1] at h2
  injection h2 with h2
  injection h2 with _ h3 _
  exact h h3
theorem row_block {w : World} {B : Nat} {e : TypeId} {s : Nat} {v : Value} {n : Nat} {xs : List Value} (h : w.ownsRow B e s v n xs) : ∀ k, v.ownBlock = some k → ∃ cur, w.heap[k]? = some (.cells cur e (0, 0)) := by
  intro k hk
  rcases h.2 with ⟨rfl, rfl⟩ | ⟨g, c, cur, rfl, h2, h3, h4, h5, h6⟩
  · simp [Value.ownBlock] at hk
  · simp [Value.ownBlock] at hk; subst hk; exact ⟨cur, h3⟩
theorem row_cell {w : World} {B : Nat} {e : TypeId} {s : Nat} {g n c : Nat} {xs : List Value} (h : w.ownsRow B e s (.slice (some ⟨g, 0, none⟩) n c) n xs) (i : Nat) (u : Value) (hu : xs[i]? = some u) : w.cell? ⟨g, i, none⟩ = some u := by
  have := h.cells (g := g) rfl i u hu
  rw [Addr.add_mid, Nat.zero_add] at this
  exact this
theorem row_shape {w : World} {B : Nat} {e : TypeId} {s : Nat} {v : Value} {n : Nat} {xs : List Value} (h : w.ownsRow B e s v n xs) : ∃ ao c, v = .slice ao n c ∧ (ao = none → n = 0 ∧ c = 0) ∧ n ≤ c ∧ c ≤ maxLen ∧ (0 < n → ∃ g, ao = some ⟨g, 0, none⟩) := by
  rcases h.2 with ⟨rfl, rfl⟩ | ⟨g, c, cur, rfl, h2, h3, h4, h5, h6⟩
  · exact ⟨none, 0, rfl, fun _ => ⟨rfl, rfl⟩, Nat.le_refl _, by unfold maxLen; omega, fun h => by omega⟩
  · exact ⟨_, c, rfl, fun h => by simp at h, h4, h5, fun _ => ⟨g, rfl⟩⟩
theorem row_same {w w' : World} {B : Nat} {e : TypeId} {s : Nat} {v : Value} {n : Nat} {xs : List Value} (h1 : w.ownsRow B e s v n xs) (hf : ∀ k, v.ownBlock = some k → w'.heap[k]? = w.heap[k]?) : w'.ownsRow B e s v n xs := by
  refine ⟨h1.1, ?_⟩
  rcases h1.2 with h3 | ⟨g, c, cur, rfl, h4, h5, h6⟩
  · exact .inl h3
  · exact .inr ⟨g, c, cur, rfl, h4, by rw [hf g rfl]; exact h5, h6⟩
theorem row_kept {w w' : World} {B : Nat} {e : TypeId} {s : Nat} {v : Value} {n : Nat} {xs : List Value} (h1 : w.ownsRow B e s v n xs) {row : Option Nat} (hf : w.grownBy w' row) (hn : ∀ k, v.ownBlock = some k → some k ≠ row) : w'.ownsRow B e s v n xs :=
  row_same h1 fun k hk => by
    obtain ⟨cur, hc⟩ := row_block h1 k hk
    exact hf.block k (lt_of_block hc) (hn k hk)
theorem row_base {w : World} {B B' : Nat} {e : TypeId} {s : Nat} {v : Value} {n : Nat} {xs : List Value} (h : w.ownsRow B e s v n xs) (hB : B' ≤ B) : w.ownsRow B' e s v n xs := by
  refine ⟨h.1, ?_⟩
  rcases h.2 with h1 | ⟨g, c, cur, h1, h2, h3⟩
  · exact .inl h1
  · exact .inr ⟨g, c, cur, h1, Nat.le_trans hB h2, h3⟩
theorem row_take {w : World} {B : Nat} {e : TypeId} {s g n c m : Nat} {xs : List Value} (h : w.ownsRow B e s (.slice (some ⟨g, 0, none⟩) n c) n xs) (hm : m ≤ n) : w.ownsRow B e s (.slice (some ⟨g, 0, none⟩) m c) m (xs.take (m * s)) := by
  have hms : m * s ≤ n * s := Nat.mul_le_mul_right s hm
  refine ⟨by rw [List.length_take, h.1]; omega, ?_⟩
  rcases h.2 with ⟨h1, _⟩ | ⟨g', c', cur, h1, h2, h3, h4, h5, h6, h7⟩
  · simp at h1
  · simp at h1
    obtain ⟨rfl, rfl⟩ := h1
    refine .inr ⟨g, c, cur, rfl, h2, h3, by omega, h5, h6, ?_⟩
    rw [← h7, List.take_take]
    congr 1; omega
theorem row_set {w : World} {B : Nat} {e : TypeId} {s g n c : Nat} {xs : List Value} (h : w.ownsRow B e s (.slice (some ⟨g, 0, none⟩) n c) n xs) (i : Nat) (v : Value) : (w.setCell ⟨g, i, none⟩ v).ownsRow B e s (.slice (some ⟨g, 0, none⟩) n c) n (xs.set i v) := by
  refine ⟨by simpa using h.1, ?_⟩
  rcases h.2 with ⟨h1, _⟩ | ⟨g', c', cur, h1, h2, h3, h4, h5, h6, h7⟩
  · simp at h1
  · simp at h1
    obtain ⟨rfl, rfl⟩ := h1
    refine .inr ⟨g, c, _, rfl, h2, heap_setCell_same w g i _ _ _ h3, h4, h5, by simpa using h6, ?_⟩
    rw [← h7]
    simp [List.take_set]
section
variable {P : Program} {w : World} {ops : Array Oper} {rest : List Oper} {o : Oper} {a : Act} {Q : Exit → Act → World → Prop}
theorem wpList_pushN (hgd : o.guard = none) (s x : Operand) (t : TypeId) (ho : o.op = .call { callee := .builtin .append, args := #[s, x], argTypes := #[t, t] }) (e : TypeId) (i : TypeInfo) (z : Value) (size bytes : Nat)
    (ht : P.underlying t = some (.slice e)) (hi : P.info? e = some i) (hz : i.zero = some z) (hsize : i.size = size) (hby : i.bytes = bytes) (hzs : z.cells.size = size) (hsz : 0 < size) (hb : bytes ≤ 1000)
    (B : Nat) (v : Value) (n : Nat) (xs : List Value) (hs : a.eval s = v) (hown : w.ownsRow B e size v n xs) (us : List Value) (hul : us.length = size) (hu : ∀ u ∈ us, u.oneCell' = true) (hx : a.eval x = .slice (some ⟨w.heap.size, 0, none⟩) 1 1) (hn : n ≤ 100000000000) (hB : B ≤ w.heap.size)
    (h : ∀ g cap w', w'.ownsRow B e size (.slice (some ⟨g, 0, none⟩) (n + 1) cap) (n + 1) (xs ++ us) → w.grownBy w' v.ownBlock → (v.ownBlock = some g ∨ w.heap.size ≤ g) → wpList P ops Q rest (a.put o.dst (.slice (some ⟨g, 0, none⟩) (n + 1) cap)) w') : wpList P ops Q (o :: rest) a (w.alloc (.cells us.toArray e)) := by
  refine wpList_plain hgd fun K hK => ?_
  have hbb : (n + 1) * bytes ≤ 140737488355328 := Nat.le_trans (Nat.mul_le_mul (Nat.succ_le_succ hn) hb) (by omega)
  refine wp_append_lies _ s x t ho B e i z size bytes ht hi hz hsize hby hzs hsz v n xs hs (World.ownsRow.alloc hown _) ⟨w.heap.size, 0, none⟩ 1 1 us hx (by omega) ?_ hu (by omega) (by unfold maxLen; omega) hbb (by simp; omega) (w.heap.size + 1) (by simp) ?_
  · exact World.news_of_block (cs := us.toArray) (t := e) (fr := (0, 0)) (heap_alloc_new w _)
  · intro g cap w' h1 h2 h3 h4
    refine hK _ _ (h g cap w' h1 (gb_trans (World.grownBy_alloc w _ _) h2) ?_)
    rcases h3 with h3 | h3
    · exact .inl h3
    · exact .inr (by omega)
end
def rng (n : Nat) (f : Nat → List Value) : List Value := (List.range n).flatMap f
theorem rng_succ (n : Nat) (f : Nat → List Value) : rng (n + 1) f = rng n f ++ f n := by simp [rng, List.range_succ]
theorem rng_len {f : Nat → List Value} {s : Nat} (h : ∀ i, (f i).length = s) : ∀ n, (rng n f).length = n * s
  | 0 => by simp [rng]
  | n + 1 => by rw [rng_succ, List.length_append, rng_len h n, h, Nat.add_mul, Nat.one_mul]
theorem rng_get {f : Nat → List Value} {s : Nat} (h : ∀ i, (f i).length = s) : ∀ {n i j : Nat}, i < n → j < s → (rng n f)[i * s + j]? = (f i)[j]?
  | 0, _, _, hi, _ => by omega
  | n + 1, i, j, hi, hj => by
    rw [rng_succ]
    rcases Nat.lt_or_ge i n with h1 | h1
    · have hms : (i + 1) * s ≤ n * s := Nat.mul_le_mul_right s h1
      rw [Nat.add_mul, Nat.one_mul] at hms
      rw [List.getElem?_append_left (by rw [rng_len h]; omega)]
      exact rng_get h h1 hj
    · have : i = n := by omega
      subst this
      rw [List.getElem?_append_right (by rw [rng_len h]; omega), rng_len h]
      congr 1; omega
def upd {α : Type} (f : Nat → α) (i : Nat) (v : α) : Nat → α := fun j => if j = i then v else f j
theorem upd_same {α : Type} (f : Nat → α) (i : Nat) (v : α) : upd f i v i = v := by simp [upd]
theorem upd_other {α : Type} (f : Nat → α) {i j : Nat} (v : α) (h : j ≠ i) : upd f i v j = f j := by simp [upd, h]
end Go.Proofs.YtobegepebochkaaGreatDoor
namespace Go.Proofs.YtobegepebochkaaGreatDoor
open Go.RowKit
structure Ty (sl el : TypeId) (ti : TypeInfo) (zv : Value) (sz bs : Nat) : Prop where
  u : Tryz.prog.underlying sl = some (.slice el)
  i : Tryz.prog.info? el = some ti
  z : ti.zero = some zv
  s : ti.size = sz
  b : ti.bytes = bs
  zs : zv.cells.size = sz
  pos : 0 < sz
  le : bs ≤ 1000
theorem some_ne2 {a b : Nat} (h : a ≠ b) : some a ≠ some b := fun e => h (Option.some.inj e)
theorem row_ge {w : World} {B : Nat} {e : TypeId} {s : Nat} {v : Value} {n : Nat} {xs : List Value} (h : w.ownsRow B e s v n xs) {j : Nat} (hj : v.ownBlock = some j) : B ≤ j ∧ j < w.heap.size := World.ownsRow.lt h j hj
theorem gb_of_kp {w a b : World} {G : Nat → Prop} (h : w.grownBy a none) (k : Kp G a b) (hG : ∀ j, G j → w.heap.size ≤ j) : w.grownBy b none :=
  (((Kp.of (F := fun _ => False) h).trans k (fun _ h => h) (fun j hj => .inr (hG j hj)))).grown (fun _ h => h.elim)
def Psh (w w' : World) (v : Value) (n m : Nat) (v' : Value) : Prop :=
  (∃ g cap, v = .slice (some ⟨g, 0, none⟩) n cap ∧ n + m ≤ cap ∧ v' = .slice (some ⟨g, 0, none⟩) (n + m) cap ∧ w.grownBy w' (some g)) ∨
  (∃ g cap, v' = .slice (some ⟨g, 0, none⟩) (n + m) cap ∧ w.heap.size ≤ g ∧ w.grownBy w' none)
theorem psh_trans {w w1 w' : World} {v v' : Value} {n m : Nat} (h1 : ∀ r, w.grownBy w1 r) (h : Psh w1 w' v n m v') : Psh w w' v n m v' := by
  rcases h with ⟨g, cap, a1, a2, a3, a4⟩ | ⟨g, cap, a1, a2, a3⟩
  · exact .inl ⟨g, cap, a1, a2, a3, gb_trans (h1 _) a4⟩
  · exact .inr ⟨g, cap, a1, Nat.le_trans (h1 none).size a2, gb_trans (h1 _) a3⟩
theorem Psh.gb {w w' : World} {v v' : Value} {n m : Nat} (h : Psh w w' v n m v') : w.grownBy w' v.ownBlock := by
  rcases h with ⟨g, cap, rfl, _, _, h⟩ | ⟨g, cap, _, _, h⟩
  · exact h
  · exact gb_none _ h
theorem mul_bd {n bs : Nat} (hn : n ≤ 100000000000) (hb : bs ≤ 1000) : n * bs ≤ 140737488355328 := Nat.le_trans (Nat.mul_le_mul hn hb) (by omega)
section
variable {sl el : TypeId} {ti : TypeInfo} {z : Value} {sz bs : Nat}
theorem run_psh (T : Ty sl el ti z sz bs) (w : World) (ty : TypeId) (v : Value) (n : Nat) (xs : List Value) (hown : w.ownsRow 0 el sz v n xs) (ad : Addr) (m c : Nat) (news : List Value) (hl : news.length = m * sz) (hnews : ∀ j u, news[j]? = some u → w.cell? (ad.add j) = some u) (h1 : ∀ u ∈ news, u.oneCell' = true) (hm : 0 < m) (hn : n + m ≤ 1000000000) :
    ∃ v' w', (Builtin.append_ #[sl, sl] ty #[v, .slice (some ad) m c]).run Tryz.prog w = .ok v' w' ∧ w'.ownsRow 0 el sz v' (n + m) (xs ++ news) ∧ Psh w w' v n m v' := by
  have hbd : (n + m) * bs ≤ 140737488355328 := mul_bd (by omega) T.le
  rcases hown.2 with ⟨rfl, h0⟩ | ⟨g, cap, cur, rfl, h2, h3, h4, h5, h6, h7⟩
  · subst h0
    obtain ⟨g, cap, w', hr, a1, a2, a3, _⟩ := run_append_lies (P := Tryz.prog) w sl ty 0 el ti _ sz bs T.u T.i T.z T.s T.b T.zs T.pos _ 0 xs hown ad m c news hl hnews h1 hm (by unfold maxLen; omega) hbd (Nat.zero_le _) _ rfl
    refine ⟨_, w', hr, a1, .inr ⟨g, cap, rfl, ?_, a2⟩⟩
    rcases a3 with a3 | a3
    · simp [Value.ownBlock] at a3
    · omega
  · by_cases hf : n + m ≤ cap
    · obtain ⟨w', hr, a1, a2⟩ := run_append_fits (P := Tryz.prog) w 0 sl ty el ti sz T.u T.i T.s g n cap xs hown ad m c news hl hnews h1 hf
      exact ⟨_, w', hr, a1, .inl ⟨g, cap, rfl, hf, rfl, a2⟩⟩
    · obtain ⟨v', w', hr, a1, a2⟩ := run_append_arg_grows (P := Tryz.prog) w sl ty el ti _ sz bs T.u T.i T.z T.s T.b T.zs T.pos ⟨g, 0, none⟩ n cap xs hown.1 (fun j u hj => hown.cells rfl j u hj) ad m c news hl hnews (by omega) (by unfold maxLen; omega) hbd
      obtain ⟨g', cap', rfl, hb, _⟩ := a1.form (by omega)
      exact ⟨_, w', hr, row_base a1 (Nat.zero_le _), .inr ⟨g', cap', rfl, hb, a2⟩⟩
theorem run_psh0 (T : Ty sl el ti z sz bs) (w : World) (ty : TypeId) (B : Nat) (v : Value) (n : Nat) (xs : List Value) (hown : w.ownsRow B el sz v n xs) (u : Value) (hu : (∃ a c, u = .slice a 0 c)) :
    (Builtin.append_ #[sl, sl] ty #[v, u]).run Tryz.prog w = .ok v w := by
  obtain ⟨a, c, rfl⟩ := hu
  rcases a with _ | a
  · exact run_append_owned_none (P := Tryz.prog) (w := w) B sl ty el ti sz T.u T.i _ _ _ hown
  · obtain ⟨ao, cp, rfl, hn, _⟩ := row_shape hown
    have hfc := run_firstCells_some (P := Tryz.prog) w ti.size 0 a 0 c [] (by simp) (by simp)
    rcases ao with _ | ao
    · obtain ⟨rfl, rfl⟩ := hn rfl
      simp [Builtin.append_, run_underlying T.u, sizeOf, typeInfo, T.i, Builtin.lenOf, hfc, storeCells]
    · simp [Builtin.append_, run_underlying T.u, sizeOf, typeInfo, T.i, Builtin.lenOf, hfc, storeCells]
      intro h
      omega
variable {w : World} {ops : Array Oper} {rest : List Oper} {o : Oper} {a : Act} {Q : Exit → Act → World → Prop}
theorem pushG (T : Ty sl el ti z sz bs) (hgd : o.guard = none) (s x : Operand) (ho : o.op = .call { callee := .builtin .append, args := #[s, x], argTypes := #[sl, sl] })
    (v : Value) (n : Nat) (xs : List Value) (hs : a.eval s = v) (hown : w.ownsRow 0 el sz v n xs) (us : List Value) (hul : us.length = sz) (hu : ∀ u ∈ us, u.oneCell' = true) (hx : a.eval x = .slice (some ⟨w.heap.size, 0, none⟩) 1 1) (hn : n ≤ 100000000)
    (h : ∀ v' w', w'.ownsRow 0 el sz v' (n + 1) (xs ++ us) → Psh w w' v n 1 v' → wpList Tryz.prog ops Q rest (a.put o.dst v') w') : wpList Tryz.prog ops Q (o :: rest) a (w.alloc (.cells us.toArray el)) := by
  refine wpList_plain hgd fun K hK => ?_
  obtain ⟨v', w', hr, a1, a2⟩ := run_psh T (w.alloc (.cells us.toArray el)) o.type v n xs (World.ownsRow.alloc hown _) ⟨w.heap.size, 0, none⟩ 1 1 us (by omega) (World.news_of_block (cs := us.toArray) (t := el) (fr := (0, 0)) (heap_alloc_new w _)) hu (by omega) (by omega)
  unfold Oper.wp
  simp [execOp, ho, resolve, invoke, builtin, hs, hx, hr, Result.andThen]
  exact hK _ _ (h v' w' a1 (psh_trans (fun r => World.grownBy_alloc w _ r) a2))
theorem pushB (T : Ty sl el ti z sz bs) (hgd : o.guard = none) (s x : Operand) (ho : o.op = .call { callee := .builtin .append, args := #[s, x], argTypes := #[sl, sl] })
    (B : Nat) (v : Value) (n : Nat) (xs : List Value) (hs : a.eval s = v) (hown : w.ownsRow B el sz v n xs) (us : List Value) (hul : us.length = sz) (hu : ∀ u ∈ us, u.oneCell' = true) (hx : a.eval x = .slice (some ⟨w.heap.size, 0, none⟩) 1 1) (hn : n ≤ 100000000) (hB : B ≤ w.heap.size)
    (h : ∀ g cap w', w'.ownsRow B el sz (.slice (some ⟨g, 0, none⟩) (n + 1) cap) (n + 1) (xs ++ us) → w.grownBy w' v.ownBlock → (v.ownBlock = some g ∨ w.heap.size ≤ g) → wpList Tryz.prog ops Q rest (a.put o.dst (.slice (some ⟨g, 0, none⟩) (n + 1) cap)) w') : wpList Tryz.prog ops Q (o :: rest) a (w.alloc (.cells us.toArray el)) :=
  wpList_pushN hgd s x sl ho el ti z sz bs T.u T.i T.z T.s T.b T.zs T.pos T.le B v n xs hs hown us hul hu hx (by omega) hB h
theorem step_more {K : Act → World → Prop} {E : Prop} (T : Ty sl el ti z sz bs) (hgd : o.guard = none) (s x : Operand)
    (ho : o.op = .call { callee := .builtin .append, args := #[s, x], argTypes := #[sl, sl] }) (v : Value) (n : Nat) (xs : List Value) (hs : a.eval s = v) (hown : w.ownsRow 0 el sz v n xs) (ad : Addr) (m c : Nat) (news : List Value) (hx : a.eval x = .slice (some ad) m c) (hl : news.length = m * sz) (hnews : ∀ j u, news[j]? = some u → w.cell? (ad.add j) = some u) (h1 : ∀ u ∈ news, u.oneCell' = true) (hm : 0 < m) (hn : n + m ≤ 1000000000)
    (h : ∀ g c w', w'.ownsRow 0 el sz (.slice (some ⟨g, 0, none⟩) (n + m) c) (n + m) (xs ++ news) → Psh w w' v n m (.slice (some ⟨g, 0, none⟩) (n + m) c) → K (a.put o.dst (.slice (some ⟨g, 0, none⟩) (n + m) c)) w') :
    if Region.wanted o (yielded ops a.tmps) = true then Oper.wp Tryz.prog o a w K Q else E := by
  have hw : Region.wanted o (yielded ops a.tmps) = true := by simp [Region.wanted, hgd]
  rw [if_pos hw]
  obtain ⟨v', w', hr, a1, a2⟩ := run_psh T w o.type v n xs hown ad m c news hl hnews h1 hm hn
  obtain ⟨g', c', rfl, _, _⟩ := a1.form (by omega)
  unfold Oper.wp
  simp [execOp, ho, resolve, invoke, builtin, hs, hx, hr, Result.andThen]
  exact h g' c' w' a1 a2
theorem step_copy {K : Act → World → Prop} {D : Prop} {xs : List Value} {n : Nat} {v : Value} {g0 : Nat} (T : Ty sl el ti z sz bs) (hgd : o.guard = none) (s x : Operand)
    (ho : o.op = .call { callee := .builtin .append, args := #[s, x], argTypes := #[sl, sl] }) (hs : a.eval s = .slice (some ⟨g0, 0, none⟩) 0 0) (B : Nat) (hown0 : w.ownsRow B el sz (.slice (some ⟨g0, 0, none⟩) 0 0) 0 []) (hrow : w.ownsRow 0 el sz v n xs) (h1c : ∀ u ∈ xs, u.oneCell' = true) (hx : a.eval x = v) (hl : n ≤ 1000000) (hB : B ≤ w.heap.size)
    (h : ∀ g c w', w'.ownsRow B el sz (.slice (some ⟨g, 0, none⟩) n c) n xs → w.grownBy w' (some g0) → (g0 = g ∨ g = w.heap.size) → K (a.put o.dst (.slice (some ⟨g, 0, none⟩) n c)) w') :
    if Region.wanted o (yielded ops a.tmps) = true then Oper.wp Tryz.prog o a w K Q else D := by
  by_cases h0 : n = 0
  · subst h0
    have hxs : xs = [] := List.length_eq_zero_iff.1 (by rw [hrow.1]; omega)
    subst hxs
    have hw : Region.wanted o (yielded ops a.tmps) = true := by simp [Region.wanted, hgd]
    rw [if_pos hw]
    obtain ⟨ao, cp, hdv, _⟩ := row_shape hrow
    have hrun := run_psh0 T w o.type B _ 0 [] hown0 v ⟨ao, cp, hdv⟩
    unfold Oper.wp
    simp [execOp, ho, resolve, invoke, builtin, hs, hx, hrun, Result.andThen]
    exact h g0 0 _ hown0 (gb_refl _ _) (.inl rfl)
  · obtain ⟨ao, cp, hdv, _, _, _, hpos⟩ := row_shape hrow
    obtain ⟨g, rfl⟩ := hpos (by omega)
    subst hdv
    refine step_append_lies _ hgd s x sl ho B el ti _ sz bs T.u T.i T.z T.s T.b T.zs T.pos (.slice (some ⟨g0, 0, none⟩) 0 0) 0 [] hs hown0 ⟨g, 0, none⟩ n cp xs hx hrow.1 (fun j u hj => ?_) h1c (by omega) (by unfold maxLen; omega) (mul_bd (by omega) T.le) hB w.heap.size rfl ?_
    · rw [Addr.add_mid, Nat.zero_add]; exact row_cell hrow j u hj
    · intro g2 cap2 w' h1 h2 h3 _
      have h4 := h g2 cap2 w' (by simpa using h1) (by simpa [Value.ownBlock] using h2) (h3.imp (fun e => by simpa [Value.ownBlock] using e) id)
      simpa using h4
theorem step_push {K : Act → World → Prop} {D : Prop} {w5 : World} (T : Ty sl el ti z sz bs) (hgd : o.guard = none) (s x : Operand) (ho : o.op = .call { callee := .builtin .append, args := #[s, x], argTypes := #[sl, sl] })
    (B : Nat) (v : Value) (n : Nat) (xs : List Value) (hs : a.eval s = v) (us : List Value) (hul : us.length = sz) (hu : ∀ u ∈ us, u.oneCell' = true) (hw : w = w5.alloc (.cells us.toArray el)) (hown : w5.ownsRow B el sz v n xs) (hx : a.eval x = .slice (some ⟨w5.heap.size, 0, none⟩) 1 1) (hn : n ≤ 100000000) (hB : B ≤ w5.heap.size)
    (h : ∀ g cap w', w'.ownsRow B el sz (.slice (some ⟨g, 0, none⟩) (n + 1) cap) (n + 1) (xs ++ us) → w5.grownBy w' v.ownBlock → (v.ownBlock = some g ∨ w5.heap.size ≤ g) → K (a.put o.dst (.slice (some ⟨g, 0, none⟩) (n + 1) cap)) w') :
    if Region.wanted o (yielded ops a.tmps) = true then Oper.wp Tryz.prog o a w K Q else D := by
  subst hw
  refine step_append_lies _ hgd s x sl ho B el ti _ sz bs T.u T.i T.z T.s T.b T.zs T.pos v n xs hs (World.ownsRow.alloc hown _) ⟨w5.heap.size, 0, none⟩ 1 1 us hx (by omega) (World.news_of_block (cs := us.toArray) (t := el) (fr := (0, 0)) (heap_alloc_new w5 _)) hu (by omega) (by unfold maxLen; omega) (mul_bd (by omega) T.le) (by simp; omega) (w5.heap.size + 1) (by simp) ?_
  intro g7 c7 w7 hown7 hgr7 hat7 hlt7
  exact h g7 c7 w7 hown7 (gb_trans (gb_alloc (gb_refl _ _) _) hgr7) (hat7.imp id (fun e => by omega))
end
end Go.Proofs.YtobegepebochkaaGreatDoor
