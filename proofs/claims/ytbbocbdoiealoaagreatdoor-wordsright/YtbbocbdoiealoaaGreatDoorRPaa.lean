import Derived.WalkKit
import Derived.WalkSpells
import Derived.WalkLawsBesides
import Derived.Deep.QuietTactic
import Derived.BigQuiet
import Derived.Laws.Rows
import Derived.Laws.AppendOwnNone
import Derived.ArgAppend
import Derived.OwnWalk
import Derived.Deep.AppendLies
import Derived.Deep.MidRow
import Derived.Deep.RegionHeld3
import Derived.Maps.OwnOps
import Derived.Maps.OwnSet
import Derived.Test.YtbbocbdoiealoaaGreatDoorRows
import Derived.Lib.ParseIntB
set_option linter.unusedVariables false
set_option linter.unusedSimpArgs false
namespace Go.Proofs.YtbbocbdoiealoaaGreatDoor
open Go.RowKit
theorem gb_refl (w : World) (row : Option Nat) : w.grownBy w row := ⟨rfl, rfl, rfl, Nat.le_refl _, fun _ _ _ => rfl⟩
theorem gb_trans {a b c : World} {row : Option Nat} (h : a.grownBy b row) (k : b.grownBy c row) : a.grownBy c row :=
  ⟨k.os.trans h.os, k.tape.trans h.tape, k.output.trans h.output, Nat.le_trans h.size k.size, fun i hi hn => (k.block i (Nat.lt_of_lt_of_le hi h.size) hn).trans (h.block i hi hn)⟩
theorem gb_drewN {a b : World} {row : Option Nat} (h : a.grownBy b row) (n : Nat) : a.grownBy (b.drewN n) row := ⟨h.os, h.tape, h.output, h.size, h.block⟩
theorem gb_drew {a b : World} {row : Option Nat} (h : a.grownBy b row) : a.grownBy b.drew row := ⟨h.os, h.tape, h.output, h.size, h.block⟩
theorem gb_none {a b : World} (row : Option Nat) (h : a.grownBy b none) : a.grownBy b row := ⟨h.os, h.tape, h.output, h.size, fun i hi _ => h.block i hi (by simp)⟩
theorem gb_setCell {a b : World} {g i : Nat} (h : a.grownBy b (some g)) (v : Value) : a.grownBy (b.setCell ⟨g, i, none⟩ v) (some g) :=
  ⟨h.os, h.tape, h.output, by simpa using h.size, fun k hk hn => by
    rw [heap_setCell_other _ _ _ _ (by intro e; exact hn (by rw [e]))]; exact h.block k hk hn⟩
theorem gb_alloc {a b : World} {row : Option Nat} (h : a.grownBy b row) (o : Obj) : a.grownBy (b.alloc o) row :=
  gb_trans h (World.grownBy_alloc b o row)
theorem gb_mine {a b c : World} {g : Nat} (h : a.grownBy b none) (k : b.grownBy c (some g)) (hg : a.heap.size ≤ g) : a.grownBy c none :=
  ⟨k.os.trans h.os, k.tape.trans h.tape, k.output.trans h.output, Nat.le_trans h.size k.size, fun i hi _ => (k.block i (Nat.lt_of_lt_of_le hi h.size) (by simp; omega)).trans (h.block i hi (by simp))⟩
theorem gb_far {a b c : World} {row : Option Nat} {B : Nat} (h : a.grownBy b none) (k : b.grownBy c row) (hr : ∀ i, row = some i → B ≤ i) (hB : a.heap.size ≤ B) : a.grownBy c none :=
  ⟨k.os.trans h.os, k.tape.trans h.tape, k.output.trans h.output, Nat.le_trans h.size k.size, fun i hi _ => (k.block i (Nat.lt_of_lt_of_le hi h.size) (fun e => by have := hr i e.symm; omega)).trans (h.block i hi (by simp))⟩
def Box (w : World) (t : TypeId) (b : Nat) (vs : Array Value) : Prop := w.heap[b]? = some (.cells vs t (0, 0))
theorem Box.kept {w w' : World} {t : TypeId} {b : Nat} {vs : Array Value} (h : Box w t b vs) {row : Option Nat} (hf : w.grownBy w' row) (hn : some b ≠ row) : Box w' t b vs := by
  have hlt : b < w.heap.size := (Array.getElem?_eq_some_iff.1 h).1
  unfold Box
  rw [hf.block b hlt hn]
  exact h
theorem Box.cell {w : World} {t : TypeId} {b : Nat} {vs : Array Value} (h : Box w t b vs) (i : Nat) : w.cell? ⟨b, i, none⟩ = vs[i]? := cell_of_row w b i _ _ _ h
theorem Box.new (w : World) (t : TypeId) (vs : Array Value) : Box (w.alloc (.cells vs t)) t w.heap.size vs := heap_alloc_new w _
theorem Box.fz {w : World} {t : TypeId} {b : Nat} {vs : Array Value} (h : Box w t b vs) (i : Nat) : w.frozen? ⟨b, i, none⟩ = false := by simp [World.frozen?, show w.heap[b]? = _ from h]
theorem Box.lt {w : World} {t : TypeId} {b : Nat} {vs : Array Value} (h : Box w t b vs) : b < w.heap.size := (Array.getElem?_eq_some_iff.1 h).1
theorem Box.set {w : World} {t : TypeId} {b : Nat} {vs : Array Value} (h : Box w t b vs) (i : Nat) (v : Value) : Box (w.setCell ⟨b, i, none⟩ v) t b (vs.setIfInBounds i v) := heap_setCell_same w b i _ _ _ h
theorem gb_cellN {w w' : World} (hf : w.grownBy w' none) {x : Addr} {v : Value} (h : w.cell? x = some v) : w'.cell? x = some v := by
  have hlt := World.block_lt_of_cell? _ _ h
  have := hf.block x.block hlt (by simp)
  simpa [World.cell?, this] using h
theorem gb_cell {w w' : World} {row : Option Nat} (hf : w.grownBy w' row) {x : Addr} {v : Value} (h : w.cell? x = some v) (hn : some x.block ≠ row) : w'.cell? x = some v := by
  have hlt := World.block_lt_of_cell? _ _ h
  have := hf.block x.block hlt hn
  simpa [World.cell?, this] using h
theorem lt_of_block {w : World} {k : Nat} {o : Obj} (h : w.heap[k]? = some o) : k < w.heap.size := (Array.getElem?_eq_some_iff.1 h).1
structure Kp (F : Nat → Prop) (w w' : World) : Prop where
  os : w'.os = w.os
  tape : w'.tape = w.tape
  output : w'.output = w.output
  size : w.heap.size ≤ w'.heap.size
  block : ∀ k, k < w.heap.size → ¬ F k → w'.heap[k]? = w.heap[k]?
theorem Kp.refl (F : Nat → Prop) (w : World) : Kp F w w := ⟨rfl, rfl, rfl, Nat.le_refl _, fun _ _ _ => rfl⟩
theorem Kp.step {F : Nat → Prop} {w a b : World} (h : Kp F w a) {row : Option Nat} (k : a.grownBy b row) (hr : ∀ i, row = some i → F i ∨ w.heap.size ≤ i) : Kp F w b :=
  ⟨k.os.trans h.os, k.tape.trans h.tape, k.output.trans h.output, Nat.le_trans h.size k.size, fun i hi hF => (k.block i (Nat.lt_of_lt_of_le hi h.size) (fun e => by rcases hr i e.symm with h1 | h1; exact hF h1; omega)).trans (h.block i hi hF)⟩
theorem Kp.of {F : Nat → Prop} {w w' : World} (h : w.grownBy w' none) : Kp F w w' := (Kp.refl F w).step h (by simp)
theorem Kp.trans {F G H : Nat → Prop} {a b c : World} (h : Kp F a b) (k : Kp G b c) (hF : ∀ i, F i → H i) (hG : ∀ i, G i → H i ∨ a.heap.size ≤ i) : Kp H a c :=
  ⟨k.os.trans h.os, k.tape.trans h.tape, k.output.trans h.output, Nat.le_trans h.size k.size, fun i hi hn => (k.block i (Nat.lt_of_lt_of_le hi h.size) (fun e => by rcases hG i e with h1 | h1; exact hn h1; omega)).trans (h.block i hi (fun e => hn (hF i e)))⟩
theorem Kp.grown {F : Nat → Prop} {a b : World} (h : Kp F a b) (hF : ∀ i, F i → a.heap.size ≤ i) : a.grownBy b none :=
  ⟨h.os, h.tape, h.output, h.size, fun i hi _ => h.block i hi (fun e => by have := hF i e; omega)⟩
theorem ne_of_type {w : World} {a b : Nat} {c1 c2 : Array Value} {t1 t2 : TypeId} {z1 z2 : Nat × Nat} (h1 : w.heap[a]? = some (.cells c1 t1 z1)) (h2 : w.heap[b]? = some (.cells c2 t2 z2)) (h : t1 ≠ t2) : a ≠ b := by
  intro e; subst e
  rw [h1] at h2
  injection h2 with h2
  injection h2 with _ h3 _
  exact h h3
theorem row_block {w : World} {B : Nat} {e : TypeId} {s : Nat} {v : Value} {n : Nat} {xs : List Value} (h : w.ownsRow B e s v n xs) : ∀ k, v.ownBlock = some k → ∃ cur, w.heap[k]? = some (.cells cur e (0, 0)) := by
  intro k hk
  rcases h.2 with ⟨rfl, rfl⟩ | ⟨g, c, cur, rfl, h2, h3, h4, h5, h6⟩
  · simp [Value.ownBlock] at hk
  · simp [Value.ownBlock] at hk; subst hk; exact ⟨cur, h3⟩
theorem row_cell {w : World} {B : Nat} {e : TypeId} {s : Nat} {g n c : Nat} {xs : List Value} (h : w.ownsRow B e s (.slice (some ⟨g, 0, none⟩) n c) n xs) (i : Nat) (u : Value) (hu : xs[i]? = some u) : w.cell? ⟨g, i, none⟩ = some u := by
  have := h.cells (g := g) rfl i u hu
  rw [Addr.add_mid, Nat.zero_add] at this
  exact this
theorem row_shape {w : World} {B : Nat} {e : TypeId} {s : Nat} {v : Value} {n : Nat} {xs : List Value} (h : w.ownsRow B e s v n xs) : ∃ ao c, v = .slice ao n c ∧ (ao = none → n = 0 ∧ c = 0) ∧ n ≤ c ∧ c ≤ maxLen ∧ (0 < n → ∃ g, ao = some ⟨g, 0, none⟩) := by
  rcases h.2 with ⟨rfl, rfl⟩ | ⟨g, c, cur, rfl, h2, h3, h4, h5, h6⟩
  · exact ⟨none, 0, rfl, fun _ => ⟨rfl, rfl⟩, Nat.le_refl _, by unfold maxLen; omega, fun h => by omega⟩
  · exact ⟨_, c, rfl, fun h => by simp at h, h4, h5, fun _ => ⟨g, rfl⟩⟩
theorem row_same {w w' : World} {B : Nat} {e : TypeId} {s : Nat} {v : Value} {n : Nat} {xs : List Value} (h1 : w.ownsRow B e s v n xs) (hf : ∀ k, v.ownBlock = some k → w'.heap[k]? = w.heap[k]?) : w'.ownsRow B e s v n xs := by
  refine ⟨h1.1, ?_⟩
  rcases h1.2 with h3 | ⟨g, c, cur, rfl, h4, h5, h6⟩
  · exact .inl h3
  · exact .inr ⟨g, c, cur, rfl, h4, by rw [hf g rfl]; exact h5, h6⟩
theorem row_kept {w w' : World} {B : Nat} {e : TypeId} {s : Nat} {v : Value} {n : Nat} {xs : List Value} (h1 : w.ownsRow B e s v n xs) {row : Option Nat} (hf : w.grownBy w' row) (hn : ∀ k, v.ownBlock = some k → some k ≠ row) : w'.ownsRow B e s v n xs :=
  row_same h1 fun k hk => by
    obtain ⟨cur, hc⟩ := row_block h1 k hk
    exact hf.block k (lt_of_block hc) (hn k hk)
theorem row_base {w : World} {B B' : Nat} {e : TypeId} {s : Nat} {v : Value} {n : Nat} {xs : List Value} (h : w.ownsRow B e s v n xs) (hB : B' ≤ B) : w.ownsRow B' e s v n xs := by
  refine ⟨h.1, ?_⟩
  rcases h.2 with h1 | ⟨g, c, cur, h1, h2, h3⟩
  · exact .inl h1
  · exact .inr ⟨g, c, cur, h1, Nat.le_trans hB h2, h3⟩
section
variable {P : Program} {w : World} {ops : Array Oper} {rest : List Oper} {o : Oper} {a : Act} {Q : Exit → Act → World → Prop}
theorem wpList_pushN (hgd : o.guard = none) (s x : Operand) (t : TypeId) (ho : o.op = .call { callee := .builtin .append, args := #[s, x], argTypes := #[t, t] }) (e : TypeId) (i : TypeInfo) (z : Value) (size bytes : Nat)
    (ht : P.underlying t = some (.slice e)) (hi : P.info? e = some i) (hz : i.zero = some z) (hsize : i.size = size) (hby : i.bytes = bytes) (hzs : z.cells.size = size) (hsz : 0 < size) (hb : bytes ≤ 1000)
    (B : Nat) (v : Value) (n : Nat) (xs : List Value) (hs : a.eval s = v) (hown : w.ownsRow B e size v n xs) (us : List Value) (hul : us.length = size) (hu : ∀ u ∈ us, u.oneCell' = true) (hx : a.eval x = .slice (some ⟨w.heap.size, 0, none⟩) 1 1) (hn : n ≤ 100000000000) (hB : B ≤ w.heap.size)
    (h : ∀ g cap w', w'.ownsRow B e size (.slice (some ⟨g, 0, none⟩) (n + 1) cap) (n + 1) (xs ++ us) → w.grownBy w' v.ownBlock → (v.ownBlock = some g ∨ w.heap.size ≤ g) → wpList P ops Q rest (a.put o.dst (.slice (some ⟨g, 0, none⟩) (n + 1) cap)) w') : wpList P ops Q (o :: rest) a (w.alloc (.cells us.toArray e)) := by
  refine wpList_plain hgd fun K hK => ?_
  have hbb : (n + 1) * bytes ≤ 140737488355328 := Nat.le_trans (Nat.mul_le_mul (Nat.succ_le_succ hn) hb) (by omega)
  refine wp_append_lies _ s x t ho B e i z size bytes ht hi hz hsize hby hzs hsz v n xs hs (World.ownsRow.alloc hown _) ⟨w.heap.size, 0, none⟩ 1 1 us hx (by omega) ?_ hu (by omega) (by unfold maxLen; omega) hbb (by simp; omega) (w.heap.size + 1) (by simp) ?_
  · exact World.news_of_block (cs := us.toArray) (t := e) (fr := (0, 0)) (heap_alloc_new w _)
  · intro g cap w' h1 h2 h3 h4
    refine hK _ _ (h g cap w' h1 (gb_trans (World.grownBy_alloc w _ _) h2) ?_)
    rcases h3 with h3 | h3
    · exact .inl h3
    · exact .inr (by omega)
end
end Go.Proofs.YtbbocbdoiealoaaGreatDoor
namespace Go.Proofs.YtbbocbdoiealoaaGreatDoor
abbrev Bs := List UInt8
abbrev sv (l : Bs) : Value := .string ⟨l.toArray⟩
structure Fl where
  letter : UInt8
  arg : Bs
  has : Bool
structure Cmd where
  verb : Int
  keys : List Bs
  flags : Nat
  exp : Int
  tok : Nat
  del : Nat
  nr : Bool
  mt : List Fl
  what : Bs
structure Rw where
  verb : Int
  wants : Bs
  may : Bs
  endless : Bool
  quiet : Bool
abbrev badLine : Bs := [98, 97, 100, 32, 99, 111, 109, 109, 97, 110, 100, 32, 108, 105, 110, 101, 32, 102, 111, 114, 109, 97, 116]
abbrev badTime : Bs := [105, 110, 118, 97, 108, 105, 100, 32, 101, 120, 112, 116, 105, 109, 101, 32, 97, 114, 103, 117, 109, 101, 110, 116]
abbrev badDelta : Bs := [105, 110, 118, 97, 108, 105, 100, 32, 110, 117, 109, 101, 114, 105, 99, 32, 100, 101, 108, 116, 97, 32, 97, 114, 103, 117, 109, 101, 110, 116]
abbrev tooLong : Bs := [108, 105, 110, 101, 32, 116, 111, 111, 32, 108, 111, 110, 103]
abbrev noFlag : Bs := [105, 110, 118, 97, 108, 105, 100, 32, 102, 108, 97, 103]
abbrev twice : Bs := [100, 117, 112, 108, 105, 99, 97, 116, 101, 32, 102, 108, 97, 103]
abbrev badOpaque : Bs := [111, 112, 97, 113, 117, 101, 32, 116, 111, 107, 101, 110, 32, 116, 111, 111, 32, 108, 111, 110, 103]
abbrev badToken : Bs := [98, 97, 100, 32, 116, 111, 107, 101, 110, 32, 105, 110, 32, 99, 111, 109, 109, 97, 110, 100, 32, 108, 105, 110, 101, 32, 102, 111, 114, 109, 97, 116]
abbrev reset : Bs := [114, 101, 115, 101, 116]
abbrev noreply : Bs := [110, 111, 114, 101, 112, 108, 121]
def spl : Bs → Bs → List Bs
  | cur, [] => if cur = [] then [] else [cur]
  | cur, b :: t => if b = 32 then (if cur = [] then spl [] t else cur :: spl [] t) else spl (cur ++ [b]) t
def nb (most : Nat) (l : Bs) : Option Nat := match Lib.parseUintB 64 l with
  | .ok u => if u ≤ most then some u else none
  | _ => none
def tm (l : Bs) : Option Int := match Lib.parseIntB 64 l with
  | .ok v => if l.head? = some 43 then none else some v
  | _ => none
def plain (l : Bs) : Bool := l.all fun b => decide (32 < b) && decide (b ≠ 127)
def bare (v : Int) : Bs :=
  if v = 20 then [107, 113, 118, 102, 99, 116, 115, 104, 108] else
  if v = 21 then [107, 113, 99, 73] else
  if v = 22 then [107, 113, 99, 73] else
  if v = 23 then [107, 113, 118, 99, 116] else
  []
def full (v : Int) : Bs :=
  if v = 20 then [79, 84, 78, 82] else
  if v = 21 then [79, 84, 70, 67, 77] else
  if v = 22 then [79, 84, 67] else
  if v = 23 then [79, 84, 78, 67, 77, 68, 74] else
  []
def modes (v : Int) : Bs :=
  if v = 21 then [83, 69, 65, 80, 82, 115, 101, 97, 112, 114] else
  [73, 68, 105, 100]
def mode1 (v : Int) : Bs → Bool
  | [b] => (modes v).contains b
  | _ => false
def follows (v : Int) (f : Fl) : Bool :=
  if f.letter = 79 then plain f.arg else
  if f.letter = 84 ∨ f.letter = 78 then (tm f.arg).isSome else
  if f.letter = 82 ∨ f.letter = 67 ∨ f.letter = 68 ∨ f.letter = 74 then (nb 18446744073709551615 f.arg).isSome else
  if f.letter = 70 then (nb 4294967295 f.arg).isSome else
  if f.letter = 77 then mode1 v f.arg else false
def fl1 (v : Int) (seen : Bs) (f : Fl) : Bs :=
  if !(bare v).contains f.letter && !(full v).contains f.letter then noFlag else
  if seen.contains f.letter then twice else
  if f.letter = 79 ∧ (f.arg = [] ∨ 32 < f.arg.length) then badOpaque else
  if f.has ≠ decide (f.arg ≠ []) ∨ f.has ≠ (full v).contains f.letter ∨ (f.has = true ∧ follows v f = false) then badToken else []
def flS (v : Int) : Bs → List Fl → Bs
  | _, [] => []
  | seen, f :: t => if fl1 v seen f = [] then flS v (f.letter :: seen) t else fl1 v seen f
def take1 (c : Cmd) (a : UInt8) (x : Bs) : Cmd ⊕ Bs :=
  if a = 75 then (if x.length ≤ 250 ∧ plain x = true then .inl { c with keys := c.keys ++ [x] } else .inr badLine) else
  if a = 70 then (match nb 4294967295 x with | some n => .inl { c with flags := n } | none => .inr badLine) else
  if a = 84 ∨ a = 76 then (match tm x with | some t => if a = 84 ∨ 0 ≤ t then .inl { c with exp := t } else .inr badTime | none => .inr badTime) else
  if a = 78 ∨ a = 86 then (match nb 2147483647 x with | some _ => .inl c | none => .inr badLine) else
  if a = 67 then (match nb 18446744073709551615 x with | some n => .inl { c with tok := n } | none => .inr badLine) else
  if a = 68 then (match nb 18446744073709551615 x with | some n => .inl { c with del := n } | none => .inr badDelta) else
  if a = 48 then (if x = [48] then .inl c else .inr badLine) else
  if a = 87 then (if x = reset then .inl { c with what := reset } else .inr badLine) else
  if a = 77 then .inl { c with mt := c.mt ++ [⟨x.headD 0, x.tail, decide (1 < x.length)⟩] } else .inl c
def takes : Rw → Nat → Bool := fun r n => decide (r.wants.length ≤ n) && (r.endless || decide (n ≤ r.wants.length + r.may.length))
def lett (r : Rw) (i : Nat) : UInt8 := (r.wants ++ r.may).getD (min i ((r.wants ++ r.may).length - 1)) 0
def takeL (r : Rw) : Nat → Cmd → List Bs → Cmd ⊕ Bs
  | _, c, [] => .inl c
  | i, c, x :: t => match take1 c (lett r i) x with | .inl d => takeL r (i + 1) d t | .inr e => .inr e
def cmd0 (v : Int) (q : Bool) : Cmd := ⟨v, [], 0, 0, 0, 0, q, [], []⟩
def qt (r : Rw) (ws : List Bs) : Bool := r.quiet && (decide (r.wants.length + 1 ≤ ws.length) && decide (ws.getLast? = some noreply))
def fin (v : Int) : Cmd ⊕ Bs → Cmd ⊕ Bs
  | .inl c => if flS v [] c.mt = [] then .inl c else .inr (flS v [] c.mt)
  | .inr e => .inr e
def readS (r : Rw) (ws : List Bs) : Cmd ⊕ Bs :=
  let vs := if qt r ws then ws.dropLast else ws
  if takes r vs.length then fin r.verb (takeL r 0 (cmd0 r.verb (qt r ws)) vs) else .inr badLine
def passS (r : Rw) (ws : List Bs) : Int := match r.wants.idxOf? 78 with
  | some i => (match ws[i]? with | some x => (match nb 2147483647 x with | some n => n | none => -1) | none => -1)
  | none => -1
def rowL : List (Bs × Rw) := [
  ([103, 101, 116], ⟨1, [75], [75], true, false⟩),
  ([103, 101, 116, 115], ⟨2, [75], [75], true, false⟩),
  ([103, 97, 116], ⟨3, [84, 75], [75], true, false⟩),
  ([103, 97, 116, 115], ⟨4, [84, 75], [75], true, false⟩),
  ([115, 101, 116], ⟨5, [75, 70, 84, 78], [], false, true⟩),
  ([97, 100, 100], ⟨6, [75, 70, 84, 78], [], false, true⟩),
  ([114, 101, 112, 108, 97, 99, 101], ⟨7, [75, 70, 84, 78], [], false, true⟩),
  ([97, 112, 112, 101, 110, 100], ⟨8, [75, 70, 84, 78], [], false, true⟩),
  ([112, 114, 101, 112, 101, 110, 100], ⟨9, [75, 70, 84, 78], [], false, true⟩),
  ([99, 97, 115], ⟨10, [75, 70, 84, 78, 67], [], false, true⟩),
  ([100, 101, 108, 101, 116, 101], ⟨11, [75], [48], false, true⟩),
  ([105, 110, 99, 114], ⟨12, [75, 68], [], false, true⟩),
  ([100, 101, 99, 114], ⟨13, [75, 68], [], false, true⟩),
  ([116, 111, 117, 99, 104], ⟨14, [75, 84], [], false, true⟩),
  ([102, 108, 117, 115, 104, 95, 97, 108, 108], ⟨15, [], [76], false, true⟩),
  ([118, 101, 114, 115, 105, 111, 110], ⟨16, [], [], false, false⟩),
  ([118, 101, 114, 98, 111, 115, 105, 116, 121], ⟨17, [86], [], false, true⟩),
  ([113, 117, 105, 116], ⟨18, [], [], false, false⟩),
  ([115, 116, 97, 116, 115], ⟨19, [], [87], false, false⟩),
  ([109, 103], ⟨20, [75], [77], true, false⟩),
  ([109, 115], ⟨21, [75, 78], [77], true, false⟩),
  ([109, 100], ⟨22, [75], [77], true, false⟩),
  ([109, 97], ⟨23, [75], [77], true, false⟩),
  ([109, 110], ⟨24, [], [], false, false⟩)]
def rowS (x : Bs) : Option Rw := rowL.lookup x
def lineS (l : Bs) : (Cmd × Int) ⊕ (Int × Bs × Int) :=
  if 2048 < l.length then .inr (2, tooLong, -1) else
  match spl [] l with
  | [] => .inr (1, [], -1)
  | x :: ws => match rowS x with
    | none => .inr (1, [], -1)
    | some r => match readS r ws with
      | .inl c => .inl (c, passS r ws)
      | .inr e => .inr (2, e, passS r ws)
end Go.Proofs.YtbbocbdoiealoaaGreatDoor
