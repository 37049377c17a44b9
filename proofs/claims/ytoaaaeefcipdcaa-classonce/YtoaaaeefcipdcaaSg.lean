import Derived.Test.YtoaaaeefcipdcaaSf
/-
  A Set in memory.
-/
namespace Go.Proofs.Ytoaaaeefcipdcaa
open Go.RowKit
set_option linter.unusedVariables false

/-! Rows of elements of several cells. -/
def rng (n : Nat) (f : Nat → List Value) : List Value := (List.range n).flatMap f
theorem rng_zero (f : Nat → List Value) : rng 0 f = [] := rfl
theorem rng_succ (n : Nat) (f : Nat → List Value) : rng (n + 1) f = rng n f ++ f n := by simp [rng, List.range_succ]
theorem rng_len {f : Nat → List Value} {s : Nat} (h : ∀ i, (f i).length = s) : ∀ n, (rng n f).length = n * s
  | 0 => by simp [rng]
  | n + 1 => by rw [rng_succ, List.length_append, rng_len h n, h, Nat.add_mul, Nat.one_mul]
theorem rng_get {f : Nat → List Value} {s : Nat} (h : ∀ i, (f i).length = s) : ∀ {n i j : Nat}, i < n → j < s → (rng n f)[i * s + j]? = (f i)[j]?
  | 0, _, _, hi, _ => by omega
  | n + 1, i, j, hi, hj => by
    rw [rng_succ]
    rcases Nat.lt_or_ge i n with h1 | h1
    · have hms : (i + 1) * s ≤ n * s := Nat.mul_le_mul_right s h1
      rw [Nat.add_mul, Nat.one_mul] at hms
      rw [List.getElem?_append_left (by rw [rng_len h]; omega)]
      exact rng_get h h1 hj
    · have : i = n := by omega
      subst this
      rw [List.getElem?_append_right (by rw [rng_len h]; omega), rng_len h]
      congr 1; omega
theorem rng_congr {f g : Nat → List Value} : ∀ {n : Nat}, (∀ i, i < n → f i = g i) → rng n f = rng n g
  | 0, _ => rfl
  | n + 1, h => by rw [rng_succ, rng_succ, rng_congr (fun i hi => h i (by omega)), h n (by omega)]
theorem rng_set {f g : Nat → List Value} {s : Nat} (h : ∀ i, (f i).length = s) {i j : Nat} (hj : j < s) (v : Value) (hg : ∀ k, k ≠ i → g k = f k) (hi : g i = (f i).set j v) : ∀ {n : Nat}, i < n → (rng n f).set (i * s + j) v = rng n g
  | 0, hn => by omega
  | n + 1, hn => by
    rw [rng_succ, rng_succ]
    rcases Nat.lt_or_ge i n with h1 | h1
    · have hms : (i + 1) * s ≤ n * s := Nat.mul_le_mul_right s h1
      rw [Nat.add_mul, Nat.one_mul] at hms
      rw [List.set_append_left _ _ (by rw [rng_len h]; omega), rng_set h hj v hg hi h1, hg n (by omega)]
    · have : i = n := by omega
      subst this
      rw [List.set_append_right _ _ (by rw [rng_len h]; omega), rng_len h, hi]
      congr 1
      · exact rng_congr fun k hk => (hg k (by omega)).symm
      · congr 1; omega

/-- What is said of a Set. -/
structure Ab where
  ps : Nat
  m : Nat
  n : Nat
  sz : Nat → Nat
  np : Nat
  own : Nat → Nat
  gen : Nat → Nat → Nat
  tkn : Nat → Nat → Bool
  row : Nat → List Nat
  tk : Nat → Nat
/-- Chunks of a page of a class. -/
def Ab.each (A : Ab) (c : Nat) : Nat := A.ps / A.sz c
/-- The numbers of a chunk. -/
def Ab.place (A : Ab) (p k : Nat) : Nat := p * A.ps + k * A.sz (A.own p)
def Ab.num (A : Ab) (p k : Nat) : Nat := A.place p k / 8 + 1

def kindC (A : Ab) (rv : Nat → Value) (i : Nat) : List Value := [.int .i64 (A.sz i), .int .i64 (A.each i), rv i, .int .i64 (A.tk i)]
def pageC (A : Ab) (cb : Nat → Nat) (i : Nat) : List Value := [.int .i64 (A.own i), .slice (some ⟨cb i, 0, none⟩) (A.each (A.own i)) (A.each (A.own i))]
def chunkC (A : Ab) (p k : Nat) : List Value := [.int .u32 (A.gen p k), .bool (A.tkn p k)]
def u32s (xs : List Nat) : List Value := xs.map fun (n : Nat) => Value.int .u32 (n : Int)

/-- Where a Set lies. -/
structure Bl where
  ab : Nat
  ag : Nat
  kb : Nat
  kc : Nat
  pv : Value
  rv : Nat → Value
  cb : Nat → Nat

def setC (a b c d e f g : Int) (B : Bl) (n : Nat) : Array Value := #[.int .i64 a, .int .i64 b, .int .i64 c, .int .i64 d, .int .i64 e, .int .i64 f, .int .i64 g, .pointer (some ⟨B.ab, 0, none⟩), .slice (some ⟨B.kb, 0, none⟩) n B.kc, B.pv]

/-- A Set in memory; F: its blocks; zs: the arena's bytes. -/
structure IsS (w : World) (sb : Nat) (F : Nat → Prop) (B : Bl) (b c d e f g : Int) (A : Ab) (zs : List Int) : Prop where
  box : Box w 109 sb (setC A.ps b c d e f g B A.n)
  kinds : w.ownsRow 0 112 4 (.slice (some ⟨B.kb, 0, none⟩) A.n B.kc) A.n (rng A.n (kindC A B.rv))
  pages : w.ownsRow 0 188 2 B.pv A.np (rng A.np (pageC A B.cb))
  chunks : ∀ p, p < A.np → w.heap[B.cb p]? = some (.cells (rng (A.each (A.own p)) (chunkC A p)).toArray 131 (0, 0))
  rows : ∀ i, i < A.n → w.ownsRow 0 126 1 (B.rv i) (A.row i).length (u32s (A.row i))
  ar : IsA w B.ab B.ag A.ps A.m zs
  fs : F sb
  fk : F B.kb
  fp : ∀ k, B.pv.ownBlock = some k → F k
  fc : ∀ p, p < A.np → F (B.cb p)
  fr : ∀ i k, i < A.n → (B.rv i).ownBlock = some k → F k
  fa : F B.ab ∧ F B.ag
  lt : ∀ k, F k → k < w.heap.size
  cinj : ∀ p q, p < A.np → q < A.np → B.cb p = B.cb q → p = q
  rinj : ∀ i j k, i < A.n → j < A.n → (B.rv i).ownBlock = some k → (B.rv j).ownBlock = some k → i = j
  bm : b = A.m

theorem IsA.same {w w' : World} {b g ps m : Nat} {zs : List Int} (h : IsA w b g ps m zs) (h1 : w'.heap[b]? = w.heap[b]?) (h2 : w'.heap[g]? = w.heap[g]?) : IsA w' b g ps m zs := by
  obtain ⟨a1, a2, a3, a4, a5, a6, a7⟩ := h
  exact ⟨by rw [h1]; exact a1, by rw [h2]; exact a2, a3, a4, a5, a6, a7⟩

/-- It hangs on its blocks alone. -/
theorem IsS.same {w w' : World} {sb : Nat} {F : Nat → Prop} {B : Bl} {b c d e f g : Int} {A : Ab} {zs : List Int} (h : IsS w sb F B b c d e f g A zs) (hs : w.heap.size ≤ w'.heap.size) (hf : ∀ k, F k → w'.heap[k]? = w.heap[k]?) : IsS w' sb F B b c d e f g A zs := by
  refine ⟨?_, row_same h.kinds (fun k hk => hf k ?_), row_same h.pages (fun k hk => hf k (h.fp k hk)), fun p hp => ?_, fun i hi => row_same (h.rows i hi) (fun k hk => hf k (h.fr i k hi hk)), h.ar.same (hf _ h.fa.1) (hf _ h.fa.2), h.fs, h.fk, h.fp, h.fc, h.fr, h.fa, fun k hk => Nat.lt_of_lt_of_le (h.lt k hk) hs, h.cinj, h.rinj, h.bm⟩
  · unfold Box; rw [hf sb h.fs]; exact h.box
  · simp [Value.ownBlock] at hk; subst hk; exact h.fk
  · rw [hf _ (h.fc p hp)]; exact h.chunks p hp
theorem IsS.kept {w w' : World} {sb : Nat} {F G : Nat → Prop} {B : Bl} {b c d e f g : Int} {A : Ab} {zs : List Int} (h : IsS w sb F B b c d e f g A zs) (hf : Kp G w w') (hd : ∀ k, F k → ¬ G k) : IsS w' sb F B b c d e f g A zs :=
  h.same hf.size fun k hk => hf.block k (h.lt k hk) (hd k hk)
theorem IsS.kept0 {w w' : World} {sb : Nat} {F : Nat → Prop} {B : Bl} {b c d e f g : Int} {A : Ab} {zs : List Int} (h : IsS w sb F B b c d e f g A zs) (hf : w.grownBy w' none) : IsS w' sb F B b c d e f g A zs :=
  h.same hf.size fun k hk => hf.block k (h.lt k hk) (by simp)

theorem kindC_len (A : Ab) (rv : Nat → Value) (i : Nat) : (kindC A rv i).length = 4 := rfl
theorem pageC_len (A : Ab) (cb : Nat → Nat) (i : Nat) : (pageC A cb i).length = 2 := rfl
theorem chunkC_len (A : Ab) (p k : Nat) : (chunkC A p k).length = 2 := rfl

section
variable {w : World} {sb : Nat} {F : Nat → Prop} {B : Bl} {b c d e f g : Int} {A : Ab} {zs : List Int}
theorem IsS.sc (h : IsS w sb F B b c d e f g A zs) (i : Nat) : w.cell? ⟨sb, i, none⟩ = (setC A.ps b c d e f g B A.n)[i]? := h.box.cell i
theorem IsS.kcell (h : IsS w sb F B b c d e f g A zs) {i j : Nat} (hi : i < A.n) (hj : j < 4) : w.cell? ⟨B.kb, i * 4 + j, none⟩ = (kindC A B.rv i)[j]? := by
  have e := rng_get (kindC_len A B.rv) hi hj
  have hl : j < (kindC A B.rv i).length := hj
  rw [List.getElem?_eq_getElem hl]
  rw [List.getElem?_eq_getElem hl] at e
  exact row_cell h.kinds _ _ e
end

/-- A class's numbers are right. -/
structure Szs (A : Ab) : Prop where
  n1 : 1 ≤ A.n
  n2 : A.n ≤ 62
  lo : ∀ i, i < A.n → 64 ≤ A.sz i
  hi : ∀ i, i < A.n → A.sz i ≤ A.ps
  m8 : ∀ i, i < A.n → A.sz i % 8 = 0
  up : ∀ i j, i < j → j < A.n → A.sz i + 8 ≤ A.sz j
  pp : ∃ k, A.ps = 2 ^ k ∧ 12 ≤ k ∧ k ≤ 20
  mm : 1 ≤ A.m ∧ A.m ≤ 1024

end Go.Proofs.Ytoaaaeefcipdcaa
