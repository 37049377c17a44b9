import Derived.Test.YtjkdflnnpdionaaGreatMb
/-
  heavy.
-/
namespace Go.Proofs.YtjkdflnnpdionaaGreat
open Go.RowKit
set_option linter.unusedVariables false

end Go.Proofs.YtjkdflnnpdionaaGreat
/-
  A Set in memory.
-/
namespace Go.Proofs.YtjkdflnnpdionaaGreat
open Go.RowKit
set_option linter.unusedVariables false

/-! Rows of elements of several cells. -/
def rng (n : Nat) (f : Nat → List Value) : List Value := (List.range n).flatMap f
theorem rng_zero (f : Nat → List Value) : rng 0 f = [] := rfl
theorem rng_succ (n : Nat) (f : Nat → List Value) : rng (n + 1) f = rng n f ++ f n := by simp [rng, List.range_succ]
theorem rng_len {f : Nat → List Value} {s : Nat} (h : ∀ i, (f i).length = s) : ∀ n, (rng n f).length = n * s
  | 0 => by simp [rng]
  | n + 1 => by rw [rng_succ, List.length_append, rng_len h n, h, Nat.add_mul, Nat.one_mul]
theorem rng_get {f : Nat → List Value} {s : Nat} (h : ∀ i, (f i).length = s) : ∀ {n i j : Nat}, i < n → j < s → (rng n f)[i * s + j]? = (f i)[j]?
  | 0, _, _, hi, _ => by omega
  | n + 1, i, j, hi, hj => by
    rw [rng_succ]
    rcases Nat.lt_or_ge i n with h1 | h1
    · have hms : (i + 1) * s ≤ n * s := Nat.mul_le_mul_right s h1
      rw [Nat.add_mul, Nat.one_mul] at hms
      rw [List.getElem?_append_left (by rw [rng_len h]; omega)]
      exact rng_get h h1 hj
    · have : i = n := by omega
      subst this
      rw [List.getElem?_append_right (by rw [rng_len h]; omega), rng_len h]
      congr 1; omega
theorem rng_congr {f g : Nat → List Value} : ∀ {n : Nat}, (∀ i, i < n → f i = g i) → rng n f = rng n g
  | 0, _ => rfl
  | n + 1, h => by rw [rng_succ, rng_succ, rng_congr (fun i hi => h i (by omega)), h n (by omega)]
theorem rng_set {f g : Nat → List Value} {s : Nat} (h : ∀ i, (f i).length = s) {i j : Nat} (hj : j < s) (v : Value) (hg : ∀ k, k ≠ i → g k = f k) (hi : g i = (f i).set j v) : ∀ {n : Nat}, i < n → (rng n f).set (i * s + j) v = rng n g
  | 0, hn => by omega
  | n + 1, hn => by
    rw [rng_succ, rng_succ]
    rcases Nat.lt_or_ge i n with h1 | h1
    · have hms : (i + 1) * s ≤ n * s := Nat.mul_le_mul_right s h1
      rw [Nat.add_mul, Nat.one_mul] at hms
      rw [List.set_append_left _ _ (by rw [rng_len h]; omega), rng_set h hj v hg hi h1, hg n (by omega)]
    · have : i = n := by omega
      subst this
      rw [List.set_append_right _ _ (by rw [rng_len h]; omega), rng_len h, hi]
      congr 1
      · exact rng_congr fun k hk => (hg k (by omega)).symm
      · congr 1; omega

/-- What is said of a Set. -/
structure Ab where
  ps : Nat
  m : Nat
  n : Nat
  sz : Nat → Nat
  np : Nat
  own : Nat → Nat
  gen : Nat → Nat → Nat
  tkn : Nat → Nat → Bool
  row : Nat → List Nat
  tk : Nat → Nat
/-- Chunks of a page of a class. -/
def Ab.each (A : Ab) (c : Nat) : Nat := A.ps / A.sz c
/-- The numbers of a chunk. -/
def Ab.place (A : Ab) (p k : Nat) : Nat := p * A.ps + k * A.sz (A.own p)
def Ab.num (A : Ab) (p k : Nat) : Nat := A.place p k / 8 + 1

def kindC (A : Ab) (rv : Nat → Value) (i : Nat) : List Value := [.int .i64 (A.sz i), .int .i64 (A.each i), rv i, .int .i64 (A.tk i)]
def pageC (A : Ab) (cb : Nat → Nat) (i : Nat) : List Value := [.int .i64 (A.own i), .slice (some ⟨cb i, 0, none⟩) (A.each (A.own i)) (A.each (A.own i))]
def chunkC (A : Ab) (p k : Nat) : List Value := [.int .u32 (A.gen p k), .bool (A.tkn p k)]
def u32s (xs : List Nat) : List Value := xs.map fun (n : Nat) => Value.int .u32 (n : Int)

/-- Where a Set lies. -/
structure Bl where
  ab : Nat
  ag : Nat
  kb : Nat
  kc : Nat
  pv : Value
  rv : Nat → Value
  cb : Nat → Nat

def setC (a b c d e f g : Int) (B : Bl) (n : Nat) : Array Value := #[.int .i64 a, .int .i64 b, .int .i64 c, .int .i64 d, .int .i64 e, .int .i64 f, .int .i64 g, .pointer (some ⟨B.ab, 0, none⟩), .slice (some ⟨B.kb, 0, none⟩) n B.kc, B.pv]

/-- A Set in memory; F: its blocks; zs: the arena's bytes. -/
structure IsS (w : World) (sb : Nat) (F : Nat → Prop) (B : Bl) (b c d e f g : Int) (A : Ab) (zs : List Int) : Prop where
  box : Box w 187 sb (setC A.ps b c d e f g B A.n)
  kinds : w.ownsRow 0 190 4 (.slice (some ⟨B.kb, 0, none⟩) A.n B.kc) A.n (rng A.n (kindC A B.rv))
  pages : w.ownsRow 0 263 2 B.pv A.np (rng A.np (pageC A B.cb))
  chunks : ∀ p, p < A.np → w.heap[B.cb p]? = some (.cells (rng (A.each (A.own p)) (chunkC A p)).toArray 210 (0, 0))
  rows : ∀ i, i < A.n → w.ownsRow 0 205 1 (B.rv i) (A.row i).length (u32s (A.row i))
  ar : IsA w B.ab B.ag A.ps A.m zs
  fs : F sb
  fk : F B.kb
  fp : ∀ k, B.pv.ownBlock = some k → F k
  fc : ∀ p, p < A.np → F (B.cb p)
  fr : ∀ i k, i < A.n → (B.rv i).ownBlock = some k → F k
  fa : F B.ab ∧ F B.ag
  lt : ∀ k, F k → k < w.heap.size
  cinj : ∀ p q, p < A.np → q < A.np → B.cb p = B.cb q → p = q
  rinj : ∀ i j k, i < A.n → j < A.n → (B.rv i).ownBlock = some k → (B.rv j).ownBlock = some k → i = j
  bm : b = A.m

theorem IsA.same {w w' : World} {b g ps m : Nat} {zs : List Int} (h : IsA w b g ps m zs) (h1 : w'.heap[b]? = w.heap[b]?) (h2 : w'.heap[g]? = w.heap[g]?) : IsA w' b g ps m zs := by
  obtain ⟨a1, a2, a3, a4, a5, a6, a7⟩ := h
  exact ⟨by rw [h1]; exact a1, by rw [h2]; exact a2, a3, a4, a5, a6, a7⟩

/-- It hangs on its blocks alone. -/
theorem IsS.same {w w' : World} {sb : Nat} {F : Nat → Prop} {B : Bl} {b c d e f g : Int} {A : Ab} {zs : List Int} (h : IsS w sb F B b c d e f g A zs) (hs : w.heap.size ≤ w'.heap.size) (hf : ∀ k, F k → w'.heap[k]? = w.heap[k]?) : IsS w' sb F B b c d e f g A zs := by
  refine ⟨?_, row_same h.kinds (fun k hk => hf k ?_), row_same h.pages (fun k hk => hf k (h.fp k hk)), fun p hp => ?_, fun i hi => row_same (h.rows i hi) (fun k hk => hf k (h.fr i k hi hk)), h.ar.same (hf _ h.fa.1) (hf _ h.fa.2), h.fs, h.fk, h.fp, h.fc, h.fr, h.fa, fun k hk => Nat.lt_of_lt_of_le (h.lt k hk) hs, h.cinj, h.rinj, h.bm⟩
  · unfold Box; rw [hf sb h.fs]; exact h.box
  · simp [Value.ownBlock] at hk; subst hk; exact h.fk
  · rw [hf _ (h.fc p hp)]; exact h.chunks p hp
theorem IsS.kept {w w' : World} {sb : Nat} {F G : Nat → Prop} {B : Bl} {b c d e f g : Int} {A : Ab} {zs : List Int} (h : IsS w sb F B b c d e f g A zs) (hf : Kp G w w') (hd : ∀ k, F k → ¬ G k) : IsS w' sb F B b c d e f g A zs :=
  h.same hf.size fun k hk => hf.block k (h.lt k hk) (hd k hk)
theorem IsS.kept0 {w w' : World} {sb : Nat} {F : Nat → Prop} {B : Bl} {b c d e f g : Int} {A : Ab} {zs : List Int} (h : IsS w sb F B b c d e f g A zs) (hf : w.grownBy w' none) : IsS w' sb F B b c d e f g A zs :=
  h.same hf.size fun k hk => hf.block k (h.lt k hk) (by simp)

theorem kindC_len (A : Ab) (rv : Nat → Value) (i : Nat) : (kindC A rv i).length = 4 := rfl
theorem pageC_len (A : Ab) (cb : Nat → Nat) (i : Nat) : (pageC A cb i).length = 2 := rfl
theorem chunkC_len (A : Ab) (p k : Nat) : (chunkC A p k).length = 2 := rfl

section
variable {w : World} {sb : Nat} {F : Nat → Prop} {B : Bl} {b c d e f g : Int} {A : Ab} {zs : List Int}
theorem IsS.sc (h : IsS w sb F B b c d e f g A zs) (i : Nat) : w.cell? ⟨sb, i, none⟩ = (setC A.ps b c d e f g B A.n)[i]? := h.box.cell i
theorem IsS.kcell (h : IsS w sb F B b c d e f g A zs) {i j : Nat} (hi : i < A.n) (hj : j < 4) : w.cell? ⟨B.kb, i * 4 + j, none⟩ = (kindC A B.rv i)[j]? := by
  have e := rng_get (kindC_len A B.rv) hi hj
  have hl : j < (kindC A B.rv i).length := hj
  rw [List.getElem?_eq_getElem hl]
  rw [List.getElem?_eq_getElem hl] at e
  exact row_cell h.kinds _ _ e
end

/-- A class's numbers are right. -/
structure Szs (A : Ab) : Prop where
  n1 : 1 ≤ A.n
  n2 : A.n ≤ 62
  lo : ∀ i, i < A.n → 64 ≤ A.sz i
  hi : ∀ i, i < A.n → A.sz i ≤ A.ps
  m8 : ∀ i, i < A.n → A.sz i % 8 = 0
  up : ∀ i j, i < j → j < A.n → A.sz i + 8 ≤ A.sz j
  pp : ∃ k, A.ps = 2 ^ k ∧ 12 ≤ k ∧ k ≤ 20
  mm : 1 ≤ A.m ∧ A.m ≤ 1024

end Go.Proofs.YtjkdflnnpdionaaGreat
/-
  class.New.
-/
namespace Go.Proofs.YtjkdflnnpdionaaGreat
open Go.RowKit
set_option linter.unusedVariables false

theorem page9 : ∀ j : Fin 9, pageB ((2 ^ (12 + j.val) : Nat) : Int) = true := by decide +kernel
theorem page_of {a : Int} (h : PageOk a) : pageB a = true := by
  obtain ⟨k, rfl, h1, h2⟩ := h
  have := page9 ⟨k - 12, by omega⟩
  simp only at this
  rwa [show 12 + (k - 12) = k by omega] at this
theorem page_not {a : Int} (h : ¬ PageOk a) : pageB a = false := by
  cases e : pageB a
  · rfl
  · exact absurd (page_pow a e) h

theorem C7.box (w : World) (a b c d e f g : Int) : C7 (w.alloc (.cells #[.int .i64 a, .int .i64 b, .int .i64 c, .int .i64 d, .int .i64 e, .int .i64 f, .int .i64 g] 105)) w.heap.size a b c d e f g := by
  have hb := Box.new w 105 #[.int .i64 a, .int .i64 b, .int .i64 c, .int .i64 d, .int .i64 e, .int .i64 f, .int .i64 g]
  exact ⟨hb.cell 0, hb.cell 1, hb.cell 2, hb.cell 3, hb.cell 4, hb.cell 5, hb.cell 6⟩

theorem new_1 (a b c d e f g : Int) (hI : ¬ InB a c d e) (w : World) : Calls Tryz.prog 56 #[cfgV a b c d e f g] w fun x w' => x = .returned (.tuple #[.pointer none, .int .i64 1]) ∧ w.grownBy w' none := by
  have hin := fun W => inB_no a b c d e f g hI W
  have hF0 : w.grownBy (w.alloc (.cells #[.int .i64 a, .int .i64 b, .int .i64 c, .int .i64 d, .int .i64 e, .int .i64 f, .int .i64 g] 105)) none := World.grownBy_alloc _ _ _
  clear hI
  unfold cfgV at hin ⊢
  go_enter Tryz.func56, Tryz.ntmps56
  go_wp2_with (first | (go_at_call 117; go_must (refine (hin _).mono ?_); rintro x w1 ⟨rfl, hf1⟩) | fail)
  go_ret2
  exact ⟨rfl, gb_trans hF0 hf1⟩

theorem new_2 (a b c d e f g : Int) (hI : InB a c d e) (hP : ¬ (PageOk a ∧ 1 ≤ b ∧ b ≤ 1024)) (w : World) : Calls Tryz.prog 56 #[cfgV a b c d e f g] w fun x w' => x = .returned (.tuple #[.pointer none, .int .i64 1]) ∧ w.grownBy w' none := by
  have hin := fun W => inB_yes a b c d e f g hI W
  have h7 := C7.box w a b c d e f g
  have hF0 : w.grownBy (w.alloc (.cells #[.int .i64 a, .int .i64 b, .int .i64 c, .int .i64 d, .int .i64 e, .int .i64 f, .int .i64 g] 105)) none := World.grownBy_alloc _ _ _
  have hno := fun W => new_no a b W (by
    by_cases hp : PageOk a
    · have : ¬ (1 ≤ b ∧ b ≤ 1024) := fun h => hP ⟨hp, h⟩
      exact .inr (by omega)
    · exact .inl (page_not hp))
  clear hI hP
  unfold cfgV at hin ⊢
  go_enter Tryz.func56, Tryz.ntmps56
  go_wp2_with (first | (go_at_call 117; go_must (refine (hin _).mono ?_); rintro x w1 ⟨rfl, hf1⟩; obtain ⟨k0, k1, k2, k3, k4, k5, k6⟩ := h7.kept hf1) | (go_at_call 118; go_must (refine (hno _).mono ?_); rintro x w2 ⟨rfl, rfl⟩) | fail)
  go_ret2
  exact ⟨rfl, gb_trans hF0 hf1⟩

/-- The numbers of a valid config. -/
structure Cfg (ps m F s0 il : Nat) : Prop where
  pw : ∃ k, ps = 2 ^ k ∧ 12 ≤ k ∧ k ≤ 20
  m1 : 1 ≤ m
  m2 : m ≤ 1024
  good : GoodF F (limOf il) s0
  s512 : s0 ≤ 512
  il0 : s0 ≤ il
  il1 : il ≤ ps
theorem Cfg.bounds {ps m F s0 il : Nat} (h : Cfg ps m F s0 il) : 4096 ≤ ps ∧ ps ≤ 1048576 ∧ ps % 8 = 0 ∧ limOf il ≤ ps := by
  obtain ⟨k, hk⟩ := h.pw
  have h1 : PageOk (ps : Int) := ⟨k, by rw [hk.1], hk.2⟩
  have h2 := h1.bounds
  have h3 := limOf_ge il
  have h4 := limOf_8 il
  have h5 := h.il1
  omega
theorem Cfg.inB {ps m F s0 il : Nat} (h : Cfg ps m F s0 il) : InB ps F s0 il := by
  have h1 := h.good
  obtain ⟨f0, f1, a, b, c, d, e⟩ := h1
  have := h.s512
  have := h.il0
  have := h.il1
  exact ⟨by omega, by omega, by omega, by omega, by omega, by omega, by omega⟩
theorem Valid.cfg {a b c d e : Int} (h : Valid a b c d e) : ∃ ps m F s0 il : Nat, a = ps ∧ b = m ∧ c = F ∧ d = s0 ∧ e = il ∧ Cfg ps m F s0 il := by
  obtain ⟨p1, p2, p3⟩ := h.pg.bounds
  have hg := h.good.1
  obtain ⟨⟨k, hk⟩, b0, b1, c0, c1, d0, d1, d8, e0, e1⟩ := h
  refine ⟨a.toNat, b.toNat, c.toNat, d.toNat, e.toNat, by omega, by omega, by omega, by omega, by omega, ⟨k, by rw [hk.1]; rfl, hk.2⟩, by omega, by omega, hg, by omega, by omega, by omega⟩

set_option maxHeartbeats 1000000 in
theorem new_3 {ps m F s0 il : Nat} (h : Cfg ps m F s0 il) (f g : Int) (hm : ∀ j, j < 62 → chain F (limOf il) s0 j < limOf il) (w : World) : Calls Tryz.prog 56 #[cfgV ps m F s0 il f g] w fun x w' => x = .returned (.tuple #[.pointer none, .int .i64 2]) ∧ w.grownBy w' none := by
  obtain ⟨bp0, bp1, bp2, bp3⟩ := h.bounds
  have hil := h.il1
  have hin := fun W => inB_yes ps m F s0 il f g h.inB W
  have h7 := C7.box w ps m F s0 il f g
  have hF0 : w.grownBy (w.alloc (.cells #[.int .i64 ps, .int .i64 m, .int .i64 F, .int .i64 s0, .int .i64 il, .int .i64 f, .int .i64 g] 105)) none := World.grownBy_alloc _ _ _
  obtain ⟨kk, hkk⟩ := h.pw
  have hpo : PageOk (ps : Int) := ⟨kk, by rw [hkk.1], hkk.2⟩
  have hyes := fun W => new_yes ps m W ⟨kk, hkk⟩ (page_of hpo) ⟨h.m1, h.m2⟩
  have hsz := fun W => (sizes_any h.good rfl (by omega) ps m f g W).mono (R' := fun e w' => e = .returned (.tuple #[.slice none 0 0, .bool false]) ∧ W.grownBy w' none) (by
    rintro x w' ⟨hf, ⟨n, v, h1, h2, _⟩ | ⟨_, rfl⟩⟩
    · have := hm (n - 1) (by omega)
      have := h2.2.1
      omega
    · exact ⟨rfl, hf⟩)
  clear hkk hm hpo
  unfold cfgV at hin hsz ⊢
  go_enter Tryz.func56, Tryz.ntmps56
  go_wp2_with (first | (go_at_call 117; go_must (refine (hin _).mono ?_); rintro x w1 ⟨rfl, hf1⟩; have h71 := h7.kept hf1; have h71' := h71; obtain ⟨k0, k1, k2, k3, k4, k5, k6⟩ := h71') | (go_at_call 118; go_must (refine (hyes _).mono ?_); rintro x w2 ⟨rfl, hf2, hA⟩; obtain ⟨j0, j1, j2, j3, j4, j5, j6⟩ := h71.kept hf2) | (go_at_call 119; go_must (refine (hsz _).mono ?_); rintro x w3 ⟨rfl, hf3⟩) | fail)
  go_ret2
  exact ⟨rfl, gb_trans (gb_trans (gb_trans hF0 hf1) hf2) hf3⟩

set_option maxHeartbeats 1000000 in
theorem new_4 {ps m F s0 il n : Nat} (h : Cfg ps m F s0 il) (f g : Int) (hn : n ≤ 62) (hc : Cls F (limOf il) s0 n) (hmn : m < n) (w : World) : Calls Tryz.prog 56 #[cfgV ps m F s0 il f g] w fun x w' => x = .returned (.tuple #[.pointer none, .int .i64 3]) ∧ w.grownBy w' none := by
  obtain ⟨bp0, bp1, bp2, bp3⟩ := h.bounds
  have hil := h.il1
  have hin := fun W => inB_yes ps m F s0 il f g h.inB W
  have h7 := C7.box w ps m F s0 il f g
  have hF0 : w.grownBy (w.alloc (.cells #[.int .i64 ps, .int .i64 m, .int .i64 F, .int .i64 s0, .int .i64 il, .int .i64 f, .int .i64 g] 105)) none := World.grownBy_alloc _ _ _
  obtain ⟨kk, hkk⟩ := h.pw
  have hpo : PageOk (ps : Int) := ⟨kk, by rw [hkk.1], hkk.2⟩
  have hyes := fun W => new_yes ps m W ⟨kk, hkk⟩ (page_of hpo) ⟨h.m1, h.m2⟩
  have hsz := fun W => (sizes_any h.good rfl (by omega) ps m f g W).mono (R' := fun e w' => ∃ ao cp, e = .returned (.tuple #[.slice ao n cp, .bool true]) ∧ W.grownBy w' none) (by
    rintro x w' ⟨hf, ⟨n', v, h1, h2, rfl, h3⟩ | ⟨h1, _⟩⟩
    · have := cls_uniq hc h2
      subst this
      obtain ⟨ao, cp, rfl, _⟩ := row_shape h3
      exact ⟨ao, cp, rfl, hf⟩
    · have := h1 (n - 1) (by omega)
      have := hc.2.1
      omega)
  clear hkk hc hpo
  unfold cfgV at hin hsz ⊢
  go_enter Tryz.func56, Tryz.ntmps56
  go_wp2_with (first | (go_at_call 117; go_must (refine (hin _).mono ?_); rintro x w1 ⟨rfl, hf1⟩; have h71 := h7.kept hf1; have h71' := h71; obtain ⟨k0, k1, k2, k3, k4, k5, k6⟩ := h71') | (go_at_call 118; go_must (refine (hyes _).mono ?_); rintro x w2 ⟨rfl, hf2, hA⟩; have h72 := h71.kept hf2; have h72' := h72; obtain ⟨j0, j1, j2, j3, j4, j5, j6⟩ := h72') | (go_at_call 119; go_must (refine (hsz _).mono ?_); rintro x w3 ⟨ao, cp, rfl, hf3⟩; obtain ⟨i0, i1, i2, i3, i4, i5, i6⟩ := h72.kept hf3) | fail)
  go_ret2
  exact ⟨rfl, gb_trans (gb_trans (gb_trans hF0 hf1) hf2) hf3⟩

/-- Errors of New. -/
theorem new_err {a b c d e r : Int} (f g : Int) (h : Refd a b c d e r) (h0 : r ≠ 0) (w : World) : Calls Tryz.prog 56 #[cfgV a b c d e f g] w fun x w' => x = .returned (.tuple #[.pointer none, .int .i64 r]) ∧ w.grownBy w' none := by
  rcases h with ⟨h1, rfl⟩ | ⟨h1, ⟨h2, rfl⟩ | ⟨n, h2, ⟨h3, rfl⟩ | ⟨_, h3⟩⟩⟩
  · by_cases hI : InB a c d e
    · exact new_2 a b c d e f g hI (fun hP => h1 ⟨hP.1, hP.2.1, hP.2.2, hI.c0, hI.c1, hI.d0, hI.d1, hI.d8, hI.e0, hI.e1⟩) w
    · exact new_1 a b c d e f g hI w
  · obtain ⟨ps, m, F, s0, il, rfl, rfl, rfl, rfl, rfl, hc⟩ := h1.cfg
    exact new_3 hc f g (by simpa [Many] using h2) w
  · obtain ⟨ps, m, F, s0, il, rfl, rfl, rfl, rfl, rfl, hc⟩ := h1.cfg
    exact new_4 hc f g h2.1 (by simpa using h2.2) (by omega) w
  · exact absurd h3 h0

end Go.Proofs.YtjkdflnnpdionaaGreat
