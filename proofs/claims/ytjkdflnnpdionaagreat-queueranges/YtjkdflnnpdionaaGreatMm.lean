import Derived.Test.YtjkdflnnpdionaaGreatMj
import Derived.Test.YtjkdflnnpdionaaGreatMe
/-
  The document's Set, in memory.
-/
namespace Go.Proofs.YtjkdflnnpdionaaGreat
open Go.RowKit
set_option linter.unusedVariables false

/-- What is said of the document's Set. -/
structure Rb where
  n : Nat
  m : Nat
  ps : Nat
  sz : Nat → Nat
  ow : Nat → Int
  N : Nat
  pl : Nat → Nat
  cl : Nat → Nat
  gn : Nat → Nat
  tk : Nat → Bool
  row : Nat → List Nat
/-- Where it lies. -/
structure Rl where
  sv : Value
  ov : Value
  cv : Value
  rv : Value
  rr : Nat → Value
def rckC (R : Rb) (i : Nat) : List Value := [.int .i64 (R.pl i), .int .i64 (R.cl i), .int .u64 (R.gn i), .bool (R.tk i)]
theorem rckC_len (R : Rb) (i : Nat) : (rckC R i).length = 4 := rfl
def ivs (f : Nat → Int) (i : Nat) : List Value := [.int .i64 (f i)]
theorem ivs_len (f : Nat → Int) (i : Nat) : (ivs f i).length = 1 := rfl
def one (f : Nat → Value) (i : Nat) : List Value := [f i]
theorem one_len (f : Nat → Value) (i : Nat) : (one f i).length = 1 := rfl
def ixs (xs : List Nat) : List Value := xs.map fun (n : Nat) => Value.int .i64 (n : Int)

/-- The document's Set in memory; F: its blocks. -/
structure IsR (w : World) (rb : Nat) (F : Nat → Prop) (Q : Rl) (c d e : Int) (R : Rb) : Prop where
  box : Box w 196 rb (rset R.ps R.m c d e Q.sv Q.ov Q.cv Q.rv)
  sz : w.ownsRow 0 3 1 Q.sv R.n (rng R.n (ivs fun i => R.sz i))
  ow : w.ownsRow 0 3 1 Q.ov R.m (rng R.m (ivs R.ow))
  ck : w.ownsRow 0 214 4 Q.cv R.N (rng R.N (rckC R))
  rs : w.ownsRow 0 55 1 Q.rv R.n (rng R.n (one Q.rr))
  rr : ∀ i, i < R.n → w.ownsRow 0 3 1 (Q.rr i) (R.row i).length (ixs (R.row i))
  fb : F rb
  fs : ∀ k, Q.sv.ownBlock = some k → F k
  fo : ∀ k, Q.ov.ownBlock = some k → F k
  fc : ∀ k, Q.cv.ownBlock = some k → F k
  fv : ∀ k, Q.rv.ownBlock = some k → F k
  fr : ∀ i k, i < R.n → (Q.rr i).ownBlock = some k → F k
  lt : ∀ k, F k → k < w.heap.size
  so : ∀ k, Q.sv.ownBlock = some k → Q.ov.ownBlock ≠ some k
  sr : ∀ i k, i < R.n → (Q.rr i).ownBlock = some k → Q.sv.ownBlock ≠ some k ∧ Q.ov.ownBlock ≠ some k
  ri : ∀ i j k, i < R.n → j < R.n → (Q.rr i).ownBlock = some k → (Q.rr j).ownBlock = some k → i = j

section
variable {w w' : World} {rb : Nat} {F : Nat → Prop} {Q : Rl} {c d e : Int} {R : Rb}
theorem IsR.same (h : IsR w rb F Q c d e R) (hs : w.heap.size ≤ w'.heap.size) (hf : ∀ k, F k → w'.heap[k]? = w.heap[k]?) : IsR w' rb F Q c d e R := by
  refine ⟨?_, row_same h.sz (fun k hk => hf k (h.fs k hk)), row_same h.ow (fun k hk => hf k (h.fo k hk)), row_same h.ck (fun k hk => hf k (h.fc k hk)), row_same h.rs (fun k hk => hf k (h.fv k hk)), fun i hi => row_same (h.rr i hi) (fun k hk => hf k (h.fr i k hi hk)), h.fb, h.fs, h.fo, h.fc, h.fv, h.fr, fun k hk => Nat.lt_of_lt_of_le (h.lt k hk) hs, h.so, h.sr, h.ri⟩
  unfold Box; rw [hf rb h.fb]; exact h.box
theorem IsR.kept {G : Nat → Prop} (h : IsR w rb F Q c d e R) (hf : Kp G w w') (hd : ∀ k, F k → ¬ G k) : IsR w' rb F Q c d e R :=
  h.same hf.size fun k hk => hf.block k (h.lt k hk) (hd k hk)
theorem IsR.kept0 (h : IsR w rb F Q c d e R) (hf : w.grownBy w' none) : IsR w' rb F Q c d e R :=
  h.same hf.size fun k hk => hf.block k (h.lt k hk) (by simp)

/-- An owner is another one. -/
theorem IsR.setOw (h : IsR w rb F Q c d e R) {ob cap p : Nat} (ho : Q.ov = .slice (some ⟨ob, 0, none⟩) R.m cap) (hp : p < R.m) (v : Int) :
    IsR (w.setCell ⟨ob, p, none⟩ (.int .i64 v)) rb F Q c d e { R with ow := upd R.ow p v } := by
  have hob : Q.ov.ownBlock = some ob := by rw [ho]; rfl
  obtain ⟨ocur, hoc⟩ := row_block h.ow ob hob
  have keep : ∀ {k : Nat} {cur : Array Value} {t : TypeId} {z : Nat × Nat}, w.heap[k]? = some (.cells cur t z) → t ≠ 3 → (w.setCell ⟨ob, p, none⟩ (.int .i64 v)).heap[k]? = w.heap[k]? := fun hk h2 => set_keep hoc hk h2
  refine ⟨?_, ?_, ?_, ?_, ?_, fun i hi => ?_, h.fb, h.fs, h.fo, h.fc, h.fv, h.fr, fun k hk => by simpa using h.lt k hk, h.so, h.sr, h.ri⟩
  · unfold Box; rw [keep h.box (by decide)]; exact h.box
  · exact row_same h.sz fun k hk => heap_setCell_other _ _ _ _ (fun e => h.so k hk (by rw [hob]; exact congrArg some e.symm))
  · have h0 := h.ow
    rw [ho] at h0 ⊢
    have h1 := row_set h0 p (.int .i64 v)
    have e := rng_set (ivs_len R.ow) (i := p) (j := 0) (by omega) (.int .i64 v) (g := ivs (upd R.ow p v)) (fun k hk => by simp only [ivs]; rw [upd_other _ _ hk]) (by simp only [ivs]; rw [upd_same]; rfl) hp
    rw [Nat.mul_one, Nat.add_zero] at e
    rw [e] at h1
    exact h1
  · exact row_same h.ck fun k hk => by
      obtain ⟨cur, hc⟩ := row_block h.ck k hk
      exact keep hc (by decide)
  · exact row_same h.rs fun k hk => by
      obtain ⟨cur, hc⟩ := row_block h.rs k hk
      exact keep hc (by decide)
  · exact row_same (h.rr i hi) fun k hk => heap_setCell_other _ _ _ _ (fun e => (h.sr i k hi hk).2 (by rw [hob]; exact congrArg some e.symm))

/-- A chunk more. -/
def Rb.pushC (R : Rb) (x y : Nat) : Rb := { R with N := R.N + 1, pl := upd R.pl R.N x, cl := upd R.cl R.N y, gn := upd R.gn R.N 0, tk := upd R.tk R.N false }
theorem IsR.pushC (h : IsR w rb F Q c d e R) {x y : Nat} {w2 : World} {g2 cap2 : Nat} (hown : w2.ownsRow 0 214 4 (.slice (some ⟨g2, 0, none⟩) (R.N + 1) cap2) (R.N + 1) (rng R.N (rckC R) ++ [.int .i64 (x : Int), .int .i64 (y : Int), .int .u64 0, .bool false]))
    (hg : w.grownBy w2 Q.cv.ownBlock) (hat : Q.cv.ownBlock = some g2 ∨ w.heap.size ≤ g2) :
    IsR (w2.setCell ⟨rb, 7, none⟩ (.slice (some ⟨g2, 0, none⟩) (R.N + 1) cap2)) rb (fun k => F k ∨ k = g2) { Q with cv := .slice (some ⟨g2, 0, none⟩) (R.N + 1) cap2 } c d e (R.pushC x y) ∧
    Kp F w (w2.setCell ⟨rb, 7, none⟩ (.slice (some ⟨g2, 0, none⟩) (R.N + 1) cap2)) := by
  have hT : ∀ k, Q.cv.ownBlock = some k → ∃ cur z, w.heap[k]? = some (.cells cur 214 z) := fun k hk => by
    obtain ⟨cur, hc⟩ := row_block h.ck k hk
    exact ⟨cur, _, hc⟩
  have hb2 : Box w2 196 rb (rset R.ps R.m c d e Q.sv Q.ov Q.cv Q.rv) := by unfold Box; rw [type_keep hg hT h.box (by decide)]; exact h.box
  obtain ⟨gcur, hg2⟩ := row_block hown g2 rfl
  have hg2l := lt_of_block hg2
  generalize hV : (Value.slice (some ⟨g2, 0, none⟩) (R.N + 1) cap2) = V at *
  have keep : ∀ {k : Nat} {cur : Array Value} {t : TypeId} {z : Nat × Nat}, w.heap[k]? = some (.cells cur t z) → t ≠ 214 → t ≠ 196 → (w2.setCell ⟨rb, 7, none⟩ V).heap[k]? = w.heap[k]? := by
    intro k cur t z hk h1 h2
    have e := type_keep hg hT hk h1
    rw [set_keep hb2 (by rw [e]; exact hk) h2, e]
  have rowk : ∀ {t s : Nat} {v : Value} {n : Nat} {xs : List Value}, w.ownsRow 0 t s v n xs → t ≠ 214 → t ≠ 196 → (w2.setCell ⟨rb, 7, none⟩ V).ownsRow 0 t s v n xs := fun hr h1 h2 => row_same hr fun k hk => by
    obtain ⟨cur, hc⟩ := row_block hr k hk
    exact keep hc h1 h2
  refine ⟨⟨?_, rowk h.sz (by decide) (by decide), rowk h.ow (by decide) (by decide), ?_, rowk h.rs (by decide) (by decide), fun i hi => rowk (h.rr i hi) (by decide) (by decide), .inl h.fb, fun k hk => .inl (h.fs k hk), fun k hk => .inl (h.fo k hk), fun k hk => ?_, fun k hk => .inl (h.fv k hk), fun i k hi hk => .inl (h.fr i k hi hk), ?_, h.so, h.sr, h.ri⟩, ?_⟩
  · exact hb2.set 7 V
  · have e1 : rng (R.N + 1) (rckC (R.pushC x y)) = rng R.N (rckC R) ++ [.int .i64 (x : Int), .int .i64 (y : Int), .int .u64 0, .bool false] := by
      rw [rng_succ]
      congr 1
      · exact rng_congr fun i hi => by
          have hne : i ≠ R.N := by omega
          simp only [rckC, Rb.pushC]
          rw [upd_other _ _ hne, upd_other _ _ hne, upd_other _ _ hne, upd_other _ _ hne]
      · simp only [rckC, Rb.pushC]
        rw [upd_same, upd_same, upd_same, upd_same]
        rfl
    show World.ownsRow _ 0 214 4 V (R.N + 1) (rng (R.N + 1) (rckC (R.pushC x y)))
    rw [e1]
    refine row_same hown fun k hk => ?_
    obtain ⟨cur, hc⟩ := row_block hown k hk
    exact set_keep hb2 hc (by decide)
  · change V.ownBlock = some k at hk
    rw [← hV] at hk
    simp [Value.ownBlock] at hk
    exact .inr hk.symm
  · rintro k (hk | hk)
    · have := h.lt k hk; have := hg.size; simp; omega
    · simp; omega
  · exact (((Kp.refl F w).step hg (fun i hi => .inl (h.fc i hi))).step (gb_setCell (gb_refl _ _) _) (fun i hi => .inl (by simp at hi; subst hi; exact h.fb)))

/-- An index is put at the end of a class's row. -/
theorem IsR.pushR (h : IsR w rb F Q c d e R) {i x vb vc : Nat} (hi : i < R.n) (hrv : Q.rv = .slice (some ⟨vb, 0, none⟩) R.n vc) {w2 : World} {g2 cap2 : Nat} (hown : w2.ownsRow 0 3 1 (.slice (some ⟨g2, 0, none⟩) ((R.row i).length + 1) cap2) ((R.row i).length + 1) (ixs (R.row i) ++ [.int .i64 (x : Int)]))
    (hg : w.grownBy w2 (Q.rr i).ownBlock) (hat : (Q.rr i).ownBlock = some g2 ∨ w.heap.size ≤ g2) :
    IsR (w2.setCell ⟨vb, i, none⟩ (.slice (some ⟨g2, 0, none⟩) ((R.row i).length + 1) cap2)) rb (fun k => F k ∨ k = g2) { Q with rr := upd Q.rr i (.slice (some ⟨g2, 0, none⟩) ((R.row i).length + 1) cap2) } c d e { R with row := upd R.row i (R.row i ++ [x]) } ∧
    Kp F w (w2.setCell ⟨vb, i, none⟩ (.slice (some ⟨g2, 0, none⟩) ((R.row i).length + 1) cap2)) := by
  have hT : ∀ k, (Q.rr i).ownBlock = some k → ∃ cur z, w.heap[k]? = some (.cells cur 3 z) := fun k hk => by
    obtain ⟨cur, hc⟩ := row_block (h.rr i hi) k hk
    exact ⟨cur, _, hc⟩
  have hvb : Q.rv.ownBlock = some vb := by rw [hrv]; rfl
  obtain ⟨vcur, hvc⟩ := row_block h.rs vb hvb
  have hvc2 : w2.heap[vb]? = some (.cells vcur 55 (0, 0)) := by rw [type_keep hg hT hvc (by decide)]; exact hvc
  obtain ⟨gcur, hg2⟩ := row_block hown g2 rfl
  have hg2l := lt_of_block hg2
  have hgnew : ∀ k, F k → k = g2 → (Q.rr i).ownBlock = some k := fun k hk e => by
    subst e
    rcases hat with h1 | h1
    · exact h1
    · have := h.lt k hk; omega
  generalize hV : (Value.slice (some ⟨g2, 0, none⟩) ((R.row i).length + 1) cap2) = V at *
  have keep : ∀ {k : Nat} {cur : Array Value} {t : TypeId} {z : Nat × Nat}, w.heap[k]? = some (.cells cur t z) → t ≠ 55 → (Q.rr i).ownBlock ≠ some k → (w2.setCell ⟨vb, i, none⟩ V).heap[k]? = w.heap[k]? := by
    intro k cur t z hk h1 h2
    have e := hg.block k (lt_of_block hk) (fun e => h2 e.symm)
    rw [set_keep hvc2 (by rw [e]; exact hk) h1, e]
  have kty : ∀ {k : Nat} {cur : Array Value} {t : TypeId} {z : Nat × Nat}, w.heap[k]? = some (.cells cur t z) → t ≠ 3 → (Q.rr i).ownBlock ≠ some k := fun hk h2 e => by
    obtain ⟨c2, z2, h3⟩ := hT _ e
    exact ne_of_type hk h3 h2 rfl
  refine ⟨⟨?_, ?_, ?_, ?_, ?_, fun j hj => ?_, .inl h.fb, fun k hk => .inl (h.fs k hk), fun k hk => .inl (h.fo k hk), fun k hk => .inl (h.fc k hk), fun k hk => .inl (h.fv k hk), fun j k hj hk => ?_, ?_, h.so, fun j k hj hk => ?_, fun j l k hj hl h1 h2 => ?_⟩, ?_⟩
  · unfold Box; rw [keep h.box (by decide) (kty h.box (by decide))]; exact h.box
  · exact row_same h.sz fun k hk => by
      obtain ⟨cur, hc⟩ := row_block h.sz k hk
      exact keep hc (by decide) (fun e => (h.sr i k hi e).1 hk)
  · exact row_same h.ow fun k hk => by
      obtain ⟨cur, hc⟩ := row_block h.ow k hk
      exact keep hc (by decide) (fun e => (h.sr i k hi e).2 hk)
  · exact row_same h.ck fun k hk => by
      obtain ⟨cur, hc⟩ := row_block h.ck k hk
      exact keep hc (by decide) (kty hc (by decide))
  · have h0 := row_kept h.rs hg (fun k hk e => by
      obtain ⟨cur, hc⟩ := row_block h.rs k hk
      exact kty hc (by decide) e.symm)
    rw [hrv] at h0
    have h1 := row_set h0 i V
    have e := rng_set (one_len Q.rr) (i := i) (j := 0) (by omega) V (g := one (upd Q.rr i V)) (fun k hk => by simp only [one]; rw [upd_other _ _ hk]) (by simp only [one]; rw [upd_same]; rfl) hi
    rw [Nat.mul_one, Nat.add_zero] at e
    rw [e] at h1
    show World.ownsRow _ 0 55 1 Q.rv R.n _
    rw [hrv]
    exact h1
  · by_cases e : j = i
    · subst e
      show World.ownsRow _ 0 3 1 (upd Q.rr j V j) (upd R.row j (R.row j ++ [x]) j).length (ixs (upd R.row j (R.row j ++ [x]) j))
      rw [upd_same, upd_same]
      simp only [List.length_append, List.length_cons, List.length_nil, ixs, List.map_append, List.map_cons, List.map_nil]
      refine row_same hown fun k hk => ?_
      obtain ⟨cur, hc⟩ := row_block hown k hk
      exact set_keep hvc2 hc (by decide)
    · show World.ownsRow _ 0 3 1 (upd Q.rr i V j) (upd R.row i (R.row i ++ [x]) j).length (ixs (upd R.row i (R.row i ++ [x]) j))
      rw [upd_other _ _ e, upd_other _ _ e]
      refine row_same (h.rr j hj) fun k hk => ?_
      obtain ⟨cur, hc⟩ := row_block (h.rr j hj) k hk
      exact keep hc (by decide) (fun e2 => e (h.ri j i k hj hi hk e2))
  · by_cases e : j = i
    · subst e
      change (upd Q.rr j V j).ownBlock = some k at hk
      rw [upd_same, ← hV] at hk
      simp [Value.ownBlock] at hk
      exact .inr hk.symm
    · change (upd Q.rr i V j).ownBlock = some k at hk
      rw [upd_other _ _ e] at hk
      exact .inl (h.fr j k hj hk)
  · rintro k (hk | hk)
    · have := h.lt k hk; have := hg.size; simp; omega
    · simp; omega
  · by_cases e : j = i
    · subst e
      change (upd Q.rr j V j).ownBlock = some k at hk
      rw [upd_same, ← hV] at hk
      simp [Value.ownBlock] at hk
      subst hk
      exact ⟨fun e => (h.sr j _ hi (hgnew _ (h.fs _ e) rfl)).1 e, fun e => (h.sr j _ hi (hgnew _ (h.fo _ e) rfl)).2 e⟩
    · change (upd Q.rr i V j).ownBlock = some k at hk
      rw [upd_other _ _ e] at hk
      exact h.sr j k hj hk
  · have key : ∀ j, j < R.n → j ≠ i → (upd Q.rr i V j).ownBlock = some k → (upd Q.rr i V i).ownBlock = some k → False := by
      intro j hj e h1 h2
      rw [upd_other _ _ e] at h1
      rw [upd_same, ← hV] at h2
      simp [Value.ownBlock] at h2
      exact e (h.ri j i k hj hi h1 (hgnew k (h.fr j k hj h1) h2.symm))
    by_cases e1 : j = i
    · by_cases e2 : l = i
      · rw [e1, e2]
      · subst e1
        exact (key l hl e2 h2 h1).elim
    · by_cases e2 : l = i
      · subst e2
        exact (key j hj e1 h1 h2).elim
      · change (upd Q.rr i V j).ownBlock = some k at h1
        change (upd Q.rr i V l).ownBlock = some k at h2
        rw [upd_other _ _ e1] at h1
        rw [upd_other _ _ e2] at h2
        exact h.ri j l k hj hl h1 h2
  · exact (((Kp.refl F w).step hg (fun k hk => .inl (h.fr i k hi hk))).step (gb_setCell (gb_refl _ _) _) (fun k hk => .inl (by simp at hk; subst hk; exact h.fv _ hvb)))

/-- The last index is cut off. -/
theorem IsR.popR (h : IsR w rb F Q c d e R) {i vb vc gg cap n : Nat} (hi : i < R.n) (hrv : Q.rv = .slice (some ⟨vb, 0, none⟩) R.n vc) (hrr : Q.rr i = .slice (some ⟨gg, 0, none⟩) (R.row i).length cap) (hn : (R.row i).length = n + 1) :
    IsR (w.setCell ⟨vb, i, none⟩ (.slice (some ⟨gg, 0, none⟩) n cap)) rb F { Q with rr := upd Q.rr i (.slice (some ⟨gg, 0, none⟩) n cap) } c d e { R with row := upd R.row i (R.row i).dropLast } := by
  have hvb : Q.rv.ownBlock = some vb := by rw [hrv]; rfl
  obtain ⟨vcur, hvc⟩ := row_block h.rs vb hvb
  have hri := h.rr i hi
  rw [hrr] at hri
  have hl : (R.row i).dropLast.length = n := by simp [hn]
  have hrt := row_take hri (m := n) (by omega)
  have hrtx : (ixs (R.row i)).take (n * 1) = ixs (R.row i).dropLast := by
    unfold ixs
    rw [← List.map_take, List.dropLast_eq_take, hn]; simp
  rw [hrtx] at hrt
  have hob : ∀ j k, (upd Q.rr i (.slice (some ⟨gg, 0, none⟩) n cap) j).ownBlock = some k → (Q.rr j).ownBlock = some k := by
    intro j k hk
    by_cases e : j = i
    · rw [e, upd_same] at hk
      rw [e, hrr]; exact hk
    · rwa [upd_other _ _ e] at hk
  generalize hV : (Value.slice (some ⟨gg, 0, none⟩) n cap) = V at *
  have keep : ∀ {k : Nat} {cur : Array Value} {t : TypeId} {z : Nat × Nat}, w.heap[k]? = some (.cells cur t z) → t ≠ 55 → (w.setCell ⟨vb, i, none⟩ V).heap[k]? = w.heap[k]? := fun hk h2 => set_keep hvc hk h2
  have rowk : ∀ {t s : Nat} {v : Value} {n : Nat} {xs : List Value}, w.ownsRow 0 t s v n xs → t ≠ 55 → (w.setCell ⟨vb, i, none⟩ V).ownsRow 0 t s v n xs := fun hr h1 => row_same hr fun k hk => by
    obtain ⟨cur, hc⟩ := row_block hr k hk
    exact keep hc h1
  refine ⟨?_, rowk h.sz (by decide), rowk h.ow (by decide), rowk h.ck (by decide), ?_, fun j hj => ?_, h.fb, h.fs, h.fo, h.fc, h.fv, fun j k hj hk => h.fr j k hj (hob j k hk), fun k hk => by simpa using h.lt k hk, h.so, fun j k hj hk => h.sr j k hj (hob j k hk), fun j l k hj hl h1 h2 => h.ri j l k hj hl (hob j k h1) (hob l k h2)⟩
  · unfold Box; rw [keep h.box (by decide)]; exact h.box
  · have h0 := h.rs
    rw [hrv] at h0
    have h1 := row_set h0 i V
    have e := rng_set (one_len Q.rr) (i := i) (j := 0) (by omega) V (g := one (upd Q.rr i V)) (fun k hk => by simp only [one]; rw [upd_other _ _ hk]) (by simp only [one]; rw [upd_same]; rfl) hi
    rw [Nat.mul_one, Nat.add_zero] at e
    rw [e] at h1
    show World.ownsRow _ 0 55 1 Q.rv R.n _
    rw [hrv]
    exact h1
  · by_cases e : j = i
    · subst e
      show World.ownsRow _ 0 3 1 (upd Q.rr j V j) (upd R.row j (R.row j).dropLast j).length (ixs (upd R.row j (R.row j).dropLast j))
      rw [upd_same, upd_same, hl]
      exact rowk hrt (by decide)
    · show World.ownsRow _ 0 3 1 (upd Q.rr i V j) (upd R.row i (R.row i).dropLast j).length (ixs (upd R.row i (R.row i).dropLast j))
      rw [upd_other _ _ e, upd_other _ _ e]
      exact rowk (h.rr j hj) (by decide)

/-- A cell of a chunk is another one. -/
theorem IsR.setC (h : IsR w rb F Q c d e R) {cb cc i j : Nat} (hcv : Q.cv = .slice (some ⟨cb, 0, none⟩) R.N cc) (hi : i < R.N) (hj : j < 4) (V : Value) (R' : Rb) (h1 : R' = { R with gn := R'.gn, tk := R'.tk })
    (h2 : rckC R' i = (rckC R i).set j V) (h3 : ∀ k, k ≠ i → rckC R' k = rckC R k) : IsR (w.setCell ⟨cb, i * 4 + j, none⟩ V) rb F Q c d e R' := by
  have hcb : Q.cv.ownBlock = some cb := by rw [hcv]; rfl
  obtain ⟨ccur, hcc⟩ := row_block h.ck cb hcb
  have keep : ∀ {k : Nat} {cur : Array Value} {t : TypeId} {z : Nat × Nat}, w.heap[k]? = some (.cells cur t z) → t ≠ 214 → (w.setCell ⟨cb, i * 4 + j, none⟩ V).heap[k]? = w.heap[k]? := fun hk h2 => set_keep hcc hk h2
  have rowk : ∀ {t s : Nat} {v : Value} {n : Nat} {xs : List Value}, w.ownsRow 0 t s v n xs → t ≠ 214 → (w.setCell ⟨cb, i * 4 + j, none⟩ V).ownsRow 0 t s v n xs := fun hr h1 => row_same hr fun k hk => by
    obtain ⟨cur, hc⟩ := row_block hr k hk
    exact keep hc h1
  have hk := h.ck
  rw [hcv] at hk
  have h4 := row_set hk (i * 4 + j) V
  rw [rng_set (rckC_len R) hj V h3 h2 hi, ← hcv] at h4
  rw [h1] at h4 ⊢
  refine ⟨?_, rowk h.sz (by decide), rowk h.ow (by decide), h4, rowk h.rs (by decide), fun j hj => rowk (h.rr j hj) (by decide), h.fb, h.fs, h.fo, h.fc, h.fv, h.fr, fun k hk => by simpa using h.lt k hk, h.so, h.sr, h.ri⟩
  unfold Box; rw [keep h.box (by decide)]; exact h.box
theorem IsR.setTk (h : IsR w rb F Q c d e R) {cb cc i : Nat} (hcv : Q.cv = .slice (some ⟨cb, 0, none⟩) R.N cc) (hi : i < R.N) (v : Bool) : IsR (w.setCell ⟨cb, i * 4 + 3, none⟩ (.bool v)) rb F Q c d e { R with tk := upd R.tk i v } :=
  h.setC hcv hi (by omega) _ _ rfl (by simp [rckC, upd]) (fun k hk => by simp only [rckC]; rw [upd_other _ _ hk])
theorem IsR.setGn (h : IsR w rb F Q c d e R) {cb cc i : Nat} (hcv : Q.cv = .slice (some ⟨cb, 0, none⟩) R.N cc) (hi : i < R.N) (v : Nat) : IsR (w.setCell ⟨cb, i * 4 + 2, none⟩ (.int .u64 (v : Int))) rb F Q c d e { R with gn := upd R.gn i v } :=
  h.setC hcv hi (by omega) _ _ rfl (by simp [rckC, upd]) (fun k hk => by simp only [rckC]; rw [upd_other _ _ hk])

/-- What the cells hold. -/
theorem IsR.sc (h : IsR w rb F Q c d e R) (i : Nat) : w.cell? ⟨rb, i, none⟩ = (rset R.ps R.m c d e Q.sv Q.ov Q.cv Q.rv)[i]? := h.box.cell i
theorem IsR.ccell (h : IsR w rb F Q c d e R) {cb cc i j : Nat} (hcv : Q.cv = .slice (some ⟨cb, 0, none⟩) R.N cc) (hi : i < R.N) (hj : j < 4) : w.cell? ⟨cb, i * 4 + j, none⟩ = (rckC R i)[j]? := by
  have e := rng_get (rckC_len R) hi hj
  have hl : j < (rckC R i).length := hj
  rw [List.getElem?_eq_getElem hl]
  rw [List.getElem?_eq_getElem hl] at e
  have hk := h.ck
  rw [hcv] at hk
  exact row_cell hk _ _ e
theorem IsR.scell (h : IsR w rb F Q c d e R) {b cc i : Nat} (hv : Q.sv = .slice (some ⟨b, 0, none⟩) R.n cc) (hi : i < R.n) : w.cell? ⟨b, i, none⟩ = some (.int .i64 (R.sz i)) := by
  have e := rng_get (ivs_len fun i => R.sz i) hi (j := 0) (by omega)
  have hk := h.sz
  rw [hv] at hk
  rw [Nat.mul_one, Nat.add_zero] at e
  exact row_cell hk _ _ e
theorem IsR.ocell (h : IsR w rb F Q c d e R) {b cc i : Nat} (hv : Q.ov = .slice (some ⟨b, 0, none⟩) R.m cc) (hi : i < R.m) : w.cell? ⟨b, i, none⟩ = some (.int .i64 (R.ow i)) := by
  have e := rng_get (ivs_len R.ow) hi (j := 0) (by omega)
  have hk := h.ow
  rw [hv] at hk
  rw [Nat.mul_one, Nat.add_zero] at e
  exact row_cell hk _ _ e
theorem IsR.rcell (h : IsR w rb F Q c d e R) {b cc i : Nat} (hv : Q.rv = .slice (some ⟨b, 0, none⟩) R.n cc) (hi : i < R.n) : w.cell? ⟨b, i, none⟩ = some (Q.rr i) := by
  have e := rng_get (one_len Q.rr) hi (j := 0) (by omega)
  have hk := h.rs
  rw [hv] at hk
  rw [Nat.mul_one, Nat.add_zero] at e
  exact row_cell hk _ _ e
theorem IsR.shapes (h : IsR w rb F Q c d e R) (hn : 0 < R.n) (hm : 0 < R.m) : ∃ sb sc ob oc vb vc, Q.sv = .slice (some ⟨sb, 0, none⟩) R.n sc ∧ Q.ov = .slice (some ⟨ob, 0, none⟩) R.m oc ∧ Q.rv = .slice (some ⟨vb, 0, none⟩) R.n vc := by
  obtain ⟨a1, sc, e1, _, _, _, k1⟩ := row_shape h.sz
  obtain ⟨a2, oc, e2, _, _, _, k2⟩ := row_shape h.ow
  obtain ⟨a3, vc, e3, _, _, _, k3⟩ := row_shape h.rs
  obtain ⟨sb, rfl⟩ := k1 hn
  obtain ⟨ob, rfl⟩ := k2 hm
  obtain ⟨vb, rfl⟩ := k3 hn
  exact ⟨sb, sc, ob, oc, vb, vc, e1, e2, e3⟩
theorem IsR.cshape (h : IsR w rb F Q c d e R) (hn : 0 < R.N) : ∃ cb cc, Q.cv = .slice (some ⟨cb, 0, none⟩) R.N cc := by
  obtain ⟨a1, cc, e1, _, _, _, k1⟩ := row_shape h.ck
  obtain ⟨cb, rfl⟩ := k1 hn
  exact ⟨cb, cc, e1⟩
theorem IsR.kp_set (h : IsR w rb F Q c d e R) {k j : Nat} (hk : F k) (v : Value) : Kp F w (w.setCell ⟨k, j, none⟩ v) :=
  (Kp.refl F w).step (gb_setCell (gb_refl _ _) _) (fun i hi => .inl (by simp at hi; subst hi; exact hk))
end

end Go.Proofs.YtjkdflnnpdionaaGreat
/-
  The document's Handle, Find.
-/
namespace Go.Proofs.YtjkdflnnpdionaaGreat
open Go.RowKit
set_option linter.unusedVariables false

def Rb.hdl (R : Rb) (i : Nat) : Nat := R.gn i * 4294967296 + (R.pl i / 8 + 1)
/-- Its numbers are right. -/
structure RFit (R : Rb) : Prop where
  n0 : 0 < R.n
  n2 : R.n ≤ 62
  m0 : 0 < R.m
  m2 : R.m ≤ 1024
  gn : ∀ i, R.gn i < 4294967296
  pl : ∀ i, i < R.N → R.pl i ≤ 1073741824
  N : R.N ≤ 16777216
  s0 : ∀ i, i < R.n → 64 ≤ R.sz i
  s1 : ∀ i, i < R.n → R.sz i ≤ 1048576
  ps : R.ps ≤ 1048576
  rl : ∀ i, i < R.n → (R.row i).length ≤ 16777216

section
variable {w w' : World} {rb : Nat} {F : Nat → Prop} {Q : Rl} {c d e : Int} {R : Rb}

set_option maxRecDepth 100000 in
theorem rhandle_any (h : IsR w rb F Q c d e R) (hR : RFit R) {i : Nat} (hi : i < R.N) : Calls Tryz.prog 140 #[.pointer (some ⟨rb, 0, none⟩), .int .i64 i] w fun y w' => y = .returned (.int .u64 (R.hdl i)) ∧ w.grownBy w' none := by
  obtain ⟨cb, cc, hcv⟩ := h.cshape (by omega)
  have c7 := h.sc 7
  simp [rset, hcv] at c7
  have e0 := h.ccell hcv hi (j := 0) (by omega)
  have e2 := h.ccell hcv hi (j := 2) (by omega)
  simp [rckC] at e0 e2
  have hg := hR.gn i
  have hp := hR.pl i hi
  have hN := hR.N
  have hiz : (i : Int) < (R.N : Int) := by omega
  unfold Rb.hdl
  generalize R.gn i = gn at *
  generalize R.pl i = pl at *
  generalize R.N = N at *
  clear h
  go_enter Tryz.func140, Tryz.ntmps140
  go_wp2
  go_quiet (fail)
  go_wp2
  go_ret
  exact ⟨by congr 2, gb_drewN (gb_refl _ _) _⟩

set_option maxRecDepth 100000 in
set_option maxHeartbeats 1000000 in
theorem rfind_yes (h : IsR w rb F Q c d e R) (hR : RFit R) {i H : Nat} (hi : i < R.N) (ht : R.tk i = true) (hh : R.hdl i = H) (hlo : ∀ j, j < i → R.tk j = true → R.hdl j ≠ H) : Calls Tryz.prog 79 #[.pointer (some ⟨rb, 0, none⟩), .int .u64 H] w fun y w' => y = .returned (.int .i64 i) ∧ w.grownBy w' none := by
  obtain ⟨cb, cc, hcv⟩ := h.cshape (by omega)
  have hN := hR.N
  have hhd := fun W (hf : w.grownBy W none) j (hj : j < R.N) => rhandle_any (h.kept0 hf) hR hj
  go_enter Tryz.func79, Tryz.ntmps79
  go_wp2
  go_loopw [5] (fun iv wr => ∃ (k : Nat), iv = .int .i64 k ∧ k ≤ i ∧ w.grownBy wr none) (fun iv _ => i - (intOf iv).toNat)
  case atStart => exact ⟨0, rfl, by omega, gb_refl _ _⟩
  case round =>
    obtain ⟨k, rfl, hk, hf⟩ := hrel
    have hk2 : k < R.N := by omega
    have hkz : (k : Int) < (R.N : Int) := by omega
    have h1 := h.kept0 hf
    have c7 := h1.sc 7
    simp [rset, hcv] at c7
    have e3 := h1.ccell hcv hk2 (j := 3) (by omega)
    simp [rckC] at e3
    have hd : decide ((k : Int) < R.N) = true := by simpa using hkz
    by_cases hki : k = i
    · subst hki
      rw [ht] at e3
      have h2 := hhd wr hf k hk2
      rw [hh] at h2
      clear h h1 hR hhd hlo
      go_wp2_with (first | (go_at_call 140; go_must (refine h2.mono ?_); rintro y w2 ⟨rfl, hf2⟩) | fail)
      go_ret
      exact ⟨rfl, gb_trans hf hf2⟩
    · have hki2 : k < i := by omega
      cases htk : R.tk k
      · rw [htk] at e3
        clear h h1 hR hhd hlo
        go_wp2
        go_roundw
        case rel => exact ⟨k + 1, by go_num, by omega, hf⟩
        case measure => simp [intOf]; omega
      · rw [htk] at e3
        have h2 := hhd wr hf k hk2
        have hne := hlo k hki2 htk
        have hne2 : decide (((R.hdl k : Nat) : Int) = (H : Int)) = false := by simp; omega
        have hne3 : ((R.hdl k : Int) == (H : Int)) = false := by simp; omega
        generalize R.hdl k = hk at *
        clear h h1 hR hhd hlo
        go_wp2_with (first | (go_at_call 140; go_must (refine h2.mono ?_); rintro y w2 ⟨rfl, hf2⟩) | fail)
        go_roundw
        case rel => exact ⟨k + 1, by go_num, by omega, gb_trans hf hf2⟩
        case measure => simp [intOf]; omega

set_option maxRecDepth 100000 in
set_option maxHeartbeats 1000000 in
theorem rfind_no (h : IsR w rb F Q c d e R) (hR : RFit R) {H : Nat} (hlo : ∀ j, j < R.N → R.tk j = true → R.hdl j ≠ H) : Calls Tryz.prog 79 #[.pointer (some ⟨rb, 0, none⟩), .int .u64 H] w fun y w' => y = .returned (.int .i64 (-1)) ∧ w.grownBy w' none := by
  obtain ⟨ao, cc, hcv, _, _, _, hao⟩ := row_shape h.ck
  have hN := hR.N
  have hhd := fun W (hf : w.grownBy W none) j (hj : j < R.N) => rhandle_any (h.kept0 hf) hR hj
  go_enter Tryz.func79, Tryz.ntmps79
  go_wp2
  go_loopw [5] (fun iv wr => ∃ (k : Nat), iv = .int .i64 k ∧ k ≤ R.N ∧ w.grownBy wr none) (fun iv _ => R.N - (intOf iv).toNat)
  case atStart => exact ⟨0, rfl, by omega, gb_refl _ _⟩
  case round =>
    obtain ⟨k, rfl, hk, hf⟩ := hrel
    have h1 := h.kept0 hf
    by_cases hk2 : k < R.N
    · obtain ⟨cb, rfl⟩ := hao (by omega)
      have c7 := h1.sc 7
      simp [rset, hcv] at c7
      have hkz : (k : Int) < (R.N : Int) := by omega
      have e3 := h1.ccell hcv hk2 (j := 3) (by omega)
      simp [rckC] at e3
      have hd : decide ((k : Int) < R.N) = true := by simpa using hkz
      cases htk : R.tk k
      · rw [htk] at e3
        clear h h1 hR hhd hlo
        go_wp2
        go_roundw
        case rel => exact ⟨k + 1, by go_num, by omega, hf⟩
        case measure => simp [intOf]; omega
      · rw [htk] at e3
        have h2 := hhd wr hf k hk2
        have hne := hlo k hk2 htk
        have hne2 : decide (((R.hdl k : Nat) : Int) = (H : Int)) = false := by simp; omega
        have hne3 : ((R.hdl k : Int) == (H : Int)) = false := by simp; omega
        generalize R.hdl k = hk at *
        clear h h1 hR hhd hlo
        go_wp2_with (first | (go_at_call 140; go_must (refine h2.mono ?_); rintro y w2 ⟨rfl, hf2⟩) | fail)
        go_roundw
        case rel => exact ⟨k + 1, by go_num, by omega, gb_trans hf hf2⟩
        case measure => simp [intOf]; omega
    · obtain rfl : k = R.N := by omega
      have c7 := h1.sc 7
      simp [rset, hcv] at c7
      clear h h1 hR hhd hlo
      go_wp2
      go_ret
      exact ⟨rfl, hf⟩

set_option maxRecDepth 100000 in
theorem ris_yes (h : IsR w rb F Q c d e R) {i : Nat} (hi : i < R.n) : Calls Tryz.prog 138 #[.pointer (some ⟨rb, 0, none⟩), .int .i64 i] w fun y w' => y = .returned (.bool true) ∧ w.grownBy w' none := by
  obtain ⟨ao, cc, hv, _, _, _, hao⟩ := row_shape h.sz
  have c5 := h.sc 5
  simp [rset, hv] at c5
  have hiz : decide ((i : Int) < (R.n : Int)) = true := by simpa using hi
  have h0 : decide ((i : Int) ≥ 0) = true := by simp
  clear h
  go_enter Tryz.func138, Tryz.ntmps138
  go_wp2
  go_ret
  exact ⟨rfl, gb_refl _ _⟩
theorem ris_no (h : IsR w rb F Q c d e R) {x : Int} (hx : ¬ (0 ≤ x ∧ x < R.n)) : Calls Tryz.prog 138 #[.pointer (some ⟨rb, 0, none⟩), .int .i64 x] w fun y w' => y = .returned (.bool false) ∧ w.grownBy w' none := by
  obtain ⟨ao, cc, hv, _, _, _, hao⟩ := row_shape h.sz
  have c5 := h.sc 5
  simp [rset, hv] at c5
  clear h
  by_cases h0 : 0 ≤ x
  · have h1 : ¬ x < R.n := by omega
    go_enter Tryz.func138, Tryz.ntmps138
    go_wp2
    go_ret
    exact ⟨rfl, gb_refl _ _⟩
  · have h1 : x < 0 := by omega
    go_enter Tryz.func138, Tryz.ntmps138
    go_wp2
    go_ret
    exact ⟨rfl, gb_refl _ _⟩
end
end Go.Proofs.YtjkdflnnpdionaaGreat
