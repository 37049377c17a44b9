/-
  Held in memory, and the words for what Held.Own does to it.
-/
import Derived.Test.YtknhoncnaigogaaBe
import Derived.Test.YtknhoncnaigogaaL
namespace Go.Proofs.Ytknhoncnaigogaa
open Go.RowKit
set_option linter.unusedVariables false

theorem Try.info29 : (Try.prog.info? 29).map (fun i => (i.zero, i.size, i.bytes)) = some (some (.slice none 0 0), 1, 24) := by kernel_rfl

/-- Blocks that lay there and are not of F are as they were. -/
structure Kp (F : Nat → Prop) (w w' : World) : Prop where
  os : w'.os = w.os
  tape : w'.tape = w.tape
  output : w'.output = w.output
  size : w.heap.size ≤ w'.heap.size
  block : ∀ k, k < w.heap.size → ¬ F k → w'.heap[k]? = w.heap[k]?
theorem Kp.refl (F : Nat → Prop) (w : World) : Kp F w w := ⟨rfl, rfl, rfl, Nat.le_refl _, fun _ _ _ => rfl⟩
theorem Kp.step {F : Nat → Prop} {w a b : World} (h : Kp F w a) {row : Option Nat} (k : a.grownBy b row) (hr : ∀ i, row = some i → F i ∨ w.heap.size ≤ i) : Kp F w b :=
  ⟨k.os.trans h.os, k.tape.trans h.tape, k.output.trans h.output, Nat.le_trans h.size k.size, fun i hi hF => (k.block i (Nat.lt_of_lt_of_le hi h.size) (fun e => by rcases hr i e.symm with h1 | h1; exact hF h1; omega)).trans (h.block i hi hF)⟩
theorem Kp.of {F : Nat → Prop} {w w' : World} (h : w.grownBy w' none) : Kp F w w' := (Kp.refl F w).step h (by simp)

theorem ne_of_type {w : World} {a b : Nat} {c1 c2 : Array Value} {t1 t2 : TypeId} {z1 z2 : Nat × Nat} (h1 : w.heap[a]? = some (.cells c1 t1 z1)) (h2 : w.heap[b]? = some (.cells c2 t2 z2)) (h : t1 ≠ t2) : a ≠ b := by
  intro e; subst e
  rw [h1] at h2
  injection h2 with h2
  injection h2 with _ h3 _
  exact h h3

theorem row_shape {w : World} {B : Nat} {e : TypeId} {v : Value} {n : Nat} {xs : List Value} (h : w.ownsRow B e 1 v n xs) : ∃ ao c, v = .slice ao n c ∧ (ao = none → n = 0 ∧ c = 0) ∧ n ≤ c ∧ c ≤ maxLen ∧ (0 < n → ∃ g, ao = some ⟨g, 0, none⟩) := by
  rcases h.2 with ⟨rfl, rfl⟩ | ⟨g, c, cur, rfl, h2, h3, h4, h5, h6⟩
  · exact ⟨none, 0, rfl, fun _ => ⟨rfl, rfl⟩, Nat.le_refl _, by unfold maxLen; omega, fun h => by omega⟩
  · exact ⟨_, c, rfl, fun h => by simp at h, h4, h5, fun _ => ⟨g, rfl⟩⟩
theorem row_cell {w : World} {B : Nat} {e : TypeId} {g n c : Nat} {xs : List Value} (h : w.ownsRow B e 1 (.slice (some ⟨g, 0, none⟩) n c) n xs) (i : Nat) (u : Value) (hu : xs[i]? = some u) : w.cell? ⟨g, i, none⟩ = some u := by
  have := h.cells (g := g) rfl i u hu
  rw [Addr.add_mid, Nat.zero_add] at this
  exact this
theorem row_block {w : World} {B : Nat} {e : TypeId} {v : Value} {n : Nat} {xs : List Value} (h : w.ownsRow B e 1 v n xs) : ∀ k, v.ownBlock = some k → ∃ cur, w.heap[k]? = some (.cells cur e (0, 0)) := by
  intro k hk
  rcases h.2 with ⟨rfl, rfl⟩ | ⟨g, c, cur, rfl, h2, h3, h4, h5, h6⟩
  · simp [Value.ownBlock] at hk
  · simp [Value.ownBlock] at hk; subst hk; exact ⟨cur, h3⟩

structure Got where
  a : Option Nat
  xs : List Int
def Got.adr (t : Got) : Option Addr := t.a.map fun g => ⟨g, 0, none⟩
def Got.val (t : Got) : Value := .slice t.adr t.xs.length t.xs.length

/-- Held in memory; F: its blocks. -/
structure IsH (w : World) (hb : Nat) (F : Nat → Prop) (gv wv : Value) (L : List Got) (M : List Value) (sz : Int) : Prop where
  box : Box w 75 hb #[gv, wv, .int .i64 sz]
  rg : w.ownsRow 0 29 1 gv L.length (L.map Got.val)
  rw : w.ownsRow 0 29 1 wv L.length M
  fb : F hb
  fg : ∀ k, gv.ownBlock = some k → F k
  fw : ∀ k, wv.ownBlock = some k → F k
  apart : ∀ k, gv.ownBlock = some k → wv.ownBlock ≠ some k
  data : ∀ (i : Nat) t, L[i]? = some t → isBytes t.xs ∧ t.xs.length ≤ 1000000000 ∧ (t.a = none → t.xs = []) ∧ ∀ g, t.a = some g → F g ∧ w.heap[g]? = some (.cells (vals t.xs) 5 (0, 0))
  want : ∀ (i : Nat) t, L[i]? = some t → ∃ wa wc, M[i]? = some (.slice wa t.xs.length wc) ∧ Own 0 w wa wc t.xs ∧ ∀ k, blk wa = some k → F k
  once : ∀ (i j : Nat) t u g, L[i]? = some t → L[j]? = some u → t.a = some g → u.a = some g → i = j
  inF : ∀ k, F k → k < w.heap.size

/-- It hangs on its blocks alone. -/
theorem IsH.same {w w' : World} {hb : Nat} {F : Nat → Prop} {gv wv : Value} {L : List Got} {M : List Value} {sz : Int} (h : IsH w hb F gv wv L M sz) (hs : w.heap.size ≤ w'.heap.size) (hf : ∀ k, F k → w'.heap[k]? = w.heap[k]?) : IsH w' hb F gv wv L M sz := by
  have row : ∀ {e : TypeId} {v : Value} {n : Nat} {xs : List Value}, w.ownsRow 0 e 1 v n xs → (∀ k, v.ownBlock = some k → F k) → w'.ownsRow 0 e 1 v n xs := by
    intro e v n xs h1 h2
    refine ⟨h1.1, ?_⟩
    rcases h1.2 with h3 | ⟨g, c, cur, rfl, h4, h5, h6⟩
    · exact .inl h3
    · exact .inr ⟨g, c, cur, rfl, h4, by rw [hf g (h2 g rfl)]; exact h5, h6⟩
  refine ⟨?_, row h.rg h.fg, row h.rw h.fw, h.fb, h.fg, h.fw, h.apart, ?_, ?_, h.once, fun k hk => Nat.lt_of_lt_of_le (h.inF k hk) hs⟩
  · unfold Box; rw [hf hb h.fb]; exact h.box
  · intro i t ht
    obtain ⟨h1, h2, h3, h4⟩ := h.data i t ht
    exact ⟨h1, h2, h3, fun g hg => ⟨(h4 g hg).1, by rw [hf g (h4 g hg).1]; exact (h4 g hg).2⟩⟩
  · intro i t ht
    obtain ⟨wa, wc, h1, h2, h3⟩ := h.want i t ht
    exact ⟨wa, wc, h1, row h2 (by intro k hk; rw [ownBlock_blk] at hk; exact h3 k hk), h3⟩
theorem IsH.kept0 {w w' : World} {hb : Nat} {F : Nat → Prop} {gv wv : Value} {L : List Got} {M : List Value} {sz : Int} (h : IsH w hb F gv wv L M sz) (hf : w.grownBy w' none) : IsH w' hb F gv wv L M sz :=
  h.same hf.size fun k hk => hf.block k (h.inF k hk) (by simp)

theorem equal_same {w : World} {a1 a2 : Option Addr} {n : Nat} {xs : List Int} (h1 : Has w a1 n xs) (h2 : Has w a2 n xs) (hx : isBytes xs) (c1 c2 : Nat) :
    Calls Try.prog 34 #[.slice a1 n c1, .slice a2 n c2] w fun e w' => e = .returned (.bool true) ∧ w' = w :=
  (equal_34 h1 h2 hx hx c1 c2).mono (by rintro e w' ⟨rfl, rfl⟩; exact ⟨by simp, rfl⟩)

theorem got_has {w : World} {t : Got} (h3 : t.a = none → t.xs = []) (h4 : ∀ g, t.a = some g → w.heap[g]? = some (.cells (vals t.xs) 5 (0, 0))) : Has w t.adr t.xs.length t.xs := by
  obtain ⟨a, xs⟩ := t
  cases a with
  | none => simp at h3; subst h3; exact ⟨rfl, fun h => by simp at h⟩
  | some g => exact has_block (h4 g rfl) rfl

/-! While Own writes: the bytes laid so far. -/
def Fill (w : World) (L : List Got) (D : Nat → Nat → Prop) : Prop :=
  ∀ (j : Nat) t g, L[j]? = some t → t.a = some g → ∃ cur, w.heap[g]? = some (.cells cur 5 (0, 0)) ∧ cur.size = t.xs.length ∧ ∀ k, k < t.xs.length → D j k → cur[k]? = some (.int .u8 (ownB j k))

theorem Fill.mono {w : World} {L : List Got} {D E : Nat → Nat → Prop} (h : Fill w L D) (he : ∀ j k t, L[j]? = some t → k < t.xs.length → E j k → D j k) : Fill w L E := by
  intro j t g h1 h2
  obtain ⟨cur, h3, h4, h5⟩ := h j t g h1 h2
  exact ⟨cur, h3, h4, fun k hk hE => h5 k hk (he j k t h1 hk hE)⟩

theorem Fill.set {w : World} {L : List Got} {D : Nat → Nat → Prop} (h : Fill w L D) (once : ∀ (i j : Nat) t u g, L[i]? = some t → L[j]? = some u → t.a = some g → u.a = some g → i = j)
    {i : Nat} {t : Got} {g : Nat} (ht : L[i]? = some t) (hg : t.a = some g) {k : Nat} (hk : k < t.xs.length) : Fill (w.setCell ⟨g, k, none⟩ (.int .u8 (ownB i k))) L (fun j k' => D j k' ∨ (j = i ∧ k' = k)) := by
  intro j u g' h1 h2
  obtain ⟨cur, h3, h4, h5⟩ := h j u g' h1 h2
  by_cases e : g' = g
  · subst e
    obtain rfl := once _ _ _ _ _ ht h1 hg h2
    rw [ht] at h1; cases h1
    refine ⟨_, heap_setCell_same w g' k _ _ _ h3, by simp [h4], fun k' hk' hD => ?_⟩
    · by_cases ek : k' = k
      · subst ek; simp [h4, hk']
      · rw [Array.getElem?_setIfInBounds_ne (Ne.symm ek)]
        exact h5 k' hk' (by rcases hD with h | ⟨_, h⟩; exact h; exact absurd h ek)
  · refine ⟨cur, ?_, h4, fun k' hk' hD => h5 k' hk' ?_⟩
    · rw [heap_setCell_other _ _ _ _ e]; exact h3
    · rcases hD with h | ⟨rfl, _⟩
      · exact h
      · rw [ht] at h1; cases h1; rw [hg] at h2; cases h2; exact absurd rfl e

end Go.Proofs.Ytknhoncnaigogaa
