/-
  CountOwn: what lies where.
-/
import Derived.Test.YtonbkpfnpnlkpaaDoorZm
namespace Go.Proofs.YtonbkpfnpnlkpaaDoor
open Go.RowKit
set_option linter.unusedVariables false
set_option linter.unusedSimpArgs false

/-- Two boards, a Book, the lists that were told. -/
structure Nw (w W : World) (b r bb : Nat) (N M : Cn) (FB FT : Nat → Prop) (tv : Value) (i j : Nat) : Prop where
  bd : Bd W b 0 N
  rb : Rb W r M
  bk : ∃ hv wv n K V X D, Bk W bb FB hv wv n K V X D ∧ K ≤ j
  tl : ∃ V f, Tl W FT tv i V f
  fb : ∀ k, FB k → w.heap.size ≤ k ∧ k ≠ b ∧ k ≠ r ∧ ¬ FT k
  ft : ∀ k, FT k → w.heap.size ≤ k ∧ k ≠ b ∧ k ≠ r
  wb : w.heap.size ≤ b
  wr : w.heap.size ≤ r
  br : b ≠ r
  gb : w.grownBy W none
section
variable {w W W' : World} {b r bb i j : Nat} {N M : Cn} {FB FT : Nat → Prop} {tv : Value}
theorem Nw.ltF (h : Nw w W b r bb N M FB FT tv i j) : (∀ k, FB k → k < W.heap.size) ∧ (∀ k, FT k → k < W.heap.size) := by
  obtain ⟨hv, wv, n, K, V, X, D, hb, _⟩ := h.bk
  obtain ⟨V2, f, ht⟩ := h.tl
  exact ⟨hb.fl, ht.lt⟩
/-- Other memory has turned. -/
theorem Nw.kp {F : Nat → Prop} (h : Nw w W b r bb N M FB FT tv i j) (hk : Kp F W W') (hF : ∀ k, F k → k < W.heap.size → w.heap.size ≤ k ∧ k ≠ b ∧ k ≠ r ∧ ¬ FB k ∧ ¬ FT k) : Nw w W' b r bb N M FB FT tv i j := by
  obtain ⟨hv, wv, n, K, V, X, D, hb, hKi⟩ := h.bk
  obtain ⟨V2, f, ht⟩ := h.tl
  refine ⟨Bd.kept h.bd hk (fun e => (hF b e (Box.lt h.bd)).2.1 rfl), Rb.kept h.rb hk (fun e => (hF r e (Box.lt h.rb)).2.2.1 rfl), ⟨hv, wv, n, K, V, X, D, hb.kept hk (fun k hk2 e => (hF k e (hb.fl k hk2)).2.2.2.1 hk2), hKi⟩, ⟨V2, f, ht.kept hk (fun k hk2 e => (hF k e (ht.lt k hk2)).2.2.2.2 hk2)⟩, h.fb, h.ft, h.wb, h.wr, h.br, ?_⟩
  refine ⟨hk.os.trans h.gb.os, hk.tape.trans h.gb.tape, hk.output.trans h.gb.output, Nat.le_trans h.gb.size hk.size, fun k hkl _ => ?_⟩
  rw [hk.block k (Nat.lt_of_lt_of_le hkl h.gb.size) (fun e => by have := (hF k e (Nat.lt_of_lt_of_le hkl h.gb.size)).1; omega)]
  exact h.gb.block k hkl (by simp)
theorem Nw.kept0 (h : Nw w W b r bb N M FB FT tv i j) (hg : W.grownBy W' none) : Nw w W' b r bb N M FB FT tv i j := h.kp (Kp.of (F := fun _ => False) hg) (fun k e => e.elim)
/-- A block of the round's own is written. -/
theorem Nw.mine (h : Nw w W b r bb N M FB FT tv i j) {W0 : World} {N0 M0 : Cn} {B : Nat} (h0 : Nw w W0 b r bb N0 M0 FB FT tv i j) (hB : W0.heap.size ≤ B) {row : Option Nat} (hrow : ∀ k, row = some k → B ≤ k) (hg : W.grownBy W' row) : Nw w W' b r bb N M FB FT tv i j := by
  refine h.kp ((Kp.refl (fun k => row = some k) W).step hg (fun k e => .inl e)) (fun k e _ => ?_)
  have h1 := hrow k e
  have h2 := Box.lt h0.bd
  have h3 := Box.lt h0.rb
  have h4 := h0.gb.size
  refine ⟨by omega, by omega, by omega, fun e2 => ?_, fun e2 => ?_⟩
  · have := h0.ltF.1 k e2; omega
  · have := h0.ltF.2 k e2; omega
theorem Nw.setR (h : Nw w W b r bb N M FB FT tv i j) (hk : Kp (· = r) W W') {M' : Cn} (hr : Rb W' r M') : Nw w W' b r bb N M' FB FT tv i j := by
  obtain ⟨hv, wv, n, K, V, X, D, hb, hKi⟩ := h.bk
  obtain ⟨V2, f, ht⟩ := h.tl
  refine ⟨Bd.kept h.bd hk h.br, hr, ⟨hv, wv, n, K, V, X, D, hb.kept hk (fun k hk2 e => (h.fb k hk2).2.2.1 e), hKi⟩, ⟨V2, f, ht.kept hk (fun k hk2 e => (h.ft k hk2).2.2 e)⟩, h.fb, h.ft, h.wb, h.wr, h.br, ?_⟩
  exact ((Kp.of (F := (· = r)) h.gb).then hk).grown (fun k e => by have := h.wr; omega)
theorem Nw.setB (h : Nw w W b r bb N M FB FT tv i j) (hk : Kp (· = b) W W') {N' : Cn} (hr : Bd W' b 0 N') : Nw w W' b r bb N' M FB FT tv i j := by
  obtain ⟨hv, wv, n, K, V, X, D, hb, hKi⟩ := h.bk
  obtain ⟨V2, f, ht⟩ := h.tl
  refine ⟨hr, Rb.kept h.rb hk (fun e => h.br e.symm), ⟨hv, wv, n, K, V, X, D, hb.kept hk (fun k hk2 e => (h.fb k hk2).2.1 e), hKi⟩, ⟨V2, f, ht.kept hk (fun k hk2 e => (h.ft k hk2).2.1 e)⟩, h.fb, h.ft, h.wb, h.wr, h.br, ?_⟩
  exact ((Kp.of (F := (· = b)) h.gb).then hk).grown (fun k e => by have := h.wb; omega)
/-- A list is kept in the Book. -/
theorem Nw.ints (h : Nw w W b r bb N M FB FT tv i j) (hj : j < 4000) {W0 : World} {N0 M0 : Cn} {j0 : Nat} (h0 : Nw w W0 b r bb N0 M0 FB FT tv i j0) {vao : Option Addr} {vcp : Nat} {xs : List Int} (hrow : W.ownsRow W0.heap.size 3 1 (.slice vao xs.length vcp) xs.length (hvals xs)) (hxl : xs.length ≤ 10003) :
    Calls Tryd.prog 30 #[.pointer (some ⟨bb, 0, none⟩), .slice vao xs.length vcp] W fun y W' => y = .returned (.tuple #[]) ∧ ∃ FB', Nw w W' b r bb N M FB' FT tv i (j + 1) := by
  obtain ⟨hv, wv, n, K, V, X, D, hb, hKi⟩ := h.bk
  obtain ⟨V2, f, ht⟩ := h.tl
  have hnew : ∀ g, (Value.slice vao xs.length vcp).ownBlock = some g → W0.heap.size ≤ g := fun g hg => (own_lo hrow hg).1
  have hvF : ∀ g, (Value.slice vao xs.length vcp).ownBlock = some g → ¬ FB g := fun g hg e => by
    have h1 := hnew g hg
    have h2 := h0.ltF.1 g e
    omega
  have post : ∀ W', BkPost W bb FB K (.slice vao xs.length vcp) W' → ∃ FB', Nw w W' b r bb N M FB' FT tv i (j + 1) := fun W' hp => by
    obtain ⟨hk, _, FB', hv', wv', n', K', V', X', D', hb', hK', hF'⟩ := hp
    refine ⟨FB', ⟨Bd.kept h.bd hk (fun e => (h.fb b e).2.1 rfl), Rb.kept h.rb hk (fun e => (h.fb r e).2.2.1 rfl), ⟨hv', wv', n', K', V', X', D', hb', by omega⟩, ⟨V2, f, ht.kept hk (fun k hk2 e => (h.fb k e).2.2.2 hk2)⟩, fun k e => ?_, h.ft, h.wb, h.wr, h.br, ?_⟩⟩
    · have hWs := h.gb.size
      rcases hF' k e with e1 | e1 | e1
      · exact h.fb k e1
      · have h1 := hnew k e1
        have h2 := h0.gb.size
        have h3 := Box.lt h0.bd
        have h4 := Box.lt h0.rb
        exact ⟨by omega, by omega, by omega, fun e2 => by have := h0.ltF.2 k e2; omega⟩
      · have h3 := Box.lt h.bd
        have h4 := Box.lt h.rb
        exact ⟨by omega, by omega, by omega, fun e2 => by have := h.ltF.2 k e2; omega⟩
    · exact ((Kp.of (F := FB) h.gb).trans hk (fun _ h => h) (fun _ h => .inl h)).grown (fun k e => (h.fb k e).1)
  by_cases hn : 200000 < n
  · exact (bk_full hb hn _).mono fun y W' hy => ⟨hy.1, post W' hy.2⟩
  · exact (bk_keep hb hn (by omega) (row_base hrow (Nat.zero_le _)) hxl hvF).mono fun y W' hy => ⟨hy.1, post W' hy.2⟩
/-- A list that was told is kept. -/
theorem Nw.told (h : Nw w W b r bb N M FB FT tv i j) (hi : i < 100) {W0 : World} {N0 M0 : Cn} {j0 : Nat} (h0 : Nw w W0 b r bb N0 M0 FB FT tv i j0) {v tv' : Value} {P : Cn} (hs : StP W0.heap.size P v W) {V2 : Nat → Value} {f : Nat → Nat → List Value} (ht : Tl W FT tv i V2 f) (hown : W'.ownsRow 0 37 1 tv' (i + 1) (vsL V2 i ++ [v])) (hg : W.grownBy W' tv.ownBlock) (hat : ∀ g, tv'.ownBlock = some g → tv.ownBlock = some g ∨ W.heap.size ≤ g) :
    ∃ FT', Nw w W' b r bb N M FB FT' tv' (i + 1) j := by
  obtain ⟨hv, wv, n, K, V, X, D, hb, hKi⟩ := h.bk
  obtain ⟨g, cap, rfl, hrow⟩ := hs
  have hgl := own_lo hrow (j := g) rfl
  have hk : Kp (fun k => tv.ownBlock = some k) W W' := (Kp.refl _ W).step hg (fun k e => .inl e)
  have hkF : ∀ k, tv.ownBlock = some k → FT k := ht.ft
  have h1 := Box.lt h0.bd
  have h2 := Box.lt h0.rb
  have h3 := h0.gb.size
  have hgF : ¬ FT g := fun e => by have := h0.ltF.2 g e; omega
  have hgB : ¬ FB g := fun e => by have := h0.ltF.1 g e; omega
  have hrow2 : W'.ownsRow 0 60 2 (.slice (some ⟨g, 0, none⟩) 30 cap) 30 (stL P 30) := row_kept (row_base hrow (Nat.zero_le _)) hg (fun k hk2 e => by
    simp [Value.ownBlock] at hk2; subst hk2
    exact hgF (hkF _ e.symm))
  have hWs := h.gb.size
  refine ⟨fun k => FT k ∨ k = g ∨ tv'.ownBlock = some k, Bd.kept h.bd hk (fun e => (h.ft b (hkF b e)).2.1 rfl), Rb.kept h.rb hk (fun e => (h.ft r (hkF r e)).2.2 rfl), ⟨hv, wv, n, K, V, X, D, hb.kept hk (fun k hk2 e => (h.fb k hk2).2.2.2 (hkF k e)), hKi⟩, ⟨upd V2 i (.slice (some ⟨g, 0, none⟩) 30 cap), upd f i (stF P), ?_⟩, fun k e => ?_, fun k e => ?_, h.wb, h.wr, h.br, ?_⟩
  · refine ⟨by rw [vsL_upd]; exact hown, fun j hj => ?_, fun j l => ?_, fun j1 j2 q hj1 hj2 hne hq => ?_, fun j q hj hq => ?_, fun q hq => .inr (.inr hq), fun k e => ?_, hi⟩
    · by_cases e : j = i
      · subst e; rw [upd_same, upd_same]; exact hrow2
      · rw [upd_other _ _ e, upd_other _ _ e]
        refine row_kept (ht.vs j (by omega)) hg (fun k hk2 e2 => ?_)
        obtain ⟨c1, hc1⟩ := row_block (ht.vs j (by omega)) k hk2
        obtain ⟨c2, hc2⟩ := row_block ht.hr k e2.symm
        exact ne_of_type hc1 hc2 (by decide) rfl
    · by_cases e : j = i
      · subst e; rw [upd_same]; rfl
      · rw [upd_other _ _ e]; exact ht.fl j l
    · by_cases e1 : j1 = i
      · subst e1
        rw [upd_same] at hq
        simp [Value.ownBlock] at hq
        subst hq
        rw [upd_other _ _ (by omega)]
        exact fun e => hgF (ht.fv j2 _ (by omega) e)
      · rw [upd_other _ _ e1] at hq
        by_cases e2 : j2 = i
        · subst e2
          rw [upd_same]
          intro e
          simp [Value.ownBlock] at e
          subst e
          exact hgF (ht.fv j1 _ (by omega) hq)
        · rw [upd_other _ _ e2]; exact ht.vv j1 j2 q (by omega) (by omega) hne hq
    · by_cases e : j = i
      · subst e; rw [upd_same] at hq; simp [Value.ownBlock] at hq; exact .inr (.inl hq.symm)
      · rw [upd_other _ _ e] at hq; exact .inl (ht.fv j q (by omega) hq)
    · have hs2 := hg.size
      rcases e with e | e | e
      · have := ht.lt k e; omega
      · omega
      · exact (own_lo (hown) e).2
  · obtain ⟨e1, e2, e3, e4⟩ := h.fb k e
    refine ⟨e1, e2, e3, ?_⟩
    rintro (e5 | e5 | e5)
    · exact e4 e5
    · subst e5; exact hgB e
    · rcases hat k e5 with e6 | e6
      · exact e4 (hkF k e6)
      · have := h.ltF.1 k e; omega
  · rcases e with e | e | e
    · exact h.ft k e
    · subst e; exact ⟨by omega, by omega, by omega⟩
    · rcases hat k e with e6 | e6
      · exact h.ft k (hkF k e6)
      · have h4 := Box.lt h.bd
        have h5 := Box.lt h.rb
        exact ⟨by omega, by omega, by omega⟩
  · exact ((Kp.of (F := fun k => tv.ownBlock = some k) h.gb).then hk).grown (fun k e => (h.ft k (hkF k e)).1)
end

end Go.Proofs.YtonbkpfnpnlkpaaDoor
