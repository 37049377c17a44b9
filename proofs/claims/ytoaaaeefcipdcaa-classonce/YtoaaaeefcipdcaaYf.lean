import Derived.Test.YtoaaaeefcipdcaaYe
/-
  ClassOnce: where its walk stands in memory.
-/
namespace Go.Proofs.Ytoaaaeefcipdcaa
open Go.RowKit
set_option linter.unusedVariables false

theorem Try.info63 : (Try.prog.info? 63).map (fun i => (i.zero, i.size, i.bytes)) = some (some (.agg #[.int .u64 0, .int .i64 0, .int .i64 0]), 3, 24) := by kernel_rfl
theorem ty54 : ∃ ti, Ty 54 63 ti (.agg #[.int .u64 0, .int .i64 0, .int .i64 0]) 3 24 := by
  obtain ⟨i0, hi, hz0, hz1, hz2⟩ := info_parts Try.info63
  exact ⟨i0, Try.underlying54, hi, hz0, hz1, hz2, rfl, by omega, by omega⟩
theorem ty55 : ∃ ti, Ty 55 59 ti (.int .u64 0) 1 8 := by
  obtain ⟨i0, hi, hz0, hz1, hz2⟩ := info_parts Try.info59
  exact ⟨i0, Try.underlying55, hi, hz0, hz1, hz2, rfl, by omega, by omega⟩

def cfgA (ps : Nat) (b c d e f g : Int) : Array Value := #[.int .i64 (ps : Nat), .int .i64 b, .int .i64 c, .int .i64 d, .int .i64 e, .int .i64 f, .int .i64 g]
/-- The Set, the config, the pages' array, both rows. -/
structure OcW (w0 : World) (sb cb pb : Nat) (b c d e f g : Int) (A : Ab) (L : List (Nat × Nat × Nat)) (O : List Nat) (P : Array Value) (tv ov : Value) (W : World) : Prop where
  gr : w0.grownBy W none
  set : ∃ F B zs, IsS W sb F B b c d e f g A zs ∧ (∀ k, F k → w0.heap.size ≤ k) ∧ ¬ F cb ∧ ¬ F pb ∧ (∀ k, tv.ownBlock = some k → ¬ F k) ∧ (∀ k, ov.ownBlock = some k → ¬ F k)
  cfg : Box W 23 cb (cfgA A.ps b c d e f g)
  pag : Box W 56 pb P
  pbl : w0.heap.size ≤ pb
  trow : W.ownsRow 0 63 3 tv L.length (pcL L)
  orow : W.ownsRow 0 59 1 ov O.length (hdls O)
  tl : ∀ k, tv.ownBlock = some k → w0.heap.size ≤ k
  ol : ∀ k, ov.ownBlock = some k → w0.heap.size ≤ k

section
variable {w0 W : World} {sb cb pb : Nat} {b c d e f g : Int} {A A' : Ab} {L : List (Nat × Nat × Nat)} {O : List Nat} {P : Array Value} {tv ov : Value}
theorem OcW.gb (h : OcW w0 sb cb pb b c d e f g A L O P tv ov W) {W' : World} (hf : W.grownBy W' none) : OcW w0 sb cb pb b c d e f g A L O P tv ov W' := by
  obtain ⟨F, B, zs, h1, h2⟩ := h.set
  exact ⟨gb_trans h.gr hf, ⟨F, B, zs, h1.kept0 hf, h2⟩, h.cfg.kept hf (by simp), h.pag.kept hf (by simp), h.pbl, row_kept h.trow hf (by simp), row_kept h.orow hf (by simp), h.tl, h.ol⟩
theorem OcW.tn {k : Nat} (h : OcW w0 sb cb pb b c d e f g A L O P tv ov W) (hk : tv.ownBlock = some k) : k ≠ cb ∧ k ≠ pb ∧ ov.ownBlock ≠ some k := by
  obtain ⟨cur, hc⟩ := row_block h.trow k hk
  refine ⟨ne_of_type hc h.cfg (by decide), ne_of_type hc h.pag (by decide), fun e => ?_⟩
  obtain ⟨cur2, hc2⟩ := row_block h.orow k e
  exact ne_of_type hc hc2 (by decide) rfl
theorem OcW.on {k : Nat} (h : OcW w0 sb cb pb b c d e f g A L O P tv ov W) (hk : ov.ownBlock = some k) : k ≠ cb ∧ k ≠ pb := by
  obtain ⟨cur, hc⟩ := row_block h.orow k hk
  exact ⟨ne_of_type hc h.cfg (by decide), ne_of_type hc h.pag (by decide)⟩
/-- A call that turns the Set. -/
theorem OcW.setr (h : OcW w0 sb cb pb b c d e f g A L O P tv ov W) {fn : Nat} {args : Array Value} {v : Value} (hps : A'.ps = A.ps)
    (hc : ∀ {F : Nat → Prop} {B : Bl} {zs : List Int}, IsS W sb F B b c d e f g A zs → Calls Try.prog fn args W (SetR W sb F b c d e f g A' v)) :
    Calls Try.prog fn args W fun y W' => y = .returned v ∧ OcW w0 sb cb pb b c d e f g A' L O P tv ov W' := by
  obtain ⟨F, B, zs, h1, h2, h3, h4, h5, h6⟩ := h.set
  refine (hc h1).mono ?_
  rintro y W' ⟨rfl, hk, F', B', zs', hS, hF⟩
  have hlt : ∀ k, ¬ F k → k < W.heap.size → ¬ F' k := fun k hn hl e => by
    rcases hF k e with e1 | e1
    · exact hn e1
    · omega
  refine ⟨rfl, ⟨?_, ⟨F', B', zs', hS, fun k hk' => ?_, hlt _ h3 h.cfg.lt, hlt _ h4 h.pag.lt, fun k e => hlt _ (h5 k e) (World.ownsRow.lt h.trow k e).2, fun k e => hlt _ (h6 k e) (World.ownsRow.lt h.orow k e).2⟩, ?_, hk.box h.pag h4, h.pbl, ?_, ?_, h.tl, h.ol⟩⟩
  · exact (((Kp.of (F := fun _ => False) h.gr).trans hk (fun _ h => h) (fun j hj => .inr (h2 j hj)))).grown (fun _ h => h.elim)
  · rcases hF k hk' with e1 | e1
    · exact h2 k e1
    · exact Nat.le_trans h.gr.size e1
  · rw [hps]; exact hk.box h.cfg h3
  · exact row_same h.trow fun k e => hk.block k (World.ownsRow.lt h.trow k e).2 (h5 k e)
  · exact row_same h.orow fun k e => hk.block k (World.ownsRow.lt h.orow k e).2 (h6 k e)
theorem OcW.take (h : OcW w0 sb cb pb b c d e f g A L O P tv ov W) {i hd : Nat} {er : Int} (hps : A'.ps = A.ps) (hT : TakeC A A' i hd er) :
    Calls Try.prog 23 #[.pointer (some ⟨sb, 0, none⟩), .int .i64 (i : Nat)] W fun y W' => y = .returned (.tuple #[.int .u64 (hd : Nat), .int .i64 er]) ∧ OcW w0 sb cb pb b c d e f g A' L O P tv ov W' :=
  h.setr hps fun h => hT h
theorem OcW.give (h : OcW w0 sb cb pb b c d e f g A L O P tv ov W) {H : Nat} {er : Int} (hps : A'.ps = A.ps) (hG : GiveC A A' H er) :
    Calls Try.prog 25 #[.pointer (some ⟨sb, 0, none⟩), .int .u64 (H : Nat)] W fun y W' => y = .returned (.int .i64 er) ∧ OcW w0 sb cb pb b c d e f g A' L O P tv ov W' :=
  h.setr hps fun h => hG h
/-- A call that turns nothing. -/
theorem OcW.tell (h : OcW w0 sb cb pb b c d e f g A L O P tv ov W) {fn : Nat} {args : Array Value} {v : Value}
    (hc : ∀ {F : Nat → Prop} {B : Bl} {zs : List Int}, IsS W sb F B b c d e f g A zs → Calls Try.prog fn args W fun y w' => y = .returned v ∧ W.grownBy w' none) :
    Calls Try.prog fn args W fun y W' => y = .returned v ∧ OcW w0 sb cb pb b c d e f g A L O P tv ov W' := by
  obtain ⟨F, B, zs, h1, h2⟩ := h.set
  refine (hc h1).mono ?_
  rintro y W' ⟨rfl, hf⟩
  exact ⟨rfl, h.gb hf⟩
/-- A cell of the pages' array is written. -/
theorem OcW.page (h : OcW w0 sb cb pb b c d e f g A L O P tv ov W) (i : Nat) (v : Value) : OcW w0 sb cb pb b c d e f g A L O (P.setIfInBounds i v) tv ov (W.setCell ⟨pb, i, none⟩ v) := by
  have hf : W.grownBy (W.setCell ⟨pb, i, none⟩ v) (some pb) := gb_setCell (gb_refl _ _) v
  obtain ⟨F, B, zs, h1, h2, h3, h4, h5, h6⟩ := h.set
  have hcp : cb ≠ pb := ne_of_type h.cfg h.pag (by decide)
  refine ⟨gb_mine h.gr hf h.pbl, ⟨F, B, zs, h1.kept (G := fun k => k = pb) ((Kp.refl _ _).step hf (fun i e => .inl (Option.some.inj e).symm)) (fun k hk e => h4 (e ▸ hk)), h2, h3, h4, h5, h6⟩, h.cfg.kept hf (fun e => hcp (Option.some.inj e)), h.pag.set i v, h.pbl, row_kept h.trow hf (fun k hk e => (h.tn hk).2.1 (Option.some.inj e)), row_kept h.orow hf (fun k hk e => (h.on hk).2 (Option.some.inj e)), h.tl, h.ol⟩
/-- The row of the taken has turned. -/
theorem OcW.rowT (h : OcW w0 sb cb pb b c d e f g A L O P tv ov W) {W' : World} {L' : List (Nat × Nat × Nat)} {tv' : Value} (hr : W'.ownsRow 0 63 3 tv' L'.length (pcL L')) (hf : W.grownBy W' tv.ownBlock) (hn : ∀ k, tv'.ownBlock = some k → tv.ownBlock = some k ∨ W.heap.size ≤ k) : OcW w0 sb cb pb b c d e f g A L' O P tv' ov W' := by
  obtain ⟨F, B, zs, h1, h2, h3, h4, h5, h6⟩ := h.set
  have hgr : w0.grownBy W' none := by
    cases hb : tv.ownBlock with
    | none => rw [hb] at hf; exact gb_trans h.gr hf
    | some q => rw [hb] at hf; exact gb_mine h.gr hf (h.tl q hb)
  refine ⟨hgr, ⟨F, B, zs, h1.kept (G := fun k => tv.ownBlock = some k) ((Kp.refl _ _).step hf (fun i e => .inl e)) (fun k hk e => h5 k e hk), h2, h3, h4, fun k hk e => ?_, h6⟩, h.cfg.kept hf (fun e => (h.tn e.symm).1 rfl), h.pag.kept hf (fun e => (h.tn e.symm).2.1 rfl), h.pbl, hr, row_kept h.orow hf (fun k hk e => (h.tn e.symm).2.2 hk), fun k hk => ?_, h.ol⟩
  · rcases hn k hk with e1 | e1
    · exact h5 k e1 e
    · have := h1.lt k e; omega
  · rcases hn k hk with e1 | e1
    · exact h.tl k e1
    · exact Nat.le_trans h.gr.size e1
/-- The row of the old has turned. -/
theorem OcW.rowO (h : OcW w0 sb cb pb b c d e f g A L O P tv ov W) {W' : World} {O' : List Nat} {ov' : Value} (hr : W'.ownsRow 0 59 1 ov' O'.length (hdls O')) (hf : W.grownBy W' ov.ownBlock) (hn : ∀ k, ov'.ownBlock = some k → ov.ownBlock = some k ∨ W.heap.size ≤ k) : OcW w0 sb cb pb b c d e f g A L O' P tv ov' W' := by
  obtain ⟨F, B, zs, h1, h2, h3, h4, h5, h6⟩ := h.set
  have hgr : w0.grownBy W' none := by
    cases hb : ov.ownBlock with
    | none => rw [hb] at hf; exact gb_trans h.gr hf
    | some q => rw [hb] at hf; exact gb_mine h.gr hf (h.ol q hb)
  refine ⟨hgr, ⟨F, B, zs, h1.kept (G := fun k => ov.ownBlock = some k) ((Kp.refl _ _).step hf (fun i e => .inl e)) (fun k hk e => h6 k e hk), h2, h3, h4, h5, fun k hk e => ?_⟩, h.cfg.kept hf (fun e => (h.on e.symm).1 rfl), h.pag.kept hf (fun e => (h.on e.symm).2 rfl), h.pbl, row_kept h.trow hf (fun k hk e => (h.tn hk).2.2 e.symm), hr, h.tl, fun k hk => ?_⟩
  · rcases hn k hk with e1 | e1
    · exact h6 k e1 e
    · have := h1.lt k e; omega
  · rcases hn k hk with e1 | e1
    · exact h.ol k e1
    · exact Nat.le_trans h.gr.size e1
end

end Go.Proofs.Ytoaaaeefcipdcaa
