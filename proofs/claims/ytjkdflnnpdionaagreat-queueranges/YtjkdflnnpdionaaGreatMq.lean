import Derived.Test.YtjkdflnnpdionaaGreatMp
/-
  The law's World in memory.
-/
namespace Go.Proofs.YtjkdflnnpdionaaGreat
open Go.RowKit
set_option linter.unusedVariables false

/-- Whose each block is. -/
structure Sep (P : Nat → Prop) (F G : Nat → Prop) (lv tv : Value) (wb lb qb gl : Nat) : Prop where
  ex : ∃ c : Nat → Nat, (∀ k, F k → c k = 1 ∧ P k) ∧ (∀ k, G k → c k = 2 ∧ P k) ∧ (∀ k, lv.ownBlock = some k → c k = 3 ∧ P k) ∧ (∀ k, tv.ownBlock = some k → c k = 4 ∧ P k) ∧ (c wb = 5 ∧ P wb) ∧ (c lb = 6 ∧ P lb) ∧ (c qb = 7 ∧ P qb) ∧ (c gl = 8 ∧ P gl)
def rc (c : Nat → Nat) (N v k : Nat) : Nat := if k < N then c k else v
theorem rc_lt {c : Nat → Nat} {N v k : Nat} (h : k < N) : rc c N v k = c k := if_pos h
theorem rc_ge {c : Nat → Nat} {N v k : Nat} (h : N ≤ k) : rc c N v k = v := if_neg (by omega)
theorem rc_v {c : Nat → Nat} {N v k : Nat} (h : c k = v) : rc c N v k = v := by unfold rc; split; exact h; rfl
section
variable {P : Nat → Prop} {F G : Nat → Prop} {lv tv : Value} {wb lb qb gl : Nat}
theorem Sep.newF (h : Sep P F G lv tv wb lb qb gl) {N : Nat} (hN : ∀ k, N ≤ k → P k) (hG : ∀ k, G k → k < N) (hl : ∀ k, lv.ownBlock = some k → k < N) (ht : ∀ k, tv.ownBlock = some k → k < N) (hw : wb < N) (hb : lb < N) (hq : qb < N) (hg : gl < N) {F' : Nat → Prop} (hF : ∀ k, F' k → F k ∨ N ≤ k) : Sep P F' G lv tv wb lb qb gl := by
  obtain ⟨c, h1, h2, h3, h4, h5, h6, h7, h8⟩ := h
  refine ⟨rc c N 1, fun k hk => ?_, fun k hk => ?_, fun k hk => ?_, fun k hk => ?_, ?_, ?_, ?_, ?_⟩
  · rcases hF k hk with h | h
    · exact ⟨rc_v (h1 k h).1, (h1 k h).2⟩
    · exact ⟨rc_ge h, hN k h⟩
  · exact ⟨by rw [rc_lt (hG k hk)]; exact (h2 k hk).1, (h2 k hk).2⟩
  · exact ⟨by rw [rc_lt (hl k hk)]; exact (h3 k hk).1, (h3 k hk).2⟩
  · exact ⟨by rw [rc_lt (ht k hk)]; exact (h4 k hk).1, (h4 k hk).2⟩
  · exact ⟨by rw [rc_lt hw]; exact h5.1, h5.2⟩
  · exact ⟨by rw [rc_lt hb]; exact h6.1, h6.2⟩
  · exact ⟨by rw [rc_lt hq]; exact h7.1, h7.2⟩
  · exact ⟨by rw [rc_lt hg]; exact h8.1, h8.2⟩
theorem Sep.newG (h : Sep P F G lv tv wb lb qb gl) {N : Nat} (hN : ∀ k, N ≤ k → P k) (hF : ∀ k, F k → k < N) (hl : ∀ k, lv.ownBlock = some k → k < N) (ht : ∀ k, tv.ownBlock = some k → k < N) (hw : wb < N) (hb : lb < N) (hq : qb < N) (hg : gl < N) {G' : Nat → Prop} (hG : ∀ k, G' k → G k ∨ N ≤ k) : Sep P F G' lv tv wb lb qb gl := by
  obtain ⟨c, h1, h2, h3, h4, h5, h6, h7, h8⟩ := h
  refine ⟨rc c N 2, fun k hk => ?_, fun k hk => ?_, fun k hk => ?_, fun k hk => ?_, ?_, ?_, ?_, ?_⟩
  · exact ⟨by rw [rc_lt (hF k hk)]; exact (h1 k hk).1, (h1 k hk).2⟩
  · rcases hG k hk with h | h
    · exact ⟨rc_v (h2 k h).1, (h2 k h).2⟩
    · exact ⟨rc_ge h, hN k h⟩
  · exact ⟨by rw [rc_lt (hl k hk)]; exact (h3 k hk).1, (h3 k hk).2⟩
  · exact ⟨by rw [rc_lt (ht k hk)]; exact (h4 k hk).1, (h4 k hk).2⟩
  · exact ⟨by rw [rc_lt hw]; exact h5.1, h5.2⟩
  · exact ⟨by rw [rc_lt hb]; exact h6.1, h6.2⟩
  · exact ⟨by rw [rc_lt hq]; exact h7.1, h7.2⟩
  · exact ⟨by rw [rc_lt hg]; exact h8.1, h8.2⟩
theorem Sep.newL (h : Sep P F G lv tv wb lb qb gl) {N : Nat} (hN : ∀ k, N ≤ k → P k) (hF : ∀ k, F k → k < N) (hG : ∀ k, G k → k < N) (ht : ∀ k, tv.ownBlock = some k → k < N) (hw : wb < N) (hb : lb < N) (hq : qb < N) (hg : gl < N) {lv' : Value} (hl : ∀ k, lv'.ownBlock = some k → lv.ownBlock = some k ∨ N ≤ k) : Sep P F G lv' tv wb lb qb gl := by
  obtain ⟨c, h1, h2, h3, h4, h5, h6, h7, h8⟩ := h
  refine ⟨rc c N 3, fun k hk => ?_, fun k hk => ?_, fun k hk => ?_, fun k hk => ?_, ?_, ?_, ?_, ?_⟩
  · exact ⟨by rw [rc_lt (hF k hk)]; exact (h1 k hk).1, (h1 k hk).2⟩
  · exact ⟨by rw [rc_lt (hG k hk)]; exact (h2 k hk).1, (h2 k hk).2⟩
  · rcases hl k hk with h | h
    · exact ⟨rc_v (h3 k h).1, (h3 k h).2⟩
    · exact ⟨rc_ge h, hN k h⟩
  · exact ⟨by rw [rc_lt (ht k hk)]; exact (h4 k hk).1, (h4 k hk).2⟩
  · exact ⟨by rw [rc_lt hw]; exact h5.1, h5.2⟩
  · exact ⟨by rw [rc_lt hb]; exact h6.1, h6.2⟩
  · exact ⟨by rw [rc_lt hq]; exact h7.1, h7.2⟩
  · exact ⟨by rw [rc_lt hg]; exact h8.1, h8.2⟩
theorem Sep.newT (h : Sep P F G lv tv wb lb qb gl) {N : Nat} (hN : ∀ k, N ≤ k → P k) (hF : ∀ k, F k → k < N) (hG : ∀ k, G k → k < N) (hl : ∀ k, lv.ownBlock = some k → k < N) (hw : wb < N) (hb : lb < N) (hq : qb < N) (hg : gl < N) {tv' : Value} (ht : ∀ k, tv'.ownBlock = some k → tv.ownBlock = some k ∨ N ≤ k) : Sep P F G lv tv' wb lb qb gl := by
  obtain ⟨c, h1, h2, h3, h4, h5, h6, h7, h8⟩ := h
  refine ⟨rc c N 4, fun k hk => ?_, fun k hk => ?_, fun k hk => ?_, fun k hk => ?_, ?_, ?_, ?_, ?_⟩
  · exact ⟨by rw [rc_lt (hF k hk)]; exact (h1 k hk).1, (h1 k hk).2⟩
  · exact ⟨by rw [rc_lt (hG k hk)]; exact (h2 k hk).1, (h2 k hk).2⟩
  · exact ⟨by rw [rc_lt (hl k hk)]; exact (h3 k hk).1, (h3 k hk).2⟩
  · rcases ht k hk with h | h
    · exact ⟨rc_v (h4 k h).1, (h4 k h).2⟩
    · exact ⟨rc_ge h, hN k h⟩
  · exact ⟨by rw [rc_lt hw]; exact h5.1, h5.2⟩
  · exact ⟨by rw [rc_lt hb]; exact h6.1, h6.2⟩
  · exact ⟨by rw [rc_lt hq]; exact h7.1, h7.2⟩
  · exact ⟨by rw [rc_lt hg]; exact h8.1, h8.2⟩
end

/-- The World in memory. -/
structure MS (w : World) (P : Nat → Prop) (wb sb qb gl gc : Nat) (F : Nat → Prop) (B : Bl) (A : Ab) (zs : List Int) (rb : Nat) (G : Nat → Prop) (Q : Rl) (R : Rb) (lb : Nat) (lv lsv tv : Value) (xl xt : List Nat) (L : Ls) : Prop where
  box : Box w 47 wb #[.pointer (some ⟨sb, 0, none⟩), .pointer (some ⟨qb, 0, none⟩), .pointer (some ⟨rb, 0, none⟩), .pointer (some ⟨lb, 0, none⟩), tv]
  iss : IsS w sb F B 4 200 64 256 0 0 A zs
  qbx : Box w 118 qb #[.pointer (some ⟨sb, 0, none⟩), .slice (some ⟨gl, 0, none⟩) 3 gc]
  qrow : w.ownsRow 0 260 9 (.slice (some ⟨gl, 0, none⟩) 3 gc) 3 (rng 3 (lsC L))
  isr : IsR w rb G Q 200 64 256 R
  lbx : Box w 123 lb #[.pointer (some ⟨rb, 0, none⟩), lv, lsv]
  lrow : w.ownsRow 0 26 1 lv xl.length (uvs xl)
  trow : w.ownsRow 0 26 1 tv xt.length (uvs xt)
  sep : Sep P F G lv tv wb lb qb gl

section
variable {w : World} {P : Nat → Prop} {wb sb qb gl gc : Nat} {F : Nat → Prop} {B : Bl} {A : Ab} {zs : List Int} {rb : Nat} {G : Nat → Prop} {Q : Rl} {R : Rb} {lb : Nat} {lv lsv tv : Value} {xl xt : List Nat} {L : Ls}
theorem MS.gll (h : MS w P wb sb qb gl gc F B A zs rb G Q R lb lv lsv tv xl xt L) : gl < w.heap.size := by
  obtain ⟨cur, hc⟩ := row_block h.qrow gl rfl
  exact lt_of_block hc
theorem MS.lvl (h : MS w P wb sb qb gl gc F B A zs rb G Q R lb lv lsv tv xl xt L) : ∀ k, lv.ownBlock = some k → k < w.heap.size := fun k hk => by
  obtain ⟨cur, hc⟩ := row_block h.lrow k hk
  exact lt_of_block hc
theorem MS.tvl (h : MS w P wb sb qb gl gc F B A zs rb G Q R lb lv lsv tv xl xt L) : ∀ k, tv.ownBlock = some k → k < w.heap.size := fun k hk => by
  obtain ⟨cur, hc⟩ := row_block h.trow k hk
  exact lt_of_block hc
theorem MS.kept0 {w' : World} (h : MS w P wb sb qb gl gc F B A zs rb G Q R lb lv lsv tv xl xt L) (hf : w.grownBy w' none) : MS w' P wb sb qb gl gc F B A zs rb G Q R lb lv lsv tv xl xt L :=
  ⟨h.box.kept hf (by simp), h.iss.kept0 hf, h.qbx.kept hf (by simp), row_kept h.qrow hf (by simp), h.isr.kept0 hf, h.lbx.kept hf (by simp), row_kept h.lrow hf (by simp), row_kept h.trow hf (by simp), h.sep⟩
/-- The Set's call. -/
theorem MS.stepS {w' : World} (h : MS w P wb sb qb gl gc F B A zs rb G Q R lb lv lsv tv xl xt L) (hP : ∀ k, w.heap.size ≤ k → P k) (hK : Kp F w w') {F' : Nat → Prop} {B' : Bl} {A' : Ab} {zs' : List Int} (hS : IsS w' sb F' B' 4 200 64 256 0 0 A' zs') (hF : ∀ k, F' k → F k ∨ w.heap.size ≤ k) : MS w' P wb sb qb gl gc F' B' A' zs' rb G Q R lb lv lsv tv xl xt L := by
  have hsep := h.sep.newF hP h.isr.lt h.lvl h.tvl h.box.lt h.lbx.lt h.qbx.lt h.gll hF
  obtain ⟨c, h1, h2, h3, h4, h5, h6, h7, h8⟩ := h.sep.ex
  have nF : ∀ k, c k ≠ 1 → ¬ F k := fun k hk hF => hk (h1 k hF).1
  refine ⟨hK.box h.box (nF _ (by omega)), hS, hK.box h.qbx (nF _ (by omega)), row_same h.qrow (fun k hk => hK.block k ?_ (nF _ ?_)), h.isr.kept hK (fun k hk => nF _ (by have := (h2 k hk).1; omega)), hK.box h.lbx (nF _ (by omega)), row_same h.lrow (fun k hk => hK.block k (h.lvl k hk) (nF _ (by have := (h3 k hk).1; omega))), row_same h.trow (fun k hk => hK.block k (h.tvl k hk) (nF _ (by have := (h4 k hk).1; omega))), hsep⟩
  · simp [Value.ownBlock] at hk; subst hk; exact h.gll
  · simp [Value.ownBlock] at hk; subst hk; omega
/-- The document's Set's call. -/
theorem MS.stepR {w' : World} (h : MS w P wb sb qb gl gc F B A zs rb G Q R lb lv lsv tv xl xt L) (hP : ∀ k, w.heap.size ≤ k → P k) (hK : Kp G w w') {G' : Nat → Prop} {Q' : Rl} {R' : Rb} (hS : IsR w' rb G' Q' 200 64 256 R') (hG : ∀ k, G' k → G k ∨ w.heap.size ≤ k) : MS w' P wb sb qb gl gc F B A zs rb G' Q' R' lb lv lsv tv xl xt L := by
  have hsep := h.sep.newG hP h.iss.lt h.lvl h.tvl h.box.lt h.lbx.lt h.qbx.lt h.gll hG
  obtain ⟨c, h1, h2, h3, h4, h5, h6, h7, h8⟩ := h.sep.ex
  have nG : ∀ k, c k ≠ 2 → ¬ G k := fun k hk hF => hk (h2 k hF).1
  refine ⟨hK.box h.box (nG _ (by omega)), h.iss.kept hK (fun k hk => nG _ (by have := (h1 k hk).1; omega)), hK.box h.qbx (nG _ (by omega)), row_same h.qrow (fun k hk => hK.block k ?_ (nG _ ?_)), hS, hK.box h.lbx (nG _ (by omega)), row_same h.lrow (fun k hk => hK.block k (h.lvl k hk) (nG _ (by have := (h3 k hk).1; omega))), row_same h.trow (fun k hk => hK.block k (h.tvl k hk) (nG _ (by have := (h4 k hk).1; omega))), hsep⟩
  · simp [Value.ownBlock] at hk; subst hk; exact h.gll
  · simp [Value.ownBlock] at hk; subst hk; omega
/-- The document's Lay. -/
theorem MS.stepL {w' : World} (h : MS w P wb sb qb gl gc F B A zs rb G Q R lb lv lsv tv xl xt L) (hP : ∀ k, w.heap.size ≤ k → P k) (hK : Kp (fun k => k = lb ∨ lv.ownBlock = some k) w w') {lv' : Value} {xl' : List Nat} (hb : Box w' 123 lb #[.pointer (some ⟨rb, 0, none⟩), lv', lsv]) (hr : w'.ownsRow 0 26 1 lv' xl'.length (uvs xl')) (hl : ∀ k, lv'.ownBlock = some k → lv.ownBlock = some k ∨ w.heap.size ≤ k) : MS w' P wb sb qb gl gc F B A zs rb G Q R lb lv' lsv tv xl' xt L := by
  have hsep := h.sep.newL hP h.iss.lt h.isr.lt h.tvl h.box.lt h.lbx.lt h.qbx.lt h.gll hl
  obtain ⟨c, h1, h2, h3, h4, h5, h6, h7, h8⟩ := h.sep.ex
  have nn : ∀ k, c k ≠ 3 → c k ≠ 6 → ¬ (k = lb ∨ lv.ownBlock = some k) := fun k ha hbb => by
    rintro (rfl | hk)
    · exact hbb h6.1
    · exact ha (h3 k hk).1
  refine ⟨hK.box h.box (nn _ (by omega) (by omega)), h.iss.kept hK (fun k hk => nn _ (by have := (h1 k hk).1; omega) (by have := (h1 k hk).1; omega)), hK.box h.qbx (nn _ (by omega) (by omega)), row_same h.qrow (fun k hk => hK.block k ?_ (nn _ ?_ ?_)), h.isr.kept hK (fun k hk => nn _ (by have := (h2 k hk).1; omega) (by have := (h2 k hk).1; omega)), hb, hr, row_same h.trow (fun k hk => hK.block k (h.tvl k hk) (nn _ (by have := (h4 k hk).1; omega) (by have := (h4 k hk).1; omega))), hsep⟩
  · simp [Value.ownBlock] at hk; subst hk; exact h.gll
  · simp [Value.ownBlock] at hk; subst hk; omega
  · simp [Value.ownBlock] at hk; subst hk; omega
/-- Told is longer. -/
theorem MS.stepT {w' : World} (h : MS w P wb sb qb gl gc F B A zs rb G Q R lb lv lsv tv xl xt L) (hP : ∀ k, w.heap.size ≤ k → P k) (hf : w.grownBy w' tv.ownBlock) {tv' : Value} {xt' : List Nat} (hr : w'.ownsRow 0 26 1 tv' xt'.length (uvs xt')) (ht : ∀ k, tv'.ownBlock = some k → tv.ownBlock = some k ∨ w.heap.size ≤ k) :
    MS (w'.setCell ⟨wb, 4, none⟩ tv') P wb sb qb gl gc F B A zs rb G Q R lb lv lsv tv' xl xt' L ∧ Box w' 47 wb #[.pointer (some ⟨sb, 0, none⟩), .pointer (some ⟨qb, 0, none⟩), .pointer (some ⟨rb, 0, none⟩), .pointer (some ⟨lb, 0, none⟩), tv] ∧ Kp (fun k => k = wb ∨ tv.ownBlock = some k) w (w'.setCell ⟨wb, 4, none⟩ tv') := by
  have hsep := h.sep.newT hP h.iss.lt h.isr.lt h.lvl h.box.lt h.lbx.lt h.qbx.lt h.gll ht
  obtain ⟨c, h1, h2, h3, h4, h5, h6, h7, h8⟩ := h.sep.ex
  have hb1 : Box w' 47 wb #[.pointer (some ⟨sb, 0, none⟩), .pointer (some ⟨qb, 0, none⟩), .pointer (some ⟨rb, 0, none⟩), .pointer (some ⟨lb, 0, none⟩), tv] := h.box.kept hf (fun e => by have := (h4 wb e.symm).1; omega)
  have hK : Kp (fun k => k = wb ∨ tv.ownBlock = some k) w (w'.setCell ⟨wb, 4, none⟩ tv') := ((Kp.refl _ _).step hf (fun i hi => .inl (.inr hi))).step (gb_setCell (gb_refl _ (some wb)) _) (fun i hi => .inl (.inl (by simpa using hi.symm)))
  have nn : ∀ k, c k ≠ 4 → c k ≠ 5 → ¬ (k = wb ∨ tv.ownBlock = some k) := fun k ha hb => by
    rintro (rfl | hk)
    · exact hb h5.1
    · exact ha (h4 k hk).1
  refine ⟨⟨hb1.set 4 _, h.iss.kept hK (fun k hk => nn _ (by have := (h1 k hk).1; omega) (by have := (h1 k hk).1; omega)), hK.box h.qbx (nn _ (by omega) (by omega)), row_same h.qrow (fun k hk => hK.block k ?_ (nn _ ?_ ?_)), h.isr.kept hK (fun k hk => nn _ (by have := (h2 k hk).1; omega) (by have := (h2 k hk).1; omega)), hK.box h.lbx (nn _ (by omega) (by omega)), row_same h.lrow (fun k hk => hK.block k (h.lvl k hk) (nn _ (by have := (h3 k hk).1; omega) (by have := (h3 k hk).1; omega))), row_kept hr (gb_setCell (gb_refl _ (some wb)) _) (fun k hk e => ?_), hsep⟩, hb1, hK⟩
  · simp [Value.ownBlock] at hk; subst hk; exact h.gll
  · simp [Value.ownBlock] at hk; subst hk; omega
  · simp [Value.ownBlock] at hk; subst hk; omega
  · obtain ⟨cur, hc⟩ := row_block hr k hk
    exact ne_of_type hc hb1 (by decide) (by simpa using e)
/-- A list's call. -/
theorem MS.stepQ {w' : World} (h : MS w P wb sb qb gl gc F B A zs rb G Q R lb lv lsv tv xl xt L) (hK : Kp (fun k => F k ∨ k = gl) w w') {zs' : List Int} {L' : Ls} (hS : IsS w' sb F B 4 200 64 256 0 0 A zs') (hb : Box w' 118 qb #[.pointer (some ⟨sb, 0, none⟩), .slice (some ⟨gl, 0, none⟩) 3 gc]) (hr : w'.ownsRow 0 260 9 (.slice (some ⟨gl, 0, none⟩) 3 gc) 3 (rng 3 (lsC L'))) : MS w' P wb sb qb gl gc F B A zs' rb G Q R lb lv lsv tv xl xt L' := by
  obtain ⟨c, h1, h2, h3, h4, h5, h6, h7, h8⟩ := h.sep.ex
  have nn : ∀ k, c k ≠ 1 → c k ≠ 8 → ¬ (F k ∨ k = gl) := fun k ha hbb => by
    rintro (hk | rfl)
    · exact ha (h1 k hk).1
    · exact hbb h8.1
  exact ⟨hK.box h.box (nn _ (by omega) (by omega)), hS, hb, hr, h.isr.kept hK (fun k hk => nn _ (by have := (h2 k hk).1; omega) (by have := (h2 k hk).1; omega)), hK.box h.lbx (nn _ (by omega) (by omega)), row_same h.lrow (fun k hk => hK.block k (h.lvl k hk) (nn _ (by have := (h3 k hk).1; omega) (by have := (h3 k hk).1; omega))), row_same h.trow (fun k hk => hK.block k (h.tvl k hk) (nn _ (by have := (h4 k hk).1; omega) (by have := (h4 k hk).1; omega))), h.sep⟩
end

/-- Where the document's nine lists lie. -/
def LsAt (N : Nat) (w' : World) (T : Nat → Prop) (lsv : Value) : Prop := ∃ lsb, lsv = .slice (some ⟨lsb, 0, none⟩) 9 9 ∧ N ≤ lsb ∧ Box w' 45 lsb nil9 ∧ ¬ T lsb
set_option maxRecDepth 100000 in
set_option maxHeartbeats 2000000 in
theorem begun_any (w : World) : Calls Tryz.prog 12 #[] w fun y w' => ∃ wb sb qb gl gc F B zs rb G Q lb lsv, y = .returned (.pointer (some ⟨wb, 0, none⟩)) ∧ w.grownBy w' none ∧ zs.length = 16384 ∧ MS w' (fun k => w.heap.size ≤ k) wb sb qb gl gc F B qA zs rb G Q qR lb (.slice none 0 0) lsv (.slice none 0 0) [] [] L0 ∧ LsAt w.heap.size w' (fun k => F k ∨ G k ∨ k = wb ∨ k = lb ∨ k = qb ∨ k = gl) lsv := by
  have hst := fun W => setup_any W
  have hcn := fun W => (new_ok q_cfg 0 0 (by decide) wk_cls (by decide) W).mono (R' := fun x w' => ∃ sb F B zs, x = .returned (.tuple #[.pointer (some ⟨sb, 0, none⟩), .int .i64 0]) ∧ W.grownBy w' none ∧ zs.length = 16384 ∧ IsS w' sb F B 4 200 64 256 0 0 qA zs ∧ ∀ k, F k → W.heap.size ≤ k) (by
    rintro x w' ⟨sb, F, B, rfl, hf, hS, hG⟩
    exact ⟨sb, F, B, _, rfl, hf, List.length_replicate, hS, hG⟩)
  have hrn := fun W => (rnew_ok q_cfg (by decide) wk_cls q_refd W).mono (R' := fun x w' => ∃ rb Q, x = .returned (.tuple #[.pointer (some ⟨rb, 0, none⟩), .int .i64 0]) ∧ W.grownBy w' none ∧ IsR w' rb (fun k => W.heap.size ≤ k ∧ k < w'.heap.size) Q 200 64 256 qR) (by
    rintro x w' ⟨rb, sv, ov, rv, rfl, hf, hlo, hbx, hs, ho, hr, hne⟩
    exact ⟨rb, _, rfl, hf, rnew_is hlo hbx hs ho hr hne⟩)
  have hqn := fun W sb F B zs (hS : IsS W sb F B 4 200 64 256 0 0 qA zs) => qnew_ok hS q_invA rfl
  have hn6 := fun W rb G Q (hS : IsR W rb G Q 200 64 256 qR) => rnew6 hS qR_fit rfl
  unfold cfgV at hcn
  unfold refV at hrn
  change ∀ W, Calls Tryz.prog 56 #[.agg #[.int .i64 4096, .int .i64 4, .int .i64 200, .int .i64 64, .int .i64 256, .int .i64 0, .int .i64 0]] W _ at hcn
  change ∀ W, Calls Tryz.prog 57 #[.agg #[.int .i64 4096, .int .i64 4, .int .i64 200, .int .i64 64, .int .i64 256]] W _ at hrn
  go_enter Tryz.func12, Tryz.ntmps12
  go_wp2_with (first | (go_at_call 55; go_must (refine (hst _).mono ?_); rintro y w1 ⟨rfl, hf1⟩) | (go_at_call 56; go_must (refine (hcn _).mono ?_); rintro y w2 ⟨sb, F, B, zs, rfl, hf2, hzl, hS, hF⟩; (have hd2 := (Box.new (w1.alloc (.cells #[.int .i64 4096, .int .i64 4, .int .i64 200, .int .i64 64, .int .i64 256, .int .i64 0, .int .i64 0] 105)) 107 #[.int .i64 4096, .int .i64 4, .int .i64 200, .int .i64 64, .int .i64 256]).kept hf2 (by simp)); (have k0 := hd2.cell 0); (have k1 := hd2.cell 1); (have k2 := hd2.cell 2); (have k3 := hd2.cell 3); (have k4 := hd2.cell 4); simp at k0 k1 k2 k3 k4) | (go_at_call 57; go_must (refine (hrn _).mono ?_); rintro y w3 ⟨rb, Q, rfl, hf3, hR⟩; (have hS3 := hS.kept0 hf3)) | (go_at_call 16; go_must (refine (num_any _ _).mono ?_); rintro y w' ⟨rfl, rfl⟩) | (go_at_call 14; go_must (refine (hqn _ _ _ _ _ hS3).mono ?_); rintro y w4 ⟨qb, gl, gc, rfl, hf4, hl1, hl2, hQ⟩; (have hR4 := hR.kept0 hf4)) | (go_at_call 58; go_must (refine (hn6 _ _ _ _ hR4).mono ?_); rintro y w5 ⟨lb, lsb, rfl, hf5, hl5, hb5, hl6, hl7, hb7⟩) | fail)
  go_ret
  have hF2 : w.grownBy ((w1.alloc (.cells #[.int .i64 4096, .int .i64 4, .int .i64 200, .int .i64 64, .int .i64 256, .int .i64 0, .int .i64 0] 105)).alloc (.cells #[.int .i64 4096, .int .i64 4, .int .i64 200, .int .i64 64, .int .i64 256] 107)) none := gb_alloc (gb_alloc hf1 _) _
  have hal := World.grownBy_alloc w5 (.cells #[.pointer (some ⟨sb, 0, none⟩), .pointer (some ⟨qb, 0, none⟩), .pointer (some ⟨rb, 0, none⟩), .pointer (some ⟨lb, 0, none⟩), .slice none 0 0] 47) none
  have hb6 := Box.new w5 47 #[.pointer (some ⟨sb, 0, none⟩), .pointer (some ⟨qb, 0, none⟩), .pointer (some ⟨rb, 0, none⟩), .pointer (some ⟨lb, 0, none⟩), .slice none 0 0]
  have s0 := hF2.size
  have s2 := hf2.size
  have s3 := hf3.size
  have s4 := hf4.size
  have s5 := hf5.size
  have hQ5 := (hQ.kept0 hf5).kept0 hal
  have q1 := hQ.box.lt
  have q2 : gl < w4.heap.size := by
    obtain ⟨cur, hc⟩ := row_block hQ.row gl rfl
    exact lt_of_block hc
  have q3 := hQ.qne
  have q4 := hb5.lt
  refine ⟨w5.heap.size, sb, qb, gl, gc, F, B, zs, rb, _, Q, lb, _, rfl, gb_trans (gb_trans (gb_trans (gb_trans (gb_trans hF2 hf2) hf3) hf4) hf5) hal, hzl, ⟨hb6, hQ5.iss, hQ5.box, hQ5.row, (hR4.kept0 hf5).kept0 hal, hb5.kept hal (by simp), World.ownsRow_nil _ _ _ _, World.ownsRow_nil _ _ _ _, ?_⟩, lsb, rfl, by omega, hb7.kept hal (by simp), ?_⟩
  rotate_left
  · have q5 := hb7.lt
    have q6 := hb7.lt
    rintro (h1 | h1 | h1 | h1 | h1 | h1)
    · have := hS.lt _ h1; omega
    · have := h1.2; omega
    all_goals omega
  refine ⟨fun k => if k < w2.heap.size then 1 else if k < w3.heap.size then 2 else if k = qb then 7 else if k = gl then 8 else if k = lb then 6 else 5, fun k hk => ?_, fun k hk => ?_, fun k hk => by simp [Value.ownBlock] at hk, fun k hk => by simp [Value.ownBlock] at hk, ?_, ?_, ?_, ?_⟩
  · have h1 := hS.lt k hk
    have h2 := hF k hk
    exact ⟨if_pos h1, show w.heap.size ≤ k by omega⟩
  · refine ⟨?_, show w.heap.size ≤ k by have := hk.1; omega⟩
    show (if k < w2.heap.size then 1 else if k < w3.heap.size then 2 else _) = 2
    rw [if_neg (by omega), if_pos hk.2]
  · refine ⟨?_, show w.heap.size ≤ w5.heap.size by omega⟩
    show (if w5.heap.size < w2.heap.size then 1 else if w5.heap.size < w3.heap.size then 2 else if w5.heap.size = qb then 7 else if w5.heap.size = gl then 8 else if w5.heap.size = lb then 6 else 5) = 5
    rw [if_neg (by omega), if_neg (by omega), if_neg (by omega), if_neg (by omega), if_neg (by omega)]
  · refine ⟨?_, show w.heap.size ≤ lb by omega⟩
    show (if lb < w2.heap.size then 1 else if lb < w3.heap.size then 2 else if lb = qb then 7 else if lb = gl then 8 else if lb = lb then 6 else 5) = 6
    rw [if_neg (by omega), if_neg (by omega), if_neg (by omega), if_neg (by omega), if_pos rfl]
  · refine ⟨?_, show w.heap.size ≤ qb by omega⟩
    show (if qb < w2.heap.size then 1 else if qb < w3.heap.size then 2 else if qb = qb then 7 else _) = 7
    rw [if_neg (by omega), if_neg (by omega), if_pos rfl]
  · refine ⟨?_, show w.heap.size ≤ gl by omega⟩
    show (if gl < w2.heap.size then 1 else if gl < w3.heap.size then 2 else if gl = qb then 7 else if gl = gl then 8 else _) = 8
    rw [if_neg (by omega), if_neg (by omega), if_neg (by omega), if_pos rfl]
end Go.Proofs.YtjkdflnnpdionaaGreat
/-
  The law's World: its state.
-/
namespace Go.Proofs.YtjkdflnnpdionaaGreat
open Go.RowKit
set_option linter.unusedVariables false

/-- The handles that were told. -/
def hs (i : Nat) : List Nat := (List.range i).map fun l => 8 * l + 1
theorem hs_succ (i : Nat) : hs (i + 1) = hs i ++ [8 * i + 1] := by simp [hs, List.range_succ]
theorem hs_len (i : Nat) : (hs i).length = i := by simp [hs]
theorem hs_mem {i H : Nat} : H ∈ hs i ↔ ∃ l, l < i ∧ H = 8 * l + 1 := by
  simp only [hs, List.mem_map, List.mem_range]
  constructor
  · rintro ⟨l, h1, h2⟩; exact ⟨l, h1, h2.symm⟩
  · rintro ⟨l, h1, h2⟩; exact ⟨l, h1, h2.symm⟩
theorem hs_get {i l : Nat} (h : l < i) : (hs i)[l]? = some (8 * l + 1) := by simp [hs, h]

/-- What the chunks hold. -/
def Itl (zs : List Int) (bs : Nat → It) (p n s : Nat → Nat) (i : Nat) : Prop := ∀ l, l < i → IsI zs (64 * l) (itm bs p n s (8 * l + 1)) ∧ 58 + (bs (8 * l + 1)).key.length + (bs (8 * l + 1)).val.length ≤ 64
def Lkd (p n : Nat → Nat) (i : Nat) : Prop := ∀ H, H ∈ hs i → (p H = 0 ∨ p H ∈ hs i) ∧ (n H = 0 ∨ n H ∈ hs i)

structure WW (w : World) (P : Nat → Prop) (wb qb : Nat) (tv : Value) (i : Nat) (X : Nat → Nat → List Nat) : Prop where
  i64 : i ≤ 64
  tn : ∀ c k, (X c k).length ≤ 1099511627776
  ex : ∃ sb gl gc F B A zs rb G Q R lb lv lsv bs p n s L fr, MS w P wb sb qb gl gc F B A zs rb G Q R lb lv lsv tv (hs i) (hs i) L ∧ zs.length = 16384 ∧ Fil qA A 0 i fr ∧ RFit R ∧ Rep A R ∧ Itl zs bs p n s i ∧ Lkd p n i ∧ LI (fun _ => 0) (hs i) p n s L X

theorem fil_h {A : Ab} {i fr l : Nat} (h : Fil qA A 0 i fr) (hi : i ≤ 64) (hl : l < i) : ∃ x k, IsH A (8 * l + 1) x k ∧ A.place x k = 64 * l ∧ A.own x = 0 ∧ A.sz (A.own x) = 64 := by
  obtain ⟨h1, h2, h3⟩ := h.isH hl
  rw [q_hN (by omega)] at h1
  rw [q_plN (by omega)] at h2
  exact ⟨_, _, h1, h2, h3, by rw [h3, h.sz, q_sz]⟩
theorem isH_eq {A : Ab} (hA : Fit2 A) {H x k y l : Nat} (h1 : IsH A H x k) (h2 : IsH A H y l) : x = y ∧ k = l := by
  have e1 := (h1.parts hA).1
  have e2 := (h2.parts hA).1
  exact num_inj hA.toFit1 h1.hp h1.hk h2.hp h2.hk (by omega)

theorem itl_of {w : World} {sb qb gl gc : Nat} {F : Nat → Prop} {B : Bl} {A : Ab} {zs : List Int} {bs : Nat → It} {p n s : Nat → Nat} {L : Ls} {i fr : Nat} (h : QM w sb qb gl gc F B 4 200 64 256 0 0 A zs (hs i) bs p n s L) (hf : Fil qA A 0 i fr) (hi : i ≤ 64) : Itl zs bs p n s i := fun l hl => by
  obtain ⟨x, k, h1, h2, h3, h4⟩ := fil_h hf hi hl
  obtain ⟨y, m, g1, g2, g3⟩ := h.its (8 * l + 1) (hs_mem.2 ⟨l, hl, rfl⟩)
  obtain ⟨rfl, rfl⟩ := isH_eq h.inv.fit h1 g1
  rw [h2] at g2
  rw [h4] at g3
  exact ⟨g2, g3⟩
theorem qm_of {w : World} {P : Nat → Prop} {wb sb qb gl gc : Nat} {F : Nat → Prop} {B : Bl} {A : Ab} {zs : List Int} {rb : Nat} {G : Nat → Prop} {Q : Rl} {R : Rb} {lb : Nat} {lv lsv tv : Value} {xl xt : List Nat} {L : Ls} {bs : Nat → It} {p n s : Nat → Nat} {i fr : Nat} (h : MS w P wb sb qb gl gc F B A zs rb G Q R lb lv lsv tv xl xt L) (hf : Fil qA A 0 i fr) (hi : i ≤ 64) (hI : Itl zs bs p n s i) (hl : Lkd p n i) : QM w sb qb gl gc F B 4 200 64 256 0 0 A zs (hs i) bs p n s L := by
  have hn : A.n = 3 := hf.n
  obtain ⟨c, h1, h2, h3, h4, h5, h6, h7, h8⟩ := h.sep.ex
  refine ⟨h.iss, hf.inv, by rw [hn]; exact h.qbx, by rw [hn]; exact h.qrow, fun hF => by have := (h1 _ hF).1; omega, fun hF => by have := (h1 _ hF).1; omega, fun H hH => ?_, hl⟩
  obtain ⟨l, hl, rfl⟩ := hs_mem.1 hH
  obtain ⟨x, k, g1, g2, g3, g4⟩ := fil_h hf hi hl
  obtain ⟨e1, e2⟩ := hI l hl
  exact ⟨x, k, g1, by rw [g2]; exact e1, by rw [g4]; exact e2⟩

/-- Its lists. -/
theorem WW.lists {w : World} {P : Nat → Prop} {wb qb : Nat} {tv : Value} {i : Nat} {X : Nat → Nat → List Nat} (h : WW w P wb qb tv i X) : ∃ sb gl gc F B A m bs, QL w sb qb gl gc F B 4 200 64 256 0 0 A m (hs i) bs (fun _ => 0) X ∧ A.n = 3 ∧ ∀ w' X', QL w' sb qb gl gc F B 4 200 64 256 0 0 A m (hs i) bs (fun _ => 0) X' → Kp (fun k => F k ∨ k = gl) w w' → WW w' P wb qb tv i X' ∧ Kp P w w' := by
  obtain ⟨sb, gl, gc, F, B, A, zs, rb, G, Q, R, lb, lv, lsv, bs, p, n, s, L, fr, hM, hz, hF, hR, hrep, hI, hl, hLI⟩ := h.ex
  have hn : A.n = 3 := hF.n
  have hq := qm_of hM hF h.i64 hI hl
  refine ⟨sb, gl, gc, F, B, A, zs, bs, ⟨fun H hH x y hX => hF.own x hX.hp, h.tn, p, n, s, L, ⟨zs, Zk.refl _ _ _, hq⟩, hLI⟩, hn, fun w' X' hQ hK => ⟨⟨h.i64, hQ.tn, ?_⟩, ?_⟩⟩
  · obtain ⟨p', n', s', L', ⟨zs', hz', hq'⟩, hLI'⟩ := hQ.ex
    have hb := hq'.box
    have hr := hq'.row
    rw [hn] at hb hr
    exact ⟨sb, gl, gc, F, B, A, zs', rb, G, Q, R, lb, lv, lsv, bs, p', n', s', L', fr, hM.stepQ hK hq'.iss hb hr, hz'.len.trans hz, hF, hR, hrep, itl_of hq' hF h.i64, hq'.lk, hLI'⟩
  · obtain ⟨c, h1, h2, h3, h4, h5, h6, h7, h8⟩ := hM.sep.ex
    exact hK.mono (fun k hk => .inl (by
      rcases hk with hk | rfl
      · exact (h1 k hk).2
      · exact h8.2))
theorem WW.kept0 {w w' : World} {P : Nat → Prop} {wb qb : Nat} {tv : Value} {i : Nat} {X : Nat → Nat → List Nat} (h : WW w P wb qb tv i X) (hf : w.grownBy w' none) : WW w' P wb qb tv i X := by
  obtain ⟨sb, gl, gc, F, B, A, zs, rb, G, Q, R, lb, lv, lsv, bs, p, n, s, L, fr, hM, hx⟩ := h.ex
  exact ⟨h.i64, h.tn, sb, gl, gc, F, B, A, zs, rb, G, Q, R, lb, lv, lsv, bs, p, n, s, L, fr, hM.kept0 hf, hx⟩

/-- Blocks that are not its own may be left out. -/
theorem WW.less {w : World} {P : Nat → Prop} {wb qb : Nat} {tv : Value} {i : Nat} {X : Nat → Nat → List Nat} (h : WW w P wb qb tv i X) {P' : Nat → Prop} (hP : ∀ k, P k → k < w.heap.size → P' k) : WW w P' wb qb tv i X := by
  obtain ⟨sb, gl, gc, F, B, A, zs, rb, G, Q, R, lb, lv, lsv, bs, p, n, s, L, fr, hM, hx⟩ := h.ex
  obtain ⟨c, h1, h2, h3, h4, h5, h6, h7, h8⟩ := hM.sep.ex
  refine ⟨h.i64, h.tn, sb, gl, gc, F, B, A, zs, rb, G, Q, R, lb, lv, lsv, bs, p, n, s, L, fr, ⟨hM.box, hM.iss, hM.qbx, hM.qrow, hM.isr, hM.lbx, hM.lrow, hM.trow, ⟨c, fun k hk => ⟨(h1 k hk).1, hP k (h1 k hk).2 (hM.iss.lt k hk)⟩, fun k hk => ⟨(h2 k hk).1, hP k (h2 k hk).2 (hM.isr.lt k hk)⟩, fun k hk => ⟨(h3 k hk).1, hP k (h3 k hk).2 (hM.lvl k hk)⟩, fun k hk => ⟨(h4 k hk).1, hP k (h4 k hk).2 (hM.tvl k hk)⟩, ⟨h5.1, hP _ h5.2 hM.box.lt⟩, ⟨h6.1, hP _ h6.2 hM.lbx.lt⟩, ⟨h7.1, hP _ h7.2 hM.qbx.lt⟩, ⟨h8.1, hP _ h8.2 hM.gll⟩⟩⟩, hx⟩

section
variable {w : World} {P : Nat → Prop} {wb qb : Nat} {tv : Value} {i : Nat} {X : Nat → Nat → List Nat}
theorem ww_push (h : WW w P wb qb tv i X) {H k : Nat} (hH : H ∈ hs i) (hk : k < 3) (hno : ∀ k2, H ∉ X 0 k2) (hl : (X 0 k).length < 1099511627776) :
    Calls Tryz.prog 23 #[.pointer (some ⟨qb, 0, none⟩), .int .u64 H, .int .i64 ((k : Int) + 1)] w fun y w' => y = .returned (.int .i64 0) ∧ Kp P w w' ∧ WW w' P wb qb tv i (upX X 0 k (H :: X 0 k)) := by
  obtain ⟨sb, gl, gc, F, B, A, m, bs, hQ, hn, hback⟩ := h.lists
  refine (q_push hQ hH hk hno hl).mono ?_
  rintro y w' ⟨rfl, hK, hQ'⟩
  obtain ⟨g1, g2⟩ := hback w' _ hQ' hK
  exact ⟨rfl, g2, g1⟩
theorem ww_last (h : WW w P wb qb tv i X) {H k : Nat} (hH : H ∈ hs i) (hk : k < 3) (hno : ∀ k2, H ∉ X 0 k2) (hl : (X 0 k).length < 1099511627776) :
    Calls Tryz.prog 24 #[.pointer (some ⟨qb, 0, none⟩), .int .u64 H, .int .i64 ((k : Int) + 1)] w fun y w' => y = .returned (.int .i64 0) ∧ Kp P w w' ∧ WW w' P wb qb tv i (upX X 0 k (X 0 k ++ [H])) := by
  obtain ⟨sb, gl, gc, F, B, A, m, bs, hQ, hn, hback⟩ := h.lists
  refine (q_last hQ hH hk hno hl).mono ?_
  rintro y w' ⟨rfl, hK, hQ'⟩
  obtain ⟨g1, g2⟩ := hback w' _ hQ' hK
  exact ⟨rfl, g2, g1⟩
theorem ww_drop (h : WW w P wb qb tv i X) {H k : Nat} {U V : List Nat} (hX : X 0 k = U ++ H :: V) :
    Calls Tryz.prog 25 #[.pointer (some ⟨qb, 0, none⟩), .int .u64 H] w fun y w' => y = .returned (.int .i64 0) ∧ Kp P w w' ∧ WW w' P wb qb tv i (upX X 0 k (U ++ V)) := by
  obtain ⟨sb, gl, gc, F, B, A, m, bs, hQ, hn, hback⟩ := h.lists
  refine (q_drop hQ (H := H) (k := k) hX).mono ?_
  rintro y w' ⟨rfl, hK, hQ'⟩
  obtain ⟨g1, g2⟩ := hback w' _ hQ' hK
  exact ⟨rfl, g2, g1⟩
theorem ww_shift (h : WW w P wb qb tv i X) {H k k2 : Nat} {U V : List Nat} (hX : X 0 k = U ++ H :: V) (hk2 : k2 < 3) (hl : (X 0 k2).length < 1099511627776) :
    Calls Tryz.prog 26 #[.pointer (some ⟨qb, 0, none⟩), .int .u64 H, .int .i64 ((k2 : Int) + 1)] w fun y w' => y = .returned (.int .i64 0) ∧ Kp P w w' ∧ WW w' P wb qb tv i (upX (upX X 0 k (U ++ V)) 0 k2 (H :: (upX X 0 k (U ++ V)) 0 k2)) := by
  obtain ⟨sb, gl, gc, F, B, A, m, bs, hQ, hn, hback⟩ := h.lists
  refine (q_shift hQ (H := H) (k := k) hX hk2 hl).mono ?_
  rintro y w' ⟨rfl, hK, hQ'⟩
  obtain ⟨g1, g2⟩ := hback w' _ hQ' hK
  exact ⟨rfl, g2, g1⟩
theorem ww_head (h : WW w P wb qb tv i X) {c k v : Nat} (hc : c < 3) (hk : k < 3) (hv : (X c k).headD 0 = v) :
    Calls Tryz.prog 63 #[.pointer (some ⟨qb, 0, none⟩), .int .i64 c, .int .i64 ((k : Int) + 1)] w fun y w' => y = .returned (.tuple #[.int .u64 v, .bool (decide (¬ v = 0))]) ∧ w.grownBy w' none := by
  obtain ⟨sb, gl, gc, F, B, A, m, bs, hQ, hn, hback⟩ := h.lists
  obtain ⟨p, n, s, L, ⟨zs, hz, hq⟩, hI⟩ := hQ.ex
  exact q_head hq (by omega) hk v (by rw [hI.hd, hv])
theorem ww_tail (h : WW w P wb qb tv i X) {c k v : Nat} (hc : c < 3) (hk : k < 3) (hv : (X c k).getLastD 0 = v) :
    Calls Tryz.prog 64 #[.pointer (some ⟨qb, 0, none⟩), .int .i64 c, .int .i64 ((k : Int) + 1)] w fun y w' => y = .returned (.tuple #[.int .u64 v, .bool (decide (¬ v = 0))]) ∧ w.grownBy w' none := by
  obtain ⟨sb, gl, gc, F, B, A, m, bs, hQ, hn, hback⟩ := h.lists
  obtain ⟨p, n, s, L, ⟨zs, hz, hq⟩, hI⟩ := hQ.ex
  exact q_tail hq (by omega) hk v (by rw [hI.tl, hv])
theorem ww_len (h : WW w P wb qb tv i X) {c k v : Nat} (hc : c < 3) (hk : k < 3) (hv : (X c k).length = v) :
    Calls Tryz.prog 65 #[.pointer (some ⟨qb, 0, none⟩), .int .i64 c, .int .i64 ((k : Int) + 1)] w fun y w' => y = .returned (.int .i64 v) ∧ w.grownBy w' none := by
  obtain ⟨sb, gl, gc, F, B, A, m, bs, hQ, hn, hback⟩ := h.lists
  obtain ⟨p, n, s, L, ⟨zs, hz, hq⟩, hI⟩ := hQ.ex
  exact q_len hq (by omega) hk v (by rw [hI.ln, hv])
/-- The box of the World. -/
theorem WW.cells (h : WW w P wb qb tv i X) : w.cell? ⟨wb, 1, none⟩ = some (.pointer (some ⟨qb, 0, none⟩)) ∧ w.cell? ⟨wb, 4, none⟩ = some tv ∧ w.ownsRow 0 26 1 tv i (uvs (hs i)) := by
  obtain ⟨sb, gl, gc, F, B, A, zs, rb, G, Q, R, lb, lv, lsv, bs, p, n, s, L, fr, hM, hx⟩ := h.ex
  have h1 := hM.trow
  rw [hs_len] at h1
  exact ⟨hM.box.cell 1, hM.box.cell 4, h1⟩
end

/-- An item more. -/
theorem LI.add {cls : Nat → Nat} {T : List Nat} {p n s : Nat → Nat} {L : Ls} {X : Nat → Nat → List Nat} (h : LI cls T p n s L X) {H : Nat} (hH : H ∉ T) (hz : H ≠ 0) : LI cls (T ++ [H]) (upf p H 0) (upf n H 0) (upf s H 4) L X := by
  have hne : ∀ {G}, G ∈ T → G ≠ H := fun hG e => hH (e ▸ hG)
  refine ⟨fun c k G hG => ?_, h.k3, h.nd, fun c k => (h.lk c k).congr fun G hG => ?_, h.hd, h.tl, h.ln, fun G hG => ?_, fun G hG hs => ?_, fun G hG hs => ?_, fun hm => ?_⟩
  · obtain ⟨g1, g2, g3⟩ := h.sub c k G hG
    exact ⟨List.mem_append_left _ g1, by rw [upf_ne _ _ (hne g1)]; exact g2, g3⟩
  · have g1 := (h.sub c k G hG).1
    exact ⟨upf_ne _ _ (hne g1), upf_ne _ _ (hne g1)⟩
  · by_cases e : G = H
    · subst e; rw [upf_same]; omega
    · have hG' : G ∈ T := by simpa [e] using hG
      rw [upf_ne _ _ e]; exact h.st G hG'
  · by_cases e : G = H
    · subst e; rw [upf_same] at hs; omega
    · have hG' : G ∈ T := by simpa [e] using hG
      rw [upf_ne _ _ e] at hs ⊢
      exact h.out G hG' hs
  · by_cases e : G = H
    · subst e; exact ⟨upf_same _ _ _, upf_same _ _ _⟩
    · have hG' : G ∈ T := by simpa [e] using hG
      rw [upf_ne _ _ e] at hs
      rw [upf_ne _ _ e, upf_ne _ _ e]
      exact h.non G hG' hs
  · rcases List.mem_append.1 hm with h1 | h1
    · exact h.z h1
    · simp at h1; exact hz h1.symm
end Go.Proofs.YtjkdflnnpdionaaGreat
