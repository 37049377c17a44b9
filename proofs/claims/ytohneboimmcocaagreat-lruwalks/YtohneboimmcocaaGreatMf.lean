import Derived.Test.YtohneboimmcocaaGreatWj
import Derived.Test.YtohneboimmcocaaGreatMi
/-
  The law's World in memory.
-/
namespace Go.Proofs.YtohneboimmcocaaGreat
open Go.RowKit
set_option linter.unusedVariables false

structure Wd where
  sb : Nat
  qb : Nat
  gl : Nat
  gc : Nat
  rb : Nat
  lb : Nat
  xb : Nat
  mb : Nat
  F : Nat → Prop
  G : Nat → Prop
  B : Bl
  A : Ab
  zs : List Int
  Q : Rl
  R : Rb
  lv : Value
  lsv : Value
  tv : Value
  av : Value
  xl : List Nat
  xt : List Nat
  xa : List Nat
  L : Ls
/-- Whose each block is. -/
def Wd.pt (D : Wd) (wb j k : Nat) : Prop := match j with
  | 1 => D.F k
  | 2 => D.G k
  | 3 => D.lv.ownBlock = some k
  | 4 => D.tv.ownBlock = some k
  | 5 => k = wb
  | 6 => k = D.lb
  | 7 => k = D.qb
  | 8 => k = D.gl
  | 9 => k = D.xb
  | 10 => k = D.mb
  | 11 => D.av.ownBlock = some k
  | _ => False
structure Sp8 (P : Nat → Prop) (T : Nat → Nat → Prop) : Prop where
  ex : ∃ c : Nat → Nat, ∀ j k, T j k → c k = j ∧ P k
theorem Sp8.ne {P : Nat → Prop} {T : Nat → Nat → Prop} (h : Sp8 P T) {i j k : Nat} (h1 : T i k) (h2 : T j k) : i = j := by
  obtain ⟨c, hc⟩ := h.ex
  rw [← (hc i k h1).1, ← (hc j k h2).1]
theorem Sp8.inP {P : Nat → Prop} {T : Nat → Nat → Prop} (h : Sp8 P T) {j k : Nat} (h1 : T j k) : P k := by
  obtain ⟨c, hc⟩ := h.ex
  exact (hc j k h1).2
theorem Sp8.new {P : Nat → Prop} {T T' : Nat → Nat → Prop} (h : Sp8 P T) {N : Nat} (hlt : ∀ j k, T j k → k < N) (hN : ∀ k, N ≤ k → P k) (i : Nat) (hs : ∀ j k, T' j k → T j k ∨ (j = i ∧ N ≤ k)) : Sp8 P T' := by
  obtain ⟨c, hc⟩ := h.ex
  refine ⟨fun k => if k < N then c k else i, fun j k hj => ?_⟩
  rcases hs j k hj with h1 | ⟨rfl, h1⟩
  · have h2 := hlt j k h1
    exact ⟨by simp only [if_pos h2]; exact (hc j k h1).1, (hc j k h1).2⟩
  · exact ⟨if_neg (by omega), hN k h1⟩

/-- The World in memory. -/
structure MS8 (w : World) (P : Nat → Prop) (wb : Nat) (D : Wd) (hot warm : Nat) : Prop where
  box : Box w 46 wb #[.pointer (some ⟨D.sb, 0, none⟩), .pointer (some ⟨D.qb, 0, none⟩), .pointer (some ⟨D.xb, 0, none⟩), .pointer (some ⟨D.rb, 0, none⟩), .pointer (some ⟨D.lb, 0, none⟩), .pointer (some ⟨D.mb, 0, none⟩), D.tv]
  iss : IsS w D.sb D.F D.B 4 200 64 256 0 0 D.A D.zs
  qbx : Box w 169 D.qb #[.pointer (some ⟨D.sb, 0, none⟩), .slice (some ⟨D.gl, 0, none⟩) 3 D.gc]
  qrow : w.ownsRow 0 170 9 (.slice (some ⟨D.gl, 0, none⟩) 3 D.gc) 3 (rng 3 (lsC D.L))
  isr : IsR w D.rb D.G D.Q 200 64 256 D.R
  lbx : Box w 127 D.lb #[.pointer (some ⟨D.rb, 0, none⟩), D.lv, D.lsv]
  lrow : w.ownsRow 0 27 1 D.lv D.xl.length (uvs D.xl)
  trow : w.ownsRow 0 27 1 D.tv D.xt.length (uvs D.xt)
  xbx : Box w 120 D.xb #[.pointer (some ⟨D.sb, 0, none⟩), .pointer (some ⟨D.qb, 0, none⟩), .int .i64 hot, .int .i64 warm]
  mbx : Box w 104 D.mb #[.pointer (some ⟨D.lb, 0, none⟩), .int .i64 hot, .int .i64 warm, D.av]
  arow : w.ownsRow 0 27 1 D.av D.xa.length (uvs D.xa)
  sep : Sp8 P (D.pt wb)

section
variable {w : World} {P : Nat → Prop} {wb : Nat} {D : Wd} {hot warm : Nat}
theorem row_lt {w : World} {t : TypeId} {s n : Nat} {v : Value} {xs : List Value} (h : w.ownsRow 0 t s v n xs) : ∀ k, v.ownBlock = some k → k < w.heap.size := fun k hk => by
  obtain ⟨cur, hc⟩ := row_block h k hk
  exact lt_of_block hc
theorem MS8.gll (h : MS8 w P wb D hot warm) : D.gl < w.heap.size := row_lt h.qrow D.gl rfl
theorem MS8.lt (h : MS8 w P wb D hot warm) : ∀ j k, D.pt wb j k → k < w.heap.size := by
  intro j k hj
  match j, hj with
  | 1, hj => exact h.iss.lt k hj
  | 2, hj => exact h.isr.lt k hj
  | 3, hj => exact row_lt h.lrow k hj
  | 4, hj => exact row_lt h.trow k hj
  | 5, hj => exact (show k = wb from hj) ▸ h.box.lt
  | 6, hj => exact (show k = D.lb from hj) ▸ h.lbx.lt
  | 7, hj => exact (show k = D.qb from hj) ▸ h.qbx.lt
  | 8, hj => exact (show k = D.gl from hj) ▸ h.gll
  | 9, hj => exact (show k = D.xb from hj) ▸ h.xbx.lt
  | 10, hj => exact (show k = D.mb from hj) ▸ h.mbx.lt
  | 11, hj => exact row_lt h.arow k hj
theorem MS8.kept0 {w' : World} (h : MS8 w P wb D hot warm) (hf : w.grownBy w' none) : MS8 w' P wb D hot warm :=
  ⟨h.box.kept hf (by simp), h.iss.kept0 hf, h.qbx.kept hf (by simp), row_kept h.qrow hf (by simp), h.isr.kept0 hf, h.lbx.kept hf (by simp), row_kept h.lrow hf (by simp), row_kept h.trow hf (by simp), h.xbx.kept hf (by simp), h.mbx.kept hf (by simp), row_kept h.arow hf (by simp), h.sep⟩
/-- What is not touched. -/
theorem MS8.nt (h : MS8 w P wb D hot warm) {I : Nat → Prop} {j k : Nat} (hj : D.pt wb j k) (hn : ¬ I j) : ¬ ∃ i, I i ∧ D.pt wb i k := fun ⟨i, hi, hp⟩ => hn (h.sep.ne hp hj ▸ hi)
theorem MS8.kp (h : MS8 w P wb D hot warm) {w' : World} {I : Nat → Prop} (hK : Kp (fun k => ∃ i, I i ∧ D.pt wb i k) w w') : Kp P w w' := hK.mono (fun k ⟨i, _, hp⟩ => .inl (h.sep.inP hp))
theorem MS8.krow (h : MS8 w P wb D hot warm) {w' : World} {I : Nat → Prop} (hK : Kp (fun k => ∃ i, I i ∧ D.pt wb i k) w w') {t : TypeId} {s n : Nat} {v : Value} {xs : List Value} (j : Nat) (hr : w.ownsRow 0 t s v n xs) (hv : ∀ k, v.ownBlock = some k → D.pt wb j k) (hn : ¬ I j) : w'.ownsRow 0 t s v n xs :=
  row_same hr (fun k hk => hK.block k (row_lt hr k hk) (h.nt (hv k hk) hn))
/-- The Set's call. -/
theorem MS8.stepS {w' : World} (h : MS8 w P wb D hot warm) (hP : ∀ k, w.heap.size ≤ k → P k) (hK : Kp D.F w w') {F' : Nat → Prop} {B' : Bl} {A' : Ab} {zs' : List Int} (hS : IsS w' D.sb F' B' 4 200 64 256 0 0 A' zs') (hF : ∀ k, F' k → D.F k ∨ w.heap.size ≤ k) : MS8 w' P wb { D with F := F', B := B', A := A', zs := zs' } hot warm := by
  have hK1 : Kp (fun k => ∃ i, i = 1 ∧ D.pt wb i k) w w' := hK.mono (fun k hk => .inl ⟨1, rfl, hk⟩)
  refine ⟨hK1.box h.box (h.nt (j := 5) rfl (by decide)), hS, hK1.box h.qbx (h.nt (j := 7) rfl (by decide)), h.krow hK1 8 h.qrow (fun k hk => by simp [Value.ownBlock] at hk; exact hk.symm) (by decide), h.isr.kept hK1 (fun k hk => h.nt (j := 2) hk (by decide)), hK1.box h.lbx (h.nt (j := 6) rfl (by decide)), h.krow hK1 3 h.lrow (fun k hk => hk) (by decide), h.krow hK1 4 h.trow (fun k hk => hk) (by decide), hK1.box h.xbx (h.nt (j := 9) rfl (by decide)), hK1.box h.mbx (h.nt (j := 10) rfl (by decide)), h.krow hK1 11 h.arow (fun k hk => hk) (by decide), ?_⟩
  refine h.sep.new h.lt hP 1 (fun j k hj => ?_)
  match j, hj with
  | 1, hj => exact (hF k hj).imp id (fun h => ⟨rfl, h⟩)
  | 2, hj => exact .inl hj
  | 3, hj => exact .inl hj
  | 4, hj => exact .inl hj
  | 5, hj => exact .inl hj
  | 6, hj => exact .inl hj
  | 7, hj => exact .inl hj
  | 8, hj => exact .inl hj
  | 9, hj => exact .inl hj
  | 10, hj => exact .inl hj
  | 11, hj => exact .inl hj
/-- The document's Set's call. -/
theorem MS8.stepR {w' : World} (h : MS8 w P wb D hot warm) (hP : ∀ k, w.heap.size ≤ k → P k) (hK : Kp D.G w w') {G' : Nat → Prop} {Q' : Rl} {R' : Rb} (hS : IsR w' D.rb G' Q' 200 64 256 R') (hG : ∀ k, G' k → D.G k ∨ w.heap.size ≤ k) : MS8 w' P wb { D with G := G', Q := Q', R := R' } hot warm := by
  have hK1 : Kp (fun k => ∃ i, i = 2 ∧ D.pt wb i k) w w' := hK.mono (fun k hk => .inl ⟨2, rfl, hk⟩)
  refine ⟨hK1.box h.box (h.nt (j := 5) rfl (by decide)), h.iss.kept hK1 (fun k hk => h.nt (j := 1) hk (by decide)), hK1.box h.qbx (h.nt (j := 7) rfl (by decide)), h.krow hK1 8 h.qrow (fun k hk => by simp [Value.ownBlock] at hk; exact hk.symm) (by decide), hS, hK1.box h.lbx (h.nt (j := 6) rfl (by decide)), h.krow hK1 3 h.lrow (fun k hk => hk) (by decide), h.krow hK1 4 h.trow (fun k hk => hk) (by decide), hK1.box h.xbx (h.nt (j := 9) rfl (by decide)), hK1.box h.mbx (h.nt (j := 10) rfl (by decide)), h.krow hK1 11 h.arow (fun k hk => hk) (by decide), ?_⟩
  refine h.sep.new h.lt hP 2 (fun j k hj => ?_)
  match j, hj with
  | 1, hj => exact .inl hj
  | 2, hj => exact (hG k hj).imp id (fun h => ⟨rfl, h⟩)
  | 3, hj => exact .inl hj
  | 4, hj => exact .inl hj
  | 5, hj => exact .inl hj
  | 6, hj => exact .inl hj
  | 7, hj => exact .inl hj
  | 8, hj => exact .inl hj
  | 9, hj => exact .inl hj
  | 10, hj => exact .inl hj
  | 11, hj => exact .inl hj
/-- The document's Lay. -/
theorem MS8.stepL {w' : World} (h : MS8 w P wb D hot warm) (hP : ∀ k, w.heap.size ≤ k → P k) (hK : Kp (fun k => k = D.lb ∨ D.lv.ownBlock = some k) w w') {lv' : Value} {xl' : List Nat} (hb : Box w' 127 D.lb #[.pointer (some ⟨D.rb, 0, none⟩), lv', D.lsv]) (hr : w'.ownsRow 0 27 1 lv' xl'.length (uvs xl')) (hl : ∀ k, lv'.ownBlock = some k → D.lv.ownBlock = some k ∨ w.heap.size ≤ k) : MS8 w' P wb { D with lv := lv', xl := xl' } hot warm ∧ Kp P w w' := by
  have hK1 : Kp (fun k => ∃ i, (i = 3 ∨ i = 6) ∧ D.pt wb i k) w w' := hK.mono (fun k hk => .inl (by rcases hk with hk | hk; exact ⟨6, .inr rfl, hk⟩; exact ⟨3, .inl rfl, hk⟩))
  refine ⟨⟨hK1.box h.box (h.nt (j := 5) rfl (by decide)), h.iss.kept hK1 (fun k hk => h.nt (j := 1) hk (by decide)), hK1.box h.qbx (h.nt (j := 7) rfl (by decide)), h.krow hK1 8 h.qrow (fun k hk => by simp [Value.ownBlock] at hk; exact hk.symm) (by decide), h.isr.kept hK1 (fun k hk => h.nt (j := 2) hk (by decide)), hb, hr, h.krow hK1 4 h.trow (fun k hk => hk) (by decide), hK1.box h.xbx (h.nt (j := 9) rfl (by decide)), hK1.box h.mbx (h.nt (j := 10) rfl (by decide)), h.krow hK1 11 h.arow (fun k hk => hk) (by decide), ?_⟩, h.kp hK1⟩
  refine h.sep.new h.lt hP 3 (fun j k hj => ?_)
  match j, hj with
  | 1, hj => exact .inl hj
  | 2, hj => exact .inl hj
  | 3, hj => exact (hl k hj).imp id (fun h => ⟨rfl, h⟩)
  | 4, hj => exact .inl hj
  | 5, hj => exact .inl hj
  | 6, hj => exact .inl hj
  | 7, hj => exact .inl hj
  | 8, hj => exact .inl hj
  | 9, hj => exact .inl hj
  | 10, hj => exact .inl hj
  | 11, hj => exact .inl hj
/-- Told is longer. -/
theorem MS8.stepT {w' : World} (h : MS8 w P wb D hot warm) (hP : ∀ k, w.heap.size ≤ k → P k) (hf : w.grownBy w' D.tv.ownBlock) {tv' : Value} {xt' : List Nat} (hr : w'.ownsRow 0 27 1 tv' xt'.length (uvs xt')) (ht : ∀ k, tv'.ownBlock = some k → D.tv.ownBlock = some k ∨ w.heap.size ≤ k) :
    MS8 (w'.setCell ⟨wb, 6, none⟩ tv') P wb { D with tv := tv', xt := xt' } hot warm ∧ Box w' 46 wb #[.pointer (some ⟨D.sb, 0, none⟩), .pointer (some ⟨D.qb, 0, none⟩), .pointer (some ⟨D.xb, 0, none⟩), .pointer (some ⟨D.rb, 0, none⟩), .pointer (some ⟨D.lb, 0, none⟩), .pointer (some ⟨D.mb, 0, none⟩), D.tv] ∧ Kp P w (w'.setCell ⟨wb, 6, none⟩ tv') ∧ Kp (fun k => k = wb ∨ D.tv.ownBlock = some k) w (w'.setCell ⟨wb, 6, none⟩ tv') := by
  have hb1 : Box w' 46 wb #[.pointer (some ⟨D.sb, 0, none⟩), .pointer (some ⟨D.qb, 0, none⟩), .pointer (some ⟨D.xb, 0, none⟩), .pointer (some ⟨D.rb, 0, none⟩), .pointer (some ⟨D.lb, 0, none⟩), .pointer (some ⟨D.mb, 0, none⟩), D.tv] := h.box.kept hf (fun e => by have := h.sep.ne (i := 4) (j := 5) (k := wb) e.symm rfl; omega)
  have hK : Kp (fun k => k = wb ∨ D.tv.ownBlock = some k) w (w'.setCell ⟨wb, 6, none⟩ tv') := ((Kp.refl _ _).step hf (fun i hi => .inl (.inr hi))).step (gb_setCell (gb_refl _ (some wb)) _) (fun i hi => .inl (.inl (by simpa using hi.symm)))
  have hK1 : Kp (fun k => ∃ i, (i = 4 ∨ i = 5) ∧ D.pt wb i k) w (w'.setCell ⟨wb, 6, none⟩ tv') := hK.mono (fun k hk => .inl (by rcases hk with hk | hk; exact ⟨5, .inr rfl, hk⟩; exact ⟨4, .inl rfl, hk⟩))
  refine ⟨⟨hb1.set 6 _, h.iss.kept hK1 (fun k hk => h.nt (j := 1) hk (by decide)), hK1.box h.qbx (h.nt (j := 7) rfl (by decide)), h.krow hK1 8 h.qrow (fun k hk => by simp [Value.ownBlock] at hk; exact hk.symm) (by decide), h.isr.kept hK1 (fun k hk => h.nt (j := 2) hk (by decide)), hK1.box h.lbx (h.nt (j := 6) rfl (by decide)), h.krow hK1 3 h.lrow (fun k hk => hk) (by decide), row_kept hr (gb_setCell (gb_refl _ (some wb)) _) (fun k hk e => ?_), hK1.box h.xbx (h.nt (j := 9) rfl (by decide)), hK1.box h.mbx (h.nt (j := 10) rfl (by decide)), h.krow hK1 11 h.arow (fun k hk => hk) (by decide), ?_⟩, hb1, h.kp hK1, hK⟩
  · obtain ⟨cur, hc⟩ := row_block hr k hk
    exact ne_of_type hc hb1 (by decide) (by simpa using e)
  · refine h.sep.new h.lt hP 4 (fun j k hj => ?_)
    match j, hj with
    | 1, hj => exact .inl hj
    | 2, hj => exact .inl hj
    | 3, hj => exact .inl hj
    | 4, hj => exact (ht k hj).imp id (fun h => ⟨rfl, h⟩)
    | 5, hj => exact .inl hj
    | 6, hj => exact .inl hj
    | 7, hj => exact .inl hj
    | 8, hj => exact .inl hj
    | 9, hj => exact .inl hj
    | 10, hj => exact .inl hj
    | 11, hj => exact .inl hj
/-- A list's call. -/
theorem MS8.stepQ {w' : World} (h : MS8 w P wb D hot warm) (hK : Kp (fun k => D.F k ∨ k = D.gl) w w') {zs' : List Int} {L' : Ls} (hS : IsS w' D.sb D.F D.B 4 200 64 256 0 0 D.A zs') (hb : Box w' 169 D.qb #[.pointer (some ⟨D.sb, 0, none⟩), .slice (some ⟨D.gl, 0, none⟩) 3 D.gc]) (hr : w'.ownsRow 0 170 9 (.slice (some ⟨D.gl, 0, none⟩) 3 D.gc) 3 (rng 3 (lsC L'))) : MS8 w' P wb { D with zs := zs', L := L' } hot warm ∧ Kp P w w' := by
  have hK1 : Kp (fun k => ∃ i, (i = 1 ∨ i = 8) ∧ D.pt wb i k) w w' := hK.mono (fun k hk => .inl (by rcases hk with hk | hk; exact ⟨1, .inl rfl, hk⟩; exact ⟨8, .inr rfl, hk⟩))
  exact ⟨⟨hK1.box h.box (h.nt (j := 5) rfl (by decide)), hS, hb, hr, h.isr.kept hK1 (fun k hk => h.nt (j := 2) hk (by decide)), hK1.box h.lbx (h.nt (j := 6) rfl (by decide)), h.krow hK1 3 h.lrow (fun k hk => hk) (by decide), h.krow hK1 4 h.trow (fun k hk => hk) (by decide), hK1.box h.xbx (h.nt (j := 9) rfl (by decide)), hK1.box h.mbx (h.nt (j := 10) rfl (by decide)), h.krow hK1 11 h.arow (fun k hk => hk) (by decide), h.sep⟩, h.kp hK1⟩
/-- The document's marks. -/
theorem MS8.stepM {w' : World} (h : MS8 w P wb D hot warm) (hP : ∀ k, w.heap.size ≤ k → P k) (hK : Kp (fun k => k = D.mb) w w') {av' : Value} {xa' : List Nat} (hb : Box w' 104 D.mb #[.pointer (some ⟨D.lb, 0, none⟩), .int .i64 hot, .int .i64 warm, av']) (hr : w'.ownsRow 0 27 1 av' xa'.length (uvs xa')) (hl : ∀ k, av'.ownBlock = some k → w.heap.size ≤ k) : MS8 w' P wb { D with av := av', xa := xa' } hot warm ∧ Kp P w w' := by
  have hK1 : Kp (fun k => ∃ i, i = 10 ∧ D.pt wb i k) w w' := hK.mono (fun k hk => .inl ⟨10, rfl, hk⟩)
  refine ⟨⟨hK1.box h.box (h.nt (j := 5) rfl (by decide)), h.iss.kept hK1 (fun k hk => h.nt (j := 1) hk (by decide)), hK1.box h.qbx (h.nt (j := 7) rfl (by decide)), h.krow hK1 8 h.qrow (fun k hk => by simp [Value.ownBlock] at hk; exact hk.symm) (by decide), h.isr.kept hK1 (fun k hk => h.nt (j := 2) hk (by decide)), hK1.box h.lbx (h.nt (j := 6) rfl (by decide)), h.krow hK1 3 h.lrow (fun k hk => hk) (by decide), h.krow hK1 4 h.trow (fun k hk => hk) (by decide), hK1.box h.xbx (h.nt (j := 9) rfl (by decide)), hb, hr, ?_⟩, h.kp hK1⟩
  refine h.sep.new h.lt hP 11 (fun j k hj => ?_)
  match j, hj with
  | 1, hj => exact .inl hj
  | 2, hj => exact .inl hj
  | 3, hj => exact .inl hj
  | 4, hj => exact .inl hj
  | 5, hj => exact .inl hj
  | 6, hj => exact .inl hj
  | 7, hj => exact .inl hj
  | 8, hj => exact .inl hj
  | 9, hj => exact .inl hj
  | 10, hj => exact .inl hj
  | 11, hj => exact .inr ⟨rfl, hl k hj⟩
end
end Go.Proofs.YtohneboimmcocaaGreat
/-
  chunks, begun.
-/
namespace Go.Proofs.YtohneboimmcocaaGreat
open Go.RowKit
set_option linter.unusedVariables false

/-- Where the document's nine lists lie. -/
def LsAt (N : Nat) (w' : World) (T : Nat → Prop) (lsv : Value) : Prop := ∃ lsb, lsv = .slice (some ⟨lsb, 0, none⟩) 9 9 ∧ N ≤ lsb ∧ Box w' 38 lsb nil9 ∧ ¬ T lsb
/-- What chunks makes. -/
structure Ck8 (w w' : World) (wb sb qb gl gc : Nat) (F : Nat → Prop) (B : Bl) (zs : List Int) (rb : Nat) (G : Nat → Prop) (Q : Rl) (lb : Nat) (lsv : Value) : Prop where
  gr : w.grownBy w' none
  zl : zs.length = 16384
  box : Box w' 46 wb #[.pointer (some ⟨sb, 0, none⟩), .pointer (some ⟨qb, 0, none⟩), .pointer none, .pointer (some ⟨rb, 0, none⟩), .pointer (some ⟨lb, 0, none⟩), .pointer none, .slice none 0 0]
  iss : IsS w' sb F B 4 200 64 256 0 0 qA zs
  qbx : Box w' 169 qb #[.pointer (some ⟨sb, 0, none⟩), .slice (some ⟨gl, 0, none⟩) 3 gc]
  qrow : w'.ownsRow 0 170 9 (.slice (some ⟨gl, 0, none⟩) 3 gc) 3 (rng 3 (lsC L0))
  isr : IsR w' rb G Q 200 64 256 qR
  lbx : Box w' 127 lb #[.pointer (some ⟨rb, 0, none⟩), .slice none 0 0, lsv]
  col : ∃ c : Nat → Nat, (∀ k, F k → c k = 1 ∧ w.heap.size ≤ k) ∧ (∀ k, G k → c k = 2 ∧ w.heap.size ≤ k) ∧ (c wb = 5 ∧ w.heap.size ≤ wb) ∧ (c lb = 6 ∧ w.heap.size ≤ lb) ∧ (c qb = 7 ∧ w.heap.size ≤ qb) ∧ (c gl = 8 ∧ w.heap.size ≤ gl)
  lsx : LsAt w.heap.size w' (fun k => F k ∨ G k ∨ k = wb ∨ k = lb ∨ k = qb ∨ k = gl) lsv

set_option maxRecDepth 100000 in
set_option maxHeartbeats 4000000 in
theorem chunks_23 (w : World) : Calls Tryz.prog 23 #[] w fun y w' => ∃ wb sb qb gl gc F B zs rb G Q lb lsv, y = .returned (.pointer (some ⟨wb, 0, none⟩)) ∧ Ck8 w w' wb sb qb gl gc F B zs rb G Q lb lsv := by
  have hcn := fun W => (new_ok q_cfg 0 0 (by decide) wk_cls (by decide) W).mono (R' := fun x w' => ∃ sb F B zs, x = .returned (.tuple #[.pointer (some ⟨sb, 0, none⟩), .int .i64 0]) ∧ W.grownBy w' none ∧ zs.length = 16384 ∧ IsS w' sb F B 4 200 64 256 0 0 qA zs ∧ ∀ k, F k → W.heap.size ≤ k) (by
    rintro x w' ⟨sb, F, B, rfl, hf, hS, hG⟩
    exact ⟨sb, F, B, _, rfl, hf, List.length_replicate, hS, hG⟩)
  have hrn := fun W => (rnew_ok q_cfg (by decide) wk_cls q_refd W).mono (R' := fun x w' => ∃ rb Q, x = .returned (.tuple #[.pointer (some ⟨rb, 0, none⟩), .int .i64 0]) ∧ W.grownBy w' none ∧ IsR w' rb (fun k => W.heap.size ≤ k ∧ k < w'.heap.size) Q 200 64 256 qR) (by
    rintro x w' ⟨rb, sv, ov, rv, rfl, hf, hlo, hbx, hs, ho, hr, hne⟩
    exact ⟨rb, _, rfl, hf, rnew_is hlo hbx hs ho hr hne⟩)
  have hqn := fun W sb F B zs (hS : IsS W sb F B 4 200 64 256 0 0 qA zs) => qnew_ok hS q_invA rfl
  have hn6 := fun W rb G Q (hS : IsR W rb G Q 200 64 256 qR) => rnew6 hS qR_fit rfl
  unfold cfgV at hcn
  unfold refV at hrn
  change ∀ W, Calls Tryz.prog 66 #[.agg #[.int .i64 4096, .int .i64 4, .int .i64 200, .int .i64 64, .int .i64 256, .int .i64 0, .int .i64 0]] W _ at hcn
  change ∀ W, Calls Tryz.prog 67 #[.agg #[.int .i64 4096, .int .i64 4, .int .i64 200, .int .i64 64, .int .i64 256]] W _ at hrn
  go_enter Tryz.func23, Tryz.ntmps23
  go_wp2_with (first | (go_at_call 66; go_must (refine (hcn _).mono ?_); rintro y w2 ⟨sb, F, B, zs, rfl, hf2, hzl, hS, hF⟩) | (go_at_call 67; go_must (refine (hrn _).mono ?_); rintro y w3 ⟨rb, Q, rfl, hf3, hR⟩; (have hS3 := hS.kept0 hf3)) | (go_at_call 26; go_must (refine (num_any _ _).mono ?_); rintro y w' ⟨rfl, rfl⟩) | (go_at_call 68; go_must (refine (hqn _ _ _ _ _ hS3).mono ?_); rintro y w4 ⟨qb, gl, gc, rfl, hf4, hl1, hl2, hQ⟩; (have hR4 := hR.kept0 hf4)) | (go_at_call 69; go_must (refine (hn6 _ _ _ _ hR4).mono ?_); rintro y w5 ⟨lb, lsb, rfl, hf5, hl5, hb5, hl6, hl7, hb7⟩) | fail)
  go_ret
  have hal := World.grownBy_alloc w5 (.cells #[.pointer (some ⟨sb, 0, none⟩), .pointer (some ⟨qb, 0, none⟩), .pointer none, .pointer (some ⟨rb, 0, none⟩), .pointer (some ⟨lb, 0, none⟩), .pointer none, .slice none 0 0] 46) none
  have hb6 := Box.new w5 46 #[.pointer (some ⟨sb, 0, none⟩), .pointer (some ⟨qb, 0, none⟩), .pointer none, .pointer (some ⟨rb, 0, none⟩), .pointer (some ⟨lb, 0, none⟩), .pointer none, .slice none 0 0]
  have s2 := hf2.size
  have s3 := hf3.size
  have s4 := hf4.size
  have s5 := hf5.size
  have hQ5 := (hQ.kept0 hf5).kept0 hal
  have q1 := hQ.box.lt
  have q2 : gl < w4.heap.size := row_lt hQ.row gl rfl
  have q3 := hQ.qne
  have q4 := hb5.lt
  refine ⟨w5.heap.size, sb, qb, gl, gc, F, B, zs, rb, _, Q, lb, _, rfl, gb_trans (gb_trans (gb_trans (gb_trans hf2 hf3) hf4) hf5) hal, hzl, hb6, hQ5.iss, hQ5.box, hQ5.row, (hR4.kept0 hf5).kept0 hal, hb5.kept hal (by simp), ?_, lsb, rfl, by omega, hb7.kept hal (by simp), ?_⟩
  · refine ⟨fun k => if k < w2.heap.size then 1 else if k < w3.heap.size then 2 else if k = qb then 7 else if k = gl then 8 else if k = lb then 6 else 5, fun k hk => ?_, fun k hk => ?_, ?_, ?_, ?_, ?_⟩
    · have h1 := hS.lt k hk
      have h2 := hF k hk
      exact ⟨if_pos h1, by omega⟩
    · refine ⟨?_, by have := hk.1; omega⟩
      show (if k < w2.heap.size then 1 else if k < w3.heap.size then 2 else _) = 2
      rw [if_neg (by omega), if_pos hk.2]
    · refine ⟨?_, by omega⟩
      show (if w5.heap.size < w2.heap.size then 1 else if w5.heap.size < w3.heap.size then 2 else if w5.heap.size = qb then 7 else if w5.heap.size = gl then 8 else if w5.heap.size = lb then 6 else 5) = 5
      rw [if_neg (by omega), if_neg (by omega), if_neg (by omega), if_neg (by omega), if_neg (by omega)]
    · refine ⟨?_, by omega⟩
      show (if lb < w2.heap.size then 1 else if lb < w3.heap.size then 2 else if lb = qb then 7 else if lb = gl then 8 else if lb = lb then 6 else 5) = 6
      rw [if_neg (by omega), if_neg (by omega), if_neg (by omega), if_neg (by omega), if_pos rfl]
    · refine ⟨?_, by omega⟩
      show (if qb < w2.heap.size then 1 else if qb < w3.heap.size then 2 else if qb = qb then 7 else _) = 7
      rw [if_neg (by omega), if_neg (by omega), if_pos rfl]
    · refine ⟨?_, by omega⟩
      show (if gl < w2.heap.size then 1 else if gl < w3.heap.size then 2 else if gl = qb then 7 else if gl = gl then 8 else _) = 8
      rw [if_neg (by omega), if_neg (by omega), if_neg (by omega), if_pos rfl]
  · have q5 := hb7.lt
    rintro (h1 | h1 | h1 | h1 | h1 | h1)
    · have := hS.lt _ h1; omega
    · have := h1.2; omega
    · omega
    · omega
    · omega
    · omega

set_option maxRecDepth 100000 in
theorem shared_34 (x0 x1 : Int) (w : World) : Calls Tryz.prog 34 #[.agg #[.int .i64 x0, .int .i64 x1]] w fun y w' => y = .returned (.agg #[.int .i64 (1 + x0 % 89), .int .i64 (1 + x1 % (90 - (1 + x0 % 89)))]) ∧ w.grownBy w' none := by
  have h1 := fun W => within_any x0 89 (by omega) (by omega) W
  obtain ⟨ht, hht⟩ : ∃ ht, 1 + x0 % 89 = ht := ⟨_, rfl⟩
  have h2 := fun W => within_any x1 (90 - ht) (by omega) (by omega) W
  have e1 : IntKind.i64.wrap (1 + x0 % 89) = ht := by rw [hht, IntKind.wrap_i64]; omega
  have e2 : IntKind.i64.wrap (90 - ht) = 90 - ht := by rw [IntKind.wrap_i64]; omega
  have hb : 0 ≤ x1 % (90 - ht) ∧ x1 % (90 - ht) < 90 - ht := ⟨Int.emod_nonneg _ (by omega), Int.emod_lt_of_pos _ (by omega)⟩
  obtain ⟨wm, hwm⟩ : ∃ wm, x1 % (90 - ht) = wm := ⟨_, rfl⟩
  rw [hwm] at hb
  simp only [hwm] at h2
  have e3 : IntKind.i64.wrap (1 + wm) = 1 + wm := by rw [IntKind.wrap_i64]; omega
  have hht' := hht
  rw [hht, hwm]
  clear hwm
  go_enter Tryz.func34, Tryz.ntmps34
  go_wp2_with (first | (go_at_call 28; with_reducible refine (h1 _).mono ?_; rintro y w' ⟨rfl, rfl⟩) | (go_at_call 28; go_must (with_reducible refine (h2 _).mono ?_); rintro y w' ⟨rfl, rfl⟩) | fail)
  have hg := World.grownBy_alloc w (.cells #[.int .i64 x0, .int .i64 x1] 23) none
  have hs : (w.alloc (.cells #[.int .i64 x0, .int .i64 x1] 23)).heap.size = w.heap.size + 1 := by simp
  generalize w.alloc (.cells #[.int .i64 x0, .int .i64 x1] 23) = V at *
  have hb2 := Box.new V 23 #[.int .i64 ht, .int .i64 (1 + wm)]
  have hg2 := World.grownBy_alloc V (.cells #[.int .i64 ht, .int .i64 (1 + wm)] 23) none
  rw [hs] at hb2
  generalize V.alloc (.cells #[.int .i64 ht, .int .i64 (1 + wm)] 23) = V2 at *
  have y0 := hb2.cell 0
  have y1 := hb2.cell 1
  simp only [List.getElem?_toArray, List.getElem?_cons_zero, List.getElem?_cons_succ] at y0 y1
  exact bodyPost_ret (v := .agg #[.int .i64 ht, .int .i64 (1 + wm)]) (by simp [results, Tryz.results34, go_sem, y0, y1]) rfl ⟨rfl, gb_trans hg hg2⟩

def D0 (sb qb gl gc : Nat) (F : Nat → Prop) (B : Bl) (zs : List Int) (rb : Nat) (G : Nat → Prop) (Q : Rl) (lb : Nat) (lsv : Value) (xb mb : Nat) : Wd := ⟨sb, qb, gl, gc, rb, lb, xb, mb, F, G, B, qA, zs, Q, qR, .slice none 0 0, lsv, .slice none 0 0, .slice none 0 0, [], [], [], L0⟩
theorem Ck8.less {u w w' : World} {wb sb qb gl gc : Nat} {F : Nat → Prop} {B : Bl} {zs : List Int} {rb : Nat} {G : Nat → Prop} {Q : Rl} {lb : Nat} {lsv : Value} (h : Ck8 w w' wb sb qb gl gc F B zs rb G Q lb lsv) (hg : u.grownBy w none) : Ck8 u w' wb sb qb gl gc F B zs rb G Q lb lsv := by
  obtain ⟨c, k1, k2, k3, k4, k5, k6⟩ := h.col
  have hs := hg.size
  exact ⟨gb_trans hg h.gr, h.zl, h.box, h.iss, h.qbx, h.qrow, h.isr, h.lbx, ⟨c, fun k hk => ⟨(k1 k hk).1, Nat.le_trans hs (k1 k hk).2⟩, fun k hk => ⟨(k2 k hk).1, Nat.le_trans hs (k2 k hk).2⟩, ⟨k3.1, Nat.le_trans hs k3.2⟩, ⟨k4.1, Nat.le_trans hs k4.2⟩, ⟨k5.1, Nat.le_trans hs k5.2⟩, ⟨k6.1, Nat.le_trans hs k6.2⟩⟩, by
    obtain ⟨lsb, l1, l2, l3, l4⟩ := h.lsx
    exact ⟨lsb, l1, Nat.le_trans hs l2, l3, l4⟩⟩
theorem Ck8.ms {w w' w3 : World} {wb sb qb gl gc : Nat} {F : Nat → Prop} {B : Bl} {zs : List Int} {rb : Nat} {G : Nat → Prop} {Q : Rl} {lb : Nat} {lsv : Value} (h : Ck8 w w' wb sb qb gl gc F B zs rb G Q lb lsv) {hot warm xb mb : Nat} (hg : w'.grownBy w3 none) (h1 : w'.heap.size ≤ xb) (h2 : xb < mb) (hbx : Box w3 120 xb #[.pointer (some ⟨sb, 0, none⟩), .pointer (some ⟨qb, 0, none⟩), .int .i64 hot, .int .i64 warm]) (hbm : Box w3 104 mb #[.pointer (some ⟨lb, 0, none⟩), .int .i64 hot, .int .i64 warm, .slice none 0 0]) :
    MS8 ((w3.setCell ⟨wb, 2, none⟩ (.pointer (some ⟨xb, 0, none⟩))).setCell ⟨wb, 5, none⟩ (.pointer (some ⟨mb, 0, none⟩))) (fun k => w.heap.size ≤ k) wb (D0 sb qb gl gc F B zs rb G Q lb lsv xb mb) hot warm ∧ LsAt w.heap.size ((w3.setCell ⟨wb, 2, none⟩ (.pointer (some ⟨xb, 0, none⟩))).setCell ⟨wb, 5, none⟩ (.pointer (some ⟨mb, 0, none⟩))) (fun k => ∃ j, (D0 sb qb gl gc F B zs rb G Q lb lsv xb mb).pt wb j k) lsv ∧ w.grownBy ((w3.setCell ⟨wb, 2, none⟩ (.pointer (some ⟨xb, 0, none⟩))).setCell ⟨wb, 5, none⟩ (.pointer (some ⟨mb, 0, none⟩))) none := by
  have hgl := row_lt h.qrow gl rfl
  obtain ⟨c, k1, k2, k3, k4, k5, k6⟩ := h.col
  have b1 := h.box.kept hg (by simp)
  have hK : Kp (fun k => k = wb) w3 ((w3.setCell ⟨wb, 2, none⟩ (.pointer (some ⟨xb, 0, none⟩))).setCell ⟨wb, 5, none⟩ (.pointer (some ⟨mb, 0, none⟩))) := ((Kp.refl _ _).step (gb_setCell (gb_refl _ (some wb)) _) (fun i hi => .inl (by simpa using hi.symm))).step (gb_setCell (gb_refl _ (some wb)) _) (fun i hi => .inl (by simpa using hi.symm))
  have hK0 : Kp (fun k => w.heap.size ≤ k) w' ((w3.setCell ⟨wb, 2, none⟩ (.pointer (some ⟨xb, 0, none⟩))).setCell ⟨wb, 5, none⟩ (.pointer (some ⟨mb, 0, none⟩))) := (Kp.of hg).trans hK (fun _ h => h) (fun k hk => .inl (hk ▸ k3.2))
  have hwl := h.box.lt
  have nwx : xb ≠ wb := by omega
  have nwm : mb ≠ wb := by omega
  have nqw : qb ≠ wb := fun e => by have := k5.1; rw [e, k3.1] at this; omega
  have nlw : lb ≠ wb := fun e => by have := k4.1; rw [e, k3.1] at this; omega
  have ngw : gl ≠ wb := fun e => by have := k6.1; rw [e, k3.1] at this; omega
  refine ⟨⟨(b1.set 2 _).set 5 _, (h.iss.kept0 hg).kept hK (fun k hk e => by have := (k1 k hk).1; rw [e, k3.1] at this; omega), hK.box (h.qbx.kept hg (by simp)) nqw, row_same (row_kept h.qrow hg (by simp)) (fun k hk => hK.block k ?_ (fun e => ?_)), (h.isr.kept0 hg).kept hK (fun k hk e => by have := (k2 k hk).1; rw [e, k3.1] at this; omega), hK.box (h.lbx.kept hg (by simp)) nlw, World.ownsRow_nil _ _ _ _, World.ownsRow_nil _ _ _ _, hK.box hbx nwx, hK.box hbm nwm, World.ownsRow_nil _ _ _ _, ?_⟩, ?_, ?_⟩
  · simp [Value.ownBlock] at hk; subst hk; exact Nat.lt_of_lt_of_le hgl hg.size
  · simp [Value.ownBlock] at hk; exact ngw (hk.trans e)
  · refine ⟨fun k => if k < w'.heap.size then c k else if k = xb then 9 else 10, fun j k hj => ?_⟩
    have hlt : ∀ k, k < w'.heap.size → (if k < w'.heap.size then c k else if k = xb then 9 else 10) = c k := fun k hk => if_pos hk
    match j, hj with
    | 1, hj => exact ⟨(hlt k (h.iss.lt k hj)).trans (k1 k hj).1, (k1 k hj).2⟩
    | 2, hj => exact ⟨(hlt k (h.isr.lt k hj)).trans (k2 k hj).1, (k2 k hj).2⟩
    | 3, hj => exact absurd hj (by simp [Wd.pt, D0, Value.ownBlock])
    | 4, hj => exact absurd hj (by simp [Wd.pt, D0, Value.ownBlock])
    | 5, hj =>
      obtain rfl : k = wb := hj
      exact ⟨(hlt k h.box.lt).trans k3.1, k3.2⟩
    | 6, hj =>
      obtain rfl : k = lb := hj
      exact ⟨(hlt k h.lbx.lt).trans k4.1, k4.2⟩
    | 7, hj =>
      obtain rfl : k = qb := hj
      exact ⟨(hlt k h.qbx.lt).trans k5.1, k5.2⟩
    | 8, hj =>
      obtain rfl : k = gl := hj
      exact ⟨(hlt k hgl).trans k6.1, k6.2⟩
    | 9, hj =>
      obtain rfl : k = xb := hj
      have := h.gr.size
      exact ⟨(if_neg (by omega)).trans (if_pos rfl), by omega⟩
    | 10, hj =>
      obtain rfl : k = mb := hj
      have := h.gr.size
      exact ⟨(if_neg (by omega)).trans (if_neg (by omega)), by omega⟩
    | 11, hj => exact absurd hj (by simp [Wd.pt, D0, Value.ownBlock])
  · obtain ⟨lsb, l1, l2, l3, l4⟩ := h.lsx
    have l5 := l3.lt
    refine ⟨lsb, l1, l2, hK.box (l3.kept hg (by simp)) (fun e => l4 (.inr (.inr (.inl e)))), ?_⟩
    rintro ⟨j, hj⟩
    match j, hj with
    | 1, hj => exact l4 (.inl hj)
    | 2, hj => exact l4 (.inr (.inl hj))
    | 3, hj => exact absurd hj (by simp [Wd.pt, D0, Value.ownBlock])
    | 4, hj => exact absurd hj (by simp [Wd.pt, D0, Value.ownBlock])
    | 5, hj => exact l4 (.inr (.inr (.inl hj)))
    | 6, hj => exact l4 (.inr (.inr (.inr (.inl hj))))
    | 7, hj => exact l4 (.inr (.inr (.inr (.inr (.inl hj)))))
    | 8, hj => exact l4 (.inr (.inr (.inr (.inr (.inr hj)))))
    | 9, hj =>
      have e : lsb = xb := hj
      omega
    | 10, hj =>
      have e : lsb = mb := hj
      omega
    | 11, hj => exact absurd hj (by simp [Wd.pt, D0, Value.ownBlock])
  · exact ((Kp.of (F := fun _ => False) h.gr).trans hK0 (H := fun _ => False) (fun _ h => h) (fun k hk => .inr hk)).grown (fun i hi => hi.elim)

set_option maxRecDepth 100000 in
set_option maxHeartbeats 4000000 in
theorem begun_10 (x0 x1 : Int) {hot warm : Nat} (hh : (hot : Int) = 1 + x0 % 89) (hw : (warm : Int) = 1 + x1 % (90 - (1 + x0 % 89))) (w : World) : Calls Tryz.prog 10 #[.agg #[.int .i64 x0, .int .i64 x1]] w fun y w' => ∃ wb sb qb gl gc F B zs rb G Q lb lsv xb mb, y = .returned (.pointer (some ⟨wb, 0, none⟩)) ∧ w.grownBy w' none ∧ zs.length = 16384 ∧ MS8 w' (fun k => w.heap.size ≤ k) wb (D0 sb qb gl gc F B zs rb G Q lb lsv xb mb) hot warm ∧ LsAt w.heap.size w' (fun k => ∃ j, (D0 sb qb gl gc F B zs rb G Q lb lsv xb mb).pt wb j k) lsv := by
  have hShr : Shr hot warm := by
    have h1 : 0 ≤ x1 % (90 - (1 + x0 % 89)) ∧ x1 % (90 - (1 + x0 % 89)) < 90 - (1 + x0 % 89) := ⟨Int.emod_nonneg _ (by omega), Int.emod_lt_of_pos _ (by omega)⟩
    exact ⟨by omega, by omega, by omega⟩
  have hsh := fun W => shared_34 x0 x1 W
  rw [← hh] at hsh hw
  rw [← hw] at hsh
  have hnw := fun sb qb W => lnew_yes hShr sb qb W
  have hrn := fun lb W => rlnew_yes hShr lb W
  have hck := fun W => chunks_23 W
  have hg0 := World.grownBy_alloc w (.cells #[.int .i64 x0, .int .i64 x1] 23) none
  have hb0 := Box.new w 23 #[.int .i64 x0, .int .i64 x1]
  have hck2 := fun W (hW : W = w.alloc (.cells #[.int .i64 x0, .int .i64 x1] 23)) => (chunks_23 W).mono (R' := fun y w1 => ∃ wb sb qb gl gc F B zs rb G Q lb lsv, y = .returned (.pointer (some ⟨wb, 0, none⟩)) ∧ w1.cell? ⟨w.heap.size, 0, none⟩ = some (.int .i64 x0) ∧ w1.cell? ⟨w.heap.size, 1, none⟩ = some (.int .i64 x1) ∧ Hid (Ck8 w w1 wb sb qb gl gc F B zs rb G Q lb lsv)) (by
    subst hW
    rintro y w1 ⟨wb, sb, qb, gl, gc, F, B, zs, rb, G, Q, lb, lsv, rfl, hC⟩
    have hb1 := hb0.kept hC.gr (by simp)
    exact ⟨wb, sb, qb, gl, gc, F, B, zs, rb, G, Q, lb, lsv, rfl, hb1.cell 0, hb1.cell 1, hC.less hg0⟩)
  clear hck hh hw
  go_enter Tryz.func10, Tryz.ntmps10
  go_wp2_with (first | (go_at_call 23; go_must (refine (hck2 _ rfl).mono ?_); rintro y w1 ⟨wb, sb, qb, gl, gc, F, B, zs, rb, G, Q, lb, lsv, rfl, u0, u1, hC⟩) | (go_at_call 34; go_must (refine (hsh _).mono ?_); rintro y w2 ⟨rfl, hg2⟩; (have hB2 := (hC.out.box.kept hg2 (by simp)).kept (World.grownBy_alloc w2 (.cells #[.int .i64 hot, .int .i64 warm] 23) none) (by simp)); (have v0 := hB2.cell 0); (have v1 := hB2.cell 1); (have v4 := hB2.cell 4); simp at v0 v1 v4) | fail)
  have hal := World.grownBy_alloc w2 (.cells #[.int .i64 hot, .int .i64 warm] 23) none
  have hby := Box.new w2 23 #[.int .i64 hot, .int .i64 warm]
  have hg3 := gb_trans hg2 hal
  have hs3 : (w2.alloc (.cells #[.int .i64 hot, .int .i64 warm] 23)).heap.size = w2.heap.size + 1 := by simp
  generalize w2.alloc (.cells #[.int .i64 hot, .int .i64 warm] 23) = W3 at *
  have hCC : ∀ W, W3.grownBy W none → (W.cell? ⟨wb, 0, none⟩ = some (.pointer (some ⟨sb, 0, none⟩)) ∧ W.cell? ⟨wb, 1, none⟩ = some (.pointer (some ⟨qb, 0, none⟩)) ∧ W.cell? ⟨w2.heap.size, 0, none⟩ = some (.int .i64 hot) ∧ W.cell? ⟨w2.heap.size, 1, none⟩ = some (.int .i64 warm)) := fun W h => ⟨gb_cellN h v0, gb_cellN h v1, (hby.kept h (by simp)).cell 0, (hby.kept h (by simp)).cell 1⟩
  have hCD : ∀ W, W3.grownBy W none → (W.cell? ⟨wb, 4, none⟩ = some (.pointer (some ⟨lb, 0, none⟩)) ∧ W.cell? ⟨w2.heap.size, 0, none⟩ = some (.int .i64 hot) ∧ W.cell? ⟨w2.heap.size, 1, none⟩ = some (.int .i64 warm)) := fun W h => ⟨gb_cellN h v4, (hby.kept h (by simp)).cell 0, (hby.kept h (by simp)).cell 1⟩
  have hd3 : W3.grownBy W3.drew none := gb_drew (gb_refl _ _)
  have hK0 := hCC _ hd3
  have hnw1 := (hnw sb qb W3.drew).mono (R' := fun r w' => ∃ xb, r = .returned (.tuple #[.pointer (some ⟨xb, 0, none⟩), .int .i64 0]) ∧ W3.grownBy w' none ∧ W3.heap.size ≤ xb ∧ Box w' 120 xb #[.pointer (some ⟨sb, 0, none⟩), .pointer (some ⟨qb, 0, none⟩), .int .i64 hot, .int .i64 warm]) (by
    rintro r w' ⟨rfl, rfl⟩
    exact ⟨_, rfl, gb_trans hd3 (World.grownBy_alloc _ _ none), hd3.size, Box.new _ 120 _⟩)
  have hrn1 := fun W (h : W3.grownBy W none) => (hrn lb W).mono (R' := fun r w' => ∃ mb, r = .returned (.tuple #[.pointer (some ⟨mb, 0, none⟩), .int .i64 0]) ∧ W.grownBy w' none ∧ W.heap.size = mb ∧ Box w' 104 mb #[.pointer (some ⟨lb, 0, none⟩), .int .i64 hot, .int .i64 warm, .slice none 0 0]) (by
    rintro r w' ⟨rfl, rfl⟩
    exact ⟨_, rfl, World.grownBy_alloc _ _ none, rfl, Box.new _ 104 _⟩)
  clear hnw hrn hsh hck2 v0 v1 v4 hby hB2 u0 u1
  go_region_held3 (fun W => W.cell? ⟨wb, 0, none⟩ = some (.pointer (some ⟨sb, 0, none⟩)) ∧ W.cell? ⟨wb, 1, none⟩ = some (.pointer (some ⟨qb, 0, none⟩)) ∧ W.cell? ⟨w2.heap.size, 0, none⟩ = some (.int .i64 hot) ∧ W.cell? ⟨w2.heap.size, 1, none⟩ = some (.int .i64 warm)) ((first | with_reducible exact hK1 | with_reducible exact hK0 | go_keep)) ((go_at_call 24; with_reducible refine hnw1.mono ?_; rintro y w4 ⟨xb, rfl, hg4, hx4, hb4⟩; (have hK1 := hCC _ hg4)))
  have hd4 : w4.grownBy w4.drew none := gb_drew (gb_refl _ _)
  have hg5 := gb_trans hg4 hd4
  have hL0 := hCD _ hg5
  have hrn2 := hrn1 _ hg5
  clear hK0 hK1 hnw1 hrn1
  go_wp2
  go_region_held3 (fun W => W.cell? ⟨wb, 4, none⟩ = some (.pointer (some ⟨lb, 0, none⟩)) ∧ W.cell? ⟨w2.heap.size, 0, none⟩ = some (.int .i64 hot) ∧ W.cell? ⟨w2.heap.size, 1, none⟩ = some (.int .i64 warm)) ((first | with_reducible exact hL1 | with_reducible exact hL0 | go_keep)) ((go_at_call 25; with_reducible refine hrn2.mono ?_; rintro y w6 ⟨mb, rfl, hg6, hm6, hb6⟩; (have hL1 := hCD _ (gb_trans hg5 hg6))))
  have hG6 : w1.grownBy w6 none := gb_trans hg3 (gb_trans hg5 hg6)
  have hb46 := (hb4.kept hd4 (by simp)).kept hg6 (by simp)
  have hlt := (hb4.kept hd4 (by simp)).lt
  have sx : w1.heap.size ≤ xb := Nat.le_trans hg3.size hx4
  have hfin := hC.out.ms hG6 sx (show xb < mb by omega) hb46 hb6
  have hB6 := hC.out.box.kept hG6 (by simp)
  have q2 := hB6.cell 2
  have q5 := (hB6.set 2 (.pointer (some ⟨xb, 0, none⟩))).cell 5
  have f2 := hB6.fz 2
  have f5 := (hB6.set 2 (.pointer (some ⟨xb, 0, none⟩))).fz 5
  simp at q2 q5
  have HF : Hid _ := hfin
  clear hfin hL0 hL1 hCC hCD hrn2
  go_wp2_with (go_at_call 26; go_must (refine (num_any _ _).mono ?_); rintro y w' ⟨rfl, rfl⟩)
  go_ret
  exact ⟨wb, sb, qb, gl, gc, F, B, zs, rb, G, Q, lb, lsv, xb, mb, rfl, HF.out.2.2, hC.out.zl, HF.out.1, HF.out.2.1⟩
end Go.Proofs.YtohneboimmcocaaGreat
/-
  The document's marks are set; marks.
-/
namespace Go.Proofs.YtohneboimmcocaaGreat
open Go.RowKit
set_option linter.unusedVariables false

def nox (H : Nat) (xs : List Nat) : List Nat := xs.filter fun x => decide (x ≠ H)
theorem nox_snoc (H : Nat) (xs : List Nat) (i : Nat) (hi : i < xs.length) : nox H (xs.take (i + 1)) = nox H (xs.take i) ++ (if xs[i] = H then [] else [xs[i]]) := by
  rw [List.take_add_one, List.getElem?_eq_getElem hi]
  unfold nox
  rw [List.filter_append]
  congr 1
  by_cases h : xs[i] = H <;> simp [h]
theorem uvs_len (xs : List Nat) : (uvs xs).length = xs.length := by simp [uvs]

set_option maxRecDepth 100000 in
set_option maxHeartbeats 4000000 in
theorem mset_65 {w : World} {mb lb : Nat} {hot warm : Nat} {av : Value} {xs : List Nat} (hb : Box w 104 mb #[.pointer (some ⟨lb, 0, none⟩), .int .i64 hot, .int .i64 warm, av]) (hr : w.ownsRow 0 27 1 av xs.length (uvs xs)) (hl : xs.length ≤ 1000000) (H : Nat) (on : Bool) :
    Calls Tryz.prog 65 #[.pointer (some ⟨mb, 0, none⟩), .int .u64 H, .bool on] w fun y w' => y = .returned (.tuple #[]) ∧ Kp (fun k => k = mb) w w' ∧ ∃ av', Box w' 104 mb #[.pointer (some ⟨lb, 0, none⟩), .int .i64 hot, .int .i64 warm, av'] ∧ w'.ownsRow 0 27 1 av' (nox H xs ++ if on then [H] else []).length (uvs (nox H xs ++ if on then [H] else [])) ∧ (∀ k, av'.ownBlock = some k → w.heap.size ≤ k) := by
  obtain ⟨ao, cc, rfl, hz, _, _, hao⟩ := row_shape hr
  obtain ⟨n, hn⟩ : ∃ n, xs.length = n := ⟨_, rfl⟩
  have hbl := hb.lt
  have hfin : ∀ wr ov ys, w.grownBy wr none → wr.ownsRow w.heap.size 27 1 ov ys.length (uvs ys) → (Kp (fun k => k = mb) w (wr.setCell ⟨mb, 3, none⟩ ov) ∧ ∃ av', Box (wr.setCell ⟨mb, 3, none⟩ ov) 104 mb #[.pointer (some ⟨lb, 0, none⟩), .int .i64 hot, .int .i64 warm, av'] ∧ (wr.setCell ⟨mb, 3, none⟩ ov).ownsRow 0 27 1 av' ys.length (uvs ys) ∧ (∀ k, av'.ownBlock = some k → w.heap.size ≤ k)) := fun wr ov ys hg ho => by
    have hb1 := hb.kept hg (by simp)
    refine ⟨(Kp.of hg).step (gb_setCell (gb_refl _ (some mb)) _) (fun i hi => .inl (by simpa using hi.symm)), ov, hb1.set 3 _, row_base (row_kept ho (gb_setCell (gb_refl _ (some mb)) _) (fun k hk e => ?_)) (Nat.zero_le _), fun k hk => ?_⟩
    · obtain ⟨cur, hc⟩ := row_block ho k hk
      exact ne_of_type hc hb1 (by decide) (by simpa using e)
    · obtain ⟨a2, c2, rfl, _, _, _, _⟩ := row_shape ho
      rcases ho.2 with ⟨h1, _⟩ | ⟨g, cap, cur, h1, h2, _⟩
      · rw [h1] at hk; simp [Value.ownBlock] at hk
      · rw [h1] at hk; simp [Value.ownBlock] at hk; omega
  have c3 := hb.cell 3
  simp at c3
  rw [hn] at c3 hl
  have hCel : ∀ i (hi : i < xs.length), ∀ wr, w.grownBy wr none → ∃ g, ao = some ⟨g, 0, none⟩ ∧ wr.cell? ⟨g, i, none⟩ = some (.int .u64 (xs[i] : Nat)) := fun i hi wr hg => by
    obtain ⟨g, rfl⟩ := hao (by omega)
    have := row_cell hr i _ (uvs_get (List.getElem?_eq_getElem hi))
    exact ⟨g, rfl, gb_cellN hg this⟩
  go_enter Tryz.func65, Tryz.ntmps65
  go_wp2
  go_loopw [6, 7] (fun ov iv wr => ∃ (i : Nat) (ys : List Nat), i ≤ n ∧ iv = .int .i64 i ∧ ys = nox H (xs.take i) ∧ wr.ownsRow w.heap.size 27 1 ov ys.length (uvs ys) ∧ w.grownBy wr none) (fun _ iv _ => n - (intOf iv).toNat)
  case atStart => exact ⟨0, [], by omega, rfl, by simp [nox], World.ownsRow_nil _ _ _ _, gb_refl _ _⟩
  case round =>
    obtain ⟨i, ys, hi, rfl, hys, ho, hg⟩ := hrel
    have hyl : ys.length ≤ n := by rw [hys]; unfold nox; exact Nat.le_trans (List.length_filter_le _ _) (by simp; omega)
    have d3 := gb_cellN hg c3
    have hb1 := hb.kept hg (by simp)
    have f3 := hb1.fz 3
    obtain ⟨oa, oc, rfl, _, _, _, _⟩ := row_shape ho
    by_cases hlt : i < n
    · have hd1 : decide ((i : Int) < n) = true := decide_eq_true (by omega)
      have hli : (i : Int) < n := by omega
      obtain ⟨g, rfl, hcl⟩ := hCel i (by omega) wr hg
      have hsn := nox_snoc H xs i (by omega)
      rw [← hys] at hsn
      obtain ⟨xi, hxi⟩ : ∃ xi, xs[i]'(by omega) = xi := ⟨_, rfl⟩
      rw [hxi] at hcl hsn
      by_cases hx : xi = H
      · have hxx : ((xi : Nat) : Int) = (H : Int) := by omega
        have HE : Hid (ys = nox H (xs.take (i + 1))) := by
          show _ = _
          rw [hsn, if_pos hx]; simp
        clear hsn hys hfin hCel hxi
        go_wp2
        exact ⟨⟨i + 1, ys, by omega, by go_num, HE.out, ho, hg⟩, by simp [intOf]; omega⟩
      · have hxx : ¬ ((xi : Nat) : Int) = (H : Int) := by omega
        have HE : Hid (ys ++ [xi] = nox H (xs.take (i + 1))) := by
          show _ = _
          rw [hsn, if_neg hx]
        have ca : ∀ o, (wr.alloc o).cell? ⟨mb, 3, none⟩ = some (.slice (some ⟨g, 0, none⟩) n cc) := fun o => gb_cellN (World.grownBy_alloc wr o none) d3
        have cb : ∀ o, (wr.alloc o).cell? ⟨g, i, none⟩ = some (.int .u64 xi) := fun o => gb_cellN (World.grownBy_alloc wr o none) hcl
        have hsz := hg.size
        clear hsn hys hfin hCel hxi
        go_wp2_with (at_builtin; go_must (refine push26 rfl _ _ rfl w.heap.size (.slice oa ys.length oc) ys.length (uvs ys) (by rfl) ho (xi : Int) (by rfl) (by omega) hsz ?_); intro g1 cap1 w4 ho4 hg4 hat4)
        have hlo : ∀ k, (Value.slice oa ys.length oc).ownBlock = some k → w.heap.size ≤ k := fun k hk => by
          rcases ho.2 with ⟨h1, _⟩ | ⟨g, cap, cur, h1, h2, _⟩
          · rw [h1] at hk; simp [Value.ownBlock] at hk
          · rw [h1] at hk; simp [Value.ownBlock] at hk; omega
        have hg5 : w.grownBy w4 none := gb_far hg hg4 hlo (Nat.le_refl _)
        exact ⟨⟨i + 1, ys ++ [xi], by omega, by go_num, HE.out, by rw [uvs_app, List.length_append]; exact ho4, hg5⟩, by simp [intOf]; omega⟩
    · obtain rfl : i = n := by omega
      have hd1 : decide ((i : Int) < i) = false := decide_eq_false (by omega)
      have HE : Hid (ys = nox H xs) := by
        show _ = _
        rw [hys, ← hn, List.take_length]
      clear hys hCel
      cases on
      · have HF : Hid _ := hfin wr _ ys hg ho
        clear hfin
        go_wp2
        go_end0
        refine ⟨rfl, ?_⟩
        rw [← HE.out]
        have := HF.out
        simpa using this
      · have hsz := hg.size
        have ca : ∀ o, (wr.alloc o).cell? ⟨mb, 3, none⟩ = some (.slice ao i cc) := fun o => gb_cellN (World.grownBy_alloc wr o none) d3
        have HFF : Hid _ := hfin
        clear hfin
        have hlo : ∀ k, (Value.slice oa ys.length oc).ownBlock = some k → w.heap.size ≤ k := fun k hk => by
          rcases ho.2 with ⟨h1, _⟩ | ⟨g, cap, cur, h1, h2, _⟩
          · rw [h1] at hk; simp [Value.ownBlock] at hk
          · rw [h1] at hk; simp [Value.ownBlock] at hk; omega
        go_wp2_with (at_builtin; go_must (refine push26 rfl _ _ rfl w.heap.size (.slice oa ys.length oc) ys.length (uvs ys) (by rfl) ho (H : Int) (by rfl) (by omega) hsz ?_); intro g1 cap1 w4 ho4 hg4 hat4; (have hg5 : w.grownBy w4 none := gb_far hg hg4 hlo (Nat.le_refl _)); (have e3 := gb_cellN hg5 c3); (have z3 := (hb.kept hg5 (by simp)).fz 3))
        go_end0
        refine ⟨rfl, ?_⟩
        rw [← HE.out]
        have h9 := HFF.out w4 _ (ys ++ [H]) hg5 (by rw [uvs_app, List.length_append]; exact ho4)
        simp only [List.length_append, List.length_cons, List.length_nil, Nat.zero_add] at h9
        exact h9
end Go.Proofs.YtohneboimmcocaaGreat
/-
  The law's World: its state.
-/
namespace Go.Proofs.YtohneboimmcocaaGreat
open Go.RowKit
set_option linter.unusedVariables false

theorem has_two {w : World} {g : Nat} {x y : Int} (h0 : w.cell? ⟨g, 0, none⟩ = some (.int .u8 x)) (h1 : w.cell? ⟨g, 1, none⟩ = some (.int .u8 y)) : Has w (some ⟨g, 0, none⟩) 2 [x, y] := by
  refine ⟨rfl, fun _ => ⟨g, 0, rfl, fun i hi => ?_⟩⟩
  have : i = 0 ∨ i = 1 := by omega
  rcases this with rfl | rfl
  · exact h0
  · exact h1
theorem Has.keptP {w w' : World} {a : Option Addr} {n : Nat} {ys : List Int} {F : Nat → Prop} (h : Has w a n ys) (hK : Kp F w w') (hn : ∀ k, a.map (·.block) = some k → ¬ F k) : Has w' a n ys := by
  refine ⟨h.1, fun h0 => ?_⟩
  obtain ⟨b, o, rfl, hc⟩ := h.2 h0
  refine ⟨b, o, rfl, fun i hi => ?_⟩
  have h1 := hc i hi
  have hlt := World.block_lt_of_cell? _ _ h1
  have hb := hK.block b hlt (hn b rfl)
  simpa [World.cell?, hb] using h1
def keyB (i : Nat) : List Int := [97 + ((i : Int) + 1) % 26, 97 + ((i : Int) + 1) / 26 % 26]
theorem keyB_len (i : Nat) : (keyB i).length = 2 := rfl
theorem keyB_ok (i : Nat) : isBytes (keyB i) ∧ LegalP (keyB i) := by
  constructor
  · intro z hz
    simp [keyB] at hz
    omega
  · refine ⟨by show 1 ≤ 2; omega, by show 2 ≤ 250; omega, fun j hj => ?_⟩
    rw [keyB_len] at hj
    have : j = 0 ∨ j = 1 := by omega
    rcases this with rfl | rfl
    · show 33 ≤ 97 + ((i : Int) + 1) % 26 ∧ 97 + ((i : Int) + 1) % 26 ≠ 127
      omega
    · show 33 ≤ 97 + ((i : Int) + 1) / 26 % 26 ∧ 97 + ((i : Int) + 1) / 26 % 26 ≠ 127
      omega
theorem lkd_new {p n : Nat → Nat} {i : Nat} (h : Lkd p n i) : Lkd (upf p (8 * i + 1) 0) (upf n (8 * i + 1) 0) (i + 1) := fun H hH => by
  by_cases e : H = 8 * i + 1
  · subst e
    exact ⟨.inl (upf_same _ _ _), .inl (upf_same _ _ _)⟩
  · rw [hs_succ] at hH ⊢
    have hH' : H ∈ hs i := by simpa [e] using hH
    obtain ⟨g1, g2⟩ := h H hH'
    rw [upf_ne _ _ e, upf_ne _ _ e]
    exact ⟨g1.imp id (List.mem_append_left _), g2.imp id (List.mem_append_left _)⟩


/-- The item that makes lays. -/
def mrk (i : Nat) : Nat := (i + 1) * 7 % 16
def newT8 (i : Nat) : It := ⟨0, 0, 0, 0, 0, 0, 0, 0, 4, ((mrk i : Nat) : Int), 0, keyB i, []⟩
def bsN8 (bs : Nat → It) (i : Nat) : Nat → It := fun H => if H = 8 * i + 1 then newT8 i else bs H
theorem itl_new8 {zs : List Int} {bs : Nat → It} {p n s : Nat → Nat} {i : Nat} (hI : Itl zs bs p n s i) (hi : i < 64) (hz : zs.length = 16384) :
    Itl (lay (headZ zs (64 * i) 0) (64 * i) (newT8 i).L.flatten) (bsN8 bs i) (upf p (8 * i + 1) 0) (upf n (8 * i + 1) 0) (upf s (8 * i + 1) 4) (i + 1) := by
  have h1 : headZ zs (64 * i) 0 = lay zs (64 * i) (hd0 0) := headZ_lay zs (64 * i) 0 (by omega)
  have hl1 : (headZ zs (64 * i) 0).length = 16384 := by rw [h1, length_lay (by rw [hd0_len]; omega), hz]
  have hTl : (newT8 i).L.flatten.length = 60 := by rw [It.len]; rfl
  intro l hl
  by_cases e : l = i
  · subst e
    have e1 : itm (bsN8 bs l) (upf p (8 * l + 1) 0) (upf n (8 * l + 1) 0) (upf s (8 * l + 1) 4) (8 * l + 1) = newT8 l := by
      unfold itm bsN8
      rw [upf_same, upf_same, upf_same, if_pos rfl]
      rfl
    have e2 : bsN8 bs l (8 * l + 1) = newT8 l := if_pos rfl
    have hm : mrk l < 16 := Nat.mod_lt _ (by decide)
    rw [e1, e2]
    refine ⟨⟨lies_lay (by rw [hTl, hl1]; omega), ?_, ?_, ?_, ?_, ?_, ?_, ?_, ?_, ?_, ?_, ?_, ?_, ?_, (keyB_ok l).1, ?_⟩, by show 58 + 2 + 0 ≤ 64; omega⟩
    all_goals first | (show (0 : Int) ≤ 0 ∧ (0 : Int) < _; omega) | skip
    · show (0 : Int) ≤ 4 ∧ (4 : Int) < 256; omega
    · show (0 : Int) ≤ ((mrk l : Nat) : Int) ∧ ((mrk l : Nat) : Int) < 256; omega
    · show 1 ≤ 2 ∧ 2 ≤ 250; omega
    · show 0 ≤ 1048576; omega
    · intro z hz
      simp [newT8] at hz
  · have hli : l < i := by omega
    obtain ⟨g1, g2⟩ := hI l hli
    have hne : 8 * l + 1 ≠ 8 * i + 1 := by omega
    have e1 : itm (bsN8 bs i) (upf p (8 * i + 1) 0) (upf n (8 * i + 1) 0) (upf s (8 * i + 1) 4) (8 * l + 1) = itm bs p n s (8 * l + 1) := by
      unfold itm bsN8
      rw [upf_ne _ _ hne, upf_ne _ _ hne, upf_ne _ _ hne, if_neg hne]
    have e2 : bsN8 bs i (8 * l + 1) = bs (8 * l + 1) := if_neg hne
    rw [e1, e2]
    have hkk := itm_key bs p n s (8 * l + 1)
    refine ⟨?_, g2⟩
    have g3 : IsI (headZ zs (64 * i) 0) (64 * l) (itm bs p n s (8 * l + 1)) := by
      rw [h1]
      exact g1.far (by rw [hd0_len]; omega) (.inl (by rw [hkk.1, hkk.2]; omega))
    exact g3.far (by rw [hTl, hl1]; omega) (.inl (by rw [hkk.1, hkk.2]; omega))

def Mks (bs : Nat → It) (ma : Nat → Nat) (i : Nat) : Prop := ∀ H, H ∈ hs i → (bs H).ms = (ma H : Int) ∧ ma H ≤ 15
theorem mks_new {bs : Nat → It} {ma : Nat → Nat} {i : Nat} (h : Mks bs ma i) : Mks (bsN8 bs i) (upf ma (8 * i + 1) (mrk i)) (i + 1) := fun H hH => by
  have hm : mrk i < 16 := Nat.mod_lt _ (by decide)
  by_cases e : H = 8 * i + 1
  · subst e
    rw [upf_same]
    unfold bsN8
    rw [if_pos rfl]
    exact ⟨rfl, by omega⟩
  · rw [hs_succ] at hH
    have hH' : H ∈ hs i := by simpa [e] using hH
    rw [upf_ne _ _ e]
    unfold bsN8
    rw [if_neg e]
    exact h H hH'

/-- What the chunks, the lists and the marks are. -/
structure WX (D : Wd) (i : Nat) (S : Lm) (bs : Nat → It) (p n s : Nat → Nat) (fr : Nat) : Prop where
  xl : D.xl = hs i
  xt : D.xt = hs i
  zl : D.zs.length = 16384
  fil : Fil qA D.A 0 i fr
  rf : RFit D.R
  rep : Rep D.A D.R
  itl : Itl D.zs bs p n s i
  lk : Lkd p n i
  li : LI (fun _ => 0) (hs i) p n s D.L S.X
  mks : Mks bs S.ma i
  xa : D.xa.length ≤ i

structure WW8 (w : World) (P : Nat → Prop) (wb xb : Nat) (tv : Value) (i : Nat) (S : Lm) (hot warm : Nat) : Prop where
  i64 : i ≤ 64
  tn : ∀ c k, (S.X c k).length ≤ 1099511627776
  ex : ∃ D bs p n s fr, MS8 w P wb D hot warm ∧ D.xb = xb ∧ D.tv = tv ∧ WX D i S bs p n s fr

section
variable {w : World} {P : Nat → Prop} {wb xb : Nat} {tv : Value} {i : Nat} {S : Lm} {hot warm : Nat}
theorem WW8.kept0 {w' : World} (h : WW8 w P wb xb tv i S hot warm) (hf : w.grownBy w' none) : WW8 w' P wb xb tv i S hot warm := by
  obtain ⟨D, bs, p, n, s, fr, hM, hx⟩ := h.ex
  exact ⟨h.i64, h.tn, D, bs, p, n, s, fr, hM.kept0 hf, hx⟩
theorem qm_of8 {D : Wd} {bs : Nat → It} {p n s : Nat → Nat} {fr : Nat} (h : MS8 w P wb D hot warm) (hx : WX D i S bs p n s fr) (hi : i ≤ 64) : QM w D.sb D.qb D.gl D.gc D.F D.B 4 200 64 256 0 0 D.A D.zs (hs i) bs p n s D.L := by
  have hn : D.A.n = 3 := hx.fil.n
  refine ⟨h.iss, hx.fil.inv, by rw [hn]; exact h.qbx, by rw [hn]; exact h.qrow, fun hF => by have := h.sep.ne (i := 1) (j := 7) hF rfl; omega, fun hF => by have := h.sep.ne (i := 1) (j := 8) hF rfl; omega, fun H hH => ?_, hx.lk⟩
  obtain ⟨l, hl, rfl⟩ := hs_mem.1 hH
  obtain ⟨x, k, g1, g2, g3, g4⟩ := fil_h hx.fil hi hl
  obtain ⟨e1, e2⟩ := hx.itl l hl
  exact ⟨x, k, g1, by rw [g2]; exact e1, by rw [g4]; exact e2⟩
/-- Its lists and marks. -/
theorem WW8.le (h : WW8 w P wb xb tv i S hot warm) : ∃ sb qb gl gc F B A m, LE w xb sb qb gl gc F B 4 200 64 256 0 0 A m (hs i) (fun _ => 0) S hot warm ∧ A.n = 3 ∧ ∀ w' S', LE w' xb sb qb gl gc F B 4 200 64 256 0 0 A m (hs i) (fun _ => 0) S' hot warm → Kp (fun k => F k ∨ k = gl) w w' → WW8 w' P wb xb tv i S' hot warm ∧ Kp P w w' := by
  obtain ⟨D, bs, p, n, s, fr, hM, rfl, rfl, hx⟩ := h.ex
  have hn : D.A.n = 3 := hx.fil.n
  have hq := qm_of8 hM hx h.i64
  refine ⟨D.sb, D.qb, D.gl, D.gc, D.F, D.B, D.A, D.zs, ⟨bs, ⟨fun H hH x y hX => hx.fil.own x hX.hp, h.tn, p, n, s, D.L, ⟨D.zs, Zk.refl _ _ _, hq⟩, hx.li⟩, hM.xbx, fun hF => by have := hM.sep.ne (i := 1) (j := 9) hF rfl; omega, fun e => by have := hM.sep.ne (i := 9) (j := 8) (k := D.gl) e.symm rfl; omega, hx.mks⟩, hn, fun w' S' hL hK => ?_⟩
  obtain ⟨bs', hL'⟩ := hL.ex
  obtain ⟨p', n', s', L', ⟨zs', hz', hq'⟩, hLI'⟩ := hL'.ql.ex
  have hb := hq'.box
  have hr := hq'.row
  rw [hn] at hb hr
  obtain ⟨m1, m2⟩ := hM.stepQ hK hq'.iss hb hr
  exact ⟨⟨h.i64, hL'.ql.tn, _, bs', p', n', s', fr, m1, rfl, rfl, hx.xl, hx.xt, hz'.len.trans hx.zl, hx.fil, hx.rf, hx.rep, itl_of hq' hx.fil h.i64, hq'.lk, hLI', hL'.mks, hx.xa⟩, m2⟩
/-- The box of the World. -/
theorem WW8.cells (h : WW8 w P wb xb tv i S hot warm) : w.cell? ⟨wb, 2, none⟩ = some (.pointer (some ⟨xb, 0, none⟩)) ∧ w.cell? ⟨wb, 6, none⟩ = some tv ∧ w.ownsRow 0 27 1 tv i (uvs (hs i)) := by
  obtain ⟨D, bs, p, n, s, fr, hM, rfl, rfl, hx⟩ := h.ex
  have h1 := hM.trow
  rw [hx.xt, hs_len] at h1
  exact ⟨hM.box.cell 2, hM.box.cell 6, h1⟩
end
end Go.Proofs.YtohneboimmcocaaGreat
