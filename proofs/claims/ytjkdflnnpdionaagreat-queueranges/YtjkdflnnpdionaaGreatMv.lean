import Derived.Test.YtjkdflnnpdionaaGreatMw
import Derived.Test.YtjkdflnnpdionaaGreatMu
import Derived.Test.YtjkdflnnpdionaaGreatMt
import Derived.Test.YtjkdflnnpdionaaGreatVi
/-
  The law's World in memory.
-/
namespace Go.Proofs.YtjkdflnnpdionaaGreat
open Go.RowKit
set_option linter.unusedVariables false

structure Wd where
  sb : Nat
  qb : Nat
  gl : Nat
  gc : Nat
  rb : Nat
  lb : Nat
  F : Nat → Prop
  G : Nat → Prop
  B : Bl
  A : Ab
  zs : List Int
  Q : Rl
  R : Rb
  lv : Value
  lsv : Value
  tv : Value
  xl : List Nat
  xt : List Nat
  L : Ls
/-- Whose each block is. -/
def Wd.pt (D : Wd) (wb j k : Nat) : Prop := match j with
  | 1 => D.F k
  | 2 => D.G k
  | 3 => D.lv.ownBlock = some k
  | 4 => D.tv.ownBlock = some k
  | 5 => k = wb
  | 6 => k = D.lb
  | 7 => k = D.qb
  | 8 => k = D.gl
  | _ => False
structure Sp8 (P : Nat → Prop) (T : Nat → Nat → Prop) : Prop where
  ex : ∃ c : Nat → Nat, ∀ j k, T j k → c k = j ∧ P k
theorem Sp8.ne {P : Nat → Prop} {T : Nat → Nat → Prop} (h : Sp8 P T) {i j k : Nat} (h1 : T i k) (h2 : T j k) : i = j := by
  obtain ⟨c, hc⟩ := h.ex
  rw [← (hc i k h1).1, ← (hc j k h2).1]
theorem Sp8.inP {P : Nat → Prop} {T : Nat → Nat → Prop} (h : Sp8 P T) {j k : Nat} (h1 : T j k) : P k := by
  obtain ⟨c, hc⟩ := h.ex
  exact (hc j k h1).2
theorem Sp8.new {P : Nat → Prop} {T T' : Nat → Nat → Prop} (h : Sp8 P T) {N : Nat} (hlt : ∀ j k, T j k → k < N) (hN : ∀ k, N ≤ k → P k) (i : Nat) (hs : ∀ j k, T' j k → T j k ∨ (j = i ∧ N ≤ k)) : Sp8 P T' := by
  obtain ⟨c, hc⟩ := h.ex
  refine ⟨fun k => if k < N then c k else i, fun j k hj => ?_⟩
  rcases hs j k hj with h1 | ⟨rfl, h1⟩
  · have h2 := hlt j k h1
    exact ⟨by simp only [if_pos h2]; exact (hc j k h1).1, (hc j k h1).2⟩
  · exact ⟨if_neg (by omega), hN k h1⟩

/-- The World in memory. -/
structure MS8 (w : World) (P : Nat → Prop) (wb : Nat) (D : Wd) : Prop where
  box : Box w 47 wb #[.pointer (some ⟨D.sb, 0, none⟩), .pointer (some ⟨D.qb, 0, none⟩), .pointer (some ⟨D.rb, 0, none⟩), .pointer (some ⟨D.lb, 0, none⟩), D.tv]
  iss : IsS w D.sb D.F D.B 4 200 64 256 0 0 D.A D.zs
  qbx : Box w 118 D.qb #[.pointer (some ⟨D.sb, 0, none⟩), .slice (some ⟨D.gl, 0, none⟩) 3 D.gc]
  qrow : w.ownsRow 0 260 9 (.slice (some ⟨D.gl, 0, none⟩) 3 D.gc) 3 (rng 3 (lsC D.L))
  isr : IsR w D.rb D.G D.Q 200 64 256 D.R
  lbx : Box w 123 D.lb #[.pointer (some ⟨D.rb, 0, none⟩), D.lv, D.lsv]
  lrow : w.ownsRow 0 26 1 D.lv D.xl.length (uvs D.xl)
  trow : w.ownsRow 0 26 1 D.tv D.xt.length (uvs D.xt)
  sep : Sp8 P (D.pt wb)

section
variable {w : World} {P : Nat → Prop} {wb : Nat} {D : Wd}
theorem row_lt {w : World} {t : TypeId} {s n : Nat} {v : Value} {xs : List Value} (h : w.ownsRow 0 t s v n xs) : ∀ k, v.ownBlock = some k → k < w.heap.size := fun k hk => by
  obtain ⟨cur, hc⟩ := row_block h k hk
  exact lt_of_block hc
theorem MS8.gll (h : MS8 w P wb D) : D.gl < w.heap.size := row_lt h.qrow D.gl rfl
theorem MS8.lt (h : MS8 w P wb D) : ∀ j k, D.pt wb j k → k < w.heap.size := by
  intro j k hj
  match j, hj with
  | 1, hj => exact h.iss.lt k hj
  | 2, hj => exact h.isr.lt k hj
  | 3, hj => exact row_lt h.lrow k hj
  | 4, hj => exact row_lt h.trow k hj
  | 5, hj => exact (show k = wb from hj) ▸ h.box.lt
  | 6, hj => exact (show k = D.lb from hj) ▸ h.lbx.lt
  | 7, hj => exact (show k = D.qb from hj) ▸ h.qbx.lt
  | 8, hj => exact (show k = D.gl from hj) ▸ h.gll
theorem MS8.kept0 {w' : World} (h : MS8 w P wb D) (hf : w.grownBy w' none) : MS8 w' P wb D :=
  ⟨h.box.kept hf (by simp), h.iss.kept0 hf, h.qbx.kept hf (by simp), row_kept h.qrow hf (by simp), h.isr.kept0 hf, h.lbx.kept hf (by simp), row_kept h.lrow hf (by simp), row_kept h.trow hf (by simp), h.sep⟩
/-- What is not touched. -/
theorem MS8.nt (h : MS8 w P wb D) {I : Nat → Prop} {j k : Nat} (hj : D.pt wb j k) (hn : ¬ I j) : ¬ ∃ i, I i ∧ D.pt wb i k := fun ⟨i, hi, hp⟩ => hn (h.sep.ne hp hj ▸ hi)
theorem MS8.kp (h : MS8 w P wb D) {w' : World} {I : Nat → Prop} (hK : Kp (fun k => ∃ i, I i ∧ D.pt wb i k) w w') : Kp P w w' := hK.mono (fun k ⟨i, _, hp⟩ => .inl (h.sep.inP hp))
theorem MS8.krow (h : MS8 w P wb D) {w' : World} {I : Nat → Prop} (hK : Kp (fun k => ∃ i, I i ∧ D.pt wb i k) w w') {t : TypeId} {s n : Nat} {v : Value} {xs : List Value} (j : Nat) (hr : w.ownsRow 0 t s v n xs) (hv : ∀ k, v.ownBlock = some k → D.pt wb j k) (hn : ¬ I j) : w'.ownsRow 0 t s v n xs :=
  row_same hr (fun k hk => hK.block k (row_lt hr k hk) (h.nt (hv k hk) hn))
/-- The Set's call. -/
theorem MS8.stepS {w' : World} (h : MS8 w P wb D) (hP : ∀ k, w.heap.size ≤ k → P k) (hK : Kp D.F w w') {F' : Nat → Prop} {B' : Bl} {A' : Ab} {zs' : List Int} (hS : IsS w' D.sb F' B' 4 200 64 256 0 0 A' zs') (hF : ∀ k, F' k → D.F k ∨ w.heap.size ≤ k) : MS8 w' P wb { D with F := F', B := B', A := A', zs := zs' } := by
  have hK1 : Kp (fun k => ∃ i, i = 1 ∧ D.pt wb i k) w w' := hK.mono (fun k hk => .inl ⟨1, rfl, hk⟩)
  refine ⟨hK1.box h.box (h.nt (j := 5) rfl (by decide)), hS, hK1.box h.qbx (h.nt (j := 7) rfl (by decide)), h.krow hK1 8 h.qrow (fun k hk => by simp [Value.ownBlock] at hk; exact hk.symm) (by decide), h.isr.kept hK1 (fun k hk => h.nt (j := 2) hk (by decide)), hK1.box h.lbx (h.nt (j := 6) rfl (by decide)), h.krow hK1 3 h.lrow (fun k hk => hk) (by decide), h.krow hK1 4 h.trow (fun k hk => hk) (by decide), ?_⟩
  refine h.sep.new h.lt hP 1 (fun j k hj => ?_)
  match j, hj with
  | 1, hj => exact (hF k hj).imp id (fun h => ⟨rfl, h⟩)
  | 2, hj => exact .inl hj
  | 3, hj => exact .inl hj
  | 4, hj => exact .inl hj
  | 5, hj => exact .inl hj
  | 6, hj => exact .inl hj
  | 7, hj => exact .inl hj
  | 8, hj => exact .inl hj
/-- The document's Set's call. -/
theorem MS8.stepR {w' : World} (h : MS8 w P wb D) (hP : ∀ k, w.heap.size ≤ k → P k) (hK : Kp D.G w w') {G' : Nat → Prop} {Q' : Rl} {R' : Rb} (hS : IsR w' D.rb G' Q' 200 64 256 R') (hG : ∀ k, G' k → D.G k ∨ w.heap.size ≤ k) : MS8 w' P wb { D with G := G', Q := Q', R := R' } := by
  have hK1 : Kp (fun k => ∃ i, i = 2 ∧ D.pt wb i k) w w' := hK.mono (fun k hk => .inl ⟨2, rfl, hk⟩)
  refine ⟨hK1.box h.box (h.nt (j := 5) rfl (by decide)), h.iss.kept hK1 (fun k hk => h.nt (j := 1) hk (by decide)), hK1.box h.qbx (h.nt (j := 7) rfl (by decide)), h.krow hK1 8 h.qrow (fun k hk => by simp [Value.ownBlock] at hk; exact hk.symm) (by decide), hS, hK1.box h.lbx (h.nt (j := 6) rfl (by decide)), h.krow hK1 3 h.lrow (fun k hk => hk) (by decide), h.krow hK1 4 h.trow (fun k hk => hk) (by decide), ?_⟩
  refine h.sep.new h.lt hP 2 (fun j k hj => ?_)
  match j, hj with
  | 1, hj => exact .inl hj
  | 2, hj => exact (hG k hj).imp id (fun h => ⟨rfl, h⟩)
  | 3, hj => exact .inl hj
  | 4, hj => exact .inl hj
  | 5, hj => exact .inl hj
  | 6, hj => exact .inl hj
  | 7, hj => exact .inl hj
  | 8, hj => exact .inl hj
/-- The document's Lay. -/
theorem MS8.stepL {w' : World} (h : MS8 w P wb D) (hP : ∀ k, w.heap.size ≤ k → P k) (hK : Kp (fun k => k = D.lb ∨ D.lv.ownBlock = some k) w w') {lv' : Value} {xl' : List Nat} (hb : Box w' 123 D.lb #[.pointer (some ⟨D.rb, 0, none⟩), lv', D.lsv]) (hr : w'.ownsRow 0 26 1 lv' xl'.length (uvs xl')) (hl : ∀ k, lv'.ownBlock = some k → D.lv.ownBlock = some k ∨ w.heap.size ≤ k) : MS8 w' P wb { D with lv := lv', xl := xl' } ∧ Kp P w w' := by
  have hK1 : Kp (fun k => ∃ i, (i = 3 ∨ i = 6) ∧ D.pt wb i k) w w' := hK.mono (fun k hk => .inl (by rcases hk with hk | hk; exact ⟨6, .inr rfl, hk⟩; exact ⟨3, .inl rfl, hk⟩))
  refine ⟨⟨hK1.box h.box (h.nt (j := 5) rfl (by decide)), h.iss.kept hK1 (fun k hk => h.nt (j := 1) hk (by decide)), hK1.box h.qbx (h.nt (j := 7) rfl (by decide)), h.krow hK1 8 h.qrow (fun k hk => by simp [Value.ownBlock] at hk; exact hk.symm) (by decide), h.isr.kept hK1 (fun k hk => h.nt (j := 2) hk (by decide)), hb, hr, h.krow hK1 4 h.trow (fun k hk => hk) (by decide), ?_⟩, h.kp hK1⟩
  refine h.sep.new h.lt hP 3 (fun j k hj => ?_)
  match j, hj with
  | 1, hj => exact .inl hj
  | 2, hj => exact .inl hj
  | 3, hj => exact (hl k hj).imp id (fun h => ⟨rfl, h⟩)
  | 4, hj => exact .inl hj
  | 5, hj => exact .inl hj
  | 6, hj => exact .inl hj
  | 7, hj => exact .inl hj
  | 8, hj => exact .inl hj
/-- Told is longer. -/
theorem MS8.stepT {w' : World} (h : MS8 w P wb D) (hP : ∀ k, w.heap.size ≤ k → P k) (hf : w.grownBy w' D.tv.ownBlock) {tv' : Value} {xt' : List Nat} (hr : w'.ownsRow 0 26 1 tv' xt'.length (uvs xt')) (ht : ∀ k, tv'.ownBlock = some k → D.tv.ownBlock = some k ∨ w.heap.size ≤ k) :
    MS8 (w'.setCell ⟨wb, 4, none⟩ tv') P wb { D with tv := tv', xt := xt' } ∧ Box w' 47 wb #[.pointer (some ⟨D.sb, 0, none⟩), .pointer (some ⟨D.qb, 0, none⟩), .pointer (some ⟨D.rb, 0, none⟩), .pointer (some ⟨D.lb, 0, none⟩), D.tv] ∧ Kp P w (w'.setCell ⟨wb, 4, none⟩ tv') ∧ Kp (fun k => k = wb ∨ D.tv.ownBlock = some k) w (w'.setCell ⟨wb, 4, none⟩ tv') := by
  have hb1 : Box w' 47 wb #[.pointer (some ⟨D.sb, 0, none⟩), .pointer (some ⟨D.qb, 0, none⟩), .pointer (some ⟨D.rb, 0, none⟩), .pointer (some ⟨D.lb, 0, none⟩), D.tv] := h.box.kept hf (fun e => by have := h.sep.ne (i := 4) (j := 5) (k := wb) e.symm rfl; omega)
  have hK : Kp (fun k => k = wb ∨ D.tv.ownBlock = some k) w (w'.setCell ⟨wb, 4, none⟩ tv') := ((Kp.refl _ _).step hf (fun i hi => .inl (.inr hi))).step (gb_setCell (gb_refl _ (some wb)) _) (fun i hi => .inl (.inl (by simpa using hi.symm)))
  have hK1 : Kp (fun k => ∃ i, (i = 4 ∨ i = 5) ∧ D.pt wb i k) w (w'.setCell ⟨wb, 4, none⟩ tv') := hK.mono (fun k hk => .inl (by rcases hk with hk | hk; exact ⟨5, .inr rfl, hk⟩; exact ⟨4, .inl rfl, hk⟩))
  refine ⟨⟨hb1.set 4 _, h.iss.kept hK1 (fun k hk => h.nt (j := 1) hk (by decide)), hK1.box h.qbx (h.nt (j := 7) rfl (by decide)), h.krow hK1 8 h.qrow (fun k hk => by simp [Value.ownBlock] at hk; exact hk.symm) (by decide), h.isr.kept hK1 (fun k hk => h.nt (j := 2) hk (by decide)), hK1.box h.lbx (h.nt (j := 6) rfl (by decide)), h.krow hK1 3 h.lrow (fun k hk => hk) (by decide), row_kept hr (gb_setCell (gb_refl _ (some wb)) _) (fun k hk e => ?_), ?_⟩, hb1, h.kp hK1, hK⟩
  · obtain ⟨cur, hc⟩ := row_block hr k hk
    exact ne_of_type hc hb1 (by decide) (by simpa using e)
  · refine h.sep.new h.lt hP 4 (fun j k hj => ?_)
    match j, hj with
    | 1, hj => exact .inl hj
    | 2, hj => exact .inl hj
    | 3, hj => exact .inl hj
    | 4, hj => exact (ht k hj).imp id (fun h => ⟨rfl, h⟩)
    | 5, hj => exact .inl hj
    | 6, hj => exact .inl hj
    | 7, hj => exact .inl hj
    | 8, hj => exact .inl hj
/-- A list's call. -/
theorem MS8.stepQ {w' : World} (h : MS8 w P wb D) (hK : Kp (fun k => D.F k ∨ k = D.gl) w w') {zs' : List Int} {L' : Ls} (hS : IsS w' D.sb D.F D.B 4 200 64 256 0 0 D.A zs') (hb : Box w' 118 D.qb #[.pointer (some ⟨D.sb, 0, none⟩), .slice (some ⟨D.gl, 0, none⟩) 3 D.gc]) (hr : w'.ownsRow 0 260 9 (.slice (some ⟨D.gl, 0, none⟩) 3 D.gc) 3 (rng 3 (lsC L'))) : MS8 w' P wb { D with zs := zs', L := L' } ∧ Kp P w w' := by
  have hK1 : Kp (fun k => ∃ i, (i = 1 ∨ i = 8) ∧ D.pt wb i k) w w' := hK.mono (fun k hk => .inl (by rcases hk with hk | hk; exact ⟨1, .inl rfl, hk⟩; exact ⟨8, .inr rfl, hk⟩))
  exact ⟨⟨hK1.box h.box (h.nt (j := 5) rfl (by decide)), hS, hb, hr, h.isr.kept hK1 (fun k hk => h.nt (j := 2) hk (by decide)), hK1.box h.lbx (h.nt (j := 6) rfl (by decide)), h.krow hK1 3 h.lrow (fun k hk => hk) (by decide), h.krow hK1 4 h.trow (fun k hk => hk) (by decide), h.sep⟩, h.kp hK1⟩
end
end Go.Proofs.YtjkdflnnpdionaaGreat
/-
  The law's World in memory, with the document's nine lists.
-/
namespace Go.Proofs.YtjkdflnnpdionaaGreat
open Go.RowKit
set_option linter.unusedVariables false

/-- The blocks of the nine lists. -/
def Rk (lsb : Nat) (vs : Nat → Value) (k : Nat) : Prop := k = lsb ∨ ∃ j, j < 9 ∧ (vs j).ownBlock = some k
def P8 (P : Nat → Prop) (lsb : Nat) (vs : Nat → Value) (k : Nat) : Prop := P k ∧ ¬ Rk lsb vs k
structure MS9 (w : World) (P : Nat → Prop) (wb : Nat) (D : Wd) (lsb : Nat) (vs : Nat → Value) (Y : Nat → List Nat) : Prop where
  ms : MS8 w (P8 P lsb vs) wb D
  lsv : D.lsv = .slice (some ⟨lsb, 0, none⟩) 9 9
  rl : RL w lsb vs Y
  pr : ∀ k, Rk lsb vs k → P k
/-- A value, or one of new memory. -/
def NewV (N : Nat) (v v' : Value) : Prop := v' = v ∨ ∀ k, v'.ownBlock = some k → N ≤ k
theorem NewV.refl (N : Nat) (v : Value) : NewV N v v := .inl rfl
theorem NewV.trans {N M : Nat} {v v' v'' : Value} (h : NewV N v v') (g : NewV M v' v'') (hN : N ≤ M) : NewV N v v'' := by
  rcases g with rfl | g
  · exact h
  · exact .inr fun k hk => Nat.le_trans hN (g k hk)

section
variable {w : World} {P : Nat → Prop} {wb : Nat} {D : Wd} {lsb : Nat} {vs : Nat → Value} {Y : Nat → List Nat}
theorem RL.lt (h : RL w lsb vs Y) : ∀ k, Rk lsb vs k → k < w.heap.size := by
  rintro k (rfl | ⟨j, hj, hk⟩)
  · exact h.blk.lt
  · exact row_lt (h.ls j hj) k hk
theorem RL.kept {w' : World} {G : Nat → Prop} (h : RL w lsb vs Y) (hK : Kp G w w') (hn : ∀ k, Rk lsb vs k → ¬ G k) : RL w' lsb vs Y :=
  ⟨hK.box h.blk (hn _ (.inl rfl)), fun j hj => row_same (h.ls j hj) (fun k hk => hK.block k (row_lt (h.ls j hj) k hk) (hn k (.inr ⟨j, hj, hk⟩))), h.ln⟩
theorem MS8.kept {w' : World} {G P' : Nat → Prop} (h : MS8 w P wb D) (hK : Kp G w w') (hn : ∀ k, k < w.heap.size → P k → ¬ G k) (hP' : ∀ k, k < w.heap.size → P k → P' k) : MS8 w' P' wb D := by
  have hno : ∀ j k, D.pt wb j k → ¬ G k := fun j k hj => hn k (h.lt j k hj) (h.sep.inP hj)
  have hrow : ∀ {t : TypeId} {s n : Nat} {v : Value} {xs : List Value} (j : Nat) (hr : w.ownsRow 0 t s v n xs) (hv : ∀ k, v.ownBlock = some k → D.pt wb j k), w'.ownsRow 0 t s v n xs := fun j hr hv => row_same hr (fun k hk => hK.block k (row_lt hr k hk) (hno j k (hv k hk)))
  refine ⟨hK.box h.box (hno 5 _ rfl), h.iss.kept hK (fun k hk => hno 1 k hk), hK.box h.qbx (hno 7 _ rfl), hrow 8 h.qrow (fun k hk => by simp [Value.ownBlock] at hk; exact hk.symm), h.isr.kept hK (fun k hk => hno 2 k hk), hK.box h.lbx (hno 6 _ rfl), hrow 3 h.lrow (fun k hk => hk), hrow 4 h.trow (fun k hk => hk), ?_⟩
  obtain ⟨c, hc⟩ := h.sep.ex
  exact ⟨c, fun j k hj => ⟨(hc j k hj).1, hP' k (h.lt j k hj) (hc j k hj).2⟩⟩
theorem MS9.kept0 {w' : World} (h : MS9 w P wb D lsb vs Y) (hf : w.grownBy w' none) : MS9 w' P wb D lsb vs Y :=
  ⟨h.ms.kept0 hf, h.lsv, h.rl.kept0 hf, h.pr⟩
theorem MS9.hP (h : MS9 w P wb D lsb vs Y) (hP : ∀ k, w.heap.size ≤ k → P k) : ∀ k, w.heap.size ≤ k → P8 P lsb vs k := fun k hk => ⟨hP k hk, fun hR => by have := h.rl.lt k hR; omega⟩
/-- What is not the lists' is turned. -/
theorem MS9.step {w' : World} {D' : Wd} (h : MS9 w P wb D lsb vs Y) (hM : MS8 w' (P8 P lsb vs) wb D') (hK : Kp (P8 P lsb vs) w w') (hl : D'.lsv = D.lsv) : MS9 w' P wb D' lsb vs Y ∧ Kp P w w' :=
  ⟨⟨hM, hl.trans h.lsv, h.rl.kept hK (fun k hR hP => hP.2 hR), h.pr⟩, hK.mono (fun k hk => .inl hk.1)⟩
theorem MS9.stepS {w' : World} (h : MS9 w P wb D lsb vs Y) (hP : ∀ k, w.heap.size ≤ k → P k) (hK : Kp D.F w w') {F' : Nat → Prop} {B' : Bl} {A' : Ab} {zs' : List Int} (hS : IsS w' D.sb F' B' 4 200 64 256 0 0 A' zs') (hF : ∀ k, F' k → D.F k ∨ w.heap.size ≤ k) : MS9 w' P wb { D with F := F', B := B', A := A', zs := zs' } lsb vs Y ∧ Kp P w w' :=
  h.step (h.ms.stepS (h.hP hP) hK hS hF) (hK.mono (fun k hk => .inl (h.ms.sep.inP (j := 1) hk))) rfl
theorem MS9.stepR {w' : World} (h : MS9 w P wb D lsb vs Y) (hP : ∀ k, w.heap.size ≤ k → P k) (hK : Kp D.G w w') {G' : Nat → Prop} {Q' : Rl} {R' : Rb} (hS : IsR w' D.rb G' Q' 200 64 256 R') (hG : ∀ k, G' k → D.G k ∨ w.heap.size ≤ k) : MS9 w' P wb { D with G := G', Q := Q', R := R' } lsb vs Y ∧ Kp P w w' :=
  h.step (h.ms.stepR (h.hP hP) hK hS hG) (hK.mono (fun k hk => .inl (h.ms.sep.inP (j := 2) hk))) rfl
theorem MS9.stepL {w' : World} (h : MS9 w P wb D lsb vs Y) (hP : ∀ k, w.heap.size ≤ k → P k) (hK : Kp (fun k => k = D.lb ∨ D.lv.ownBlock = some k) w w') {lv' : Value} {xl' : List Nat} (hb : Box w' 123 D.lb #[.pointer (some ⟨D.rb, 0, none⟩), lv', D.lsv]) (hr : w'.ownsRow 0 26 1 lv' xl'.length (uvs xl')) (hl : ∀ k, lv'.ownBlock = some k → D.lv.ownBlock = some k ∨ w.heap.size ≤ k) : MS9 w' P wb { D with lv := lv', xl := xl' } lsb vs Y ∧ Kp P w w' := by
  obtain ⟨h1, h2⟩ := h.ms.stepL (h.hP hP) hK hb hr hl
  exact h.step h1 h2 rfl
theorem MS9.stepT {w' : World} (h : MS9 w P wb D lsb vs Y) (hP : ∀ k, w.heap.size ≤ k → P k) (hf : w.grownBy w' D.tv.ownBlock) {tv' : Value} {xt' : List Nat} (hr : w'.ownsRow 0 26 1 tv' xt'.length (uvs xt')) (ht : ∀ k, tv'.ownBlock = some k → D.tv.ownBlock = some k ∨ w.heap.size ≤ k) :
    MS9 (w'.setCell ⟨wb, 4, none⟩ tv') P wb { D with tv := tv', xt := xt' } lsb vs Y ∧ Box w' 47 wb #[.pointer (some ⟨D.sb, 0, none⟩), .pointer (some ⟨D.qb, 0, none⟩), .pointer (some ⟨D.rb, 0, none⟩), .pointer (some ⟨D.lb, 0, none⟩), D.tv] ∧ Kp P w (w'.setCell ⟨wb, 4, none⟩ tv') ∧ Kp (fun k => k = wb ∨ D.tv.ownBlock = some k) w (w'.setCell ⟨wb, 4, none⟩ tv') := by
  obtain ⟨h1, h2, h3, h4⟩ := h.ms.stepT (h.hP hP) hf hr ht
  obtain ⟨g1, g2⟩ := h.step h1 h3 rfl
  exact ⟨g1, h2, g2, h4⟩
theorem MS9.stepQ {w' : World} (h : MS9 w P wb D lsb vs Y) (hK : Kp (fun k => D.F k ∨ k = D.gl) w w') {zs' : List Int} {L' : Ls} (hS : IsS w' D.sb D.F D.B 4 200 64 256 0 0 D.A zs') (hb : Box w' 118 D.qb #[.pointer (some ⟨D.sb, 0, none⟩), .slice (some ⟨D.gl, 0, none⟩) 3 D.gc]) (hr : w'.ownsRow 0 260 9 (.slice (some ⟨D.gl, 0, none⟩) 3 D.gc) 3 (rng 3 (lsC L'))) : MS9 w' P wb { D with zs := zs', L := L' } lsb vs Y ∧ Kp P w w' := by
  obtain ⟨h1, h2⟩ := h.ms.stepQ hK hS hb hr
  exact h.step h1 h2 rfl

/-- The document's lists. -/
structure DS (w : World) (lb rb lsb : Nat) (lv : Value) (vs : Nat → Value) (Y : Nat → List Nat) (szb szc : Nat) : Prop where
  rq : RQ w lb rb lsb lv vs Y szb szc
  nl : rb ≠ lsb
theorem MS9.ds (h : MS9 w P wb D lsb vs Y) (hR : RFit D.R) (h3 : D.R.n = 3) : ∃ szb szc, DS w D.lb D.rb lsb D.lv vs Y szb szc := by
  obtain ⟨sb, sc, ob, oc, vb, vc, hsv, hov, hrv⟩ := h.ms.isr.shapes hR.n0 hR.m0
  have c5 := h.ms.isr.sc 5
  simp [rset, hsv] at c5
  rw [h3] at c5
  have hb := h.ms.lbx
  rw [h.lsv] at hb
  refine ⟨sb, sc, ⟨hb, h.rl, c5⟩, fun e => ?_⟩
  have := h.ms.sep.inP (j := 2) (k := D.rb) h.ms.isr.fb
  exact this.2 (.inl e)
/-- The document's side is turned. -/
theorem MS9.stepD {w' : World} (h : MS9 w P wb D lsb vs Y) (hP : ∀ k, w.heap.size ≤ k → P k) (hK : Kp (fun k => k = lsb) w w') {vs' : Nat → Value} {Y' : Nat → List Nat} {szb szc : Nat} (hD : DS w' D.lb D.rb lsb D.lv vs' Y' szb szc) (hv : ∀ i, i < 9 → NewV w.heap.size (vs i) (vs' i)) :
    MS9 w' P wb D lsb vs' Y' ∧ Kp P w w' := by
  have hM := h.ms
  have hno : ∀ j k, D.pt wb j k → ¬ k = lsb := fun j k hj e => (hM.sep.inP hj).2 (.inl e)
  have hrow : ∀ {t : TypeId} {s n : Nat} {v : Value} {xs : List Value} (j : Nat) (hr : w.ownsRow 0 t s v n xs) (hv : ∀ k, v.ownBlock = some k → D.pt wb j k), w'.ownsRow 0 t s v n xs := fun j hr hv => row_same hr (fun k hk => hK.block k (row_lt hr k hk) (hno j k (hv k hk)))
  have hlb : D.lsv = .slice (some ⟨lsb, 0, none⟩) 9 9 := h.lsv
  refine ⟨⟨⟨hK.box hM.box (hno 5 _ rfl), hM.iss.kept hK (fun k hk => hno 1 k hk), hK.box hM.qbx (hno 7 _ rfl), hrow 8 hM.qrow (fun k hk => by simp [Value.ownBlock] at hk; exact hk.symm), hM.isr.kept hK (fun k hk => hno 2 k hk), ?_, hrow 3 hM.lrow (fun k hk => hk), hrow 4 hM.trow (fun k hk => hk), ?_⟩, h.lsv, hD.rq.rl, ?_⟩, ?_⟩
  · rw [hlb]
    exact hD.rq.box
  · obtain ⟨c, hc⟩ := hM.sep.ex
    refine ⟨c, fun j k hj => ⟨(hc j k hj).1, (hc j k hj).2.1, fun hR => (hc j k hj).2.2 ?_⟩⟩
    have h2 := hM.lt j k hj
    rcases hR with rfl | ⟨i, hi, hb⟩
    · exact .inl rfl
    · rcases hv i hi with e | e
      · rw [e] at hb; exact .inr ⟨i, hi, hb⟩
      · have := e k hb; omega
  · rintro k (rfl | ⟨i, hi, hb⟩)
    · exact h.pr _ (.inl rfl)
    · rcases hv i hi with e | e
      · rw [e] at hb; exact h.pr k (.inr ⟨i, hi, hb⟩)
      · exact hP k (e k hb)
  · refine hK.mono (fun k hk => .inl ?_)
    subst hk
    exact h.pr _ (.inl rfl)
end
end Go.Proofs.YtjkdflnnpdionaaGreat
