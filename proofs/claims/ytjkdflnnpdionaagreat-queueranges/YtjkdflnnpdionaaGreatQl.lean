import Derived.Test.YtjkdflnnpdionaaGreatQk
import Derived.Test.YtjkdflnnpdionaaGreatNs
import Derived.Deep.RegionHeld3
/-
  QueueRanges: a range under way.
-/
namespace Go.Proofs.YtjkdflnnpdionaaGreat
open Go.RowKit Go.Shelf
set_option linter.unusedVariables false
attribute [local go_sem] Oper.semAt_some

/-- What the body does. -/
def VisIn (w : World) (a : Option Addr) (n : Nat) : Prop :=
  ∀ i, i < n → ∃ b o, a = some ⟨b, o, none⟩ ∧ ∃ (d x y : Int) (ot st : Bool), w.cell? ⟨b, o + i * 5, none⟩ = some (.int .i64 d) ∧ w.cell? ⟨b, o + i * 5 + 1, none⟩ = some (.int .i64 x) ∧ w.cell? ⟨b, o + i * 5 + 2, none⟩ = some (.int .i64 y) ∧ w.cell? ⟨b, o + i * 5 + 3, none⟩ = some (.bool ot) ∧ w.cell? ⟨b, o + i * 5 + 4, none⟩ = some (.bool st)
/-- Between two calls of the script. -/
def Lss (w V : World) (wb j : Nat) (E : Wd) (L : List (TypeId × Nat × Array Value)) : Prop := ∃ P, w.grownBy V none ∧ GS V P wb j E ∧ (∀ k, V.heap.size ≤ k → P k) ∧ (∀ k, P k → w.heap.size ≤ k) ∧ ∀ t b vs, (t, b, vs) ∈ L → Box V t b vs ∧ ¬ P b ∧ w.heap.size ≤ b
section
variable {w V V' : World} {wb j : Nat} {E : Wd} {L : List (TypeId × Nat × Array Value)}
theorem Lss.kept0 (h : Lss w V wb j E L) (hf : V.grownBy V' none) : Lss w V' wb j E L := by
  obtain ⟨P, h1, h2, h3, h4, h5⟩ := h
  exact ⟨P, gb_trans h1 hf, h2.kept0 hf, fun k hk => h3 k (Nat.le_trans hf.size hk), h4, fun t b vs hx => ⟨(h5 t b vs hx).1.kept hf (by simp), (h5 t b vs hx).2⟩⟩
theorem Lss.add (h : Lss w V wb j E L) {t : TypeId} {vs : Array Value} (hf : V.grownBy V' none) {b : Nat} (hb : Box V' t b vs) (hn : V.heap.size ≤ b) : Lss w V' wb j E ((t, b, vs) :: L) := by
  obtain ⟨P, h1, h2, h3, h4, h5⟩ := h
  have hl := hb.lt
  have h0 := h1.size
  refine ⟨fun k => P k ∧ (k < V.heap.size ∨ V'.heap.size ≤ k), gb_trans h1 hf, h2.keptK (G := fun _ => False) (Kp.of hf) (fun _ _ _ hh => hh) (fun k hk hp => ⟨hp, .inl hk⟩), fun k hk => ⟨h3 k (Nat.le_trans hf.size hk), .inr hk⟩, fun k hk => h4 k hk.1, fun t' b' vs' hx => ?_⟩
  rcases List.mem_cons.1 hx with e | hx
  · cases e
    exact ⟨hb, fun hp => by have := hp.2; omega, by omega⟩
  · exact ⟨(h5 t' b' vs' hx).1.kept hf (by simp), fun hp => (h5 t' b' vs' hx).2.1 hp.1, (h5 t' b' vs' hx).2.2⟩
theorem Lss.does (h : Lss w V wb j E L) (hj : j < 255) (o : Opv) (hh : o.h < 18446744073709551616) : Calls Tryz.prog 13 #[.pointer (some ⟨wb, 0, none⟩), .agg o.cs] V fun y V' => y = .returned (.bool true) ∧ Hid (Lss w V' wb (j + 1) E L) := by
  obtain ⟨P, h1, h2, h3, h4, h5⟩ := h
  refine (does_13 h2 h3 hj o hh).mono ?_
  rintro y V' ⟨rfl, hK, hG⟩
  exact ⟨rfl, P, kp_grown h1 (hK.less h4), hG, fun k hk => h3 k (Nat.le_trans hK.size hk), h4, fun t b vs hx => ⟨hK.box (h5 t b vs hx).1 (h5 t b vs hx).2.1, (h5 t b vs hx).2⟩⟩
theorem Lss.rg (h : Lss w V wb j E L) (hj : j ≤ 250) : ∃ P D lsb, SameP E D ∧ Rg w V P wb 250 D lsb L (.slice none 0 0) [] := by
  obtain ⟨P, h1, h2, h3, h4, h5⟩ := h
  obtain ⟨D, lsb, vs, Y, S, cl, hs, hW, hd⟩ := h2
  exact ⟨P, D, lsb, hs, h1, ⟨vs, Y, S, cl, hW.more hj (by omega), hd⟩, h3, h4, h5, World.ownsRow_nil _ _ _ _, fun k hk => by simp [Value.ownBlock] at hk⟩
theorem Lss.qb (h : Lss w V wb j E L) : Cells V wb E := by
  obtain ⟨P, h1, h2, h3, h4, h5⟩ := h
  exact h2.cells
theorem Lss.box (h : Lss w V wb j E L) {t : TypeId} {b : Nat} {vs : Array Value} (hx : (t, b, vs) ∈ L) : Box V t b vs := by
  obtain ⟨P, h1, h2, h3, h4, h5⟩ := h
  exact (h5 t b vs hx).1
theorem Lss.gr (h : Lss w V wb j E L) : w.grownBy V none := by
  obtain ⟨P, h1, _⟩ := h
  exact h1
end

section
variable {w0 V V' : World} {P : Nat → Prop} {wb N : Nat} {D : Wd} {lsb : Nat} {L : List (TypeId × Nat × Array Value)} {rv : Value} {R : List Nat}
theorem Rg.addL (h : Rg w0 V P wb N D lsb L rv R) (hf : V.grownBy V' none) {M : List (TypeId × Nat × Array Value)} (hM : ∀ t b vs, (t, b, vs) ∈ M → Box V' t b vs ∧ V.heap.size ≤ b) : Rg w0 V' (fun k => P k ∧ (k < V.heap.size ∨ V'.heap.size ≤ k)) wb N D lsb (M ++ L) rv R := by
  have h1 := h.grow hf
  have h0 := h.gr.size
  refine ⟨h1.gr, h1.gt, h1.pn, h1.pw, fun t' b' vs' hx => ?_, h1.row, h1.rp⟩
  rcases List.mem_append.1 hx with hx | hx
  · obtain ⟨hb, hn⟩ := hM t' b' vs' hx
    have hl := hb.lt
    exact ⟨hb, fun hp => by have := hp.2; omega, by omega⟩
  · exact h1.bx t' b' vs' hx
theorem Rg.box (h : Rg w0 V P wb N D lsb L rv R) {t : TypeId} {b : Nat} {vs : Array Value} (hx : (t, b, vs) ∈ L) : Box V t b vs := (h.bx t b vs hx).1
end
def ptrOf : Option Value → Nat
  | some (.pointer (some a)) => a.block
  | _ => 0
/-- Where the second loop stands. -/
def Rs (w V : World) (wb n1 : Nat) (E : Wd) (lsb : Nat) (L : List (TypeId × Nat × Array Value)) (ds : List Deferred) : Prop := ∃ P D, Mr E D ∧ Rg w V P wb 250 D lsb L (.slice none 0 0) [] ∧ Dfr n1 ds V
/-- Where a range stands. -/
def Ir (w V : World) (wb n1 : Nat) (D : Wd) (lsb : Nat) (L6 : List (TypeId × Nat × Array Value)) (T nn : Nat) (st : Bool) (rv : Value) (R : List Nat) (ds : List Deferred) (v0 : Nat) : Prop := ∃ P D', Mr D D' ∧ Rg w V P wb 250 D' lsb ((3, T, #[.int .i64 (nn : Int)]) :: (4, T + 1, #[.bool st]) :: L6) rv R ∧ Dfr n1 ds V ∧ v0 ≤ V.heap.size
section
variable {w V V' : World} {wb n1 : Nat} {D : Wd} {lsb : Nat} {L6 : List (TypeId × Nat × Array Value)} {T nn : Nat} {st : Bool} {rv : Value} {R : List Nat} {ds : List Deferred} {v0 : Nat}
theorem Ir.grow (h : Ir w V wb n1 D lsb L6 T nn st rv R ds v0) (hf : V.grownBy V' none) : Ir w V' wb n1 D lsb L6 T nn st rv R ds v0 := by
  obtain ⟨P, D', h1, h2, h3, h4⟩ := h
  exact ⟨_, D', h1, h2.grow hf, h3.grow hf, Nat.le_trans h4 hf.size⟩
theorem Ir.gr (h : Ir w V wb n1 D lsb L6 T nn st rv R ds v0) : w.grownBy V none := by
  obtain ⟨P, D', h1, h2, h3, h4⟩ := h
  exact h2.gr
theorem Ir.sz (h : Ir w V wb n1 D lsb L6 T nn st rv R ds v0) : v0 ≤ V.heap.size := by
  obtain ⟨P, D', h1, h2, h3, h4⟩ := h
  exact h4
theorem Ir.put (h : Ir w V wb n1 D lsb L6 T nn st rv R ds v0) {l : Nat} {o o' : Obj} (hl : V.heap[l]? = some o) (ho : o.isCells = false) (hv : v0 ≤ l) (hw : w.heap.size ≤ v0) (hds : ∀ d, d ∈ ds → ∀ D', d.target = .collected D' → D' < v0) : Ir w (V.putObj l o') wb n1 D lsb L6 T nn st rv R ds v0 := by
  obtain ⟨P, D', h1, h2, h3, h4⟩ := h
  obtain ⟨D2, g1, g2⟩ := h2.put (o' := o') hl ho (by omega)
  exact ⟨P, D2, h1.trans g1, g2, h3.put (fun d hd D' hD' => by have := hds d hd D' hD'; omega), Nat.le_trans h4 (grownBy_putObj' V l o').size⟩
theorem Ir.cells (h : Ir w V wb n1 D lsb L6 T nn st rv R ds v0) : V.cell? ⟨T, 0, none⟩ = some (.int .i64 (nn : Int)) ∧ V.cell? ⟨T + 1, 0, none⟩ = some (.bool st) ∧ V.frozen? ⟨T, 0, none⟩ = false ∧ V.frozen? ⟨T + 1, 0, none⟩ = false := by
  obtain ⟨P, D', h1, h2, h3, h4⟩ := h
  have b1 := h2.box (t := 3) (b := T) (vs := #[.int .i64 (nn : Int)]) (by simp)
  have b2 := h2.box (t := 4) (b := T + 1) (vs := #[.bool st]) (by simp)
  exact ⟨b1.cell 0, b2.cell 0, b1.fz 0, b2.fz 0⟩
theorem Ir.box (h : Ir w V wb n1 D lsb L6 T nn st rv R ds v0) {t : TypeId} {b : Nat} {vs : Array Value} (hx : (t, b, vs) ∈ L6) : Box V t b vs := by
  obtain ⟨P, D', h1, h2, h3, h4⟩ := h
  exact h2.box (by simp [hx])
theorem Ir.row (h : Ir w V wb n1 D lsb L6 T nn st rv R ds v0) : V.ownsRow 0 26 1 rv R.length (uvs R) := by
  obtain ⟨P, D', h1, h2, h3, h4⟩ := h
  exact h2.row
theorem keeps_cell {B b i : Nat} {t : TypeId} {vs : Array Value} {u : Value} (hb : Box V t b vs) : KeepsFrom B V (V.setCell ⟨b, i, none⟩ u) := by
  have hg : V.grownBy (V.setCell ⟨b, i, none⟩ u) (some b) := gb_setCell (gb_refl _ _) _
  refine ⟨hg.size, fun k o hk ho hc => ?_⟩
  have h1 : V.heap[b]? = some (.cells vs t (0, 0)) := hb
  rw [hg.block k (Array.getElem?_eq_some_iff.1 ho).1 (fun e => by
    have e' : k = b := by simpa using e
    rw [e', h1] at ho
    cases ho
    cases hc)]
  exact ho
theorem kd_cell {G : Nat → Prop} {b i : Nat} {t : TypeId} {vs : Array Value} {u : Value} (hb : Box V t b vs) (hG : G b) : KD G V (V.setCell ⟨b, i, none⟩ u) :=
  KD.grown (gb_setCell (gb_refl _ (some b)) _) (fun r hr => by cases hr; exact ⟨hG, _, hb, rfl⟩)
theorem row_nb {V : World} {rv : Value} {R : List Nat} {t : TypeId} {b : Nat} {vs : Array Value} (h : V.ownsRow 0 26 1 rv R.length (uvs R)) (hb : Box V t b vs) (ht : t ≠ 26) : ∀ k, rv.ownBlock = some k → k ≠ b := fun k hk e => by
  obtain ⟨cur, hc⟩ := row_block h k hk
  have h1 : V.heap[b]? = some (.cells vs t (0, 0)) := hb
  rw [e, h1] at hc
  cases hc
  exact ht rfl
/-- n is one more. -/
theorem Ir.next (h : Ir w V wb n1 D lsb L6 T nn st rv R ds v0) {m : Int} (hm : m = ((nn + 1 : Nat) : Int)) (hL : ∀ t b vs, (t, b, vs) ∈ L6 → b < T) {G : Nat → Prop} (hG : G T) : Ir w (V.setCell ⟨T, 0, none⟩ (.int .i64 m)) wb n1 D lsb L6 T (nn + 1) st rv R ds v0 ∧ KeepsFrom v0 V (V.setCell ⟨T, 0, none⟩ (.int .i64 m)) ∧ KD G V (V.setCell ⟨T, 0, none⟩ (.int .i64 m)) := by
  obtain ⟨P, D', h1, h2, h3, h4⟩ := h
  have hb := h2.box (t := 3) (b := T) (vs := #[.int .i64 (nn : Int)]) (by simp)
  have hg : V.grownBy (V.setCell ⟨T, 0, none⟩ (.int .i64 m)) (some T) := gb_setCell (gb_refl _ _) _
  have h5 := h2.set 0 (.int .i64 m) (fun t' b' vs' hx => by
    rcases List.mem_cons.1 hx with e | hx
    · cases e; omega
    · have := hL t' b' vs' hx; omega) (row_nb h2.row hb (by decide))
  subst hm
  exact ⟨⟨P, D', h1, h5, h3.cell hb, Nat.le_trans h4 hg.size⟩, keeps_cell hb, kd_cell hb hG⟩
/-- stopped is true. -/
theorem Ir.stops (h : Ir w V wb n1 D lsb L6 T nn st rv R ds v0) (hL : ∀ t b vs, (t, b, vs) ∈ L6 → b < T) {G : Nat → Prop} (hG : G (T + 1)) : Ir w (V.setCell ⟨T + 1, 0, none⟩ (.bool true)) wb n1 D lsb L6 T nn true rv R ds v0 ∧ KeepsFrom v0 V (V.setCell ⟨T + 1, 0, none⟩ (.bool true)) ∧ KD G V (V.setCell ⟨T + 1, 0, none⟩ (.bool true)) := by
  obtain ⟨P, D', h1, h2, h3, h4⟩ := h
  have hb := h2.box (t := 4) (b := T + 1) (vs := #[.bool st]) (by simp)
  have hg : V.grownBy (V.setCell ⟨T + 1, 0, none⟩ (.bool true)) (some (T + 1)) := gb_setCell (gb_refl _ _) _
  have h2' := h2.sub (L' := (4, T + 1, #[.bool st]) :: (3, T, #[.int .i64 (nn : Int)]) :: L6) (fun x hx => by simp only [List.mem_cons] at hx ⊢; rcases hx with hx | hx | hx <;> simp [hx])
  have h5 := h2'.set 0 (.bool true) (fun t' b' vs' hx => by
    rcases List.mem_cons.1 hx with e | hx
    · cases e; omega
    · have := hL t' b' vs' hx; omega) (row_nb h2.row hb (by decide))
  have h6 := h5.sub (L' := (3, T, #[.int .i64 (nn : Int)]) :: (4, T + 1, #[.bool true]) :: L6) (fun x hx => by simp only [List.mem_cons] at hx ⊢; rcases hx with hx | hx | hx <;> simp [hx])
  exact ⟨⟨P, D', h1, h6, h3.cell hb, Nat.le_trans h4 hg.size⟩, keeps_cell hb, kd_cell hb hG⟩
/-- The visit, in a box of its own. -/
theorem Ir.visit (h : Ir w V wb n1 D lsb L6 T nn st rv R ds v0) (hf : V.grownBy V' none) {bv : Nat} {cs : Array Value} (hb : Box V' 52 bv cs) (hn : V.heap.size ≤ bv) (dv av yv : Int) (ot lv : Bool) {H : Nat} (h64 : H < 18446744073709551616) (hF0 : ∀ k, FB D lsb k → k < v0) {G : Nat → Prop} (hG : ∀ k, FB D lsb k → G k) :
    Calls Tryz.prog 21 #[.pointer (some ⟨wb, 0, none⟩), .agg #[.int .i64 dv, .int .i64 av, .int .i64 yv, .bool ot, .bool lv], .int .u64 H] V' fun y V2 => y = .returned (.bool true) ∧ Box V2 52 bv cs ∧ Hid (Ir w V2 wb n1 D lsb L6 T nn st rv R ds v0 ∧ KeepsFrom v0 V' V2 ∧ KD G V' V2) := by
  obtain ⟨P, D', h1, h2, h3, h4⟩ := h
  have h5 := h2.add hf hb hn
  refine (h5.visit (by omega) dv av yv ot lv h64 h1 hF0 hG).mono ?_
  rintro y V2 ⟨rfl, hK, hKD, hsz, D2, hm2, hR2, _⟩
  have hb2 := hR2.box (t := 52) (b := bv) (vs := cs) (by simp)
  exact ⟨rfl, hb2, ⟨_, D2, hm2, hR2.sub (fun x hx => List.mem_cons_of_mem _ hx), (h3.grow hf).keeps hKD.marks, by have := hf.size; omega⟩, hK, hKD⟩
/-- Behind a range. -/
theorem Ir.rs (h : Ir w V wb n1 D lsb L6 T nn st rv R ds v0) (hf : V.grownBy V' none) {L4 : List (TypeId × Nat × Array Value)} (hs : ∀ x, x ∈ L4 → x ∈ L6) {bk : Nat} {cs : Array Value} (hb : Box V' 3 bk cs) (hn : V.heap.size ≤ bk) {M : Nat} (hM : V.heap[M]? = some (.deferred (some []))) (hM1 : n1 ≤ M) (hM2 : ∀ d, d ∈ ds → ∀ D', d.target = .collected D' → D' < M) : Rs w V' wb n1 D lsb ((3, bk, cs) :: L4) ({ target := .collected M, args := #[] } :: ds) := by
  obtain ⟨P, D', h1, h2, h3, h4⟩ := h
  have h5 := (h2.add hf hb hn).sub (L' := (3, bk, cs) :: L4) (fun x hx => by
    simp only [List.mem_cons] at hx ⊢
    rcases hx with hx | hx
    · exact .inl hx
    · exact .inr (.inr (.inr (hs x hx))))
  refine ⟨_, D', h1, ⟨h5.gr, h5.gt, h5.pn, h5.pw, h5.bx, World.ownsRow_nil _ _ _ _, fun k hk => by simp [Value.ownBlock] at hk⟩, ⟨M, rfl, hM1, ?_, hM2⟩, h3.grow hf⟩
  rw [hf.block M (Array.getElem?_eq_some_iff.1 hM).1 (by simp)]
  exact hM
end
theorem dfr_leaves {w : World} {N t2 : Nat} {tmps : Array Value} (hN : w.heap.size ≤ N) (hres : ∀ W, Box W 4 t2 #[.bool true] → w.grownBy W none → LeavesInM Fence.wide 8 Tryz.prog Tryz.f4 tmps (fun y w' => y = .returned (.bool true) ∧ w.grownBy w' none) [] .returning W) : ∀ (ds : List Deferred) (W : World), Dfr N ds W → Box W 4 t2 #[.bool true] → w.grownBy W none → LeavesInM Fence.wide 8 Tryz.prog Tryz.f4 tmps (fun y w' => y = .returned (.bool true) ∧ w.grownBy w' none) ds .returning W
  | [], W, h, hb, hg => hres W hb hg
  | d :: ds, W, h, hb, hg => by
    obtain ⟨⟨D, h1, h2, h3, h4⟩, h5⟩ := h
    refine ⟨by simp, .inl ⟨D, _, by rw [h1], run_takeDeferred h3, ?_⟩⟩
    have hgp := grownBy_putObj' W D (.deferred none)
    refine dfr_leaves hN hres ds _ (h5.put (fun d' hd' D' hD' => by have := h4 d' hd' D' hD'; omega)) (hb.kept hgp (fun e => ?_)) (gb_mine hg hgp (by omega))
    have e' : t2 = D := by simpa using e
    have h6 : W.heap[t2]? = some (.cells #[.bool true] 4 (0, 0)) := hb
    rw [e', h3] at h6
    cases h6

end Go.Proofs.YtjkdflnnpdionaaGreat
