import Derived.Test.YtndjimdegkdljaaE
import Derived.Great.Walk
import Derived.Deep.CutRange
import Derived.Deep.RegionLaw
import Derived.BigRegion
/-
  A disk of the program in memory.
-/
namespace Go.Proofs.Ytndjimdegkdljaa
open Go.RowKit Go.MapKept
set_option linter.unusedVariables false
set_option linter.unusedSimpArgs false
attribute [local go_sem] Oper.semAt_some

/-! ### A plan -/
abbrev fvl (f : Flt) : Value := .agg #[.int .i64 f.step, .int .i64 f.kind, .int .i64 f.part]
def fvo : Option Flt → Flt
  | some f => f
  | none => ⟨0, 0, 0⟩
structure PlR (es : Array MapEntry) (plan : Int → Option Flt) : Prop where
  dn : ∀ e ∈ es.toList, ∃ i f, e.key = .int .i64 i ∧ e.val = fvl f ∧ plan i = some f
  up : ∀ i f, plan i = some f → ∃ e ∈ es.toList, e.key = .int .i64 i ∧ e.val = fvl f
def PlM (w : World) (v : Value) (plan : Int → Option Flt) : Prop :=
  (v = .map none ∧ ∀ i, plan i = none) ∨ ∃ b es clock, v = .map (some b) ∧ w.heap[b]? = some (.map es clock) ∧ Stamped es clock ∧ PlR es plan
theorem PlM.same {w w' : World} {v : Value} {plan : Int → Option Flt} (h : PlM w v plan) (e : ∀ b, v = .map (some b) → w'.heap[b]? = w.heap[b]?) : PlM w' v plan := by
  rcases h with h | ⟨b, es, cl, h1, h2, h3⟩
  · exact .inl h
  · exact .inr ⟨b, es, cl, h1, (e b h1).trans h2, h3⟩
theorem key3 (i : Int) : IsKey (.int .i64) (.int .i64 i) := rfl
theorem zero117 (w : World) : (zeroValue 117).run Try.prog w = .ok (fvl ⟨0, 0, 0⟩) w := by kernel_rfl
theorem pl_look {w : World} {v : Value} {plan : Int → Option Flt} (h : PlM w v plan) (i : Int) : (Instr.lookup 72 v (.int .i64 i) false).run Try.prog w = .ok (fvl (fvo (plan i))) w := by
  rcases h with ⟨rfl, h0⟩ | ⟨b, es, cl, rfl, hb, hs, hr⟩
  · rw [h0]
    simp [Instr.lookup, run_underlying Try.underlying72, Go.MapKept.run_checkKey Try.underlying3 (key3 i), Instr.findKey, Instr.findNow, run_underlying Try.underlying3, zero117, Result.andThen, fvo]
  · have hk : ∀ x ∈ es.toList, IsKey (.int .i64) x.key := fun x hx => by
      obtain ⟨j, f, h1, _⟩ := hr.dn x hx
      rw [h1]; exact key3 j
    rcases findNow_spec (key3 i) es.toList 0 hk with ⟨h1, h2⟩ | ⟨j, e, h1, h2, h3⟩
    · have hm : plan i = none := by
        cases hm : plan i with
        | none => rfl
        | some f =>
          obtain ⟨x, hx, a1, _⟩ := hr.up i f hm
          exact absurd a1 (h2 x hx)
      rw [hm]
      simp [Instr.lookup, run_underlying Try.underlying72, Go.MapKept.run_getObj_map hb, Go.MapKept.run_checkKey Try.underlying3 (key3 i), Go.MapKept.run_findKey Try.underlying3 h1, zero117, Result.andThen, fvo]
    · obtain ⟨i', f, a1, a2, a3⟩ := hr.dn e (List.mem_of_getElem? h2)
      have : i' = i := by rw [a1] at h3; injection h3
      subst this
      rw [a3]
      simp [Instr.lookup, run_underlying Try.underlying72, Go.MapKept.run_getObj_map hb, Go.MapKept.run_checkKey Try.underlying3 (key3 i'), Go.MapKept.run_findKey Try.underlying3 h1, Result.andThen, fvo, a2]

/-! ### The disk -/
/-- Where a disk lies; col: the colours of its blocks (0: not one of them). -/
structure Pl where
  d : Nat
  bn : Nat
  bs : Nat
  pl : Value
  cv : Value
  fb : Nat → Nat
  rv : Nat → Value
  col : Nat → Nat
abbrev dkA (p : Pl) (M : Md) : Array Value := #[.int .i64 M.space, .int .i64 (M.acts : Int), .int .i64 (M.files.length : Int), .bool (!M.dark), p.pl, .map (some p.bn), .map (some p.bs), p.cv]
structure FlM (w : World) (p : Pl) (k : Nat) (f : Bs × Nat) : Prop where
  box : Box w 109 (p.fb k) #[.int .i64 (k : Int), p.rv k, .int .i64 (f.2 : Int)]
  row : w.ownsRow 0 5 1 (p.rv k) f.1.length (f.1.map b8)
structure RP (w : World) (p : Pl) (M : Md) : Prop where
  box : Box w 75 p.d (dkA p M)
  nm : NmM w p.bn p.fb M.names
  sf : NmM w p.bs p.fb M.safe
  pl : PlM w p.pl M.plan
  ch : w.ownsRow 0 107 3 p.cv M.ch.length (M.ch.flatMap (chL p.fb))
  fl : ∀ k f, Reach M k → M.files[k]? = some f → FlM w p k f
  cd : p.col p.d = 1
  cn : p.col p.bn = 2
  cs : p.col p.bs = 3
  cp : ∀ b, p.pl = .map (some b) → p.col b = 4
  cc : ∀ b, p.cv.ownBlock = some b → p.col b = 5
  cf : ∀ k, Reach M k → p.col (p.fb k) = 10 + 2 * k
  cr : ∀ k b, Reach M k → (p.rv k).ownBlock = some b → p.col b = 11 + 2 * k
  lt : ∀ b, p.col b ≠ 0 → b < w.heap.size
  ok : M.Ok
/-- What a call does nw memory: only the disk's own blocks, and new ones. -/
structure Aft (w w' : World) (p p' : Pl) : Prop where
  kp : Kp (fun b => p.col b ≠ 0) w w'
  d : p'.d = p.d
  col : ∀ b, b < w.heap.size → p'.col b ≠ 0 → p.col b ≠ 0
theorem Aft.refl (w : World) (p : Pl) : Aft w w p p := ⟨Kp.refl _ _, rfl, fun _ _ h => h⟩
theorem Aft.trans {w w1 w2 : World} {p p1 p2 : Pl} (h : Aft w w1 p p1) (k : Aft w1 w2 p1 p2) : Aft w w2 p p2 := by
  refine ⟨h.kp.trans k.kp (fun _ h => h) (fun b hb => ?_), k.d.trans h.d, fun b hb hc => h.col b hb (k.col b (Nat.lt_of_lt_of_le hb h.kp.size) hc)⟩
  rcases Nat.lt_or_ge b w.heap.size with hl | hl
  · exact .inl (h.col b hl hb)
  · exact .inr hl
theorem Aft.of {w w' : World} {p : Pl} (h : w.grownBy w' none) : Aft w w' p p := ⟨Kp.of h, rfl, fun _ _ h => h⟩
/-- Nothing of the disk was written. -/
theorem RP.keep {w w' : World} {p : Pl} {M : Md} (h : RP w p M) (hk : ∀ b, p.col b ≠ 0 → w'.heap[b]? = w.heap[b]?) (hs : w.heap.size ≤ w'.heap.size) : RP w' p M where
  box := (hk p.d (by rw [h.cd]; decide)).trans h.box
  nm := h.nm.same (hk p.bn (by rw [h.cn]; decide))
  sf := h.sf.same (hk p.bs (by rw [h.cs]; decide))
  pl := h.pl.same (fun b hb => hk b (by rw [h.cp b hb]; decide))
  ch := row_same h.ch (fun b hb => hk b (by rw [h.cc b hb]; decide))
  fl := fun k f hr hf => ⟨(hk _ (by rw [h.cf k hr]; omega)).trans (h.fl k f hr hf).box, row_same (h.fl k f hr hf).row (fun b hb => hk b (by rw [h.cr k b hr hb]; omega))⟩
  cd := h.cd
  cn := h.cn
  cs := h.cs
  cp := h.cp
  cc := h.cc
  cf := h.cf
  cr := h.cr
  lt := fun b hb => Nat.lt_of_lt_of_le (h.lt b hb) hs
  ok := h.ok
theorem RP.gb {w w' : World} {p : Pl} {M : Md} (h : RP w p M) (hg : w.grownBy w' none) : RP w' p M := h.keep (fun b hb => hg.block b (h.lt b hb) (by simp)) hg.size
theorem RP.kp {w w' : World} {p : Pl} {M : Md} (h : RP w p M) {F : Nat → Prop} (hg : Kp F w w') (hF : ∀ b, p.col b ≠ 0 → ¬ F b) : RP w' p M := h.keep (fun b hb => hg.block b (h.lt b hb) (hF b hb)) hg.size

/-- Of the disk its own box alone was written. -/
theorem RP.turn {w w' : World} {p : Pl} {M M' : Md} (h : RP w p M) (hb : Box w' 75 p.d (dkA p M')) (hg : Kp (fun b => b = p.d) w w') (e1 : M'.safe = M.safe) (e2 : M'.ch = M.ch) (e3 : M'.files = M.files) (e4 : M'.plan = M.plan) (ok : M'.Ok) : RP w' p M' := by
  have hk : ∀ b, p.col b ≠ 0 → b ≠ p.d → w'.heap[b]? = w.heap[b]? := fun b hb hn => hg.block b (h.lt b hb) hn
  have en : M'.names = M.names := by unfold Md.names; rw [e1, e2]
  have er : ∀ k, Reach M' k → Reach M k := fun k hr => by unfold Reach at hr ⊢; rw [e1, e2] at hr; exact hr
  have nd : ∀ b, p.col b ≠ 1 → b ≠ p.d := fun b hb e => hb (by rw [e, h.cd])
  exact {
    box := hb
    nm := by rw [en]; exact h.nm.same (hk p.bn (by rw [h.cn]; decide) (nd _ (by rw [h.cn]; decide)))
    sf := by rw [e1]; exact h.sf.same (hk p.bs (by rw [h.cs]; decide) (nd _ (by rw [h.cs]; decide)))
    pl := by rw [e4]; exact h.pl.same (fun b hb => hk b (by rw [h.cp b hb]; decide) (nd _ (by rw [h.cp b hb]; decide)))
    ch := by rw [e2]; exact row_same h.ch (fun b hb => hk b (by rw [h.cc b hb]; decide) (nd _ (by rw [h.cc b hb]; decide)))
    fl := fun k f hr hf => by
      rw [e3] at hf
      have hr := er k hr
      exact ⟨(hk _ (by rw [h.cf k hr]; omega) (nd _ (by rw [h.cf k hr]; omega))).trans (h.fl k f hr hf).box, row_same (h.fl k f hr hf).row (fun b hb => hk b (by rw [h.cr k b hr hb]; omega) (nd _ (by rw [h.cr k b hr hb]; omega)))⟩
    cd := h.cd
    cn := h.cn
    cs := h.cs
    cp := h.cp
    cc := h.cc
    cf := fun k hr => h.cf k (er k hr)
    cr := fun k b hr => h.cr k b (er k hr)
    lt := fun b hb => Nat.lt_of_lt_of_le (h.lt b hb) hg.size
    ok := ok }
theorem Md.Ok.act {M : Md} (h : M.Ok) (ha : M.acts < 100000) : ({ M with acts := M.acts + 1 } : Md).Ok :=
  ⟨h.s0, h.s1, h.sf, h.cf, h.cs, h.fl, Nat.le_succ_of_le h.nf, Nat.le_succ_of_le h.nc, ha, fun f hf => Nat.le_trans (h.nb f hf) (Nat.mul_le_mul_right _ (Nat.le_succ _))⟩
set_option maxRecDepth 100000 in
set_option maxHeartbeats 4000000 in
theorem begin_62 {w : World} {p : Pl} {M : Md} (h : RP w p M) (ha : M.acts < 100000) :
    Calls Try.prog 62 #[pv p.d] w fun e w' => e = .returned (fvl (fvo (M.plan ((M.acts + 1 : Nat) : Int)))) ∧ RP w' p { M with acts := M.acts + 1 } ∧ Kp (fun b => b = p.d) w w' := by
  have c1 : w.cell? ⟨p.d, 1, none⟩ = some (.int .i64 (M.acts : Int)) := h.box.cell 1
  have f1 : w.frozen? ⟨p.d, 1, none⟩ = false := h.box.fz 1
  have c4 : w.cell? ⟨p.d, 4, none⟩ = some p.pl := h.box.cell 4
  have hlt := h.box.lt
  have hn1 : ¬ p.d = w.heap.size := by omega
  have hn2 : ¬ w.heap.size = p.d := by omega
  have hw1 : IntKind.i64.wrap ((M.acts : Int) + 1) = (M.acts : Int) + 1 := by rw [IntKind.wrap_i64]; omega
  obtain ⟨W, hW⟩ : ∃ W, (w.setCell ⟨p.d, 1, none⟩ (.int .i64 ((M.acts : Int) + 1))).alloc (.cells #[.int .i64 0, .int .i64 0, .int .i64 0] 117) = W := ⟨_, rfl⟩
  have HB : Hid (RP W p { M with acts := M.acts + 1 } ∧ Kp (fun b => b = p.d) w W ∧ Box W 117 w.heap.size #[.int .i64 0, .int .i64 0, .int .i64 0]) := by
    subst hW
    have g1 : w.grownBy (w.setCell ⟨p.d, 1, none⟩ (.int .i64 ((M.acts : Int) + 1))) (some p.d) := gb_setCell (gb_refl _ _) _
    have g2 := gb_alloc g1 (.cells #[.int .i64 0, .int .i64 0, .int .i64 0] 117)
    have hk : Kp (fun b => b = p.d) w _ := (Kp.refl _ w).step g2 (fun i hi => .inl (Option.some.inj hi).symm)
    refine ⟨h.turn (Box.kept (h.box.set 1 _) (gb_alloc (gb_refl _ none) _) (by simp)) hk rfl rfl rfl rfl (h.ok.act ha), hk, ?_⟩
    have := Box.new (w.setCell ⟨p.d, 1, none⟩ (.int .i64 ((M.acts : Int) + 1))) 117 #[.int .i64 0, .int .i64 0, .int .i64 0]
    rwa [show (w.setCell ⟨p.d, 1, none⟩ (.int .i64 ((M.acts : Int) + 1))).heap.size = w.heap.size by simp] at this
  have HLT := Lib.hid h.lt
  go_enter Try.func62, Try.ntmps62
  go_upto_region 2 with fail
  go_wp2
  have e1 : W.cell? ⟨p.d, 1, none⟩ = some (.int .i64 ((M.acts : Int) + 1)) := HB.out.1.box.cell 1
  have e4 : W.cell? ⟨p.d, 4, none⟩ = some p.pl := HB.out.1.box.cell 4
  have b0 : W.cell? ⟨w.heap.size, 0, none⟩ = some (.int .i64 0) := HB.out.2.2.cell 0
  have b1 : W.cell? ⟨w.heap.size, 1, none⟩ = some (.int .i64 0) := HB.out.2.2.cell 1
  have b2 : W.cell? ⟨w.heap.size, 2, none⟩ = some (.int .i64 0) := HB.out.2.2.cell 2
  have f0 : W.frozen? ⟨w.heap.size, 0, none⟩ = false := HB.out.2.2.fz 0
  have f1 : W.frozen? ⟨w.heap.size, 1, none⟩ = false := HB.out.2.2.fz 1
  have f2 : W.frozen? ⟨w.heap.size, 2, none⟩ = false := HB.out.2.2.fz 2
  have lk := pl_look HB.out.1.pl ((M.acts : Int) + 1)
  have lk2 := pl_look (w := W.drew) HB.out.1.pl ((M.acts : Int) + 1)
  clear c1 c4 h hW hlt
  go_region
  go_wp2
  have hB3 : Box ((((W.setCell ⟨w.heap.size, 0, none⟩ (.int .i64 (fvo (M.plan ((M.acts : Int) + 1))).step)).setCell ⟨w.heap.size, 1, none⟩ (.int .i64 (fvo (M.plan ((M.acts : Int) + 1))).kind)).setCell ⟨w.heap.size, 2, none⟩ (.int .i64 (fvo (M.plan ((M.acts : Int) + 1))).part)).drew) 117 w.heap.size #[.int .i64 (fvo (M.plan ((M.acts : Int) + 1))).step, .int .i64 (fvo (M.plan ((M.acts : Int) + 1))).kind, .int .i64 (fvo (M.plan ((M.acts : Int) + 1))).part] := ((HB.out.2.2.set 0 _).set 1 _).set 2 _
  have g3 : W.grownBy ((((W.setCell ⟨w.heap.size, 0, none⟩ (.int .i64 (fvo (M.plan ((M.acts : Int) + 1))).step)).setCell ⟨w.heap.size, 1, none⟩ (.int .i64 (fvo (M.plan ((M.acts : Int) + 1))).kind)).setCell ⟨w.heap.size, 2, none⟩ (.int .i64 (fvo (M.plan ((M.acts : Int) + 1))).part)).drew) (some w.heap.size) := gb_drew (gb_setCell (i := 2) (gb_setCell (i := 1) (gb_setCell (i := 0) (gb_refl W (some w.heap.size)) _) _) _)
  generalize (((W.setCell ⟨w.heap.size, 0, none⟩ (.int .i64 (fvo (M.plan ((M.acts : Int) + 1))).step)).setCell ⟨w.heap.size, 1, none⟩ (.int .i64 (fvo (M.plan ((M.acts : Int) + 1))).kind)).setCell ⟨w.heap.size, 2, none⟩ (.int .i64 (fvo (M.plan ((M.acts : Int) + 1))).part)).drew = V at *
  have r0 : V.cell? ⟨w.heap.size, 0, none⟩ = some (.int .i64 (fvo (M.plan ((M.acts : Int) + 1))).step) := hB3.cell 0
  have r1 : V.cell? ⟨w.heap.size, 1, none⟩ = some (.int .i64 (fvo (M.plan ((M.acts : Int) + 1))).kind) := hB3.cell 1
  have r2 : V.cell? ⟨w.heap.size, 2, none⟩ = some (.int .i64 (fvo (M.plan ((M.acts : Int) + 1))).part) := hB3.cell 2
  refine bodyPost_ret (v := fvl (fvo (M.plan ((M.acts : Int) + 1)))) (by simp [results, Try.results62, go_sem, r0, r1, r2]) rfl ⟨rfl, ?_, ?_⟩
  · exact HB.out.1.keep (fun b hb => g3.block b (HB.out.1.lt b hb) (fun e => by have := HLT.out b hb; rw [Option.some.inj e] at this; omega)) g3.size
  · exact HB.out.2.1.step g3 (fun i hi => .inr (by rw [Option.some.inj hi.symm]; exact Nat.le_refl _))
end Go.Proofs.Ytndjimdegkdljaa
