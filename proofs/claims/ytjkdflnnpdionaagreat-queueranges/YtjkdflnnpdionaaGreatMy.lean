import Derived.RangeFuncNested
import Derived.RangeFuncBound
import Derived.RangeFuncCalls
import Derived.RangeFuncLeaves
import Derived.Shelf.Abstract
import Derived.Shelf.RegionOpen
import Derived.WalkKit
import Derived.OwnWalkIn
import Derived.TacticsInMore
import Derived.LoopNIn
import Derived.LoopIn
import Derived.Maps.AppendAt
import Derived.Test.YtjkdflnnpdionaaGreatMx
/-
  A range over a function that tells a known list; iterators that do so.
-/
namespace Go.Proofs.YtjkdflnnpdionaaGreat
open Go.RowKit Go.Shelf
set_option linter.unusedVariables false

/-- What a round keeps: cells but those of G, and marks of ranges that are under way. -/
structure KD (G : Nat → Prop) (A B : World) : Prop where
  size : A.heap.size ≤ B.heap.size
  cells : ∀ k o, ¬ G k → A.heap[k]? = some o → o.isCells = true → B.heap[k]? = some o
  marks : ∀ k : Nat, A.heap[k]? = some (Obj.deferred (some [])) → B.heap[k]? = some (Obj.deferred (some []))
theorem KD.refl (G : Nat → Prop) (A : World) : KD G A A := ⟨Nat.le_refl _, fun _ _ _ h _ => h, fun _ h => h⟩
theorem KD.trans {G : Nat → Prop} {A B C : World} (h : KD G A B) (k : KD G B C) : KD G A C := ⟨Nat.le_trans h.size k.size, fun i o hi ho hc => k.cells i o hi (h.cells i o hi ho hc) hc, fun i hi => k.marks i (h.marks i hi)⟩
theorem KD.grown {G : Nat → Prop} {A B : World} {row : Option Nat} (h : A.grownBy B row) (hr : ∀ r, row = some r → G r ∧ ∃ o : Obj, A.heap[r]? = some o ∧ o.isCells = true) : KD G A B :=
  ⟨h.size, fun k o hk ho _ => by
    rw [h.block k (Array.getElem?_eq_some_iff.1 ho).1 (fun e => hk (hr k e.symm).1)]; exact ho, fun k hk => by
    rw [h.block k (Array.getElem?_eq_some_iff.1 hk).1 (fun e => by
      obtain ⟨_, o, h1, h2⟩ := hr k e.symm
      rw [hk] at h1
      cases h1
      cases h2)]; exact hk⟩
theorem KD.put {G : Nat → Prop} {W : World} {l : Nat} {r r' : Loop} (h : W.heap[l]? = some (Obj.loop r)) : KD G W (W.putObj l (.loop r')) := by
  have hg := grownBy_putObj' W l (.loop r')
  refine ⟨hg.size, fun k p hk hp hc => ?_, fun k hp => ?_⟩
  · by_cases e : k = l
    · subst e
      rw [h] at hp
      cases hp
      cases hc
    · rw [hg.block k (Array.getElem?_eq_some_iff.1 hp).1 (by simpa using e)]
      exact hp
  · by_cases e : k = l
    · subst e
      rw [h] at hp
      cases hp
    · rw [hg.block k (Array.getElem?_eq_some_iff.1 hp).1 (by simpa using e)]
      exact hp
/-- The function tells this list. -/
def SeqL (F : Fence) (n : Nat) (P : Program) (gf : Nat) (lb : Array Value) (L : List Nat) (Kk : World → World → Prop) (W : World) : Prop :=
  ∀ (l : Nat) (J Jx : List Nat → World → Prop), (∀ pre A B, J pre A → A.grownBy B none → J pre B) → (∀ pre A B, Jx pre A → A.grownBy B none → Jx pre B) →
    (∀ pre A (k : Nat) o o', J pre A → W.heap.size ≤ k → A.heap[k]? = some (Obj.deferred o) → J pre (A.putObj k (Obj.deferred o'))) → (∀ pre A (k : Nat) o o', Jx pre A → W.heap.size ≤ k → A.heap[k]? = some (Obj.deferred o) → Jx pre (A.putObj k (Obj.deferred o'))) →
    (∀ pre x A, J pre A → pre ++ [x] <+: L → YieldAt F (n - 1) P l #[.int .u64 (x : Nat)] A fun e B => (e = .returned (.bool true) ∧ J (pre ++ [x]) B ∧ Kk A B) ∨ (e = .returned (.bool false) ∧ Jx (pre ++ [x]) B ∧ Kk A B)) →
    J [] W → CallsIn F n P gf (#[.func (.yield l) #[] #[]] ++ lb) W fun e B => (∃ v, e = .returned v) ∧ (J L B ∨ ∃ pre, pre <+: L ∧ Jx pre B)

section
variable {F : Fence} {n : Nat} {P : Program}
theorem range_list {g : Operand} {p : Tmp} {assign body : Code} {Q : Exit → Act → World → Prop} {a : Act} {w : World}
    (hro : F.round = none) (h1 : 1 ≤ n) {gf : Nat} {lb : Array Value} (hg : a.eval g = .func (.func gf) #[] lb) (hFg : F.fn gf) (eg : ∀ args w, (callFunc gf args).run P w = .ok (.enter gf args) w)
    (L : List Nat) (Kk : World → World → Prop) (hKt : ∀ {A B C : World}, Kk A B → Kk B C → Kk A C) (hKb : ∀ (W : World) (l : Nat) (r r' : Loop), w.heap.size ≤ l → W.heap[l]? = some (Obj.loop r) → Kk W (W.putObj l (.loop r')))
    (I : List Nat → World → Prop) (Ix : Code → List Nat → World → Prop) (a₁ : Nat → Act)
    (hIg : ∀ pre A B, I pre A → A.grownBy B none → I pre B) (hIxg : ∀ c pre A B, Ix c pre A → A.grownBy B none → Ix c pre B)
    (hIp : ∀ pre W l o o', I pre W → w.heap.size ≤ l → W.heap[l]? = some o → o.isCells = false → I pre (W.putObj l o'))
    (hIxp : ∀ c pre W l o o', Ix c pre W → w.heap.size ≤ l → W.heap[l]? = some o → o.isCells = false → Ix c pre (W.putObj l o'))
    (h0 : I [] w)
    (hit : ∀ o, SeqL F (n - 1) P gf lb L Kk ((w.alloc (.deferred (some []))).alloc o))
    (hassign : ∀ (l : Nat) (x : Nat) (W : World) (K : Act → World → Prop), K (a₁ x) W →
      assign.wpIn (F.inRound l) (n - 1 - 1) P (Exit.then K (fun _ _ _ => False)) { tmps := (#[p].zip #[Value.int .u64 (x : Nat)]).foldl (fun t (p, v) => t.setIfInBounds p v) a.tmps, defers := [] } W)
    (hbody : ∀ (l : Nat) (pre : List Nat) (x : Nat) (W : World), I pre W → pre ++ [x] <+: L → body.wpIn (F.inRound l) (n - 1 - 1) P (fun e _ W' => (e = .normal ∧ KeepsFrom w.heap.size W W' ∧ Kk W W' ∧ I (pre ++ [x]) W') ∨ (∃ id, e = .exit id ∧ KeepsFrom w.heap.size W W' ∧ Kk W W' ∧ Ix (.exit id) (pre ++ [x]) W')) (a₁ x) W)
    (hdone : ∀ (D : Nat) (W : World), w.heap.size ≤ D → I L W → W.heap[D]? = some (Obj.deferred (some [])) → Q .normal { a with defers := { target := .collected D, args := #[] } :: a.defers } W)
    (hstop : ∀ (D : Nat) (c : Code) (pre : List Nat) (W : World), w.heap.size ≤ D → pre <+: L → Ix c pre W → W.heap[D]? = some (Obj.deferred (some [])) → c.wpIn F n P Q { a with defers := { target := .collected D, args := #[] } :: a.defers } W) :
    (Code.rangeFunc g #[p] assign body).wpIn F n P Q a w := by
  refine wpIn_rangeFunc fun fn hfn => ?_
  rw [hro]
  have hen := run_enterLoop_outer (P := P) (w := w) fn a.tmps #[p] assign body
  obtain ⟨rec, hrec⟩ : ∃ rec : LoopState → Option Code → Loop, rec = fun st pe => { state := st, pending := pe, fn, tmps := a.tmps, params := #[p], assign, body, defers := w.heap.size } := ⟨_, rfl⟩
  have hen' : _ := hen
  rw [show ({ state := .ready, pending := none, fn, tmps := a.tmps, params := #[p], assign, body, defers := w.heap.size } : Loop) = rec .ready none by rw [hrec]] at hen
  refine ⟨_, _, _, { target := .fn (.func gf) lb, args := #[.func (.yield (w.heap.size + 1)) #[] #[]] }, (w.alloc (.deferred (some []))).alloc (.loop (rec .ready none)), gf, #[.func (.yield (w.heap.size + 1)) #[] #[]] ++ lb, (w.alloc (.deferred (some []))).alloc (.loop (rec .ready none)), hen, ?_, ?_, ?_, fun _ => h1, ?_⟩
  · simp only [resolve, hg]; simp [go_sem]
  · intro f' hf'; simp [Target.leads] at hf'; subst hf'; exact hFg
  · simp [invoke, go_sem, eg]
  have hL : ((w.alloc (.deferred (some []))).alloc (.loop (rec .ready none))).heap[w.heap.size + 1]? = some (.loop (rec .ready none)) := by
    have := World.alloc_heap_new (w.alloc (.deferred (some []))) (.loop (rec .ready none)); rwa [World.size_alloc] at this
  have hD : ((w.alloc (.deferred (some []))).alloc (.loop (rec .ready none))).heap[w.heap.size]? = some (Obj.deferred (some [])) := (Below.heap_alloc _ _ _ (by simp)).trans (World.alloc_heap_new w _)
  have kp : ∀ {A B : World} {k : Nat} {o : Obj}, A.grownBy B none → A.heap[k]? = some o → B.heap[k]? = some o := fun h ho => by rw [h.block _ (Array.getElem?_eq_some_iff.1 ho).1 (by simp)]; exact ho
  refine (hit (.loop (rec .ready none)) (w.heap.size + 1) (fun pre W => I pre W ∧ W.heap[w.heap.size + 1]? = some (.loop (rec .ready none)) ∧ W.heap[w.heap.size]? = some (Obj.deferred (some [])))
    (fun pre W => ∃ c, Ix c pre W ∧ W.heap[w.heap.size + 1]? = some (.loop (rec .done (some c))) ∧ W.heap[w.heap.size]? = some (Obj.deferred (some []))) ?_ ?_ ?_ ?_ ?_ ⟨hIg _ _ _ h0 (gb_alloc (gb_alloc (gb_refl _ none) _) _), hL, hD⟩).mono ?_
  · rintro pre A B ⟨a1, a2, a3⟩ hx
    exact ⟨hIg _ _ _ a1 hx, kp hx a2, kp hx a3⟩
  · rintro pre A B ⟨c, a1, a2, a3⟩ hx
    exact ⟨c, hIxg _ _ _ _ a1 hx, kp hx a2, kp hx a3⟩
  · rintro pre A k o o' ⟨a1, a2, a3⟩ hk ho
    simp only [World.size_alloc] at hk
    exact ⟨hIp _ _ _ _ _ a1 (by omega) ho rfl, (World.putObj_heap_other (by omega)).trans a2, (World.putObj_heap_other (by omega)).trans a3⟩
  · rintro pre A k o o' ⟨c, a1, a2, a3⟩ hk ho
    simp only [World.size_alloc] at hk
    exact ⟨c, hIxp _ _ _ _ _ _ a1 (by omega) ho rfl, (World.putObj_heap_other (by omega)).trans a2, (World.putObj_heap_other (by omega)).trans a3⟩
  · rintro pre x W ⟨a1, a2, a3⟩ hlN
    have hy := run_yield (P := P) (args := #[Value.int .u64 (x : Nat)]) a2 (by rw [hrec]; rfl)
    rw [hrec] at hy
    have hlt : w.heap.size + 1 < W.heap.size := (Array.getElem?_eq_some_iff.1 a2).1
    refine ⟨fn, _, assign, body, hy, roundIn_of_wpIn hfn (hassign _ x W _ ⟨_, run_beginRound a2 (by rw [hrec]), ?_⟩)⟩
    obtain ⟨W2, hW2⟩ : ∃ W2, W.putObj (w.heap.size + 1) (.loop { rec .ready none with state := .busy }) = W2 := ⟨_, rfl⟩
    have b2 : W2.heap[w.heap.size + 1]? = some (.loop { rec .ready none with state := .busy }) := by rw [← hW2]; exact World.putObj_heap_same hlt
    have b3 : W2.heap[w.heap.size]? = some (Obj.deferred (some [])) := by rw [← hW2]; exact (World.putObj_heap_other (by omega)).trans a3
    have b1 : I pre W2 := by rw [← hW2]; exact hIp _ _ _ _ _ a1 (by omega) a2 rfl
    have bk : Kk W W2 := by rw [← hW2]; exact hKb _ _ _ _ (by omega) a2
    rw [hW2]
    have fin : ∀ (jump : Option Code) (W3 : World), KeepsFrom w.heap.size W2 W3 →
        (Instr.endRound (w.heap.size + 1) jump).run P W3 = .ok (.bool jump.isNone) (W3.putObj (w.heap.size + 1) (.loop (rec (if jump.isNone then .ready else .done) jump))) ∧
        W3.heap[w.heap.size + 1]? = some (.loop { rec .ready none with state := .busy }) ∧
        (W3.putObj (w.heap.size + 1) (.loop (rec (if jump.isNone then .ready else .done) jump))).heap[w.heap.size + 1]? = some (.loop (rec (if jump.isNone then .ready else .done) jump)) ∧
        (W3.putObj (w.heap.size + 1) (.loop (rec (if jump.isNone then .ready else .done) jump))).heap[w.heap.size]? = some (Obj.deferred (some [])) := fun jump W3 hk3 => by
      have hl3 := hk3.same _ _ (by omega) b2 rfl
      have := run_endRound (P := P) jump hl3
      rw [hrec] at this ⊢
      exact ⟨this, by rw [hrec] at hl3; exact hl3, World.putObj_heap_same (Array.getElem?_eq_some_iff.1 hl3).1, (World.putObj_heap_other (by omega)).trans (hk3.same _ _ (Nat.le_refl _) b3 rfl)⟩
    refine wpIn_mono (hbody _ pre x W2 b1 hlN) ?_
    rintro e a3' W3 (⟨rfl, hk3, hkp3, hi3⟩ | ⟨id, rfl, hk3, hkp3, hi3⟩)
    · obtain ⟨hr, hl3, hl4, hk4⟩ := fin none W3 hk3
      exact ⟨_, _, hr, .inl ⟨rfl, ⟨hIp _ _ _ _ _ hi3 (by omega) hl3 rfl, hl4, hk4⟩, hKt (hKt bk hkp3) (hKb _ _ _ _ (by omega) hl3)⟩⟩
    · obtain ⟨hr, hl3, hl4, hk4⟩ := fin (some (.exit id)) W3 hk3
      exact ⟨_, _, hr, .inr ⟨rfl, ⟨.exit id, hIxp _ _ _ _ _ _ hi3 (by omega) hl3 rfl, hl4, hk4⟩, hKt (hKt bk hkp3) (hKb _ _ _ _ (by omega) hl3)⟩⟩
  · rintro e W2 ⟨⟨v, rfl⟩, (⟨a1, a2, a3⟩ | ⟨pre, hSp, c, a1, a2, a3⟩)⟩
    · exact ⟨none, _, by have := run_endLoop (P := P) a2 (by rw [hrec]; simp); rw [hrec] at this; exact this, hdone _ _ (Nat.le_refl _) (hIp _ _ _ _ _ a1 (by omega) a2 rfl) ((World.putObj_heap_other (by omega)).trans a3)⟩
    · exact ⟨some c, _, by have := run_endLoop (P := P) a2 (by rw [hrec]; simp); rw [hrec] at this; exact this, hstop _ c pre _ (Nat.le_refl _) hSp (hIxp _ _ _ _ _ _ a1 (by omega) a2 rfl) ((World.putObj_heap_other (by omega)).trans a3)⟩
end
end Go.Proofs.YtjkdflnnpdionaaGreat
/-
  The iterator of walk.
-/
namespace Go.Proofs.YtjkdflnnpdionaaGreat
open Go.RowKit Go.Shelf
set_option linter.unusedVariables false
attribute [local go_sem] Oper.semAt_some

/-- A list as it is walked. -/
structure QLst (W : World) (qb : Nat) (c kd : Int) (L : List Nat) : Prop where
  li : Calls Tryz.prog 128 #[.pointer (some ⟨qb, 0, none⟩), .int .i64 c, .int .i64 kd] W fun y w' => ∃ pb po, y = .returned (.pointer (some ⟨pb, po, none⟩)) ∧ W.grownBy w' none ∧ w'.cell? ⟨pb, po, none⟩ = some (.int .u64 (L.headD 0 : Nat)) ∧ w'.cell? ⟨pb, po + 2, none⟩ = some (.int .i64 (L.length : Nat))
  nx : ∀ U H V, L = U ++ H :: V → Calls Tryz.prog 130 #[.pointer (some ⟨qb, 0, none⟩), .int .u64 (H : Nat), .int .i64 2] W fun y w' => y = .returned (.int .u64 (V.headD 0 : Nat)) ∧ W.grownBy w' none
section
variable {w : World} {P : Nat → Prop} {wb N : Nat} {D : Wd} {lsb : Nat} {vs : Nat → Value} {Y : Nat → List Nat} {cl : Nat → Nat} {S : Lm}
theorem GW.qlst (hW : GW w P wb N D lsb vs Y S cl) (c kd : Int) : QLst w D.qb c kd (SL S c kd) := by
  obtain ⟨bs, p, n, s, hX⟩ := hW.gx
  have hM := hW.ms
  have hl : D.xl.length ≤ 300 := by have := hW.nN; omega
  have hlt := hX.lt hl
  have hqm := hX.qm hM
  unfold SL
  by_cases hck : 0 ≤ c ∧ c < 3 ∧ 1 ≤ kd ∧ kd ≤ 3
  · rw [if_pos hck]
    obtain ⟨ci, rfl⟩ : ∃ ci : Nat, c = (ci : Int) := ⟨c.toNat, by omega⟩
    obtain ⟨k, rfl⟩ : ∃ k : Nat, kd = (k : Int) + 1 := ⟨(kd - 1).toNat, by omega⟩
    have hc3 : ci < 3 := by omega
    have hk3 : k < 3 := by omega
    have hcn : ci < D.A.n := by rw [hX.n3]; exact hc3
    rw [show ((ci : Int)).toNat = ci by omega, show ((k : Int) + 1 - 1).toNat = k by omega]
    refine ⟨(q_list hqm hcn hk3).mono ?_, fun U H V hX1 => ?_⟩
    · rintro y w' ⟨rfl, hf⟩
      refine ⟨D.gl, ci * 9 + k * 3, rfl, hf, ?_, ?_⟩
      · rw [← hX.li.hd]
        exact (hqm.kept0 hf).lcell hcn hk3 (j := 0) (by omega)
      · rw [← hX.li.ln]
        exact (hqm.kept0 hf).lcell hcn hk3 (j := 2) (by omega)
    · have hm : H ∈ S ci k := by rw [hX1]; simp
      have hT := (hX.li.sub _ _ _ hm).1
      have := q_next hqm hT 2 (.inr rfl) (V.headD 0) (by rw [if_neg (by omega)]; exact (hX.li.lk _ _ U H V hX1).2)
      exact this
  · rw [if_neg hck]
    refine ⟨(q_list0 hqm hX.n3 hck).mono ?_, fun U H V h => by simp at h⟩
    rintro y w' ⟨lb, rfl, hf, d0, d1, d2⟩
    exact ⟨lb, 0, rfl, hf, d0, d2⟩
end
/-- What a round keeps: all that lies below, and some blocks. -/
structure KB (n₀ : Nat) (K : Nat → Prop) (W W' : World) : Prop where
  bel : Below n₀ W W'
  bx : ∀ k, K k → W'.heap[k]? = W.heap[k]?
theorem KB.refl (n₀ : Nat) (K : Nat → Prop) (W : World) : KB n₀ K W W := ⟨Below.refl _ _, fun _ _ => rfl⟩
theorem KB.trans {n₀ : Nat} {K : Nat → Prop} {A B C : World} (h : KB n₀ K A B) (k : KB n₀ K B C) : KB n₀ K A C := ⟨h.bel.trans k.bel, fun i hi => (k.bx i hi).trans (h.bx i hi)⟩
theorem KB.grown {n₀ : Nat} {K : Nat → Prop} {A B : World} (h : A.grownBy B none) (h1 : n₀ ≤ A.heap.size) (h2 : ∀ k, K k → k < A.heap.size) : KB n₀ K A B :=
  ⟨⟨h.os, h.tape, h.output, h.size, fun k hk => h.block k (by omega) (by simp)⟩, fun k hk => h.block k (h2 k hk) (by simp)⟩
theorem head_cases (L : List Nat) : (L = [] ∧ L.headD 0 = 0) ∨ ∃ H V, L = H :: V ∧ L.headD 0 = H := by
  cases L with
  | nil => exact .inl ⟨rfl, rfl⟩
  | cons H V => exact .inr ⟨H, V, rfl, rfl⟩

set_option maxRecDepth 100000 in
set_option maxHeartbeats 4000000 in
theorem walk_seq {w : World} {n₀ qb Bq Bc Bk n : Nat} {c kd : Int} {L : List Nat} (hn : 1 ≤ n) (hz : 0 ∉ L) (hL9 : L.length ≤ 900) (hq : ∀ W', Below n₀ w W' → QLst W' qb c kd L) {W : World} (hb : Below n₀ w W) (hn₀ : n₀ ≤ W.heap.size)
    (l1 : Bq < W.heap.size) (l2 : Bc < W.heap.size) (l3 : Bk < W.heap.size)
    (c1 : W.cell? ⟨Bq, 0, none⟩ = some (.pointer (some ⟨qb, 0, none⟩))) (c2 : W.cell? ⟨Bc, 0, none⟩ = some (.int .i64 c)) (c3 : W.cell? ⟨Bk, 0, none⟩ = some (.int .i64 kd)) :
    SeqL Fence.wide n Tryz.prog 129 #[.pointer (some ⟨Bq, 0, none⟩), .pointer (some ⟨Bc, 0, none⟩), .pointer (some ⟨Bk, 0, none⟩)] L (KB n₀ (fun k => k = Bq ∨ k = Bc ∨ k = Bk)) W := fun l J Jx hJ hJx _ _ hY h0 => by
  obtain ⟨K, hKE⟩ : ∃ K : Nat → Prop, K = (fun k => k = Bq ∨ k = Bc ∨ k = Bk) := ⟨_, rfl⟩
  rw [← hKE] at hY
  have hCB : ∀ W1, KB n₀ K W W1 → W1.cell? ⟨Bq, 0, none⟩ = some (.pointer (some ⟨qb, 0, none⟩)) ∧ W1.cell? ⟨Bc, 0, none⟩ = some (.int .i64 c) ∧ W1.cell? ⟨Bk, 0, none⟩ = some (.int .i64 kd) := fun W1 h1 => by
    subst hKE
    exact ⟨by simpa [World.cell?, h1.bx Bq (.inl rfl)] using c1, by simpa [World.cell?, h1.bx Bc (.inr (.inl rfl))] using c2, by simpa [World.cell?, h1.bx Bk (.inr (.inr rfl))] using c3⟩
  have hKG : ∀ W1 W2, KB n₀ K W W1 → W1.grownBy W2 none → KB n₀ K W W2 := fun W1 W2 h1 h2 => h1.trans (KB.grown h2 (Nat.le_trans hn₀ h1.bel.size) (fun k hk => Nat.lt_of_lt_of_le (by rw [hKE] at hk; rcases hk with rfl | rfl | rfl <;> assumption) h1.bel.size))
  have hli := (hq W hb).li
  have hnx := fun W1 (h1 : KB n₀ K W W1) => (hq W1 (hb.trans h1.bel)).nx
  clear hq hKE
  refine callsIn_of_wp Tryz.func129 rfl trivial ?_ rfl
  simp only [Tryz.ntmps129, List.size_toArray, List.length_cons, List.length_nil, Nat.reduceAdd, Nat.reduceSub, Array.replicate_succ, Array.replicate_zero, List.push_toArray, List.append_toArray, List.nil_append, List.cons_append]
  obtain ⟨hv, hhv⟩ : ∃ hv, L.headD 0 = hv := ⟨_, rfl⟩
  obtain ⟨ln, hln⟩ : ∃ ln, L.length = ln := ⟨_, rfl⟩
  rw [hhv, hln] at hli
  gi_wp2_with (refine ⟨trivial, ?_⟩; gi_at_call 128; refine (callsIn_wide.2 hli).mono ?_; rintro y w1 ⟨pb, po, rfl, hg1, d0, d2⟩)
  have hK1 := hKG _ _ (KB.refl _ _ _) hg1
  have hJ1 := hJ _ _ _ h0 hg1
  gi_loopw [6, 19] (fun hx ix wr => ∃ U V : List Nat, L = U ++ V ∧ hx = .int .u64 (V.headD 0 : Nat) ∧ ix = .int .i64 (U.length : Nat) ∧ KB n₀ K W wr ∧ J U wr) (fun _ ix _ => ln - (intOf ix).toNat)
  case atStart => exact ⟨[], L, rfl, by rw [hhv], rfl, hK1, hJ1⟩
  case round =>
    obtain ⟨U, V, hLE, rfl, rfl, hKq, hJq⟩ := hrel
    have hlV : U.length + V.length = ln := by rw [← hln, hLE]; simp
    rcases head_cases V with ⟨rfl, e0⟩ | ⟨H, V', rfl, e0⟩
    · have hlt : ¬ (U.length : Int) < (ln : Int) := by simp at hlV; omega
      have d1 : decide ((U.length : Int) < (ln : Int)) = false := decide_eq_false hlt
      have HE : Hid (J L wr) := by rw [hLE, List.append_nil]; exact hJq
      clear hnx hY hJq hLE hlV
      gi_wp2
      go_end0
      exact ⟨⟨_, rfl⟩, .inl HE.out⟩
    · have hlt : (U.length : Int) < (ln : Int) := by simp at hlV; omega
      have d1 : decide ((U.length : Int) < (ln : Int)) = true := decide_eq_true hlt
      have hH0 : H ≠ 0 := fun e => hz (by rw [hLE]; simp [e])
      have hHb : ((H : Int) == 0) = false := by simp; omega
      have hpre : U ++ [H] <+: L := ⟨V', by rw [hLE]; simp⟩
      obtain ⟨fn, tmps, assign, body, hy, hR⟩ := hY U H wr hJq hpre
      obtain ⟨nv, hnv⟩ : ∃ nv, V'.headD 0 = nv := ⟨_, rfl⟩
      have hnx2 := fun W1 (h1 : KB n₀ K W W1) => hnx W1 h1 U H V' hLE
      rw [hnv] at hnx2
      have HLE : Hid (L = (U ++ [H]) ++ V') := by show _ = _; rw [hLE]; simp
      have hul : (U ++ [H]).length = U.length + 1 := by simp
      simp only [e0]
      have HUL : Hid ((U.length : Int) < 1000) := by show _ < _; omega
      have ei : IntKind.i64.wrap ((U.length : Int) + 1) = (U.length : Int) + 1 := by rw [IntKind.wrap_i64]; omega
      clear hnx hY hJq hLE
      gi_wp2
      refine hR.mono ?_
      rintro e W3 (⟨rfl, hJ3, hk3⟩ | ⟨rfl, hJx3, hk3⟩)
      · have hK4 := hKq.trans hk3
        obtain ⟨z0, z1, z2⟩ := hCB _ hK4
        have hn3 := hnx2 _ hK4
        clear hnx2 hCB hR hy
        gi_wp2_with (refine ⟨trivial, ?_⟩; gi_at_call 130; refine (callsIn_wide.2 hn3).mono ?_; rintro y w5 ⟨rfl, hg5⟩)
        go_roundw
        case rel => exact ⟨U ++ [H], V', HLE.out, by rw [hnv], by rw [hul]; first | rfl | go_num, hKG _ _ hK4 hg5, hJ _ _ _ hJ3 hg5⟩
        case measure => simp [intOf]; omega
      · gi_wp2
        refine bodyPost_ret (results_none rfl _ _ _) rfl ?_
        exact ⟨⟨_, rfl⟩, .inr ⟨_, hpre, hJx3⟩⟩
end Go.Proofs.YtjkdflnnpdionaaGreat
/-
  The iterator of All.
-/
namespace Go.Proofs.YtjkdflnnpdionaaGreat
open Go.RowKit Go.Shelf
set_option linter.unusedVariables false
attribute [local go_sem] Oper.semAt_some

theorem Tryz.info50h : (Tryz.prog.info? 50).map (fun i => (i.zero, i.size, i.bytes)) = some (some (.int .u64 0), 1, 8) := by kernel_rfl
theorem lt_of_cell {W : World} {b : Nat} {v : Value} (h : W.cell? ⟨b, 0, none⟩ = some v) : b < W.heap.size := by
  cases hb : W.heap[b]? with
  | none => simp [World.cell?, hb] at h
  | some o => exact (Array.getElem?_eq_some_iff.1 hb).1
/-- The boxes of a closure over a list. -/
def box3 (W : World) (qb : Nat) (c kd : Int) : World := ((W.alloc (.cells #[.pointer (some ⟨qb, 0, none⟩)] 29)).alloc (.cells #[.int .i64 c] 3)).alloc (.cells #[.int .i64 kd] 3)
theorem box3_facts (W : World) (qb : Nat) (c kd : Int) (s : Nat) (hs : W.heap.size = s) : W.grownBy (box3 W qb c kd) none ∧ (box3 W qb c kd).heap.size = s + 3 ∧ Box (box3 W qb c kd) 29 s #[.pointer (some ⟨qb, 0, none⟩)] ∧ Box (box3 W qb c kd) 3 (s + 1) #[.int .i64 c] ∧ Box (box3 W qb c kd) 3 (s + 1 + 1) #[.int .i64 kd] := by
  subst hs
  have a1 := World.grownBy_alloc W (.cells #[.pointer (some ⟨qb, 0, none⟩)] 29) none
  have b1 := (Box.new W 29 #[.pointer (some ⟨qb, 0, none⟩)])
  obtain ⟨W1, h1⟩ : ∃ W1, W.alloc (.cells #[.pointer (some ⟨qb, 0, none⟩)] 29) = W1 := ⟨_, rfl⟩
  have s1 : W1.heap.size = W.heap.size + 1 := by rw [← h1]; simp
  unfold box3
  rw [h1] at a1 b1 ⊢
  have a2 := World.grownBy_alloc W1 (.cells #[.int .i64 c] 3) none
  have b2 := Box.new W1 3 #[.int .i64 c]
  obtain ⟨W2, h2⟩ : ∃ W2, W1.alloc (.cells #[.int .i64 c] 3) = W2 := ⟨_, rfl⟩
  have s2 : W2.heap.size = W.heap.size + 1 + 1 := by rw [← h2]; simp; omega
  rw [h2] at a2 b2 ⊢
  have a3 := World.grownBy_alloc W2 (.cells #[.int .i64 kd] 3) none
  have b3 := Box.new W2 3 #[.int .i64 kd]
  rw [s1] at b2
  rw [s2] at b3
  exact ⟨gb_trans (gb_trans a1 a2) a3, by simp; omega, (b1.kept a2 (by simp)).kept a3 (by simp), b2.kept a3 (by simp), b3⟩
theorem walk_67 (qb : Nat) (c kd : Int) (w : World) : Calls Tryz.prog 67 #[.pointer (some ⟨qb, 0, none⟩), .int .i64 c, .int .i64 kd] w fun y w' => y = .returned (.func (.func 129) #[] #[.pointer (some ⟨w.heap.size, 0, none⟩), .pointer (some ⟨w.heap.size + 1, 0, none⟩), .pointer (some ⟨w.heap.size + 1 + 1, 0, none⟩)]) ∧ w' = box3 w qb c kd := by
  go_enter Tryz.func67, Tryz.ntmps67
  go_wp2
  go_ret
  exact ⟨by simp, rfl⟩
theorem all_19 (qb : Nat) (c kd : Int) (w : World) : Calls Tryz.prog 19 #[.pointer (some ⟨qb, 0, none⟩), .int .i64 c, .int .i64 kd] w fun y w' => y = .returned (.func (.func 66) #[] #[.pointer (some ⟨w.heap.size, 0, none⟩), .pointer (some ⟨w.heap.size + 1, 0, none⟩), .pointer (some ⟨w.heap.size + 1 + 1, 0, none⟩)]) ∧ w' = box3 w qb c kd := by
  go_enter Tryz.func19, Tryz.ntmps19
  go_wp2
  go_ret
  exact ⟨by simp, rfl⟩

set_option maxRecDepth 100000 in
set_option maxHeartbeats 4000000 in
theorem all_seq {w : World} {n₀ qb Bq Bc Bk n : Nat} {c kd : Int} {L : List Nat} (hn : 3 ≤ n) (hz : 0 ∉ L) (hL9 : L.length ≤ 900) (hq : ∀ W', Below n₀ w W' → QLst W' qb c kd L) {W : World} (hb : Below n₀ w W) (hn₀ : n₀ ≤ W.heap.size)
    (c1 : W.cell? ⟨Bq, 0, none⟩ = some (.pointer (some ⟨qb, 0, none⟩))) (c2 : W.cell? ⟨Bc, 0, none⟩ = some (.int .i64 c)) (c3 : W.cell? ⟨Bk, 0, none⟩ = some (.int .i64 kd)) {G : Nat → Prop} (hG : ∀ k, G k → k < W.heap.size) :
    SeqL Fence.wide n Tryz.prog 66 #[.pointer (some ⟨Bq, 0, none⟩), .pointer (some ⟨Bc, 0, none⟩), .pointer (some ⟨Bk, 0, none⟩)] L (KD G) W := fun l J Jx hJ hJx hJp hJxp hY h0 => by
  have hn1 : 1 ≤ n := by omega
  obtain ⟨i0, hi, hz0, hz1, hz2⟩ := info_parts Tryz.info50h
  have lq := lt_of_cell c1
  have lc := lt_of_cell c2
  have lk := lt_of_cell c3
  have bO := Boxed.new W 81 (.slice none 0 0)
  have aO := World.grownBy_alloc W (.cells #[.slice none 0 0] 81) none
  have sO : (W.alloc (.cells #[.slice none 0 0] 81)).heap.size = W.heap.size + 1 := by simp
  have d1 := gb_cellN aO c1
  have d2 := gb_cellN aO c2
  have d3 := gb_cellN aO c3
  refine callsIn_of_wp_marks Tryz.func66 rfl trivial ?_ rfl
  simp only [Tryz.ntmps66, List.size_toArray, List.length_cons, List.length_nil, Nat.reduceAdd, Nat.reduceSub, Array.replicate_succ, Array.replicate_zero, List.push_toArray, List.append_toArray, List.nil_append, List.cons_append]
  have hwk := (walk_67 qb c kd (W.alloc (.cells #[.slice none 0 0] 81))).mono (R' := fun y w' => y = .returned (.func (.func 129) #[] #[.pointer (some ⟨W.heap.size + 1, 0, none⟩), .pointer (some ⟨W.heap.size + 1 + 1, 0, none⟩), .pointer (some ⟨W.heap.size + 1 + 1 + 1, 0, none⟩)]) ∧ box3 (W.alloc (.cells #[.slice none 0 0] 81)) qb c kd = w') (by
    rintro y w' ⟨rfl, rfl⟩
    rw [sO]
    exact ⟨rfl, rfl⟩)
  obtain ⟨f1, f2, f3, f4, f5⟩ := box3_facts (W.alloc (.cells #[.slice none 0 0] 81)) qb c kd _ sO
  obtain ⟨W1, hW1⟩ : ∃ W1, box3 (W.alloc (.cells #[.slice none 0 0] 81)) qb c kd = W1 := ⟨_, rfl⟩
  rw [hW1] at hwk f1 f2 f3 f4 f5
  have bO1 := bO.kept f1 (by simp)
  have hW01 := gb_trans aO f1
  gi_wp2_with (refine ⟨trivial, ?_⟩; gi_at_call 67; refine (callsIn_wide.2 hwk).mono ?_; rintro y w' ⟨rfl, rfl⟩)
  have hszW := hW01.size
  generalize hN0 : W.heap.size = N0 at *
  have hBel : ∀ {A B : World}, A.grownBy B none → N0 ≤ A.heap.size → Below N0 A B := fun h1 h2 => ⟨h1.os, h1.tape, h1.output, h1.size, fun k hk => h1.block k (by omega) (by simp)⟩
  have hBelP : ∀ (V : World) (l : Nat) (o' : Obj), N0 ≤ V.heap.size → N0 ≤ l → Below N0 V (V.putObj l o') := fun V l o' h1 h2 => (Below.refl _ V).grown (grownBy_putObj' V l o') h1 (fun k e => by cases e; exact h2)
  have hB1 : Below N0 W W1 := hBel hW01 (by omega)
  have hgb : ∀ {A B : World}, Below N0 A B → N0 = A.heap.size → A.grownBy B none := fun h e => ⟨h.os, h.tape, h.output, h.size, fun k hk _ => h.block k (by omega)⟩
  refine range_list (n := n) rfl hn1 (gf := 129) (lb := #[.pointer (some ⟨N0 + 1, 0, none⟩), .pointer (some ⟨N0 + 1 + 1, 0, none⟩), .pointer (some ⟨N0 + 1 + 1 + 1, 0, none⟩)]) rfl trivial (enters_of Tryz.func129 (by kernel_rfl) rfl) L
    (KB N0 (fun k => k = N0 + 1 ∨ k = N0 + 1 + 1 ∨ k = N0 + 1 + 1 + 1)) (fun h k => h.trans k) ?hKb
    (fun pre V => (∃ v, Boxed V N0 81 v ∧ V.ownsRow N0 50 1 v pre.length (uvs pre)) ∧ Below N0 W V ∧ W1.heap.size ≤ V.heap.size ∧ Box V 29 (N0 + 1) #[.pointer (some ⟨qb, 0, none⟩)] ∧ Box V 3 (N0 + 1 + 1) #[.int .i64 c] ∧ Box V 3 (N0 + 1 + 1 + 1) #[.int .i64 kd])
    (fun _ _ _ => False) ?a1 ?hIg (fun _ _ _ _ h _ => h) ?hIp (fun _ _ _ _ _ _ h _ _ _ => h) ?h0 ?hit ?assign ?body ?done ?stop
  case assign =>
    intro l x V K hK
    gi_wp2
    exact hK
  case hKb =>
    intro V l r r' hl ho
    have hlt := (Array.getElem?_eq_some_iff.1 ho).1
    refine ⟨hBelP V l _ (by omega) (by omega), fun k hk => ?_⟩
    exact (grownBy_putObj' V l _).block k (by omega) (by simp; omega)
  case hIg =>
    rintro pre A B ⟨⟨v, hv, hr⟩, hB, hs, x1, x2, x3⟩ hg
    exact ⟨⟨v, hv.kept hg (by simp), row_kept hr hg (by simp)⟩, hB.trans (hBel hg (by have := hB.size; omega)), Nat.le_trans hs hg.size, x1.kept hg (by simp), x2.kept hg (by simp), x3.kept hg (by simp)⟩
  case hIp =>
    rintro pre V l o o' ⟨⟨v, hv, hr⟩, hB, hs, x1, x2, x3⟩ hl ho hc
    have hg := grownBy_putObj' V l o'
    exact ⟨⟨v, hv.kept hg (by simp; omega), ownsRow_putObj hr _ ho hc⟩, hB.trans (hBelP V l _ (by have := hB.size; omega) (by omega)), Nat.le_trans hs hg.size, x1.kept hg (by simp; omega), x2.kept hg (by simp; omega), x3.kept hg (by simp; omega)⟩
  case h0 => exact ⟨⟨_, bO1, World.ownsRow_nil _ _ _ _⟩, hB1, Nat.le_refl _, f3, f4, f5⟩
  case hit =>
    intro o
    have ga : W1.grownBy ((W1.alloc (.deferred (some []))).alloc o) none := gb_alloc (gb_alloc (gb_refl _ none) _) _
    have hsz : ((W1.alloc (.deferred (some []))).alloc o).heap.size = W1.heap.size + 1 + 1 := by simp
    exact walk_seq (w := W) (n₀ := N0) (by omega) hz hL9 (fun W' hW' => hq W' (hb.trans (hW'.mono hn₀))) (hB1.trans (hBel ga (by omega))) (by omega) (by omega) (by omega) (by omega) ((f3.kept ga (by simp)).cell 0) ((f4.kept ga (by simp)).cell 0) ((f5.kept ga (by simp)).cell 0)
  case body =>
    rintro l pre x V ⟨⟨v, hv, hrow⟩, hB, hs, x1, x2, x3⟩ hpre
    have hc := hv.cell
    have hlen : pre.length ≤ 900 := by have := hpre.length_le; simp at this; omega
    have hBs := hB.size
    have HF : Hid (∀ {w1 : World} {v' : Value}, (V.alloc (.cells #[.int .u64 (x : Nat)] 50)).grownBy w1 v.ownBlock → ∀ {t : TypeId} {b : Nat} {us : Array Value}, Box V t b us → t ≠ 50 → b ≠ N0 → Box (w1.setCell ⟨N0, 0, none⟩ v') t b us) := by
      intro w1 v' hgrow t b us hbx ht hbn
      have h1 := hbx.kept (World.grownBy_alloc V (.cells #[.int .u64 (x : Nat)] 50) none) (by simp)
      refine (h1.kept hgrow (fun e => ?_)).kept (grownBy_setCell' w1 N0 v') (by simp; omega)
      obtain ⟨cur, hcur⟩ := row_block hrow b e.symm
      exact ne_of_type hcur hbx (fun e => ht e.symm) rfl
    gi_wp2_with (gi_at_builtin; refine wpListIn_append_own _ rfl _ _ 81 rfl N0 50 i0 (.int .u64 0) 1 8 Tryz.underlying81 hi hz0 hz1 hz2 rfl (by decide) _ _ _ rfl (hrow.alloc _) ⟨V.heap.size, 0, none⟩ 1 1 [.int .u64 (x : Nat)] rfl rfl (cell_one_new _ _ _) (by simp [Value.oneCell']) (by unfold maxLen; omega) (by omega) (by simp; omega) ?_; intro v' w1 hown' hgrow _; obtain ⟨g', cap', rfl⟩ := ownsRow_succ hown'; obtain ⟨hv1, hv2, hr2, hk2, hb2⟩ := hv.appended (by decide) hrow (by omega) (Nat.le_refl _) hown' hgrow; have hc1 := hv1.cell; have hf1 := hv1.frozen)
    refine ⟨hk2.from _, ⟨hb2, ?_⟩, ⟨_, hv2, ?_⟩, hB.trans hb2, (by have := hb2.size; simp at this; omega), HF.out hgrow x1 (by decide) (by omega), HF.out hgrow x2 (by decide) (by omega), HF.out hgrow x3 (by decide) (by omega)⟩
    · rintro k (rfl | rfl | rfl)
      · exact Eq.trans (HF.out hgrow x1 (by decide) (by omega)) x1.symm
      · exact Eq.trans (HF.out hgrow x2 (by decide) (by omega)) x2.symm
      · exact Eq.trans (HF.out hgrow x3 (by decide) (by omega)) x3.symm
    · simpa [uvs] using hr2
  case stop =>
    rintro D c pre V _ _ h _
    exact h.elim
  case done =>
    rintro D V hD ⟨⟨v, hv, hrow⟩, hB, hs, x1, x2, x3⟩ hK
    have hc := hv.cell
    have hgV : W.grownBy V none := hgb hB hN0.symm
    have hJV := hJ _ _ _ h0 hgV
    obtain ⟨ra, rc, rfl, _, _, _, hra⟩ := row_shape hrow
    have hcell : ∀ j, j < L.length → ∃ gg x, ra = some ⟨gg, 0, none⟩ ∧ L[j]? = some x ∧ ∀ V', KD G V V' → V'.cell? ⟨gg, j, none⟩ = some (.int .u64 ((x : Nat) : Int)) := fun j hj => by
      obtain ⟨gg, rfl⟩ := hra (by omega)
      refine ⟨gg, L[j], rfl, List.getElem?_eq_getElem hj, fun V' hV => ?_⟩
      have hx := row_cell hrow j _ (uvs_get (List.getElem?_eq_getElem hj))
      obtain ⟨cur, hbk⟩ := row_block hrow gg rfl
      have hlo := (hrow.lt gg rfl).1
      have := hV.cells gg _ (fun hh => by have := hG gg hh; omega) hbk rfl
      simp only [World.cell?] at hx ⊢
      rw [this]
      rw [hbk] at hx
      exact hx
    obtain ⟨ln, hln⟩ : ∃ ln, L.length = ln := ⟨_, rfl⟩
    rw [hln] at hL9 hcell hc
    have hDN : N0 ≤ D := by omega
    have hret : ∀ wr, KD G V wr → wr.heap[D]? = some (Obj.deferred (some [])) := fun wr h => h.marks D hK
    clear hrow hv hra x1 x2 x3 hB hgb hBel hBelP hB1
    gi_wp2
    gi_loopw [20] (fun iv wr => ∃ k : Nat, k ≤ ln ∧ iv = .int .i64 k ∧ KD G V wr ∧ J (L.take k) wr) (fun iv _ => ln - (intOf iv).toNat)
    case atStart => exact ⟨0, by omega, rfl, KD.refl _ _, by simpa using hJV⟩
    case round =>
      obtain ⟨k, hk, rfl, hKk, hJs⟩ := hrel
      by_cases hlt : k < ln
      · have e1 : decide ((k : Int) < ln) = true := decide_eq_true (by omega)
        have e2 : (k : Int) < ln := by omega
        obtain ⟨gg, x, rfl, hx, hcx⟩ := hcell k (by omega)
        have cx := hcx _ hKk
        have htk : L.take k ++ [x] = L.take (k + 1) := by
          rw [List.take_add_one, hx]; rfl
        have hpre : L.take k ++ [x] <+: L := by rw [htk]; exact List.take_prefix _ _
        obtain ⟨fn, tmps, assign, body, hy, hR⟩ := hY (L.take k) x wr hJs hpre
        rw [htk] at hR
        have HP : Hid (L.take (k + 1) <+: L) := List.take_prefix _ _
        clear hcell hcx hx hpre htk
        gi_wp2
        refine hR.mono ?_
        rintro e W3 (⟨rfl, hJ3, hk3⟩ | ⟨rfl, hJx3, hk3⟩)
        · have hK4 := hKk.trans hk3
          clear hR hy
          gi_wp2
          go_roundw
          case rel => exact ⟨k + 1, by omega, by go_num, hK4, hJ3⟩
          case measure => simp [intOf]; omega
        · have hm := hret _ (hKk.trans hk3)
          gi_wp2
          refine ⟨by simp, .inl ⟨_, _, rfl, run_takeDeferred hm, ?_⟩⟩
          exact ⟨_, results_none rfl _ _ _, ⟨_, rfl⟩, .inr ⟨_, HP.out, hJxp _ _ _ _ _ hJx3 hDN hm⟩⟩
      · obtain rfl : k = ln := by omega
        have e1 : decide ((k : Int) < k) = false := decide_eq_false (by omega)
        have hm := hret _ hKk
        rw [← hln, List.take_length] at hJs
        clear hcell hY
        gi_wp2
        refine ⟨by simp, .inl ⟨_, _, rfl, run_takeDeferred hm, ?_⟩⟩
        exact ⟨_, results_none rfl _ _ _, ⟨_, rfl⟩, .inl (hJp _ _ _ _ _ hJs hDN hm)⟩
end Go.Proofs.YtjkdflnnpdionaaGreat
