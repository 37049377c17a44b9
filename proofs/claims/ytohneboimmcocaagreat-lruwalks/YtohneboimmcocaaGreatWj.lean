import Derived.Test.YtohneboimmcocaaGreatWi
/-
  Lru: Pick, where nobody is dead.
-/
namespace Go.Proofs.YtohneboimmcocaaGreat
open Go.RowKit Go.Shelf
set_option linter.unusedVariables false
attribute [local go_sem] Oper.semAt_some

theorem row_73 (xb : Nat) (ci : Int) (w : World) : Calls Tryz.prog 73 #[.pointer (some ⟨xb, 0, none⟩), .int .i64 ci] w fun y w' => y = .returned (.func (.func 116) #[] #[.pointer (some ⟨w.heap.size, 0, none⟩), .pointer (some ⟨w.heap.size + 1, 0, none⟩)]) ∧ w' = (w.alloc (.cells #[.pointer (some ⟨xb, 0, none⟩)] 41)).alloc (.cells #[.int .i64 ci] 3) := by
  go_enter Tryz.func73, Tryz.ntmps73
  go_wp2
  go_ret
  exact ⟨by simp, rfl⟩

structure PS where
  h : Nat
  sp : Bool
  lk : Nat
/-- Pick looks at an item. -/
def pst (own : Nat) (looks : Int) (mk : Nat → Nat) (s : PS) (x : Nat) : PS := if x = own then s else if looks ≤ (s.lk : Int) then s else if s.lk + 1 = 1 ∨ (s.sp = true ∧ ¬ mk x % 2 = 1) then ⟨x, decide (mk x % 2 = 1), s.lk + 1⟩ else ⟨s.h, s.sp, s.lk + 1⟩
def pfold (own : Nat) (looks : Int) (mk : Nat → Nat) (l : List Nat) : PS := l.foldl (pst own looks mk) ⟨0, false, 0⟩
theorem pfold_snoc (own : Nat) (looks : Int) (mk : Nat → Nat) (l : List Nat) (x : Nat) : pfold own looks mk (l ++ [x]) = pst own looks mk (pfold own looks mk l) x := by simp [pfold]
theorem pst_lk (own : Nat) (looks : Int) (mk : Nat → Nat) (s : PS) (x : Nat) : (pst own looks mk s x).lk ≤ s.lk + 1 := by
  unfold pst; (repeat' split) <;> simp
theorem pfold_lk (own : Nat) (looks : Int) (mk : Nat → Nat) (l : List Nat) : (pfold own looks mk l).lk ≤ l.length := by
  have h : ∀ (l : List Nat) (s : PS), (l.foldl (pst own looks mk) s).lk ≤ s.lk + l.length := by
    intro l
    induction l with
    | nil => intro s; simp
    | cons x l ih =>
      intro s
      have h1 := ih (pst own looks mk s x)
      have h2 := pst_lk own looks mk s x
      simp only [List.foldl_cons, List.length_cons]
      omega
  have := h l ⟨0, false, 0⟩
  simpa [pfold] using this
theorem pst_full {own : Nat} {looks : Int} {mk : Nat → Nat} {s : PS} (h : looks ≤ (s.lk : Int)) (x : Nat) : pst own looks mk s x = s := by
  unfold pst
  rw [if_pos h]
  split <;> rfl
theorem pfold_full {own : Nat} {looks : Int} {mk : Nat → Nat} {l r : List Nat} (hp : l <+: r) (h : looks ≤ ((pfold own looks mk l).lk : Int)) : pfold own looks mk r = pfold own looks mk l := by
  obtain ⟨q, rfl⟩ := hp
  have : ∀ (q : List Nat) (s : PS), looks ≤ (s.lk : Int) → q.foldl (pst own looks mk) s = s := by
    intro q
    induction q with
    | nil => intro s _; rfl
    | cons x q ih => intro s hs; rw [List.foldl_cons, pst_full hs]; exact ih s hs
  unfold pfold
  rw [List.foldl_append]
  exact this q _ h

/-- Pick's own boxes. -/
structure PB (W : World) (n xb own : Nat) (looks : Int) (ci : Nat) (s : PS) : Prop where
  b0 : Box W 41 n #[.pointer (some ⟨xb, 0, none⟩)]
  b1 : Box W 48 (n + 1) #[.int .u64 own]
  b2 : Box W 3 (n + 1 + 1) #[.int .i64 looks]
  b3 : Box W 79 (n + 1 + 1 + 1) #[Value.nilFunc]
  b4 : Box W 48 (n + 1 + 1 + 1 + 1) #[.int .u64 s.h]
  b5 : Box W 4 (n + 1 + 1 + 1 + 1 + 1) #[.bool false]
  b6 : Box W 3 (n + 1 + 1 + 1 + 1 + 1 + 1) #[.int .i64 s.lk]
  b7 : Box W 4 (n + 1 + 1 + 1 + 1 + 1 + 1 + 1) #[.bool s.sp]
  b8 : Box W 41 (n + 1 + 1 + 1 + 1 + 1 + 1 + 1 + 1) #[.pointer (some ⟨xb, 0, none⟩)]
  b9 : Box W 3 (n + 1 + 1 + 1 + 1 + 1 + 1 + 1 + 1 + 1) #[.int .i64 ci]
theorem Box.keptG {w w' : World} {t : TypeId} {b : Nat} {vs : Array Value} (h : Box w t b vs) {row : Option Nat} (hf : w.grownBy w' row) (hr : ∀ r, row = some r → ∃ o : Obj, w.heap[r]? = some o ∧ o.isCells = false) : Box w' t b vs := by
  refine h.kept hf (fun e => ?_)
  obtain ⟨o, h1, h2⟩ := hr b e.symm
  have h3 : w.heap[b]? = some (.cells vs t (0, 0)) := h
  rw [h3] at h1
  cases h1
  cases h2
theorem PB.own (n xb own : Nat) (looks : Int) (ci : Nat) {W W' : World} {s : PS} (h : PB W n xb own looks ci s) {row : Option Nat} (hf : W.grownBy W' row) (hr : ∀ r, row = some r → ∃ o : Obj, W.heap[r]? = some o ∧ o.isCells = false) : PB W' n xb own looks ci s :=
  ⟨h.b0.keptG hf hr, h.b1.keptG hf hr, h.b2.keptG hf hr, h.b3.keptG hf hr, h.b4.keptG hf hr, h.b5.keptG hf hr, h.b6.keptG hf hr, h.b7.keptG hf hr, h.b8.keptG hf hr, h.b9.keptG hf hr⟩
theorem Box.far {w : World} {t : TypeId} {b j : Nat} {vs : Array Value} {v : Value} (h : Box w t b vs) (hn : b ≠ j) : Box (w.setCell ⟨j, 0, none⟩ v) t b vs := h.kept (gb_setCell (gb_refl _ (some j)) _) (by simpa using hn)
theorem PB.lk {n xb own : Nat} {looks : Int} {ci : Nat} {W : World} {s : PS} (h : PB W n xb own looks ci s) (x : Nat) : PB (W.setCell ⟨n + 1 + 1 + 1 + 1 + 1 + 1, 0, none⟩ (.int .i64 x)) n xb own looks ci ⟨s.h, s.sp, x⟩ :=
  ⟨h.b0.far (by omega), h.b1.far (by omega), h.b2.far (by omega), h.b3.far (by omega), h.b4.far (by omega), h.b5.far (by omega), h.b6.set 0 _, h.b7.far (by omega), h.b8.far (by omega), h.b9.far (by omega)⟩
theorem PB.hd {n xb own : Nat} {looks : Int} {ci : Nat} {W : World} {s : PS} (h : PB W n xb own looks ci s) (x : Nat) : PB (W.setCell ⟨n + 1 + 1 + 1 + 1, 0, none⟩ (.int .u64 x)) n xb own looks ci ⟨x, s.sp, s.lk⟩ :=
  ⟨h.b0.far (by omega), h.b1.far (by omega), h.b2.far (by omega), h.b3.far (by omega), h.b4.set 0 _, h.b5.far (by omega), h.b6.far (by omega), h.b7.far (by omega), h.b8.far (by omega), h.b9.far (by omega)⟩
theorem PB.spd {n xb own : Nat} {looks : Int} {ci : Nat} {W : World} {s : PS} (h : PB W n xb own looks ci s) (x : Bool) : PB (W.setCell ⟨n + 1 + 1 + 1 + 1 + 1 + 1 + 1, 0, none⟩ (.bool x)) n xb own looks ci ⟨s.h, x, s.lk⟩ :=
  ⟨h.b0.far (by omega), h.b1.far (by omega), h.b2.far (by omega), h.b3.far (by omega), h.b4.far (by omega), h.b5.far (by omega), h.b6.far (by omega), h.b7.set 0 _, h.b8.far (by omega), h.b9.far (by omega)⟩
theorem PB.isd {n xb own : Nat} {looks : Int} {ci : Nat} {W : World} {s : PS} (h : PB W n xb own looks ci s) : PB (W.setCell ⟨n + 1 + 1 + 1 + 1 + 1, 0, none⟩ (.bool false)) n xb own looks ci s :=
  ⟨h.b0.far (by omega), h.b1.far (by omega), h.b2.far (by omega), h.b3.far (by omega), h.b4.far (by omega), h.b5.set 0 _, h.b6.far (by omega), h.b7.far (by omega), h.b8.far (by omega), h.b9.far (by omega)⟩
theorem KI.setCell {n₀ Bl Bc : Nat} {W : World} {j : Nat} (v : Value) (h1 : n₀ ≤ j) (h2 : j ≠ Bl) (h3 : j ≠ Bc) : KI n₀ Bl Bc W (W.setCell ⟨j, 0, none⟩ v) := by
  have hg : W.grownBy (W.setCell ⟨j, 0, none⟩ v) (some j) := gb_setCell (gb_refl W (some j)) _
  refine ⟨(Below.refl n₀ W).setCell (p := ⟨j, 0, none⟩) h1 _, fun k hk => ?_⟩
  by_cases hkk : k < W.heap.size
  · exact hg.block k hkk (by simp; rcases hk with rfl | rfl <;> omega)
  · rw [Array.getElem?_eq_none (by simp; omega), Array.getElem?_eq_none (by omega)]

section
variable {w : World} {xb sb qb gl gc : Nat} {F : Nat → Prop} {B : Bl} {b c d e f g : Int} {A : Ab} {m : List Int} {T : List Nat} {bs : Nat → It} {cls : Nat → Nat} {X : Nat → Nat → List Nat} {mk : Nat → Nat} {hot warm : Nat}
theorem row_stops {n₀ : Nat} (n : Nat) (hn : 1 ≤ n) (Bl Bc : Nat) {ci : Nat} (hc : ci < A.n) (hn₀ : n₀ ≤ w.heap.size) (hBl : Bl < w.heap.size) (hBc : Bc < w.heap.size) (c1 : w.cell? ⟨Bl, 0, none⟩ = some (.pointer (some ⟨xb, 0, none⟩))) (c2 : w.cell? ⟨Bc, 0, none⟩ = some (.int .i64 ci))
    (hL : LB w n₀ xb sb qb gl gc F B b c d e f g A m T bs cls X mk hot warm) :
    SeqStopsK Fence.wide n Tryz.prog 116 #[.pointer (some ⟨Bl, 0, none⟩), .pointer (some ⟨Bc, 0, none⟩)] (fun x : { H : Nat // H ∈ T } => #[Value.int .u64 (x.1 : Nat)]) (KI n₀ Bl Bc) (fun ys => ys.map Subtype.val = rowN X ci) (fun pre => pre.map Subtype.val <+: rowN X ci) (rowN X ci).length w := fun l J Jx W hW hJ hJx hY h0 =>
  row1_in n hn l Bl Bc hc J Jx _ (Nat.le_refl _) hY W (Nat.le_trans hn₀ hW.size) (Nat.lt_of_lt_of_le hBl hW.size) (Nat.lt_of_lt_of_le hBc hW.size) hJ ((hW.cell (p := ⟨Bl, 0, none⟩) hBl).trans c1) ((hW.cell (p := ⟨Bc, 0, none⟩) hBc).trans c2) (hL.below (hW.mono hn₀)) h0

theorem rowN_len (h : LQ w xb sb qb gl gc F B b c d e f g A m T bs cls X mk hot warm) (ci : Nat) : (rowN X ci).length ≤ 3298534883328 := by
  have t0 := h.ql.tn ci 0
  have t1 := h.ql.tn ci 1
  have t2 := h.ql.tn ci 2
  simp only [rowN, List.length_append, List.length_reverse]
  omega
set_option maxRecDepth 100000 in
set_option maxHeartbeats 8000000 in
theorem pick_38 (h : LQ w xb sb qb gl gc F B b c d e f g A m T bs cls X mk hot warm) {ci : Nat} (hc : ci < A.n) (own : Nat) (looks : Int) :
    Calls Tryz.prog 38 #[.pointer (some ⟨xb, 0, none⟩), .int .i64 ci, .int .u64 own, .int .i64 looks, Value.nilFunc] w fun y w' => y = .returned (.tuple #[.int .u64 (pfold own looks mk (rowN X ci)).h, .bool false, .int .i64 (pfold own looks mk (rowN X ci)).lk]) ∧ w.grownBy w' none := by
  have hLB := h.lb
  have hnf := neq_nilF 79 Tryz.underlying79
  have hRl := rowN_len h ci
  refine (callsIn_wide (n := 4)).1 ?_
  refine callsIn_of_wp_marks Tryz.func38 rfl trivial ?_ rfl
  simp only [Tryz.ntmps38, List.size_toArray, List.length_cons, List.length_nil, Nat.reduceAdd, Nat.reduceSub, Array.replicate_succ, Array.replicate_zero, List.push_toArray, List.append_toArray, List.nil_append, List.cons_append]
  gi_wp2_with (refine ⟨trivial, ?_⟩; gi_at_call 73; refine (callsIn_wide.2 (row_73 _ _ _)).mono ?_; rintro y w' ⟨rfl, rfl⟩)
  obtain ⟨N0, hN0⟩ : ∃ N0, w.heap.size = N0 := ⟨_, rfl⟩
  obtain ⟨W0, hW0⟩ : ∃ W0, ((((((((((w.alloc (Obj.cells #[Value.pointer (some ⟨xb, 0, none⟩)] 41)).alloc (Obj.cells #[Value.int IntKind.u64 own] 48)).alloc (Obj.cells #[Value.int IntKind.i64 looks] 3)).alloc (Obj.cells #[Value.nilFunc] 79)).alloc (Obj.cells #[Value.int IntKind.u64 0] 48)).alloc (Obj.cells #[Value.bool false] 4)).alloc (Obj.cells #[Value.int IntKind.i64 0] 3)).alloc (Obj.cells #[Value.bool false] 4)).alloc (Obj.cells #[Value.pointer (some ⟨xb, 0, none⟩)] 41)).alloc (Obj.cells #[Value.int IntKind.i64 ci] 3)) = W0 := ⟨_, rfl⟩
  rw [hW0]
  have hst : PB W0 N0 xb own looks ci ⟨0, false, 0⟩ ∧ Below N0 w W0 ∧ W0.heap.size = N0 + 1 + 1 + 1 + 1 + 1 + 1 + 1 + 1 + 1 + 1 := by
    subst hW0
    have hz : (pfold own looks mk []).h = 0 ∧ (pfold own looks mk []).sp = false ∧ (pfold own looks mk []).lk = 0 := ⟨rfl, rfl, rfl⟩
    have L := fun (V : World) (t : TypeId) (vs : Array Value) (n : Nat) (hn : V.heap.size = n) => (hn ▸ Box.new V t vs : Box (V.alloc (.cells vs t)) t n vs)
    have G := fun (V : World) (o : Obj) => World.grownBy_alloc V o none
    have s0 := hN0
    have B0 := L w 41 #[.pointer (some ⟨xb, 0, none⟩)] N0 hN0
    have g0 := G w (Obj.cells #[Value.pointer (some ⟨xb, 0, none⟩)] 41)
    have s1 : (w.alloc (Obj.cells #[Value.pointer (some ⟨xb, 0, none⟩)] 41)).heap.size = N0 + 1 := by simp [hN0]
    have bl : Below N0 w (w.alloc (Obj.cells #[Value.pointer (some ⟨xb, 0, none⟩)] 41)) := (Below.refl _ w).alloc (by omega) _
    generalize w.alloc (Obj.cells #[Value.pointer (some ⟨xb, 0, none⟩)] 41) = V1 at *
    have B1 := L V1 48 #[.int .u64 own] _ s1
    have g1 := G V1 (Obj.cells #[Value.int IntKind.u64 own] 48)
    have s2 : (V1.alloc (Obj.cells #[Value.int IntKind.u64 own] 48)).heap.size = N0 + 1 + 1 := by simp [s1]
    replace bl : Below N0 w (V1.alloc (Obj.cells #[Value.int IntKind.u64 own] 48)) := bl.alloc (by omega) _
    generalize V1.alloc (Obj.cells #[Value.int IntKind.u64 own] 48) = V2 at *
    have B2 := L V2 3 #[.int .i64 looks] _ s2
    have g2 := G V2 (Obj.cells #[Value.int IntKind.i64 looks] 3)
    have s3 : (V2.alloc (Obj.cells #[Value.int IntKind.i64 looks] 3)).heap.size = N0 + 1 + 1 + 1 := by simp [s2]
    replace bl : Below N0 w (V2.alloc (Obj.cells #[Value.int IntKind.i64 looks] 3)) := bl.alloc (by omega) _
    generalize V2.alloc (Obj.cells #[Value.int IntKind.i64 looks] 3) = V3 at *
    have B3 := L V3 79 #[Value.nilFunc] _ s3
    have g3 := G V3 (Obj.cells #[Value.nilFunc] 79)
    have s4 : (V3.alloc (Obj.cells #[Value.nilFunc] 79)).heap.size = N0 + 1 + 1 + 1 + 1 := by simp [s3]
    replace bl : Below N0 w (V3.alloc (Obj.cells #[Value.nilFunc] 79)) := bl.alloc (by omega) _
    generalize V3.alloc (Obj.cells #[Value.nilFunc] 79) = V4 at *
    have B4 := L V4 48 #[.int .u64 0] _ s4
    have g4 := G V4 (Obj.cells #[Value.int IntKind.u64 0] 48)
    have s5 : (V4.alloc (Obj.cells #[Value.int IntKind.u64 0] 48)).heap.size = N0 + 1 + 1 + 1 + 1 + 1 := by simp [s4]
    replace bl : Below N0 w (V4.alloc (Obj.cells #[Value.int IntKind.u64 0] 48)) := bl.alloc (by omega) _
    generalize V4.alloc (Obj.cells #[Value.int IntKind.u64 0] 48) = V5 at *
    have B5 := L V5 4 #[.bool false] _ s5
    have g5 := G V5 (Obj.cells #[Value.bool false] 4)
    have s6 : (V5.alloc (Obj.cells #[Value.bool false] 4)).heap.size = N0 + 1 + 1 + 1 + 1 + 1 + 1 := by simp [s5]
    replace bl : Below N0 w (V5.alloc (Obj.cells #[Value.bool false] 4)) := bl.alloc (by omega) _
    generalize V5.alloc (Obj.cells #[Value.bool false] 4) = V6 at *
    have B6 := L V6 3 #[.int .i64 0] _ s6
    have g6 := G V6 (Obj.cells #[Value.int IntKind.i64 0] 3)
    have s7 : (V6.alloc (Obj.cells #[Value.int IntKind.i64 0] 3)).heap.size = N0 + 1 + 1 + 1 + 1 + 1 + 1 + 1 := by simp [s6]
    replace bl : Below N0 w (V6.alloc (Obj.cells #[Value.int IntKind.i64 0] 3)) := bl.alloc (by omega) _
    generalize V6.alloc (Obj.cells #[Value.int IntKind.i64 0] 3) = V7 at *
    have B7 := L V7 4 #[.bool false] _ s7
    have g7 := G V7 (Obj.cells #[Value.bool false] 4)
    have s8 : (V7.alloc (Obj.cells #[Value.bool false] 4)).heap.size = N0 + 1 + 1 + 1 + 1 + 1 + 1 + 1 + 1 := by simp [s7]
    replace bl : Below N0 w (V7.alloc (Obj.cells #[Value.bool false] 4)) := bl.alloc (by omega) _
    generalize V7.alloc (Obj.cells #[Value.bool false] 4) = V8 at *
    have B8 := L V8 41 #[.pointer (some ⟨xb, 0, none⟩)] _ s8
    have g8 := G V8 (Obj.cells #[Value.pointer (some ⟨xb, 0, none⟩)] 41)
    have s9 : (V8.alloc (Obj.cells #[Value.pointer (some ⟨xb, 0, none⟩)] 41)).heap.size = N0 + 1 + 1 + 1 + 1 + 1 + 1 + 1 + 1 + 1 := by simp [s8]
    replace bl : Below N0 w (V8.alloc (Obj.cells #[Value.pointer (some ⟨xb, 0, none⟩)] 41)) := bl.alloc (by omega) _
    generalize V8.alloc (Obj.cells #[Value.pointer (some ⟨xb, 0, none⟩)] 41) = V9 at *
    have B9 := L V9 3 #[.int .i64 ci] _ s9
    have g9 := G V9 (Obj.cells #[Value.int IntKind.i64 ci] 3)
    have s10 : (V9.alloc (Obj.cells #[Value.int IntKind.i64 ci] 3)).heap.size = N0 + 1 + 1 + 1 + 1 + 1 + 1 + 1 + 1 + 1 + 1 := by simp [s9]
    replace bl : Below N0 w (V9.alloc (Obj.cells #[Value.int IntKind.i64 ci] 3)) := bl.alloc (by omega) _
    generalize V9.alloc (Obj.cells #[Value.int IntKind.i64 ci] 3) = V10 at *
    have k8 := gb_trans g8 g9
    have k7 := gb_trans g7 k8
    have k6 := gb_trans g6 k7
    have k5 := gb_trans g5 k6
    have k4 := gb_trans g4 k5
    have k3 := gb_trans g3 k4
    have k2 := gb_trans g2 k3
    have k1 := gb_trans g1 k2
    exact ⟨⟨B0.kept k1 (by simp), B1.kept k2 (by simp), B2.kept k3 (by simp), B3.kept k4 (by simp), B4.kept k5 (by simp), B5.kept k6 (by simp), B6.kept k7 (by simp), B7.kept k8 (by simp), B8.kept g9 (by simp), B9⟩, bl, s10⟩
  clear hW0
  obtain ⟨hPB0, hB0, hs0⟩ := hst
  rw [hN0] at hLB
  refine wpIn_rangeFunc_ownF rfl (by omega) (gf := 116) (lb := #[.pointer (some ⟨N0 + 1 + 1 + 1 + 1 + 1 + 1 + 1 + 1, 0, none⟩), .pointer (some ⟨N0 + 1 + 1 + 1 + 1 + 1 + 1 + 1 + 1 + 1, 0, none⟩)]) (by rw [← hN0]; rfl) trivial (enters_of Tryz.func116 (by kernel_rfl) rfl)
    (row_stops (n₀ := N0) _ (by omega) (N0 + 1 + 1 + 1 + 1 + 1 + 1 + 1 + 1) (N0 + 1 + 1 + 1 + 1 + 1 + 1 + 1 + 1 + 1) hc (by omega) (by omega) (by omega) (hPB0.b8.cell 0) (hPB0.b9.cell 0) (hLB.below hB0)) (fun h1 h2 => h1.trans h2) ?hKb (Below.refl _ _) (fun _ => rfl)
    (fun pre W => PB W N0 xb own looks ci (pfold own looks mk (pre.map Subtype.val)) ∧ Below N0 w W)
    (fun c pre W => (c = .exit 0 ∧ looks ≤ ((pfold own looks mk (pre.map Subtype.val)).lk : Int) ∧ PB W N0 xb own looks ci (pfold own looks mk (pre.map Subtype.val))) ∧ Below N0 w W)
    (OwnFrom.and (Own.from (fun s A B row hs hg hr => hs.own _ _ _ _ _ hg hr) _) (ownFrom_below (by omega) (by omega)))
    (fun c => OwnFrom.and (Own.from (fun s A B row hs hg hr => ⟨hs.1, hs.2.1, hs.2.2.own _ _ _ _ _ hg hr⟩) _) (ownFrom_below (by omega) (by omega)))
    ⟨hPB0, hB0⟩
    (fun x => { tmps := #[Value.pointer (some ⟨xb, 0, none⟩), Value.int IntKind.i64 ci, Value.int IntKind.u64 own, Value.int IntKind.i64 looks, Value.nilFunc, Value.pointer (some ⟨N0, 0, none⟩), undef, Value.pointer (some ⟨N0 + 1, 0, none⟩), Value.pointer (some ⟨N0 + 1 + 1, 0, none⟩), Value.pointer (some ⟨N0 + 1 + 1 + 1, 0, none⟩), Value.pointer (some ⟨N0 + 1 + 1 + 1 + 1, 0, none⟩), Value.pointer (some ⟨N0 + 1 + 1 + 1 + 1 + 1, 0, none⟩), Value.pointer (some ⟨N0 + 1 + 1 + 1 + 1 + 1 + 1, 0, none⟩), Value.pointer (some ⟨N0 + 1 + 1 + 1 + 1 + 1 + 1 + 1, 0, none⟩), Value.int IntKind.u64 (x.1 : Nat), Value.pointer (some ⟨xb, 0, none⟩), Value.int IntKind.i64 ci, Value.func (Fn.func 116) #[] #[Value.pointer (some ⟨N0 + 1 + 1 + 1 + 1 + 1 + 1 + 1 + 1, 0, none⟩), Value.pointer (some ⟨N0 + 1 + 1 + 1 + 1 + 1 + 1 + 1 + 1 + 1, 0, none⟩)], Value.int IntKind.u64 (x.1 : Nat), undef, undef, undef, undef, undef, undef, undef, undef, undef, undef, undef, undef, undef, undef, undef, undef, undef, undef, undef, undef, undef, undef, undef, undef, undef, undef, undef, undef, undef, undef, undef, undef, undef, undef], defers := [] }) ?assign ?body ?done ?stop
  case hKb =>
    intro W l o o' hl ho h1 h2
    rw [hs0] at hl
    refine ⟨belowK_b (w := W0) (by omega) W l o o' (by omega) ho h1 h2, fun k hk => ?_⟩
    exact (grownBy_putObj' W l o').block k (by have := (Array.getElem?_eq_some_iff.1 ho).1; omega) (by simp; omega)
  case assign =>
    intro l x W K hK
    subst hN0
    gi_wp2
    exact hK
  case body =>
    rintro l pre x W ⟨hP, hB⟩ hlen
    subst hN0
    have hlk := pfold_lk own looks mk (pre.map Subtype.val)
    rw [List.length_map] at hlk
    have hsn := pfold_snoc own looks mk (pre.map Subtype.val) x.1
    have hmap : (pre ++ [x]).map Subtype.val = pre.map Subtype.val ++ [x.1] := by simp
    have hac := fun W1 (h1 : Below w.heap.size w W1) => active_81 (hLB.below h1).lq x.2
    obtain ⟨act, hact⟩ : ∃ act, decide (mk x.1 % 2 = 1) = act := ⟨_, rfl⟩
    simp only [hact] at hac
    generalize pfold own looks mk (pre.map Subtype.val) = s at *
    have c0 := hP.b0.cell 0
    have c1 := hP.b1.cell 0
    have c2 := hP.b2.cell 0
    have c3 := hP.b3.cell 0
    have c4 := hP.b4.cell 0
    have c6 := hP.b6.cell 0
    have c7 := hP.b7.cell 0
    have f4 := hP.b4.fz 0
    have f6 := hP.b6.fz 0
    have f7 := hP.b7.fz 0
    simp at c0 c1 c2 c3 c4 c6 c7
    by_cases hxo : x.1 = own
    · have hxi : ((x.1 : Nat) : Int) = (own : Int) := by omega
      have hE : pfold own looks mk ((pre ++ [x]).map Subtype.val) = s := by rw [hmap, hsn]; unfold pst; rw [if_pos hxo]
      clear hac hsn
      gi_wp2
      exact ⟨KeepsOthers.refl _, ⟨Below.refl _ _, fun _ _ => rfl⟩, by rw [hE]; exact hP, hB⟩
    · have hxi : ¬ ((x.1 : Nat) : Int) = (own : Int) := by omega
      by_cases hfull : looks ≤ (s.lk : Int)
      · have hE : pfold own looks mk ((pre ++ [x]).map Subtype.val) = s := by rw [hmap, hsn]; exact pst_full hfull _
        clear hac hsn
        gi_wp2
        exact ⟨KeepsOthers.refl _, ⟨rfl, by rw [hE]; exact hfull, by rw [hE]; exact hP⟩, hB⟩
      · have hE0 : pfold own looks mk ((pre ++ [x]).map Subtype.val) = if s.lk + 1 = 1 ∨ (s.sp = true ∧ ¬ mk x.1 % 2 = 1) then ⟨x.1, decide (mk x.1 % 2 = 1), s.lk + 1⟩ else ⟨s.h, s.sp, s.lk + 1⟩ := by
          rw [hmap, hsn]; unfold pst; rw [if_neg hxo, if_neg hfull]
        have e1 : IntKind.i64.wrap ((s.lk : Int) + 1) = ((s.lk + 1 : Nat) : Int) := by rw [IntKind.wrap_i64]; omega
        obtain ⟨n1, hn1⟩ : ∃ n1, s.lk + 1 = n1 := ⟨_, rfl⟩
        rw [hn1] at e1 hE0
        have hP1 := hP.lk n1
        have hB1 : Below w.heap.size w (W.setCell ⟨w.heap.size + 1 + 1 + 1 + 1 + 1 + 1, 0, none⟩ (.int .i64 n1)) := hB.setCell (p := ⟨w.heap.size + 1 + 1 + 1 + 1 + 1 + 1, 0, none⟩) (by dsimp only; omega) _
        have hk1 : KeepsOthers W (W.setCell ⟨w.heap.size + 1 + 1 + 1 + 1 + 1 + 1, 0, none⟩ (.int .i64 n1)) := KeepsOthers.setCell _ _ _
        have hi1 : KI w.heap.size (w.heap.size + 1 + 1 + 1 + 1 + 1 + 1 + 1 + 1) (w.heap.size + 1 + 1 + 1 + 1 + 1 + 1 + 1 + 1 + 1) W (W.setCell ⟨w.heap.size + 1 + 1 + 1 + 1 + 1 + 1, 0, none⟩ (.int .i64 n1)) := KI.setCell _ (by omega) (by omega) (by omega)
        obtain ⟨W1, hW1⟩ : ∃ W1, W.setCell ⟨w.heap.size + 1 + 1 + 1 + 1 + 1 + 1, 0, none⟩ (.int .i64 n1) = W1 := ⟨_, rfl⟩
        rw [hW1] at hP1 hB1 hk1 hi1
        have d0 := hP1.b0.cell 0
        have d3 := hP1.b3.cell 0
        have d4 := hP1.b4.cell 0
        have d6 := hP1.b6.cell 0
        have d7 := hP1.b7.cell 0
        have g4 := hP1.b4.fz 0
        have g7 := hP1.b7.fz 0
        simp at d0 d3 d4 d6 d7
        have hac1 := hac _ hB1
        have HAC : Hid _ := hac
        clear hac hsn hmap
        by_cases hone : n1 = 1
        · subst hone
          rw [if_pos (.inl rfl), hact] at hE0
          simp only [show ((1 : Nat) : Int) = 1 from rfl] at e1 hW1 d6
          gi_wp2
          refine ⟨fun _ h => (by cases h), ?_⟩
          gi_wp2_with (first | (gi_at_call 81; refine (CallsIn.inRound l (callsIn_wide.2 hac1)).mono ?_; rintro y w5 ⟨rfl, hg5⟩; have hP5 := hP1.own _ _ _ _ _ hg5 (by simp); have e0 := gb_cellN hg5 d0; have e4 := gb_cellN hg5 d4; have e7 := gb_cellN hg5 d7; have k4 := hP5.b4.fz 0; have k7 := hP5.b7.fz 0; have hB5 := hB1.trans (show Below w.heap.size W1 w5 from ⟨hg5.os, hg5.tape, hg5.output, hg5.size, fun k hk => hg5.block k (by have := hB1.size; omega) (by simp)⟩)) | (refine ⟨trivial, ?_⟩))
          have hk5 : KeepsOthers W1 w5 := ⟨hg5.size, fun k o ho _ => by rw [hg5.block k (Array.getElem?_eq_some_iff.1 ho).1 (by simp)]; exact ho⟩
          have hi5 : KI w.heap.size (w.heap.size + 1 + 1 + 1 + 1 + 1 + 1 + 1 + 1) (w.heap.size + 1 + 1 + 1 + 1 + 1 + 1 + 1 + 1 + 1) W1 w5 := KI.grown hg5 hB1.size hP1.b8.lt hP1.b9.lt
          refine ⟨((hk1.trans hk5).trans (KeepsOthers.setCell _ _ _)).trans (KeepsOthers.setCell _ _ _), ((hi1.trans hi5).trans (KI.setCell _ (by omega) (by omega) (by omega))).trans (KI.setCell _ (by omega) (by omega) (by omega)), ?_, (hB5.setCell (p := ⟨w.heap.size + 1 + 1 + 1 + 1, 0, none⟩) (by dsimp only; omega) _).setCell (p := ⟨w.heap.size + 1 + 1 + 1 + 1 + 1 + 1 + 1, 0, none⟩) (by dsimp only; omega) _⟩
          rw [hE0]
          exact (hP5.hd x.1).spd act
        · have hone' : ¬ (n1 : Int) = 1 := by omega
          rcases hsp : s.sp with _ | _
          · rw [hsp] at d7
            have hE1 : pfold own looks mk ((pre ++ [x]).map Subtype.val) = ⟨s.h, s.sp, n1⟩ := by
              rw [hE0, if_neg]
              rintro (h1 | h1)
              · exact hone h1
              · rw [hsp] at h1; exact absurd h1.1 (by decide)
            clear hE0
            gi_wp2
            refine ⟨fun _ h => (by cases h), ?_⟩
            gi_wp2_with (refine ⟨trivial, ?_⟩)
            exact ⟨hk1, hi1, by rw [hE1]; exact hP1, hB1⟩
          · rw [hsp] at d7
            rcases hab : act with _ | _
            · have hE1 : pfold own looks mk ((pre ++ [x]).map Subtype.val) = ⟨x.1, act, n1⟩ := by
                rw [hE0, if_pos (.inr ⟨hsp, by rw [hab] at hact; exact of_decide_eq_false hact⟩), hact]
              subst hab
              clear hE0 hact
              gi_wp2
              refine ⟨fun _ h => (by cases h), ?_⟩
              gi_wp2_with (first | (gi_at_call 81; refine (CallsIn.inRound l (callsIn_wide.2 hac1)).mono ?_; clear hac1; rintro y w5 ⟨rfl, hg5⟩; have hP5 := hP1.own _ _ _ _ _ hg5 (by simp); have e0 := gb_cellN hg5 d0; have e4 := gb_cellN hg5 d4; have e7 := gb_cellN hg5 d7; have hB5 := hB1.trans (show Below w.heap.size W1 w5 from ⟨hg5.os, hg5.tape, hg5.output, hg5.size, fun k hk => hg5.block k (by have := hB1.size; omega) (by simp)⟩); have hac5 := HAC.out _ hB5) | (gi_at_call 81; refine (CallsIn.inRound l (callsIn_wide.2 hac5)).mono ?_; clear hac5; rintro y w6 ⟨rfl, hg6⟩; have hP6 := hP5.own _ _ _ _ _ hg6 (by simp); have z4 := gb_cellN hg6 e4; have z7 := gb_cellN hg6 e7; have k4 := hP6.b4.fz 0; have k7 := hP6.b7.fz 0) | (refine ⟨trivial, ?_⟩))
              have hg56 := gb_trans hg5 hg6
              have hk5 : KeepsOthers W1 w6 := ⟨hg56.size, fun k o ho _ => by rw [hg56.block k (Array.getElem?_eq_some_iff.1 ho).1 (by simp)]; exact ho⟩
              have hi5 : KI w.heap.size (w.heap.size + 1 + 1 + 1 + 1 + 1 + 1 + 1 + 1) (w.heap.size + 1 + 1 + 1 + 1 + 1 + 1 + 1 + 1 + 1) W1 w6 := KI.grown hg56 hB1.size hP1.b8.lt hP1.b9.lt
              have hB6 := hB1.trans (show Below w.heap.size W1 w6 from ⟨hg56.os, hg56.tape, hg56.output, hg56.size, fun k hk => hg56.block k (by have := hB1.size; omega) (by simp)⟩)
              refine ⟨((hk1.trans hk5).trans (KeepsOthers.setCell _ _ _)).trans (KeepsOthers.setCell _ _ _), ((hi1.trans hi5).trans (KI.setCell _ (by omega) (by omega) (by omega))).trans (KI.setCell _ (by omega) (by omega) (by omega)), ?_, (hB6.setCell (p := ⟨w.heap.size + 1 + 1 + 1 + 1, 0, none⟩) (by dsimp only; omega) _).setCell (p := ⟨w.heap.size + 1 + 1 + 1 + 1 + 1 + 1 + 1, 0, none⟩) (by dsimp only; omega) _⟩
              rw [hE1]
              exact (hP6.hd x.1).spd false
            · have hE1 : pfold own looks mk ((pre ++ [x]).map Subtype.val) = ⟨s.h, s.sp, n1⟩ := by
                rw [hE0, if_neg]
                rintro (h1 | h1)
                · exact hone h1
                · rw [hab] at hact; exact h1.2 (of_decide_eq_true hact)
              subst hab
              clear hE0 hact
              gi_wp2
              refine ⟨fun _ h => (by cases h), ?_⟩
              gi_wp2_with (first | (gi_at_call 81; refine (CallsIn.inRound l (callsIn_wide.2 hac1)).mono ?_; clear hac1; rintro y w5 ⟨rfl, hg5⟩; have hP5 := hP1.own _ _ _ _ _ hg5 (by simp); have e0 := gb_cellN hg5 d0; have e4 := gb_cellN hg5 d4; have e7 := gb_cellN hg5 d7; have hB5 := hB1.trans (show Below w.heap.size W1 w5 from ⟨hg5.os, hg5.tape, hg5.output, hg5.size, fun k hk => hg5.block k (by have := hB1.size; omega) (by simp)⟩); have hac5 := HAC.out _ hB5) | (refine ⟨trivial, ?_⟩))
              have hk5 : KeepsOthers W1 w5 := ⟨hg5.size, fun k o ho _ => by rw [hg5.block k (Array.getElem?_eq_some_iff.1 ho).1 (by simp)]; exact ho⟩
              have hi5 : KI w.heap.size (w.heap.size + 1 + 1 + 1 + 1 + 1 + 1 + 1 + 1) (w.heap.size + 1 + 1 + 1 + 1 + 1 + 1 + 1 + 1 + 1) W1 w5 := KI.grown hg5 hB1.size hP1.b8.lt hP1.b9.lt
              exact ⟨hk1.trans hk5, hi1.trans hi5, by rw [hE1]; exact hP5, hB5⟩
  case done =>
    rintro D ys W hD hS ⟨hP, hB⟩ hK
    subst hN0
    rw [hS] at hP
    obtain ⟨s, hs⟩ : ∃ s, pfold own looks mk (rowN X ci) = s := ⟨_, rfl⟩
    rw [hs] at hP
    have hP2 : PB (W.setCell ⟨w.heap.size + 1 + 1 + 1 + 1, 0, none⟩ (.int .u64 s.h)) w.heap.size xb own looks ci s := hP.hd s.h
    have hP3 := hP2.isd
    have hP4 : PB (((W.setCell ⟨w.heap.size + 1 + 1 + 1 + 1, 0, none⟩ (.int .u64 s.h)).setCell ⟨w.heap.size + 1 + 1 + 1 + 1 + 1, 0, none⟩ (.bool false)).setCell ⟨w.heap.size + 1 + 1 + 1 + 1 + 1 + 1, 0, none⟩ (.int .i64 s.lk)) w.heap.size xb own looks ci s := hP3.lk s.lk
    have c4 := hP.b4.cell 0
    have c6 := hP.b6.cell 0
    have f4 := hP.b4.fz 0
    have c5' := hP2.b5.cell 0
    have c6' := hP2.b6.cell 0
    have f5' := hP2.b5.fz 0
    have c6q := hP3.b6.cell 0
    have f6q := hP3.b6.fz 0
    simp only [List.getElem?_toArray, List.getElem?_cons_zero] at c4 c6 c5' c6' c6q
    have hB4 : Below w.heap.size w (((W.setCell ⟨w.heap.size + 1 + 1 + 1 + 1, 0, none⟩ (.int .u64 s.h)).setCell ⟨w.heap.size + 1 + 1 + 1 + 1 + 1, 0, none⟩ (.bool false)).setCell ⟨w.heap.size + 1 + 1 + 1 + 1 + 1 + 1, 0, none⟩ (.int .i64 s.lk)) := ((hB.setCell (p := ⟨w.heap.size + 1 + 1 + 1 + 1, 0, none⟩) (by dsimp only; omega) _).setCell (p := ⟨w.heap.size + 1 + 1 + 1 + 1 + 1, 0, none⟩) (by dsimp only; omega) _).setCell (p := ⟨w.heap.size + 1 + 1 + 1 + 1 + 1 + 1, 0, none⟩) (by dsimp only; omega) _
    have hK4 := (((KeepsOthers.setCell W ⟨w.heap.size + 1 + 1 + 1 + 1, 0, none⟩ (.int .u64 s.h)).trans (KeepsOthers.setCell _ ⟨w.heap.size + 1 + 1 + 1 + 1 + 1, 0, none⟩ (.bool false))).trans (KeepsOthers.setCell _ ⟨w.heap.size + 1 + 1 + 1 + 1 + 1 + 1, 0, none⟩ (.int .i64 s.lk))).same D _ hK rfl
    gi_wp2
    refine wpIn_wide.2 ?_
    go_region_law (fail)
    all_goals gi_wp2
    all_goals
      generalize ((W.setCell ⟨w.heap.size + 1 + 1 + 1 + 1, 0, none⟩ (.int .u64 s.h)).setCell ⟨w.heap.size + 1 + 1 + 1 + 1 + 1, 0, none⟩ (.bool false)).setCell ⟨w.heap.size + 1 + 1 + 1 + 1 + 1 + 1, 0, none⟩ (.int .i64 s.lk) = V at *
      have hK5 := (KeepsOthers.drew V).same D _ hK4 rfl
      refine ⟨by simp, .inl ⟨_, _, rfl, run_takeDeferred hK5, ?_⟩⟩
      have hgD := grownBy_putObj' V.drew D (.deferred none)
      have hPe := (hP4.own _ _ _ _ _ (gb_drew (gb_refl V none)) (by simp)).own _ _ _ _ _ hgD (fun r e => by cases e; exact ⟨_, hK5, rfl⟩)
      have x4 := hPe.b4.cell 0
      have x5 := hPe.b5.cell 0
      have x6 := hPe.b6.cell 0
      simp only [List.getElem?_toArray, List.getElem?_cons_zero] at x4 x5 x6
      have hBe := hB4.drew.trans (belowK_b (w := w) (Nat.le_refl _) V.drew D (.deferred (some [])) (.deferred none) (by rw [hs0] at hD; omega) hK5 rfl rfl)
      refine ⟨_, ?_, rfl, hBe.os, hBe.tape, hBe.output, hBe.size, fun k hk _ => hBe.block k hk⟩
      simp [results, Tryz.f38, go_sem, x4, x5, x6, hs]
  case stop =>
    rintro D c pre W hD hpre ⟨⟨rfl, hlk, hP⟩, hB⟩ hK
    subst hN0
    rw [← pfold_full hpre hlk] at hP
    clear hlk hpre
    obtain ⟨s, hs⟩ : ∃ s, pfold own looks mk (rowN X ci) = s := ⟨_, rfl⟩
    rw [hs] at hP
    have hP2 : PB (W.setCell ⟨w.heap.size + 1 + 1 + 1 + 1, 0, none⟩ (.int .u64 s.h)) w.heap.size xb own looks ci s := hP.hd s.h
    have hP3 := hP2.isd
    have hP4 : PB (((W.setCell ⟨w.heap.size + 1 + 1 + 1 + 1, 0, none⟩ (.int .u64 s.h)).setCell ⟨w.heap.size + 1 + 1 + 1 + 1 + 1, 0, none⟩ (.bool false)).setCell ⟨w.heap.size + 1 + 1 + 1 + 1 + 1 + 1, 0, none⟩ (.int .i64 s.lk)) w.heap.size xb own looks ci s := hP3.lk s.lk
    have c4 := hP.b4.cell 0
    have c6 := hP.b6.cell 0
    have f4 := hP.b4.fz 0
    have c5' := hP2.b5.cell 0
    have c6' := hP2.b6.cell 0
    have f5' := hP2.b5.fz 0
    have c6q := hP3.b6.cell 0
    have f6q := hP3.b6.fz 0
    simp only [List.getElem?_toArray, List.getElem?_cons_zero] at c4 c6 c5' c6' c6q
    have hB4 : Below w.heap.size w (((W.setCell ⟨w.heap.size + 1 + 1 + 1 + 1, 0, none⟩ (.int .u64 s.h)).setCell ⟨w.heap.size + 1 + 1 + 1 + 1 + 1, 0, none⟩ (.bool false)).setCell ⟨w.heap.size + 1 + 1 + 1 + 1 + 1 + 1, 0, none⟩ (.int .i64 s.lk)) := ((hB.setCell (p := ⟨w.heap.size + 1 + 1 + 1 + 1, 0, none⟩) (by dsimp only; omega) _).setCell (p := ⟨w.heap.size + 1 + 1 + 1 + 1 + 1, 0, none⟩) (by dsimp only; omega) _).setCell (p := ⟨w.heap.size + 1 + 1 + 1 + 1 + 1 + 1, 0, none⟩) (by dsimp only; omega) _
    have hK4 := (((KeepsOthers.setCell W ⟨w.heap.size + 1 + 1 + 1 + 1, 0, none⟩ (.int .u64 s.h)).trans (KeepsOthers.setCell _ ⟨w.heap.size + 1 + 1 + 1 + 1 + 1, 0, none⟩ (.bool false))).trans (KeepsOthers.setCell _ ⟨w.heap.size + 1 + 1 + 1 + 1 + 1 + 1, 0, none⟩ (.int .i64 s.lk))).same D _ hK rfl
    gi_wp2
    refine wpIn_wide.2 ?_
    go_region_law (fail)
    all_goals gi_wp2
    all_goals
      generalize ((W.setCell ⟨w.heap.size + 1 + 1 + 1 + 1, 0, none⟩ (.int .u64 s.h)).setCell ⟨w.heap.size + 1 + 1 + 1 + 1 + 1, 0, none⟩ (.bool false)).setCell ⟨w.heap.size + 1 + 1 + 1 + 1 + 1 + 1, 0, none⟩ (.int .i64 s.lk) = V at *
      have hK5 := (KeepsOthers.drew V).same D _ hK4 rfl
      refine ⟨by simp, .inl ⟨_, _, rfl, run_takeDeferred hK5, ?_⟩⟩
      have hgD := grownBy_putObj' V.drew D (.deferred none)
      have hPe := (hP4.own _ _ _ _ _ (gb_drew (gb_refl V none)) (by simp)).own _ _ _ _ _ hgD (fun r e => by cases e; exact ⟨_, hK5, rfl⟩)
      have x4 := hPe.b4.cell 0
      have x5 := hPe.b5.cell 0
      have x6 := hPe.b6.cell 0
      simp only [List.getElem?_toArray, List.getElem?_cons_zero] at x4 x5 x6
      have hBe := hB4.drew.trans (belowK_b (w := w) (Nat.le_refl _) V.drew D (.deferred (some [])) (.deferred none) (by rw [hs0] at hD; omega) hK5 rfl rfl)
      refine ⟨_, ?_, rfl, hBe.os, hBe.tape, hBe.output, hBe.size, fun k hk _ => hBe.block k hk⟩
      simp [results, Tryz.f38, go_sem, x4, x5, x6, hs]
end
end Go.Proofs.YtohneboimmcocaaGreat
