import Derived.Test.YtohneboimmcocaaGreatGa
import Derived.Test.YtohneboimmcocaaGreatWj
/-
  Pick with a function that tells who is dead.
-/
namespace Go.Proofs.YtohneboimmcocaaGreat
open Go.RowKit Go.Shelf
set_option linter.unusedVariables false
attribute [local go_sem] Oper.semAt_some

/-- Pick, till a dead one is met. -/
def pd (own : Nat) (looks : Int) (mk : Nat → Nat) (dd : Nat → Bool) : PS → List Nat → PS × Bool
  | s, [] => (s, false)
  | s, x :: l => if x = own then pd own looks mk dd s l else if looks ≤ (s.lk : Int) then (s, false) else if dd x = true then (⟨x, s.sp, s.lk + 1⟩, true) else pd own looks mk dd (pst own looks mk s x) l
def PDq (own : Nat) (looks : Int) (mk : Nat → Nat) (dd : Nat → Bool) (pre : List Nat) (s : PS) : Prop := ∀ l, pd own looks mk dd ⟨0, false, 0⟩ (pre ++ l) = pd own looks mk dd s l
def PDf (own : Nat) (looks : Int) (mk : Nat → Nat) (dd : Nat → Bool) (pre : List Nat) (s : PS) (b : Bool) : Prop := ∀ l, pd own looks mk dd ⟨0, false, 0⟩ (pre ++ l) = (s, b)
section
variable {own : Nat} {looks : Int} {mk : Nat → Nat} {dd : Nat → Bool} {pre : List Nat} {s : PS} {x : Nat}
theorem PDq.skip (h : PDq own looks mk dd pre s) (hx : x = own) : PDq own looks mk dd (pre ++ [x]) s := fun l => by
  rw [List.append_assoc, h ([x] ++ l)]
  show pd own looks mk dd s (x :: l) = _
  rw [pd, if_pos hx]
theorem PDq.next (h : PDq own looks mk dd pre s) (hx : ¬ x = own) (hf : ¬ looks ≤ (s.lk : Int)) (hd : dd x = false) : PDq own looks mk dd (pre ++ [x]) (pst own looks mk s x) := fun l => by
  rw [List.append_assoc, h ([x] ++ l)]
  show pd own looks mk dd s (x :: l) = _
  rw [pd, if_neg hx, if_neg hf, if_neg (by rw [hd]; decide)]
theorem PDq.full (h : PDq own looks mk dd pre s) (hx : ¬ x = own) (hf : looks ≤ (s.lk : Int)) : PDf own looks mk dd (pre ++ [x]) s false := fun l => by
  rw [List.append_assoc, h ([x] ++ l)]
  show pd own looks mk dd s (x :: l) = _
  rw [pd, if_neg hx, if_pos hf]
theorem PDq.dead (h : PDq own looks mk dd pre s) (hx : ¬ x = own) (hf : ¬ looks ≤ (s.lk : Int)) (hd : dd x = true) : PDf own looks mk dd (pre ++ [x]) ⟨x, s.sp, s.lk + 1⟩ true := fun l => by
  rw [List.append_assoc, h ([x] ++ l)]
  show pd own looks mk dd s (x :: l) = _
  rw [pd, if_neg hx, if_neg hf, if_pos hd]
end

/-- Pick's own boxes. -/
structure PB2 (kr kx : Nat) (W : World) (n xb own : Nat) (looks : Int) (ci : Nat) (s : PS) (isd : Bool) : Prop where
  b0 : Box W 41 n #[.pointer (some ⟨xb, 0, none⟩)]
  b1 : Box W 48 (n + 1) #[.int .u64 own]
  b2 : Box W 3 (n + 1 + 1) #[.int .i64 looks]
  b3 : Box W 79 (n + 1 + 1 + 1) #[Value.func (.func 37) #[] #[.pointer (some ⟨kr, 0, none⟩), .pointer (some ⟨kx, 0, none⟩)]]
  b4 : Box W 48 (n + 1 + 1 + 1 + 1) #[.int .u64 s.h]
  b5 : Box W 4 (n + 1 + 1 + 1 + 1 + 1) #[.bool isd]
  b6 : Box W 3 (n + 1 + 1 + 1 + 1 + 1 + 1) #[.int .i64 s.lk]
  b7 : Box W 4 (n + 1 + 1 + 1 + 1 + 1 + 1 + 1) #[.bool s.sp]
  b8 : Box W 41 (n + 1 + 1 + 1 + 1 + 1 + 1 + 1 + 1) #[.pointer (some ⟨xb, 0, none⟩)]
  b9 : Box W 3 (n + 1 + 1 + 1 + 1 + 1 + 1 + 1 + 1 + 1) #[.int .i64 ci]
theorem PB2.own (kr kx n xb own : Nat) (looks : Int) (ci : Nat) (isd : Bool) {W W' : World} {s : PS} (h : PB2 kr kx W n xb own looks ci s isd) {row : Option Nat} (hf : W.grownBy W' row) (hr : ∀ r, row = some r → ∃ o : Obj, W.heap[r]? = some o ∧ o.isCells = false) : PB2 kr kx W' n xb own looks ci s isd :=
  ⟨h.b0.keptG hf hr, h.b1.keptG hf hr, h.b2.keptG hf hr, h.b3.keptG hf hr, h.b4.keptG hf hr, h.b5.keptG hf hr, h.b6.keptG hf hr, h.b7.keptG hf hr, h.b8.keptG hf hr, h.b9.keptG hf hr⟩
section
variable {kr kx n xb own : Nat} {looks : Int} {ci : Nat} {W : World} {s : PS} {ib : Bool}
theorem PB2.lk (h : PB2 kr kx W n xb own looks ci s ib) (x : Nat) : PB2 kr kx (W.setCell ⟨n + 1 + 1 + 1 + 1 + 1 + 1, 0, none⟩ (.int .i64 x)) n xb own looks ci ⟨s.h, s.sp, x⟩ ib :=
  ⟨h.b0.far (by omega), h.b1.far (by omega), h.b2.far (by omega), h.b3.far (by omega), h.b4.far (by omega), h.b5.far (by omega), h.b6.set 0 _, h.b7.far (by omega), h.b8.far (by omega), h.b9.far (by omega)⟩
theorem PB2.hd (h : PB2 kr kx W n xb own looks ci s ib) (x : Nat) : PB2 kr kx (W.setCell ⟨n + 1 + 1 + 1 + 1, 0, none⟩ (.int .u64 x)) n xb own looks ci ⟨x, s.sp, s.lk⟩ ib :=
  ⟨h.b0.far (by omega), h.b1.far (by omega), h.b2.far (by omega), h.b3.far (by omega), h.b4.set 0 _, h.b5.far (by omega), h.b6.far (by omega), h.b7.far (by omega), h.b8.far (by omega), h.b9.far (by omega)⟩
theorem PB2.spd (h : PB2 kr kx W n xb own looks ci s ib) (x : Bool) : PB2 kr kx (W.setCell ⟨n + 1 + 1 + 1 + 1 + 1 + 1 + 1, 0, none⟩ (.bool x)) n xb own looks ci ⟨s.h, x, s.lk⟩ ib :=
  ⟨h.b0.far (by omega), h.b1.far (by omega), h.b2.far (by omega), h.b3.far (by omega), h.b4.far (by omega), h.b5.far (by omega), h.b6.far (by omega), h.b7.set 0 _, h.b8.far (by omega), h.b9.far (by omega)⟩
theorem PB2.sid (h : PB2 kr kx W n xb own looks ci s ib) (x : Bool) : PB2 kr kx (W.setCell ⟨n + 1 + 1 + 1 + 1 + 1, 0, none⟩ (.bool x)) n xb own looks ci s x :=
  ⟨h.b0.far (by omega), h.b1.far (by omega), h.b2.far (by omega), h.b3.far (by omega), h.b4.far (by omega), h.b5.set 0 _, h.b6.far (by omega), h.b7.far (by omega), h.b8.far (by omega), h.b9.far (by omega)⟩
end

section
variable {w : World} {xb sb qb gl gc : Nat} {F : Nat → Prop} {B : Bl} {b c d e f g : Int} {A : Ab} {m : List Int} {T : List Nat} {bs : Nat → It} {cls : Nat → Nat} {X : Nat → Nat → List Nat} {mk : Nat → Nat} {hot warm : Nat}
set_option maxRecDepth 100000 in
set_option maxHeartbeats 8000000 in
theorem pick_38D (h : LQ w xb sb qb gl gc F B b c d e f g A m T bs cls X mk hot warm) {ci : Nat} (hc : ci < A.n) (own : Nat) (looks : Int) {kr kx : Nat} (dd : Nat → Bool) (hdd : ∀ W (x : Nat), Below w.heap.size w W → x ∈ T → Calls Tryz.prog 37 #[.int .u64 x, .pointer (some ⟨kr, 0, none⟩), .pointer (some ⟨kx, 0, none⟩)] W fun y w' => y = .returned (.bool (dd x)) ∧ W.grownBy w' none) :
    Calls Tryz.prog 38 #[.pointer (some ⟨xb, 0, none⟩), .int .i64 ci, .int .u64 own, .int .i64 looks, .func (.func 37) #[] #[.pointer (some ⟨kr, 0, none⟩), .pointer (some ⟨kx, 0, none⟩)]] w fun y w' => y = .returned (.tuple #[.int .u64 (pd own looks mk dd ⟨0, false, 0⟩ (rowN X ci)).1.h, .bool (pd own looks mk dd ⟨0, false, 0⟩ (rowN X ci)).2, .int .i64 (pd own looks mk dd ⟨0, false, 0⟩ (rowN X ci)).1.lk]) ∧ w.grownBy w' none := by
  have hLB := h.lb
  have hnf := neq_func 79 Tryz.underlying79 (.func 37) #[]
  have hRl := rowN_len h ci
  refine (callsIn_wide (n := 4)).1 ?_
  refine callsIn_of_wp_marks Tryz.func38 rfl trivial ?_ rfl
  simp only [Tryz.ntmps38, List.size_toArray, List.length_cons, List.length_nil, Nat.reduceAdd, Nat.reduceSub, Array.replicate_succ, Array.replicate_zero, List.push_toArray, List.append_toArray, List.nil_append, List.cons_append]
  gi_wp2_with (refine ⟨trivial, ?_⟩; gi_at_call 73; refine (callsIn_wide.2 (row_73 _ _ _)).mono ?_; rintro y w' ⟨rfl, rfl⟩)
  obtain ⟨N0, hN0⟩ : ∃ N0, w.heap.size = N0 := ⟨_, rfl⟩
  obtain ⟨W0, hW0⟩ : ∃ W0, ((((((((((w.alloc (Obj.cells #[Value.pointer (some ⟨xb, 0, none⟩)] 41)).alloc (Obj.cells #[Value.int IntKind.u64 own] 48)).alloc (Obj.cells #[Value.int IntKind.i64 looks] 3)).alloc (Obj.cells #[Value.func (.func 37) #[] #[.pointer (some ⟨kr, 0, none⟩), .pointer (some ⟨kx, 0, none⟩)]] 79)).alloc (Obj.cells #[Value.int IntKind.u64 0] 48)).alloc (Obj.cells #[Value.bool false] 4)).alloc (Obj.cells #[Value.int IntKind.i64 0] 3)).alloc (Obj.cells #[Value.bool false] 4)).alloc (Obj.cells #[Value.pointer (some ⟨xb, 0, none⟩)] 41)).alloc (Obj.cells #[Value.int IntKind.i64 ci] 3)) = W0 := ⟨_, rfl⟩
  rw [hW0]
  have hst : PB2 kr kx W0 N0 xb own looks ci ⟨0, false, 0⟩ false ∧ Below N0 w W0 ∧ W0.heap.size = N0 + 1 + 1 + 1 + 1 + 1 + 1 + 1 + 1 + 1 + 1 := by
    subst hW0
    have hz : (pfold own looks mk []).h = 0 ∧ (pfold own looks mk []).sp = false ∧ (pfold own looks mk []).lk = 0 := ⟨rfl, rfl, rfl⟩
    have L := fun (V : World) (t : TypeId) (vs : Array Value) (n : Nat) (hn : V.heap.size = n) => (hn ▸ Box.new V t vs : Box (V.alloc (.cells vs t)) t n vs)
    have G := fun (V : World) (o : Obj) => World.grownBy_alloc V o none
    have s0 := hN0
    have B0 := L w 41 #[.pointer (some ⟨xb, 0, none⟩)] N0 hN0
    have g0 := G w (Obj.cells #[Value.pointer (some ⟨xb, 0, none⟩)] 41)
    have s1 : (w.alloc (Obj.cells #[Value.pointer (some ⟨xb, 0, none⟩)] 41)).heap.size = N0 + 1 := by simp [hN0]
    have bl : Below N0 w (w.alloc (Obj.cells #[Value.pointer (some ⟨xb, 0, none⟩)] 41)) := (Below.refl _ w).alloc (by omega) _
    generalize w.alloc (Obj.cells #[Value.pointer (some ⟨xb, 0, none⟩)] 41) = V1 at *
    have B1 := L V1 48 #[.int .u64 own] _ s1
    have g1 := G V1 (Obj.cells #[Value.int IntKind.u64 own] 48)
    have s2 : (V1.alloc (Obj.cells #[Value.int IntKind.u64 own] 48)).heap.size = N0 + 1 + 1 := by simp [s1]
    replace bl : Below N0 w (V1.alloc (Obj.cells #[Value.int IntKind.u64 own] 48)) := bl.alloc (by omega) _
    generalize V1.alloc (Obj.cells #[Value.int IntKind.u64 own] 48) = V2 at *
    have B2 := L V2 3 #[.int .i64 looks] _ s2
    have g2 := G V2 (Obj.cells #[Value.int IntKind.i64 looks] 3)
    have s3 : (V2.alloc (Obj.cells #[Value.int IntKind.i64 looks] 3)).heap.size = N0 + 1 + 1 + 1 := by simp [s2]
    replace bl : Below N0 w (V2.alloc (Obj.cells #[Value.int IntKind.i64 looks] 3)) := bl.alloc (by omega) _
    generalize V2.alloc (Obj.cells #[Value.int IntKind.i64 looks] 3) = V3 at *
    have B3 := L V3 79 #[Value.func (.func 37) #[] #[.pointer (some ⟨kr, 0, none⟩), .pointer (some ⟨kx, 0, none⟩)]] _ s3
    have g3 := G V3 (Obj.cells #[Value.func (.func 37) #[] #[.pointer (some ⟨kr, 0, none⟩), .pointer (some ⟨kx, 0, none⟩)]] 79)
    have s4 : (V3.alloc (Obj.cells #[Value.func (.func 37) #[] #[.pointer (some ⟨kr, 0, none⟩), .pointer (some ⟨kx, 0, none⟩)]] 79)).heap.size = N0 + 1 + 1 + 1 + 1 := by simp [s3]
    replace bl : Below N0 w (V3.alloc (Obj.cells #[Value.func (.func 37) #[] #[.pointer (some ⟨kr, 0, none⟩), .pointer (some ⟨kx, 0, none⟩)]] 79)) := bl.alloc (by omega) _
    generalize V3.alloc (Obj.cells #[Value.func (.func 37) #[] #[.pointer (some ⟨kr, 0, none⟩), .pointer (some ⟨kx, 0, none⟩)]] 79) = V4 at *
    have B4 := L V4 48 #[.int .u64 0] _ s4
    have g4 := G V4 (Obj.cells #[Value.int IntKind.u64 0] 48)
    have s5 : (V4.alloc (Obj.cells #[Value.int IntKind.u64 0] 48)).heap.size = N0 + 1 + 1 + 1 + 1 + 1 := by simp [s4]
    replace bl : Below N0 w (V4.alloc (Obj.cells #[Value.int IntKind.u64 0] 48)) := bl.alloc (by omega) _
    generalize V4.alloc (Obj.cells #[Value.int IntKind.u64 0] 48) = V5 at *
    have B5 := L V5 4 #[.bool false] _ s5
    have g5 := G V5 (Obj.cells #[Value.bool false] 4)
    have s6 : (V5.alloc (Obj.cells #[Value.bool false] 4)).heap.size = N0 + 1 + 1 + 1 + 1 + 1 + 1 := by simp [s5]
    replace bl : Below N0 w (V5.alloc (Obj.cells #[Value.bool false] 4)) := bl.alloc (by omega) _
    generalize V5.alloc (Obj.cells #[Value.bool false] 4) = V6 at *
    have B6 := L V6 3 #[.int .i64 0] _ s6
    have g6 := G V6 (Obj.cells #[Value.int IntKind.i64 0] 3)
    have s7 : (V6.alloc (Obj.cells #[Value.int IntKind.i64 0] 3)).heap.size = N0 + 1 + 1 + 1 + 1 + 1 + 1 + 1 := by simp [s6]
    replace bl : Below N0 w (V6.alloc (Obj.cells #[Value.int IntKind.i64 0] 3)) := bl.alloc (by omega) _
    generalize V6.alloc (Obj.cells #[Value.int IntKind.i64 0] 3) = V7 at *
    have B7 := L V7 4 #[.bool false] _ s7
    have g7 := G V7 (Obj.cells #[Value.bool false] 4)
    have s8 : (V7.alloc (Obj.cells #[Value.bool false] 4)).heap.size = N0 + 1 + 1 + 1 + 1 + 1 + 1 + 1 + 1 := by simp [s7]
    replace bl : Below N0 w (V7.alloc (Obj.cells #[Value.bool false] 4)) := bl.alloc (by omega) _
    generalize V7.alloc (Obj.cells #[Value.bool false] 4) = V8 at *
    have B8 := L V8 41 #[.pointer (some ⟨xb, 0, none⟩)] _ s8
    have g8 := G V8 (Obj.cells #[Value.pointer (some ⟨xb, 0, none⟩)] 41)
    have s9 : (V8.alloc (Obj.cells #[Value.pointer (some ⟨xb, 0, none⟩)] 41)).heap.size = N0 + 1 + 1 + 1 + 1 + 1 + 1 + 1 + 1 + 1 := by simp [s8]
    replace bl : Below N0 w (V8.alloc (Obj.cells #[Value.pointer (some ⟨xb, 0, none⟩)] 41)) := bl.alloc (by omega) _
    generalize V8.alloc (Obj.cells #[Value.pointer (some ⟨xb, 0, none⟩)] 41) = V9 at *
    have B9 := L V9 3 #[.int .i64 ci] _ s9
    have g9 := G V9 (Obj.cells #[Value.int IntKind.i64 ci] 3)
    have s10 : (V9.alloc (Obj.cells #[Value.int IntKind.i64 ci] 3)).heap.size = N0 + 1 + 1 + 1 + 1 + 1 + 1 + 1 + 1 + 1 + 1 := by simp [s9]
    replace bl : Below N0 w (V9.alloc (Obj.cells #[Value.int IntKind.i64 ci] 3)) := bl.alloc (by omega) _
    generalize V9.alloc (Obj.cells #[Value.int IntKind.i64 ci] 3) = V10 at *
    have k8 := gb_trans g8 g9
    have k7 := gb_trans g7 k8
    have k6 := gb_trans g6 k7
    have k5 := gb_trans g5 k6
    have k4 := gb_trans g4 k5
    have k3 := gb_trans g3 k4
    have k2 := gb_trans g2 k3
    have k1 := gb_trans g1 k2
    exact ⟨⟨B0.kept k1 (by simp), B1.kept k2 (by simp), B2.kept k3 (by simp), B3.kept k4 (by simp), B4.kept k5 (by simp), B5.kept k6 (by simp), B6.kept k7 (by simp), B7.kept k8 (by simp), B8.kept g9 (by simp), B9⟩, bl, s10⟩
  clear hW0
  obtain ⟨hPB0, hB0, hs0⟩ := hst
  rw [hN0] at hLB
  refine wpIn_rangeFunc_ownF rfl (by omega) (gf := 116) (lb := #[.pointer (some ⟨N0 + 1 + 1 + 1 + 1 + 1 + 1 + 1 + 1, 0, none⟩), .pointer (some ⟨N0 + 1 + 1 + 1 + 1 + 1 + 1 + 1 + 1 + 1, 0, none⟩)]) (by rw [← hN0]; rfl) trivial (enters_of Tryz.func116 (by kernel_rfl) rfl)
    (row_stops (n₀ := N0) _ (by omega) (N0 + 1 + 1 + 1 + 1 + 1 + 1 + 1 + 1) (N0 + 1 + 1 + 1 + 1 + 1 + 1 + 1 + 1 + 1) hc (by omega) (by omega) (by omega) (hPB0.b8.cell 0) (hPB0.b9.cell 0) (hLB.below hB0)) (fun h1 h2 => h1.trans h2) ?hKb (Below.refl _ _) (fun _ => rfl)
    (fun pre W => (PB2 kr kx W N0 xb own looks ci (pfold own looks mk (pre.map Subtype.val)) false ∧ PDq own looks mk dd (pre.map Subtype.val) (pfold own looks mk (pre.map Subtype.val))) ∧ Below N0 w W)
    (fun c pre W => ((c = .exit 0 ∧ PDf own looks mk dd (pre.map Subtype.val) (pfold own looks mk (pre.map Subtype.val)) false ∧ PB2 kr kx W N0 xb own looks ci (pfold own looks mk (pre.map Subtype.val)) false) ∨ (c = .ret ∧ ∃ s', PDf own looks mk dd (pre.map Subtype.val) s' true ∧ PB2 kr kx W N0 xb own looks ci s' true)) ∧ Below N0 w W)
    (OwnFrom.and (Own.from (fun s A B row hs hg hr => ⟨hs.1.own _ _ _ _ _ _ _ _ hg hr, hs.2⟩) _) (ownFrom_below (by omega) (by omega)))
    (fun c => OwnFrom.and (Own.from (fun s A B row hs hg hr => hs.imp (fun hs => ⟨hs.1, hs.2.1, hs.2.2.own _ _ _ _ _ _ _ _ hg hr⟩) (fun ⟨h1, s', h2, h3⟩ => ⟨h1, s', h2, h3.own _ _ _ _ _ _ _ _ hg hr⟩)) _) (ownFrom_below (by omega) (by omega)))
    ⟨⟨hPB0, fun l => rfl⟩, hB0⟩
    (fun x => { tmps := #[Value.pointer (some ⟨xb, 0, none⟩), Value.int IntKind.i64 ci, Value.int IntKind.u64 own, Value.int IntKind.i64 looks, Value.func (.func 37) #[] #[.pointer (some ⟨kr, 0, none⟩), .pointer (some ⟨kx, 0, none⟩)], Value.pointer (some ⟨N0, 0, none⟩), undef, Value.pointer (some ⟨N0 + 1, 0, none⟩), Value.pointer (some ⟨N0 + 1 + 1, 0, none⟩), Value.pointer (some ⟨N0 + 1 + 1 + 1, 0, none⟩), Value.pointer (some ⟨N0 + 1 + 1 + 1 + 1, 0, none⟩), Value.pointer (some ⟨N0 + 1 + 1 + 1 + 1 + 1, 0, none⟩), Value.pointer (some ⟨N0 + 1 + 1 + 1 + 1 + 1 + 1, 0, none⟩), Value.pointer (some ⟨N0 + 1 + 1 + 1 + 1 + 1 + 1 + 1, 0, none⟩), Value.int IntKind.u64 (x.1 : Nat), Value.pointer (some ⟨xb, 0, none⟩), Value.int IntKind.i64 ci, Value.func (Fn.func 116) #[] #[Value.pointer (some ⟨N0 + 1 + 1 + 1 + 1 + 1 + 1 + 1 + 1, 0, none⟩), Value.pointer (some ⟨N0 + 1 + 1 + 1 + 1 + 1 + 1 + 1 + 1 + 1, 0, none⟩)], Value.int IntKind.u64 (x.1 : Nat), undef, undef, undef, undef, undef, undef, undef, undef, undef, undef, undef, undef, undef, undef, undef, undef, undef, undef, undef, undef, undef, undef, undef, undef, undef, undef, undef, undef, undef, undef, undef, undef, undef, undef], defers := [] }) ?assign ?body ?done ?stop
  case hKb =>
    intro W l o o' hl ho h1 h2
    rw [hs0] at hl
    refine ⟨belowK_b (w := W0) (by omega) W l o o' (by omega) ho h1 h2, fun k hk => ?_⟩
    exact (grownBy_putObj' W l o').block k (by have := (Array.getElem?_eq_some_iff.1 ho).1; omega) (by simp; omega)
  case assign =>
    intro l x W K hK
    subst hN0
    gi_wp2
    exact hK
  case body =>
    rintro l pre x W ⟨⟨hP, hQ⟩, hB⟩ hlen
    subst hN0
    have hlk := pfold_lk own looks mk (pre.map Subtype.val)
    rw [List.length_map] at hlk
    have hsn := pfold_snoc own looks mk (pre.map Subtype.val) x.1
    have hmap : (pre ++ [x]).map Subtype.val = pre.map Subtype.val ++ [x.1] := by simp
    have hac := fun W1 (h1 : Below w.heap.size w W1) => active_81 (hLB.below h1).lq x.2
    obtain ⟨act, hact⟩ : ∃ act, decide (mk x.1 % 2 = 1) = act := ⟨_, rfl⟩
    simp only [hact] at hac
    generalize pfold own looks mk (pre.map Subtype.val) = s at *
    have c0 := hP.b0.cell 0
    have c1 := hP.b1.cell 0
    have c2 := hP.b2.cell 0
    have c3 := hP.b3.cell 0
    have c4 := hP.b4.cell 0
    have c6 := hP.b6.cell 0
    have c7 := hP.b7.cell 0
    have f4 := hP.b4.fz 0
    have f6 := hP.b6.fz 0
    have f7 := hP.b7.fz 0
    simp at c0 c1 c2 c3 c4 c6 c7
    by_cases hxo : x.1 = own
    · have hxi : ((x.1 : Nat) : Int) = (own : Int) := by omega
      have hE : pfold own looks mk ((pre ++ [x]).map Subtype.val) = s := by rw [hmap, hsn]; unfold pst; rw [if_pos hxo]
      clear hac hsn
      gi_wp2
      exact ⟨KeepsOthers.refl _, ⟨Below.refl _ _, fun _ _ => rfl⟩, ⟨by rw [hE]; exact hP, by rw [hE, hmap]; exact hQ.skip hxo⟩, hB⟩
    · have hxi : ¬ ((x.1 : Nat) : Int) = (own : Int) := by omega
      by_cases hfull : looks ≤ (s.lk : Int)
      · have hE : pfold own looks mk ((pre ++ [x]).map Subtype.val) = s := by rw [hmap, hsn]; exact pst_full hfull _
        clear hac hsn
        gi_wp2
        exact ⟨KeepsOthers.refl _, .inl ⟨rfl, by rw [hE, hmap]; exact hQ.full hxo hfull, by rw [hE]; exact hP⟩, hB⟩
      · have hE0 : pfold own looks mk ((pre ++ [x]).map Subtype.val) = if s.lk + 1 = 1 ∨ (s.sp = true ∧ ¬ mk x.1 % 2 = 1) then ⟨x.1, decide (mk x.1 % 2 = 1), s.lk + 1⟩ else ⟨s.h, s.sp, s.lk + 1⟩ := by
          rw [hmap, hsn]; unfold pst; rw [if_neg hxo, if_neg hfull]
        have e1 : IntKind.i64.wrap ((s.lk : Int) + 1) = ((s.lk + 1 : Nat) : Int) := by rw [IntKind.wrap_i64]; omega
        obtain ⟨n1, hn1⟩ : ∃ n1, s.lk + 1 = n1 := ⟨_, rfl⟩
        rw [hn1] at e1 hE0
        have hP1 := hP.lk n1
        have hB1 : Below w.heap.size w (W.setCell ⟨w.heap.size + 1 + 1 + 1 + 1 + 1 + 1, 0, none⟩ (.int .i64 n1)) := hB.setCell (p := ⟨w.heap.size + 1 + 1 + 1 + 1 + 1 + 1, 0, none⟩) (by dsimp only; omega) _
        have hk1 : KeepsOthers W (W.setCell ⟨w.heap.size + 1 + 1 + 1 + 1 + 1 + 1, 0, none⟩ (.int .i64 n1)) := KeepsOthers.setCell _ _ _
        have hi1 : KI w.heap.size (w.heap.size + 1 + 1 + 1 + 1 + 1 + 1 + 1 + 1) (w.heap.size + 1 + 1 + 1 + 1 + 1 + 1 + 1 + 1 + 1) W (W.setCell ⟨w.heap.size + 1 + 1 + 1 + 1 + 1 + 1, 0, none⟩ (.int .i64 n1)) := KI.setCell _ (by omega) (by omega) (by omega)
        obtain ⟨W1, hW1⟩ : ∃ W1, W.setCell ⟨w.heap.size + 1 + 1 + 1 + 1 + 1 + 1, 0, none⟩ (.int .i64 n1) = W1 := ⟨_, rfl⟩
        rw [hW1] at hP1 hB1 hk1 hi1
        have d0 := hP1.b0.cell 0
        have d3 := hP1.b3.cell 0
        have d4 := hP1.b4.cell 0
        have d6 := hP1.b6.cell 0
        have d7 := hP1.b7.cell 0
        have g4 := hP1.b4.fz 0
        have g7 := hP1.b7.fz 0
        simp at d0 d3 d4 d6 d7
        have hac1 := hac _ hB1
        have HAC : Hid _ := hac
        have hPN := fun hd => (hQ.next hxo hfull hd : PDq own looks mk dd (pre.map Subtype.val ++ [x.1]) (pst own looks mk s x.1))
        have hPD := fun hd => (hQ.dead hxo hfull hd : PDf own looks mk dd (pre.map Subtype.val ++ [x.1]) ⟨x.1, s.sp, s.lk + 1⟩ true)
        rw [← hmap] at hPN hPD
        rw [← hsn, ← hmap] at hPN
        rw [hn1] at hPD
        clear hac hsn hmap
        have hd1 := hdd W1 x.1 hB1 x.2
        clear hac1
        rcases hdx : dd x.1 with _ | _
        · rw [hdx] at hd1
          have hPN' := hPN hdx
          clear hPN hPD
          by_cases hone : n1 = 1
          · subst hone
            rw [if_pos (.inl rfl), hact] at hE0
            simp only [show ((1 : Nat) : Int) = 1 from rfl] at e1 hW1 d6
            gi_wp2_with (first | (gi_at_call 37; refine (CallsIn.inRound l (callsIn_wide.2 hd1)).mono ?_; rintro y wq ⟨rfl, hgq⟩; have hPq := hP1.own _ _ _ _ _ _ _ _ hgq (by simp); have q0 := gb_cellN hgq d0; have q3 := gb_cellN hgq d3; have q4 := gb_cellN hgq d4; have q6 := gb_cellN hgq d6; have q7 := gb_cellN hgq d7; have v4 := hPq.b4.fz 0; have v7 := hPq.b7.fz 0; have hBq := hB1.trans (show Below w.heap.size W1 wq from ⟨hgq.os, hgq.tape, hgq.output, hgq.size, fun k hk => hgq.block k (by have := hB1.size; omega) (by simp)⟩); have hacq := HAC.out _ hBq) | (gi_at_call 81; refine (CallsIn.inRound l (callsIn_wide.2 hacq)).mono ?_; rintro y w5 ⟨rfl, hg5⟩; have hP5 := hPq.own _ _ _ _ _ _ _ _ hg5 (by simp); have e0 := gb_cellN hg5 q0; have e4 := gb_cellN hg5 q4; have e7 := gb_cellN hg5 q7; have k4 := hP5.b4.fz 0; have k7 := hP5.b7.fz 0) | (refine ⟨trivial, ?_⟩))
            have hg15 := gb_trans hgq hg5
            have hB5 := hB1.trans (show Below w.heap.size W1 w5 from ⟨hg15.os, hg15.tape, hg15.output, hg15.size, fun k hk => hg15.block k (by have := hB1.size; omega) (by simp)⟩)
            have hk5 : KeepsOthers W1 w5 := ⟨hg15.size, fun k o ho _ => by rw [hg15.block k (Array.getElem?_eq_some_iff.1 ho).1 (by simp)]; exact ho⟩
            have hi5 : KI w.heap.size (w.heap.size + 1 + 1 + 1 + 1 + 1 + 1 + 1 + 1) (w.heap.size + 1 + 1 + 1 + 1 + 1 + 1 + 1 + 1 + 1) W1 w5 := KI.grown hg15 hB1.size hP1.b8.lt hP1.b9.lt
            refine ⟨((hk1.trans hk5).trans (KeepsOthers.setCell _ _ _)).trans (KeepsOthers.setCell _ _ _), ((hi1.trans hi5).trans (KI.setCell _ (by omega) (by omega) (by omega))).trans (KI.setCell _ (by omega) (by omega) (by omega)), ⟨?_, hPN'⟩, (hB5.setCell (p := ⟨w.heap.size + 1 + 1 + 1 + 1, 0, none⟩) (by dsimp only; omega) _).setCell (p := ⟨w.heap.size + 1 + 1 + 1 + 1 + 1 + 1 + 1, 0, none⟩) (by dsimp only; omega) _⟩
            rw [hE0]
            exact (hP5.hd x.1).spd act
          · have hone' : ¬ (n1 : Int) = 1 := by omega
            rcases hsp : s.sp with _ | _
            · rw [hsp] at d7
              have hE1 : pfold own looks mk ((pre ++ [x]).map Subtype.val) = ⟨s.h, s.sp, n1⟩ := by
                rw [hE0, if_neg]
                rintro (h1 | h1)
                · exact hone h1
                · rw [hsp] at h1; exact absurd h1.1 (by decide)
              clear hE0
              gi_wp2_with (first | (gi_at_call 37; refine (CallsIn.inRound l (callsIn_wide.2 hd1)).mono ?_; rintro y wq ⟨rfl, hgq⟩; have hPq := hP1.own _ _ _ _ _ _ _ _ hgq (by simp); have q0 := gb_cellN hgq d0; have q3 := gb_cellN hgq d3; have q4 := gb_cellN hgq d4; have q6 := gb_cellN hgq d6; have q7 := gb_cellN hgq d7; have v4 := hPq.b4.fz 0; have v7 := hPq.b7.fz 0; have hBq := hB1.trans (show Below w.heap.size W1 wq from ⟨hgq.os, hgq.tape, hgq.output, hgq.size, fun k hk => hgq.block k (by have := hB1.size; omega) (by simp)⟩); have hacq := HAC.out _ hBq) | (refine ⟨trivial, ?_⟩))
              have hk5 : KeepsOthers W1 wq := ⟨hgq.size, fun k o ho _ => by rw [hgq.block k (Array.getElem?_eq_some_iff.1 ho).1 (by simp)]; exact ho⟩
              have hi5 : KI w.heap.size (w.heap.size + 1 + 1 + 1 + 1 + 1 + 1 + 1 + 1) (w.heap.size + 1 + 1 + 1 + 1 + 1 + 1 + 1 + 1 + 1) W1 wq := KI.grown hgq hB1.size hP1.b8.lt hP1.b9.lt
              exact ⟨hk1.trans hk5, hi1.trans hi5, ⟨by rw [hE1]; exact hPq, hPN'⟩, hBq⟩
            · rw [hsp] at d7
              rcases hab : act with _ | _
              · have hE1 : pfold own looks mk ((pre ++ [x]).map Subtype.val) = ⟨x.1, act, n1⟩ := by
                  rw [hE0, if_pos (.inr ⟨hsp, by rw [hab] at hact; exact of_decide_eq_false hact⟩), hact]
                subst hab
                clear hE0 hact
                gi_wp2_with (first | (gi_at_call 37; refine (CallsIn.inRound l (callsIn_wide.2 hd1)).mono ?_; rintro y wq ⟨rfl, hgq⟩; have hPq := hP1.own _ _ _ _ _ _ _ _ hgq (by simp); have q0 := gb_cellN hgq d0; have q3 := gb_cellN hgq d3; have q4 := gb_cellN hgq d4; have q6 := gb_cellN hgq d6; have q7 := gb_cellN hgq d7; have v4 := hPq.b4.fz 0; have v7 := hPq.b7.fz 0; have hBq := hB1.trans (show Below w.heap.size W1 wq from ⟨hgq.os, hgq.tape, hgq.output, hgq.size, fun k hk => hgq.block k (by have := hB1.size; omega) (by simp)⟩); have hacq := HAC.out _ hBq) | (gi_at_call 81; refine (CallsIn.inRound l (callsIn_wide.2 hacq)).mono ?_; clear hacq; rintro y w5 ⟨rfl, hg5⟩; have hP5 := hPq.own _ _ _ _ _ _ _ _ hg5 (by simp); have e0 := gb_cellN hg5 q0; have e4 := gb_cellN hg5 q4; have e7 := gb_cellN hg5 q7; have hB5 := hBq.trans (show Below w.heap.size wq w5 from ⟨hg5.os, hg5.tape, hg5.output, hg5.size, fun k hk => hg5.block k (by have := hBq.size; omega) (by simp)⟩); have hac5 := HAC.out _ hB5) | (gi_at_call 81; refine (CallsIn.inRound l (callsIn_wide.2 hac5)).mono ?_; clear hac5; rintro y w6 ⟨rfl, hg6⟩; have hP6 := hP5.own _ _ _ _ _ _ _ _ hg6 (by simp); have z4 := gb_cellN hg6 e4; have z7 := gb_cellN hg6 e7; have k4 := hP6.b4.fz 0; have k7 := hP6.b7.fz 0) | (refine ⟨trivial, ?_⟩))
                have hg56 := gb_trans hgq (gb_trans hg5 hg6)
                have hk5 : KeepsOthers W1 w6 := ⟨hg56.size, fun k o ho _ => by rw [hg56.block k (Array.getElem?_eq_some_iff.1 ho).1 (by simp)]; exact ho⟩
                have hi5 : KI w.heap.size (w.heap.size + 1 + 1 + 1 + 1 + 1 + 1 + 1 + 1) (w.heap.size + 1 + 1 + 1 + 1 + 1 + 1 + 1 + 1 + 1) W1 w6 := KI.grown hg56 hB1.size hP1.b8.lt hP1.b9.lt
                have hB6 := hB1.trans (show Below w.heap.size W1 w6 from ⟨hg56.os, hg56.tape, hg56.output, hg56.size, fun k hk => hg56.block k (by have := hB1.size; omega) (by simp)⟩)
                refine ⟨((hk1.trans hk5).trans (KeepsOthers.setCell _ _ _)).trans (KeepsOthers.setCell _ _ _), ((hi1.trans hi5).trans (KI.setCell _ (by omega) (by omega) (by omega))).trans (KI.setCell _ (by omega) (by omega) (by omega)), ⟨?_, hPN'⟩, (hB6.setCell (p := ⟨w.heap.size + 1 + 1 + 1 + 1, 0, none⟩) (by dsimp only; omega) _).setCell (p := ⟨w.heap.size + 1 + 1 + 1 + 1 + 1 + 1 + 1, 0, none⟩) (by dsimp only; omega) _⟩
                rw [hE1]
                exact (hP6.hd x.1).spd false
              · have hE1 : pfold own looks mk ((pre ++ [x]).map Subtype.val) = ⟨s.h, s.sp, n1⟩ := by
                  rw [hE0, if_neg]
                  rintro (h1 | h1)
                  · exact hone h1
                  · rw [hab] at hact; exact h1.2 (of_decide_eq_true hact)
                subst hab
                clear hE0 hact
                gi_wp2_with (first | (gi_at_call 37; refine (CallsIn.inRound l (callsIn_wide.2 hd1)).mono ?_; rintro y wq ⟨rfl, hgq⟩; have hPq := hP1.own _ _ _ _ _ _ _ _ hgq (by simp); have q0 := gb_cellN hgq d0; have q3 := gb_cellN hgq d3; have q4 := gb_cellN hgq d4; have q6 := gb_cellN hgq d6; have q7 := gb_cellN hgq d7; have v4 := hPq.b4.fz 0; have v7 := hPq.b7.fz 0; have hBq := hB1.trans (show Below w.heap.size W1 wq from ⟨hgq.os, hgq.tape, hgq.output, hgq.size, fun k hk => hgq.block k (by have := hB1.size; omega) (by simp)⟩); have hacq := HAC.out _ hBq) | (gi_at_call 81; refine (CallsIn.inRound l (callsIn_wide.2 hacq)).mono ?_; clear hacq; rintro y w5 ⟨rfl, hg5⟩; have hP5 := hPq.own _ _ _ _ _ _ _ _ hg5 (by simp); have e0 := gb_cellN hg5 q0; have e4 := gb_cellN hg5 q4; have e7 := gb_cellN hg5 q7) | (refine ⟨trivial, ?_⟩))
                have hg15 := gb_trans hgq hg5
                have hB5 := hB1.trans (show Below w.heap.size W1 w5 from ⟨hg15.os, hg15.tape, hg15.output, hg15.size, fun k hk => hg15.block k (by have := hB1.size; omega) (by simp)⟩)
                have hk5 : KeepsOthers W1 w5 := ⟨hg15.size, fun k o ho _ => by rw [hg15.block k (Array.getElem?_eq_some_iff.1 ho).1 (by simp)]; exact ho⟩
                have hi5 : KI w.heap.size (w.heap.size + 1 + 1 + 1 + 1 + 1 + 1 + 1 + 1) (w.heap.size + 1 + 1 + 1 + 1 + 1 + 1 + 1 + 1 + 1) W1 w5 := KI.grown hg15 hB1.size hP1.b8.lt hP1.b9.lt
                exact ⟨hk1.trans hk5, hi1.trans hi5, ⟨by rw [hE1]; exact hP5, hPN'⟩, hB5⟩
        · rw [hdx] at hd1
          have hPD' := hPD hdx
          clear hPN hPD hE0
          gi_wp2_with (first | (gi_at_call 37; refine (CallsIn.inRound l (callsIn_wide.2 hd1)).mono ?_; rintro y w5 ⟨rfl, hg5⟩; have hP5 := hP1.own _ _ _ _ _ _ _ _ hg5 (by simp); have z4 := hP5.b4.cell 0; have z5 := hP5.b5.cell 0; have z6 := hP5.b6.cell 0; have y4 := hP5.b4.fz 0; have y5 := hP5.b5.fz 0; have y6 := hP5.b6.fz 0; simp at z4 z5 z6) | (refine ⟨trivial, ?_⟩))
          have hmo : Tryz.prog.follows .mixedOrders = true := by kernel_rfl
          have hk5 : KeepsOthers W1 w5 := ⟨hg5.size, fun k o ho _ => by rw [hg5.block k (Array.getElem?_eq_some_iff.1 ho).1 (by simp)]; exact ho⟩
          have hB5 := hB1.trans (show Below w.heap.size W1 w5 from ⟨hg5.os, hg5.tape, hg5.output, hg5.size, fun k hk => hg5.block k (by have := hB1.size; omega) (by simp)⟩)
          gi_region
          all_goals gi_wp2
          all_goals exact ⟨((((hk1.trans hk5).trans (KeepsOthers.setCell _ _ _)).trans (KeepsOthers.setCell _ _ _)).trans (KeepsOthers.setCell _ _ _)).trans (KeepsOthers.drew _), .inr ⟨rfl, _, hPD', (((hP5.hd x.1).sid true).lk n1).own _ _ _ _ _ _ _ _ (gb_drew (gb_refl _ none)) (by simp)⟩, (((hB5.setCell (p := ⟨w.heap.size + 1 + 1 + 1 + 1, 0, none⟩) (by dsimp only; omega) _).setCell (p := ⟨w.heap.size + 1 + 1 + 1 + 1 + 1, 0, none⟩) (by dsimp only; omega) _).setCell (p := ⟨w.heap.size + 1 + 1 + 1 + 1 + 1 + 1, 0, none⟩) (by dsimp only; omega) _).drew⟩
  case done =>
    rintro D ys W hD hS ⟨⟨hP, hQ⟩, hB⟩ hK
    subst hN0
    rw [hS] at hP hQ
    obtain ⟨s, hs⟩ : ∃ s, pfold own looks mk (rowN X ci) = s := ⟨_, rfl⟩
    rw [hs] at hP hQ
    have hpd : pd own looks mk dd ⟨0, false, 0⟩ (rowN X ci) = (s, false) := by have := hQ []; rw [List.append_nil] at this; rw [this]; rfl
    clear hs hQ
    have hP2 : PB2 kr kx (W.setCell ⟨w.heap.size + 1 + 1 + 1 + 1, 0, none⟩ (.int .u64 s.h)) w.heap.size xb own looks ci s false := hP.hd s.h
    have hP3 := hP2.sid false
    have hP4 : PB2 kr kx (((W.setCell ⟨w.heap.size + 1 + 1 + 1 + 1, 0, none⟩ (.int .u64 s.h)).setCell ⟨w.heap.size + 1 + 1 + 1 + 1 + 1, 0, none⟩ (.bool false)).setCell ⟨w.heap.size + 1 + 1 + 1 + 1 + 1 + 1, 0, none⟩ (.int .i64 s.lk)) w.heap.size xb own looks ci s false := hP3.lk s.lk
    have c4 := hP.b4.cell 0
    have c6 := hP.b6.cell 0
    have f4 := hP.b4.fz 0
    have c5' := hP2.b5.cell 0
    have c6' := hP2.b6.cell 0
    have f5' := hP2.b5.fz 0
    have c6q := hP3.b6.cell 0
    have f6q := hP3.b6.fz 0
    simp only [List.getElem?_toArray, List.getElem?_cons_zero] at c4 c6 c5' c6' c6q
    have hB4 : Below w.heap.size w (((W.setCell ⟨w.heap.size + 1 + 1 + 1 + 1, 0, none⟩ (.int .u64 s.h)).setCell ⟨w.heap.size + 1 + 1 + 1 + 1 + 1, 0, none⟩ (.bool false)).setCell ⟨w.heap.size + 1 + 1 + 1 + 1 + 1 + 1, 0, none⟩ (.int .i64 s.lk)) := ((hB.setCell (p := ⟨w.heap.size + 1 + 1 + 1 + 1, 0, none⟩) (by dsimp only; omega) _).setCell (p := ⟨w.heap.size + 1 + 1 + 1 + 1 + 1, 0, none⟩) (by dsimp only; omega) _).setCell (p := ⟨w.heap.size + 1 + 1 + 1 + 1 + 1 + 1, 0, none⟩) (by dsimp only; omega) _
    have hK4 := (((KeepsOthers.setCell W ⟨w.heap.size + 1 + 1 + 1 + 1, 0, none⟩ (.int .u64 s.h)).trans (KeepsOthers.setCell _ ⟨w.heap.size + 1 + 1 + 1 + 1 + 1, 0, none⟩ (.bool false))).trans (KeepsOthers.setCell _ ⟨w.heap.size + 1 + 1 + 1 + 1 + 1 + 1, 0, none⟩ (.int .i64 s.lk))).same D _ hK rfl
    gi_wp2
    refine wpIn_wide.2 ?_
    go_region_law (fail)
    all_goals gi_wp2
    all_goals
      generalize ((W.setCell ⟨w.heap.size + 1 + 1 + 1 + 1, 0, none⟩ (.int .u64 s.h)).setCell ⟨w.heap.size + 1 + 1 + 1 + 1 + 1, 0, none⟩ (.bool false)).setCell ⟨w.heap.size + 1 + 1 + 1 + 1 + 1 + 1, 0, none⟩ (.int .i64 s.lk) = V at *
      have hK5 := (KeepsOthers.drew V).same D _ hK4 rfl
      refine ⟨by simp, .inl ⟨_, _, rfl, run_takeDeferred hK5, ?_⟩⟩
      have hgD := grownBy_putObj' V.drew D (.deferred none)
      have hPe := (hP4.own _ _ _ _ _ _ _ _ (gb_drew (gb_refl V none)) (by simp)).own _ _ _ _ _ _ _ _ hgD (fun r e => by cases e; exact ⟨_, hK5, rfl⟩)
      have x4 := hPe.b4.cell 0
      have x5 := hPe.b5.cell 0
      have x6 := hPe.b6.cell 0
      simp only [List.getElem?_toArray, List.getElem?_cons_zero] at x4 x5 x6
      have hBe := hB4.drew.trans (belowK_b (w := w) (Nat.le_refl _) V.drew D (.deferred (some [])) (.deferred none) (by rw [hs0] at hD; omega) hK5 rfl rfl)
      refine ⟨_, ?_, rfl, hBe.os, hBe.tape, hBe.output, hBe.size, fun k hk _ => hBe.block k hk⟩
      simp [results, Tryz.f38, go_sem, x4, x5, x6, hpd]
  case stop =>
    rintro D c pre W hD ⟨q, hq⟩ ⟨⟨rfl, hF, hP⟩ | ⟨rfl, s, hF, hP⟩, hB⟩ hK
    · subst hN0
      have hpd := hF q
      rw [hq] at hpd
      generalize pfold own looks mk (pre.map Subtype.val) = s at *
      clear hF hq
      have hP2 : PB2 kr kx (W.setCell ⟨w.heap.size + 1 + 1 + 1 + 1, 0, none⟩ (.int .u64 s.h)) w.heap.size xb own looks ci s false := hP.hd s.h
      have hP3 := hP2.sid false
      have hP4 : PB2 kr kx (((W.setCell ⟨w.heap.size + 1 + 1 + 1 + 1, 0, none⟩ (.int .u64 s.h)).setCell ⟨w.heap.size + 1 + 1 + 1 + 1 + 1, 0, none⟩ (.bool false)).setCell ⟨w.heap.size + 1 + 1 + 1 + 1 + 1 + 1, 0, none⟩ (.int .i64 s.lk)) w.heap.size xb own looks ci s false := hP3.lk s.lk
      have c4 := hP.b4.cell 0
      have c6 := hP.b6.cell 0
      have f4 := hP.b4.fz 0
      have c5' := hP2.b5.cell 0
      have c6' := hP2.b6.cell 0
      have f5' := hP2.b5.fz 0
      have c6q := hP3.b6.cell 0
      have f6q := hP3.b6.fz 0
      simp only [List.getElem?_toArray, List.getElem?_cons_zero] at c4 c6 c5' c6' c6q
      have hB4 : Below w.heap.size w (((W.setCell ⟨w.heap.size + 1 + 1 + 1 + 1, 0, none⟩ (.int .u64 s.h)).setCell ⟨w.heap.size + 1 + 1 + 1 + 1 + 1, 0, none⟩ (.bool false)).setCell ⟨w.heap.size + 1 + 1 + 1 + 1 + 1 + 1, 0, none⟩ (.int .i64 s.lk)) := ((hB.setCell (p := ⟨w.heap.size + 1 + 1 + 1 + 1, 0, none⟩) (by dsimp only; omega) _).setCell (p := ⟨w.heap.size + 1 + 1 + 1 + 1 + 1, 0, none⟩) (by dsimp only; omega) _).setCell (p := ⟨w.heap.size + 1 + 1 + 1 + 1 + 1 + 1, 0, none⟩) (by dsimp only; omega) _
      have hK4 := (((KeepsOthers.setCell W ⟨w.heap.size + 1 + 1 + 1 + 1, 0, none⟩ (.int .u64 s.h)).trans (KeepsOthers.setCell _ ⟨w.heap.size + 1 + 1 + 1 + 1 + 1, 0, none⟩ (.bool false))).trans (KeepsOthers.setCell _ ⟨w.heap.size + 1 + 1 + 1 + 1 + 1 + 1, 0, none⟩ (.int .i64 s.lk))).same D _ hK rfl
      gi_wp2
      refine wpIn_wide.2 ?_
      go_region_law (fail)
      all_goals gi_wp2
      all_goals
        generalize ((W.setCell ⟨w.heap.size + 1 + 1 + 1 + 1, 0, none⟩ (.int .u64 s.h)).setCell ⟨w.heap.size + 1 + 1 + 1 + 1 + 1, 0, none⟩ (.bool false)).setCell ⟨w.heap.size + 1 + 1 + 1 + 1 + 1 + 1, 0, none⟩ (.int .i64 s.lk) = V at *
        have hK5 := (KeepsOthers.drew V).same D _ hK4 rfl
        refine ⟨by simp, .inl ⟨_, _, rfl, run_takeDeferred hK5, ?_⟩⟩
        have hgD := grownBy_putObj' V.drew D (.deferred none)
        have hPe := (hP4.own _ _ _ _ _ _ _ _ (gb_drew (gb_refl V none)) (by simp)).own _ _ _ _ _ _ _ _ hgD (fun r e => by cases e; exact ⟨_, hK5, rfl⟩)
        have x4 := hPe.b4.cell 0
        have x5 := hPe.b5.cell 0
        have x6 := hPe.b6.cell 0
        simp only [List.getElem?_toArray, List.getElem?_cons_zero] at x4 x5 x6
        have hBe := hB4.drew.trans (belowK_b (w := w) (Nat.le_refl _) V.drew D (.deferred (some [])) (.deferred none) (by rw [hs0] at hD; omega) hK5 rfl rfl)
        refine ⟨_, ?_, rfl, hBe.os, hBe.tape, hBe.output, hBe.size, fun k hk _ => hBe.block k hk⟩
        simp [results, Tryz.f38, go_sem, x4, x5, x6, hpd]
    · subst hN0
      have hpd := hF q
      rw [hq] at hpd
      clear hF hq
      gi_wp2
      refine ⟨by simp, .inl ⟨_, _, rfl, run_takeDeferred hK, ?_⟩⟩
      have hgD := grownBy_putObj' W D (.deferred none)
      have hPe := hP.own _ _ _ _ _ _ _ _ hgD (fun r e => by cases e; exact ⟨_, hK, rfl⟩)
      have x4 := hPe.b4.cell 0
      have x5 := hPe.b5.cell 0
      have x6 := hPe.b6.cell 0
      simp only [List.getElem?_toArray, List.getElem?_cons_zero] at x4 x5 x6
      have hBe := hB.trans (belowK_b (w := w) (Nat.le_refl _) W D (.deferred (some [])) (.deferred none) (by rw [hs0] at hD; omega) hK rfl rfl)
      refine ⟨_, ?_, rfl, hBe.os, hBe.tape, hBe.output, hBe.size, fun k hk _ => hBe.block k hk⟩
      simp [results, Tryz.f38, go_sem, x4, x5, x6, hpd]
end
end Go.Proofs.YtohneboimmcocaaGreat
