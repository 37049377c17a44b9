import Derived.Test.YtohneboimmcocaaGreatOn
import Derived.Test.YtohneboimmcocaaGreatOd
/-
  Pick with a function that keeps a list of those that it was asked of.
-/
namespace Go.Proofs.YtohneboimmcocaaGreat
open Go.RowKit Go.Shelf
set_option linter.unusedVariables false
attribute [local go_sem] Oper.semAt_some

/-- What is seen, so far. -/
structure SNq (own : Nat) (looks : Int) (dd : Nat → Bool) (pre acc : List Nat) : Prop where
  eq : ∀ l, snf own looks dd (pre ++ l) [] = snf own looks dd l acc
  nd : acc ≠ [] → dd (acc.getLastD 0) = false
def SNf (own : Nat) (looks : Int) (dd : Nat → Bool) (pre acc : List Nat) : Prop := ∀ l, snf own looks dd (pre ++ l) [] = acc
section
variable {own : Nat} {looks : Int} {dd : Nat → Bool} {pre acc : List Nat} {x : Nat}
theorem snf_stop (h : looks ≤ (acc.length : Int) ∨ (acc ≠ [] ∧ dd (acc.getLastD 0) = true)) : ∀ l, snf own looks dd l acc = acc
  | [] => rfl
  | x :: l => by rw [snf, if_pos h]
theorem SNq.no (h : SNq own looks dd pre acc) (hf : ¬ looks ≤ (acc.length : Int)) : ¬ (looks ≤ (acc.length : Int) ∨ (acc ≠ [] ∧ dd (acc.getLastD 0) = true)) := by
  rintro (h1 | h1)
  · exact hf h1
  · rw [h.nd h1.1] at h1; exact absurd h1.2 (by decide)
theorem SNq.skip (h : SNq own looks dd pre acc) (hx : x = own) : SNq own looks dd (pre ++ [x]) acc := ⟨fun l => by
  rw [List.append_assoc, h.eq ([x] ++ l)]
  show snf own looks dd (x :: l) acc = _
  by_cases hf : looks ≤ (acc.length : Int)
  · rw [snf_stop (.inl hf), snf_stop (.inl hf)]
  · rw [snf, if_neg (h.no hf), if_pos hx], h.nd⟩
theorem SNq.next (h : SNq own looks dd pre acc) (hx : ¬ x = own) (hf : ¬ looks ≤ (acc.length : Int)) (hd : dd x = false) : SNq own looks dd (pre ++ [x]) (acc ++ [x]) := ⟨fun l => by
  rw [List.append_assoc, h.eq ([x] ++ l)]
  show snf own looks dd (x :: l) acc = _
  rw [snf, if_neg (h.no hf), if_neg hx], fun _ => by simp [hd]⟩
theorem SNq.full (h : SNq own looks dd pre acc) (hf : looks ≤ (acc.length : Int)) : SNf own looks dd (pre ++ [x]) acc := fun l => by
  rw [List.append_assoc, h.eq ([x] ++ l)]
  exact snf_stop (.inl hf) _
theorem SNq.dead (h : SNq own looks dd pre acc) (hx : ¬ x = own) (hf : ¬ looks ≤ (acc.length : Int)) (hd : dd x = true) : SNf own looks dd (pre ++ [x]) (acc ++ [x]) := fun l => by
  rw [List.append_assoc, h.eq ([x] ++ l)]
  show snf own looks dd (x :: l) acc = _
  rw [snf, if_neg (h.no hf), if_neg hx]
  exact snf_stop (.inr ⟨by simp, by simp [hd]⟩) _
end
theorem blw {n₀ : Nat} {A B : World} (h : A.grownBy B none) (hn : n₀ ≤ A.heap.size) : Below n₀ A B := ⟨h.os, h.tape, h.output, h.size, fun k hk => h.block k (by omega) (by simp)⟩
theorem kog {A B : World} (h : A.grownBy B none) : KeepsOthers A B := ⟨h.size, fun k o ho _ => by rw [h.block k (Array.getElem?_eq_some_iff.1 ho).1 (by simp)]; exact ho⟩
/-- Where the function's own memory lies. -/
def PJ (n₀ N0 : Nat) (k : Nat) : Prop := n₀ ≤ k ∧ ¬ (N0 ≤ k ∧ k < N0 + 10)
structure JOk (N0 : Nat) (J : World → List Nat → Prop) : Prop where
  own : ∀ W W' row xs, J W xs → W.grownBy W' row → (∀ r, row = some r → ∃ o : Obj, W.heap[r]? = some o ∧ o.isCells = false) → J W' xs
  set : ∀ W xs k v, J W xs → N0 ≤ k → k < N0 + 10 → J (W.setCell ⟨k, 0, none⟩ v) xs

/-- Pick's own boxes, and the function's memory. -/
structure PE (J : World → List Nat → Prop) (ka kd : Nat) (W : World) (n xb own : Nat) (looks : Int) (ci : Int) (s : PS) (isd : Bool) (acc : List Nat) : Prop where
  b0 : Box W 41 n #[.pointer (some ⟨xb, 0, none⟩)]
  b1 : Box W 48 (n + 1) #[.int .u64 own]
  b2 : Box W 3 (n + 1 + 1) #[.int .i64 looks]
  b3 : Box W 79 (n + 1 + 1 + 1) #[Value.func (.func 40) #[] #[.pointer (some ⟨ka, 0, none⟩), .pointer (some ⟨kd, 0, none⟩)]]
  b4 : Box W 48 (n + 1 + 1 + 1 + 1) #[.int .u64 s.h]
  b5 : Box W 4 (n + 1 + 1 + 1 + 1 + 1) #[.bool isd]
  b6 : Box W 3 (n + 1 + 1 + 1 + 1 + 1 + 1) #[.int .i64 s.lk]
  b7 : Box W 4 (n + 1 + 1 + 1 + 1 + 1 + 1 + 1) #[.bool s.sp]
  b8 : Box W 41 (n + 1 + 1 + 1 + 1 + 1 + 1 + 1 + 1) #[.pointer (some ⟨xb, 0, none⟩)]
  b9 : Box W 3 (n + 1 + 1 + 1 + 1 + 1 + 1 + 1 + 1 + 1) #[.int .i64 ci]
  j : J W acc
section
variable {J : World → List Nat → Prop} {ka kd n xb own : Nat} {looks : Int} {ci : Int} {W W' : World} {s : PS} {ib : Bool} {acc : List Nat}
theorem PE.keep (h : PE J ka kd W n xb own looks ci s ib acc) (hJ : JOk n J) {row : Option Nat} (hf : W.grownBy W' row) (hr : ∀ r, row = some r → ∃ o : Obj, W.heap[r]? = some o ∧ o.isCells = false) : PE J ka kd W' n xb own looks ci s ib acc :=
  ⟨h.b0.keptG hf hr, h.b1.keptG hf hr, h.b2.keptG hf hr, h.b3.keptG hf hr, h.b4.keptG hf hr, h.b5.keptG hf hr, h.b6.keptG hf hr, h.b7.keptG hf hr, h.b8.keptG hf hr, h.b9.keptG hf hr, hJ.own _ _ _ _ h.j hf hr⟩
theorem PE.call {n₀ : Nat} {acc' : List Nat} (h : PE J ka kd W n xb own looks ci s ib acc) (hK : Kp (PJ n₀ n) W W') (hj : J W' acc') : PE J ka kd W' n xb own looks ci s ib acc' :=
  ⟨hK.box h.b0 (fun hh => hh.2 (by omega)), hK.box h.b1 (fun hh => hh.2 (by omega)), hK.box h.b2 (fun hh => hh.2 (by omega)), hK.box h.b3 (fun hh => hh.2 (by omega)), hK.box h.b4 (fun hh => hh.2 (by omega)), hK.box h.b5 (fun hh => hh.2 (by omega)), hK.box h.b6 (fun hh => hh.2 (by omega)), hK.box h.b7 (fun hh => hh.2 (by omega)), hK.box h.b8 (fun hh => hh.2 (by omega)), hK.box h.b9 (fun hh => hh.2 (by omega)), hj⟩
theorem PE.setLk (h : PE J ka kd W n xb own looks ci s ib acc) (hJ : JOk n J) (x : Nat) : PE J ka kd (W.setCell ⟨n + 1 + 1 + 1 + 1 + 1 + 1, 0, none⟩ (.int .i64 x)) n xb own looks ci ⟨s.h, s.sp, x⟩ ib acc :=
  ⟨h.b0.far (by omega), h.b1.far (by omega), h.b2.far (by omega), h.b3.far (by omega), h.b4.far (by omega), h.b5.far (by omega), h.b6.set 0 _, h.b7.far (by omega), h.b8.far (by omega), h.b9.far (by omega), hJ.set _ _ _ _ h.j (by omega) (by omega)⟩
theorem PE.setHd (h : PE J ka kd W n xb own looks ci s ib acc) (hJ : JOk n J) (x : Nat) : PE J ka kd (W.setCell ⟨n + 1 + 1 + 1 + 1, 0, none⟩ (.int .u64 x)) n xb own looks ci ⟨x, s.sp, s.lk⟩ ib acc :=
  ⟨h.b0.far (by omega), h.b1.far (by omega), h.b2.far (by omega), h.b3.far (by omega), h.b4.set 0 _, h.b5.far (by omega), h.b6.far (by omega), h.b7.far (by omega), h.b8.far (by omega), h.b9.far (by omega), hJ.set _ _ _ _ h.j (by omega) (by omega)⟩
theorem PE.setSp (h : PE J ka kd W n xb own looks ci s ib acc) (hJ : JOk n J) (x : Bool) : PE J ka kd (W.setCell ⟨n + 1 + 1 + 1 + 1 + 1 + 1 + 1, 0, none⟩ (.bool x)) n xb own looks ci ⟨s.h, x, s.lk⟩ ib acc :=
  ⟨h.b0.far (by omega), h.b1.far (by omega), h.b2.far (by omega), h.b3.far (by omega), h.b4.far (by omega), h.b5.far (by omega), h.b6.far (by omega), h.b7.set 0 _, h.b8.far (by omega), h.b9.far (by omega), hJ.set _ _ _ _ h.j (by omega) (by omega)⟩
theorem PE.setId (h : PE J ka kd W n xb own looks ci s ib acc) (hJ : JOk n J) (x : Bool) : PE J ka kd (W.setCell ⟨n + 1 + 1 + 1 + 1 + 1, 0, none⟩ (.bool x)) n xb own looks ci s x acc :=
  ⟨h.b0.far (by omega), h.b1.far (by omega), h.b2.far (by omega), h.b3.far (by omega), h.b4.far (by omega), h.b5.set 0 _, h.b6.far (by omega), h.b7.far (by omega), h.b8.far (by omega), h.b9.far (by omega), hJ.set _ _ _ _ h.j (by omega) (by omega)⟩
theorem PE.c0 (h : PE J ka kd W n xb own looks ci s ib acc) : W.cell? ⟨n, 0, none⟩ = some (.pointer (some ⟨xb, 0, none⟩)) := h.b0.cell 0
theorem PE.c3 (h : PE J ka kd W n xb own looks ci s ib acc) : W.cell? ⟨n + 1 + 1 + 1, 0, none⟩ = some (.func (.func 40) #[] #[.pointer (some ⟨ka, 0, none⟩), .pointer (some ⟨kd, 0, none⟩)]) := h.b3.cell 0
theorem PE.c4 (h : PE J ka kd W n xb own looks ci s ib acc) : W.cell? ⟨n + 1 + 1 + 1 + 1, 0, none⟩ = some (.int .u64 s.h) := h.b4.cell 0
theorem PE.c5 (h : PE J ka kd W n xb own looks ci s ib acc) : W.cell? ⟨n + 1 + 1 + 1 + 1 + 1, 0, none⟩ = some (.bool ib) := h.b5.cell 0
theorem PE.c6 (h : PE J ka kd W n xb own looks ci s ib acc) : W.cell? ⟨n + 1 + 1 + 1 + 1 + 1 + 1, 0, none⟩ = some (.int .i64 s.lk) := h.b6.cell 0
theorem PE.c7 (h : PE J ka kd W n xb own looks ci s ib acc) : W.cell? ⟨n + 1 + 1 + 1 + 1 + 1 + 1 + 1, 0, none⟩ = some (.bool s.sp) := h.b7.cell 0
end

section
variable {w : World} {xb : Nat} {T : List Nat} {mk : Nat → Nat}
set_option maxRecDepth 100000 in
set_option maxHeartbeats 8000000 in
theorem pick_38G {n₀ : Nat} (hn0 : n₀ ≤ w.heap.size) {R : List Nat} {ci : Int} (hseq : ∀ (W : World) (Bl Bc m : Nat), 1 ≤ m → n₀ ≤ W.heap.size → Bl < W.heap.size → Bc < W.heap.size → W.cell? ⟨Bl, 0, none⟩ = some (.pointer (some ⟨xb, 0, none⟩)) → W.cell? ⟨Bc, 0, none⟩ = some (.int .i64 ci) → Below n₀ w W → SeqStopsK Fence.wide m Tryz.prog 116 #[.pointer (some ⟨Bl, 0, none⟩), .pointer (some ⟨Bc, 0, none⟩)] (fun x : { H : Nat // H ∈ T } => #[Value.int .u64 (x.1 : Nat)]) (KI n₀ Bl Bc) (fun ys => ys.map Subtype.val = R) (fun pre => pre.map Subtype.val <+: R) R.length W) (h81 : ∀ W H, Below n₀ w W → H ∈ T → Calls Tryz.prog 81 #[.pointer (some ⟨xb, 0, none⟩), .int .u64 H] W fun y w' => y = .returned (.bool (decide (mk H % 2 = 1))) ∧ W.grownBy w' none) (own : Nat) (looks : Int) {ka kd : Nat} (dd : Nat → Bool) {J : World → List Nat → Prop} (hJ : JOk w.heap.size J) (hJ0 : J w []) (hR5 : R.length ≤ 5000) (hdd : ∀ W (x : Nat) (xs : List Nat), Below n₀ w W → J W xs → xs.length ≤ 5000 → w.heap.size + 10 ≤ W.heap.size → x ∈ T → Calls Tryz.prog 40 #[.int .u64 x, .pointer (some ⟨ka, 0, none⟩), .pointer (some ⟨kd, 0, none⟩)] W fun y w' => y = .returned (.bool (dd x)) ∧ Kp (PJ n₀ w.heap.size) W w' ∧ KeepsOthers W w' ∧ J w' (xs ++ [x])) :
    Calls Tryz.prog 38 #[.pointer (some ⟨xb, 0, none⟩), .int .i64 ci, .int .u64 own, .int .i64 looks, .func (.func 40) #[] #[.pointer (some ⟨ka, 0, none⟩), .pointer (some ⟨kd, 0, none⟩)]] w fun y w' => y = .returned (.tuple #[.int .u64 (pd own looks mk dd ⟨0, false, 0⟩ R).1.h, .bool (pd own looks mk dd ⟨0, false, 0⟩ R).2, .int .i64 (pd own looks mk dd ⟨0, false, 0⟩ R).1.lk]) ∧ Below n₀ w w' ∧ J w' (snf own looks dd R []) := by
  have hnf := neq_func 79 Tryz.underlying79 (.func 40) #[]
  refine (callsIn_wide (n := 4)).1 ?_
  refine callsIn_of_wp_marks Tryz.func38 rfl trivial ?_ rfl
  simp only [Tryz.ntmps38, List.size_toArray, List.length_cons, List.length_nil, Nat.reduceAdd, Nat.reduceSub, Array.replicate_succ, Array.replicate_zero, List.push_toArray, List.append_toArray, List.nil_append, List.cons_append]
  gi_wp2_with (refine ⟨trivial, ?_⟩; gi_at_call 73; refine (callsIn_wide.2 (row_73 _ _ _)).mono ?_; rintro y w' ⟨rfl, rfl⟩)
  obtain ⟨N0, hN0⟩ : ∃ N0, w.heap.size = N0 := ⟨_, rfl⟩
  obtain ⟨W0, hW0⟩ : ∃ W0, ((((((((((w.alloc (Obj.cells #[Value.pointer (some ⟨xb, 0, none⟩)] 41)).alloc (Obj.cells #[Value.int IntKind.u64 own] 48)).alloc (Obj.cells #[Value.int IntKind.i64 looks] 3)).alloc (Obj.cells #[Value.func (.func 40) #[] #[.pointer (some ⟨ka, 0, none⟩), .pointer (some ⟨kd, 0, none⟩)]] 79)).alloc (Obj.cells #[Value.int IntKind.u64 0] 48)).alloc (Obj.cells #[Value.bool false] 4)).alloc (Obj.cells #[Value.int IntKind.i64 0] 3)).alloc (Obj.cells #[Value.bool false] 4)).alloc (Obj.cells #[Value.pointer (some ⟨xb, 0, none⟩)] 41)).alloc (Obj.cells #[Value.int IntKind.i64 ci] 3)) = W0 := ⟨_, rfl⟩
  rw [hW0]
  rw [hN0] at hn0 hJ hdd
  have hst : PE J ka kd W0 N0 xb own looks ci ⟨0, false, 0⟩ false [] ∧ Below n₀ w W0 ∧ W0.heap.size = N0 + 1 + 1 + 1 + 1 + 1 + 1 + 1 + 1 + 1 + 1 := by
    subst hW0
    have L := fun (V : World) (t : TypeId) (vs : Array Value) (n : Nat) (hn : V.heap.size = n) => (hn ▸ Box.new V t vs : Box (V.alloc (.cells vs t)) t n vs)
    have G := fun (V : World) (o : Obj) => World.grownBy_alloc V o none
    have s0 := hN0
    have B0 := L w 41 #[.pointer (some ⟨xb, 0, none⟩)] N0 hN0
    have g0 := G w (Obj.cells #[Value.pointer (some ⟨xb, 0, none⟩)] 41)
    have s1 : (w.alloc (Obj.cells #[Value.pointer (some ⟨xb, 0, none⟩)] 41)).heap.size = N0 + 1 := by simp [hN0]
    have bl : Below n₀ w (w.alloc (Obj.cells #[Value.pointer (some ⟨xb, 0, none⟩)] 41)) := (Below.refl _ w).alloc (by omega) _
    generalize w.alloc (Obj.cells #[Value.pointer (some ⟨xb, 0, none⟩)] 41) = V1 at *
    have B1 := L V1 48 #[.int .u64 own] _ s1
    have g1 := G V1 (Obj.cells #[Value.int IntKind.u64 own] 48)
    have s2 : (V1.alloc (Obj.cells #[Value.int IntKind.u64 own] 48)).heap.size = N0 + 1 + 1 := by simp [s1]
    replace bl : Below n₀ w (V1.alloc (Obj.cells #[Value.int IntKind.u64 own] 48)) := bl.alloc (by omega) _
    generalize V1.alloc (Obj.cells #[Value.int IntKind.u64 own] 48) = V2 at *
    have B2 := L V2 3 #[.int .i64 looks] _ s2
    have g2 := G V2 (Obj.cells #[Value.int IntKind.i64 looks] 3)
    have s3 : (V2.alloc (Obj.cells #[Value.int IntKind.i64 looks] 3)).heap.size = N0 + 1 + 1 + 1 := by simp [s2]
    replace bl : Below n₀ w (V2.alloc (Obj.cells #[Value.int IntKind.i64 looks] 3)) := bl.alloc (by omega) _
    generalize V2.alloc (Obj.cells #[Value.int IntKind.i64 looks] 3) = V3 at *
    have B3 := L V3 79 #[Value.func (.func 40) #[] #[.pointer (some ⟨ka, 0, none⟩), .pointer (some ⟨kd, 0, none⟩)]] _ s3
    have g3 := G V3 (Obj.cells #[Value.func (.func 40) #[] #[.pointer (some ⟨ka, 0, none⟩), .pointer (some ⟨kd, 0, none⟩)]] 79)
    have s4 : (V3.alloc (Obj.cells #[Value.func (.func 40) #[] #[.pointer (some ⟨ka, 0, none⟩), .pointer (some ⟨kd, 0, none⟩)]] 79)).heap.size = N0 + 1 + 1 + 1 + 1 := by simp [s3]
    replace bl : Below n₀ w (V3.alloc (Obj.cells #[Value.func (.func 40) #[] #[.pointer (some ⟨ka, 0, none⟩), .pointer (some ⟨kd, 0, none⟩)]] 79)) := bl.alloc (by omega) _
    generalize V3.alloc (Obj.cells #[Value.func (.func 40) #[] #[.pointer (some ⟨ka, 0, none⟩), .pointer (some ⟨kd, 0, none⟩)]] 79) = V4 at *
    have B4 := L V4 48 #[.int .u64 0] _ s4
    have g4 := G V4 (Obj.cells #[Value.int IntKind.u64 0] 48)
    have s5 : (V4.alloc (Obj.cells #[Value.int IntKind.u64 0] 48)).heap.size = N0 + 1 + 1 + 1 + 1 + 1 := by simp [s4]
    replace bl : Below n₀ w (V4.alloc (Obj.cells #[Value.int IntKind.u64 0] 48)) := bl.alloc (by omega) _
    generalize V4.alloc (Obj.cells #[Value.int IntKind.u64 0] 48) = V5 at *
    have B5 := L V5 4 #[.bool false] _ s5
    have g5 := G V5 (Obj.cells #[Value.bool false] 4)
    have s6 : (V5.alloc (Obj.cells #[Value.bool false] 4)).heap.size = N0 + 1 + 1 + 1 + 1 + 1 + 1 := by simp [s5]
    replace bl : Below n₀ w (V5.alloc (Obj.cells #[Value.bool false] 4)) := bl.alloc (by omega) _
    generalize V5.alloc (Obj.cells #[Value.bool false] 4) = V6 at *
    have B6 := L V6 3 #[.int .i64 0] _ s6
    have g6 := G V6 (Obj.cells #[Value.int IntKind.i64 0] 3)
    have s7 : (V6.alloc (Obj.cells #[Value.int IntKind.i64 0] 3)).heap.size = N0 + 1 + 1 + 1 + 1 + 1 + 1 + 1 := by simp [s6]
    replace bl : Below n₀ w (V6.alloc (Obj.cells #[Value.int IntKind.i64 0] 3)) := bl.alloc (by omega) _
    generalize V6.alloc (Obj.cells #[Value.int IntKind.i64 0] 3) = V7 at *
    have B7 := L V7 4 #[.bool false] _ s7
    have g7 := G V7 (Obj.cells #[Value.bool false] 4)
    have s8 : (V7.alloc (Obj.cells #[Value.bool false] 4)).heap.size = N0 + 1 + 1 + 1 + 1 + 1 + 1 + 1 + 1 := by simp [s7]
    replace bl : Below n₀ w (V7.alloc (Obj.cells #[Value.bool false] 4)) := bl.alloc (by omega) _
    generalize V7.alloc (Obj.cells #[Value.bool false] 4) = V8 at *
    have B8 := L V8 41 #[.pointer (some ⟨xb, 0, none⟩)] _ s8
    have g8 := G V8 (Obj.cells #[Value.pointer (some ⟨xb, 0, none⟩)] 41)
    have s9 : (V8.alloc (Obj.cells #[Value.pointer (some ⟨xb, 0, none⟩)] 41)).heap.size = N0 + 1 + 1 + 1 + 1 + 1 + 1 + 1 + 1 + 1 := by simp [s8]
    replace bl : Below n₀ w (V8.alloc (Obj.cells #[Value.pointer (some ⟨xb, 0, none⟩)] 41)) := bl.alloc (by omega) _
    generalize V8.alloc (Obj.cells #[Value.pointer (some ⟨xb, 0, none⟩)] 41) = V9 at *
    have B9 := L V9 3 #[.int .i64 ci] _ s9
    have g9 := G V9 (Obj.cells #[Value.int IntKind.i64 ci] 3)
    have s10 : (V9.alloc (Obj.cells #[Value.int IntKind.i64 ci] 3)).heap.size = N0 + 1 + 1 + 1 + 1 + 1 + 1 + 1 + 1 + 1 + 1 := by simp [s9]
    replace bl : Below n₀ w (V9.alloc (Obj.cells #[Value.int IntKind.i64 ci] 3)) := bl.alloc (by omega) _
    generalize V9.alloc (Obj.cells #[Value.int IntKind.i64 ci] 3) = V10 at *
    have k8 := gb_trans g8 g9
    have k7 := gb_trans g7 k8
    have k6 := gb_trans g6 k7
    have k5 := gb_trans g5 k6
    have k4 := gb_trans g4 k5
    have k3 := gb_trans g3 k4
    have k2 := gb_trans g2 k3
    have k1 := gb_trans g1 k2
    exact ⟨⟨B0.kept k1 (by simp), B1.kept k2 (by simp), B2.kept k3 (by simp), B3.kept k4 (by simp), B4.kept k5 (by simp), B5.kept k6 (by simp), B6.kept k7 (by simp), B7.kept k8 (by simp), B8.kept g9 (by simp), B9, hJ.own _ _ none _ hJ0 (gb_trans g0 k1) (by simp)⟩, bl, s10⟩
  clear hW0
  obtain ⟨hPB0, hB0, hs0⟩ := hst
  refine wpIn_rangeFunc_ownF rfl (by omega) (gf := 116) (lb := #[.pointer (some ⟨N0 + 1 + 1 + 1 + 1 + 1 + 1 + 1 + 1, 0, none⟩), .pointer (some ⟨N0 + 1 + 1 + 1 + 1 + 1 + 1 + 1 + 1 + 1, 0, none⟩)]) (by rw [← hN0]; rfl) trivial (enters_of Tryz.func116 (by kernel_rfl) rfl)
    (hseq W0 (N0 + 1 + 1 + 1 + 1 + 1 + 1 + 1 + 1) (N0 + 1 + 1 + 1 + 1 + 1 + 1 + 1 + 1 + 1) _ (by omega) (by omega) (by omega) (by omega) (hPB0.b8.cell 0) (hPB0.b9.cell 0) hB0) (fun h1 h2 => h1.trans h2) ?hKb (Below.refl _ _) (fun _ => rfl)
    (fun pre W => (∃ acc, PE J ka kd W N0 xb own looks ci (pfold own looks mk (pre.map Subtype.val)) false acc ∧ PDq own looks mk dd (pre.map Subtype.val) (pfold own looks mk (pre.map Subtype.val)) ∧ SNq own looks dd (pre.map Subtype.val) acc ∧ acc.length = (pfold own looks mk (pre.map Subtype.val)).lk) ∧ Below n₀ w W)
    (fun c pre W => ((c = .exit 0 ∧ ∃ acc, PDf own looks mk dd (pre.map Subtype.val) (pfold own looks mk (pre.map Subtype.val)) false ∧ PE J ka kd W N0 xb own looks ci (pfold own looks mk (pre.map Subtype.val)) false acc ∧ SNf own looks dd (pre.map Subtype.val) acc) ∨ (c = .ret ∧ ∃ s' acc, PDf own looks mk dd (pre.map Subtype.val) s' true ∧ PE J ka kd W N0 xb own looks ci s' true acc ∧ SNf own looks dd (pre.map Subtype.val) acc)) ∧ Below n₀ w W)
    (OwnFrom.and (Own.from (fun s A B row ⟨acc, h1, h2⟩ hg hr => ⟨acc, h1.keep hJ hg hr, h2⟩) _) (ownFrom_below (by omega) (by omega)))
    (fun c => OwnFrom.and (Own.from (fun s A B row hs hg hr => hs.imp (fun ⟨h1, acc, h2, h3, h4⟩ => ⟨h1, acc, h2, h3.keep hJ hg hr, h4⟩) (fun ⟨h1, s', acc, h2, h3, h4⟩ => ⟨h1, s', acc, h2, h3.keep hJ hg hr, h4⟩)) _) (ownFrom_below (by omega) (by omega)))
    ⟨⟨[], hPB0, fun l => rfl, ⟨fun l => rfl, fun hh => absurd rfl hh⟩, rfl⟩, hB0⟩
    (fun x => { tmps := #[Value.pointer (some ⟨xb, 0, none⟩), Value.int IntKind.i64 ci, Value.int IntKind.u64 own, Value.int IntKind.i64 looks, Value.func (.func 40) #[] #[.pointer (some ⟨ka, 0, none⟩), .pointer (some ⟨kd, 0, none⟩)], Value.pointer (some ⟨N0, 0, none⟩), undef, Value.pointer (some ⟨N0 + 1, 0, none⟩), Value.pointer (some ⟨N0 + 1 + 1, 0, none⟩), Value.pointer (some ⟨N0 + 1 + 1 + 1, 0, none⟩), Value.pointer (some ⟨N0 + 1 + 1 + 1 + 1, 0, none⟩), Value.pointer (some ⟨N0 + 1 + 1 + 1 + 1 + 1, 0, none⟩), Value.pointer (some ⟨N0 + 1 + 1 + 1 + 1 + 1 + 1, 0, none⟩), Value.pointer (some ⟨N0 + 1 + 1 + 1 + 1 + 1 + 1 + 1, 0, none⟩), Value.int IntKind.u64 (x.1 : Nat), Value.pointer (some ⟨xb, 0, none⟩), Value.int IntKind.i64 ci, Value.func (Fn.func 116) #[] #[Value.pointer (some ⟨N0 + 1 + 1 + 1 + 1 + 1 + 1 + 1 + 1, 0, none⟩), Value.pointer (some ⟨N0 + 1 + 1 + 1 + 1 + 1 + 1 + 1 + 1 + 1, 0, none⟩)], Value.int IntKind.u64 (x.1 : Nat), undef, undef, undef, undef, undef, undef, undef, undef, undef, undef, undef, undef, undef, undef, undef, undef, undef, undef, undef, undef, undef, undef, undef, undef, undef, undef, undef, undef, undef, undef, undef, undef, undef, undef], defers := [] }) ?assign ?body ?done ?stop
  case hKb =>
    intro W l o o' hl ho h1 h2
    rw [hs0] at hl
    refine ⟨belowK_b (w := W0) (by omega) W l o o' (by omega) ho h1 h2, fun k hk => ?_⟩
    exact (grownBy_putObj' W l o').block k (by have := (Array.getElem?_eq_some_iff.1 ho).1; omega) (by simp; omega)
  case assign =>
    intro l x W K hK
    subst hN0
    gi_wp2
    exact hK
  case body =>
    rintro l pre x W ⟨⟨acc, hP, hQ, hSN, hal⟩, hB⟩ hlen
    subst hN0
    have hlk := pfold_lk own looks mk (pre.map Subtype.val)
    rw [List.length_map] at hlk
    have hsn := pfold_snoc own looks mk (pre.map Subtype.val) x.1
    have hmap : (pre ++ [x]).map Subtype.val = pre.map Subtype.val ++ [x.1] := by simp
    have hac := fun W1 (h1 : Below n₀ w W1) => h81 W1 x.1 h1 x.2
    obtain ⟨act, hact⟩ : ∃ act, decide (mk x.1 % 2 = 1) = act := ⟨_, rfl⟩
    simp only [hact] at hac
    generalize pfold own looks mk (pre.map Subtype.val) = s at *
    have c0 := hP.b0.cell 0
    have c1 := hP.b1.cell 0
    have c2 := hP.b2.cell 0
    have c3 := hP.b3.cell 0
    have c4 := hP.b4.cell 0
    have c6 := hP.b6.cell 0
    have c7 := hP.b7.cell 0
    have f4 := hP.b4.fz 0
    have f6 := hP.b6.fz 0
    have f7 := hP.b7.fz 0
    simp at c0 c1 c2 c3 c4 c6 c7
    by_cases hxo : x.1 = own
    · have hxi : ((x.1 : Nat) : Int) = (own : Int) := by omega
      have hE : pfold own looks mk ((pre ++ [x]).map Subtype.val) = s := by rw [hmap, hsn]; unfold pst; rw [if_pos hxo]
      clear hac hsn
      gi_wp2
      exact ⟨KeepsOthers.refl _, ⟨Below.refl _ _, fun _ _ => rfl⟩, ⟨acc, by rw [hE]; exact hP, by rw [hE, hmap]; exact hQ.skip hxo, by rw [hmap]; exact hSN.skip hxo, by rw [hE]; exact hal⟩, hB⟩
    · have hxi : ¬ ((x.1 : Nat) : Int) = (own : Int) := by omega
      by_cases hfull : looks ≤ (s.lk : Int)
      · have hE : pfold own looks mk ((pre ++ [x]).map Subtype.val) = s := by rw [hmap, hsn]; exact pst_full hfull _
        clear hac hsn
        gi_wp2
        exact ⟨KeepsOthers.refl _, .inl ⟨rfl, acc, by rw [hE, hmap]; exact hQ.full hxo hfull, by rw [hE]; exact hP, by rw [hmap]; exact hSN.full (by rw [hal]; exact hfull)⟩, hB⟩
      · have hE0 : pfold own looks mk ((pre ++ [x]).map Subtype.val) = if s.lk + 1 = 1 ∨ (s.sp = true ∧ ¬ mk x.1 % 2 = 1) then ⟨x.1, decide (mk x.1 % 2 = 1), s.lk + 1⟩ else ⟨s.h, s.sp, s.lk + 1⟩ := by
          rw [hmap, hsn]; unfold pst; rw [if_neg hxo, if_neg hfull]
        have e1 : IntKind.i64.wrap ((s.lk : Int) + 1) = ((s.lk + 1 : Nat) : Int) := by rw [IntKind.wrap_i64]; omega
        obtain ⟨n1, hn1⟩ : ∃ n1, s.lk + 1 = n1 := ⟨_, rfl⟩
        rw [hn1] at e1 hE0
        have hP1 := hP.setLk hJ n1
        have hB1 : Below n₀ w (W.setCell ⟨w.heap.size + 1 + 1 + 1 + 1 + 1 + 1, 0, none⟩ (.int .i64 n1)) := hB.setCell (p := ⟨w.heap.size + 1 + 1 + 1 + 1 + 1 + 1, 0, none⟩) (by dsimp only; omega) _
        have hk1 : KeepsOthers W (W.setCell ⟨w.heap.size + 1 + 1 + 1 + 1 + 1 + 1, 0, none⟩ (.int .i64 n1)) := KeepsOthers.setCell _ _ _
        have hi1 : KI n₀ (w.heap.size + 1 + 1 + 1 + 1 + 1 + 1 + 1 + 1) (w.heap.size + 1 + 1 + 1 + 1 + 1 + 1 + 1 + 1 + 1) W (W.setCell ⟨w.heap.size + 1 + 1 + 1 + 1 + 1 + 1, 0, none⟩ (.int .i64 n1)) := KI.setCell _ (by omega) (by omega) (by omega)
        obtain ⟨W1, hW1⟩ : ∃ W1, W.setCell ⟨w.heap.size + 1 + 1 + 1 + 1 + 1 + 1, 0, none⟩ (.int .i64 n1) = W1 := ⟨_, rfl⟩
        rw [hW1] at hP1 hB1 hk1 hi1
        have d0 := hP1.b0.cell 0
        have d3 := hP1.b3.cell 0
        have d4 := hP1.b4.cell 0
        have d6 := hP1.b6.cell 0
        have d7 := hP1.b7.cell 0
        have g4 := hP1.b4.fz 0
        have g7 := hP1.b7.fz 0
        simp at d0 d3 d4 d6 d7
        have hac1 := hac _ hB1
        have HAC : Hid _ := hac
        have hfl : ¬ looks ≤ (acc.length : Int) := by rw [hal]; exact hfull
        have hPN : dd x.1 = false → Hid (PDq own looks mk dd ((pre ++ [x]).map Subtype.val) (pfold own looks mk ((pre ++ [x]).map Subtype.val)) ∧ SNq own looks dd ((pre ++ [x]).map Subtype.val) (acc ++ [x.1]) ∧ (acc ++ [x.1]).length = (pfold own looks mk ((pre ++ [x]).map Subtype.val)).lk) := fun hd => by
          refine ⟨?_, ?_, ?_⟩
          · rw [hmap, hsn]; exact hQ.next hxo hfull hd
          · rw [hmap]; exact hSN.next hxo hfl hd
          · rw [hE0, List.length_append, hal]
            split
            · exact hn1
            · exact hn1
        have hPD : dd x.1 = true → Hid (PDf own looks mk dd ((pre ++ [x]).map Subtype.val) ⟨x.1, s.sp, n1⟩ true ∧ SNf own looks dd ((pre ++ [x]).map Subtype.val) (acc ++ [x.1])) := fun hd => by
          refine ⟨?_, ?_⟩
          · rw [hmap, ← hn1]; exact hQ.dead hxo hfull hd
          · rw [hmap]; exact hSN.dead hxo hfl hd
        have hal5 : acc.length ≤ 5000 := by omega
        clear hac hsn hmap hSN hQ hal hfl
        have hd1 := hdd W1 x.1 acc hB1 hP1.j hal5 (by have := hP1.b9.lt; omega) x.2
        clear hac1
        have HQ : Hid (∀ wq, Kp (PJ n₀ w.heap.size) W1 wq → KeepsOthers W1 wq → J wq (acc ++ [x.1]) → PE J ka kd wq w.heap.size xb own looks ci ⟨s.h, s.sp, n1⟩ false (acc ++ [x.1]) ∧ Below n₀ w wq ∧ KeepsOthers W wq ∧ KI n₀ (w.heap.size + 1 + 1 + 1 + 1 + 1 + 1 + 1 + 1) (w.heap.size + 1 + 1 + 1 + 1 + 1 + 1 + 1 + 1 + 1) W wq) := fun wq hKq hoq hJq => by
          have hsz := hB1.size
          have hbl : Below n₀ W1 wq := ⟨hKq.os, hKq.tape, hKq.output, hKq.size, fun k hk => hKq.block k (by omega) (fun hh => by have := hh.1; omega)⟩
          refine ⟨hP1.call hKq hJq, hB1.trans hbl, hk1.trans hoq, hi1.trans ⟨hbl, fun k hk => hKq.block k ?_ (fun hh => ?_)⟩⟩
          · have h8 := hP1.b8.lt
            have h9 := hP1.b9.lt
            omega
          · have := hh.2; omega
        have hszw : ∀ wq, Below n₀ w wq → n₀ ≤ wq.heap.size := fun wq hh => Nat.le_trans hn0 hh.size
        rcases hdx : dd x.1 with _ | _
        · rw [hdx] at hd1
          obtain HN := hPN hdx
          clear hPN hPD
          by_cases hone : n1 = 1
          · subst hone
            rw [if_pos (.inl rfl), hact] at hE0
            simp only [show ((1 : Nat) : Int) = 1 from rfl] at e1 hW1 d6
            gi_wp2_with (first | (gi_at_call 40; refine (CallsIn.inRound l (callsIn_wide.2 hd1)).mono ?_; rintro y wq ⟨rfl, hKq, hoq, hJq⟩; (obtain ⟨hPq, hBq, hkq, hiq⟩ := HQ.out wq hKq hoq hJq); have q0 := hPq.c0; have q3 := hPq.c3; have q4 := hPq.c4; have q6 := hPq.c6; have q7 := hPq.c7; have v4 := hPq.b4.fz 0; have v7 := hPq.b7.fz 0; have hacq := HAC.out _ hBq) | (gi_at_call 81; refine (CallsIn.inRound l (callsIn_wide.2 hacq)).mono ?_; rintro y w5 ⟨rfl, hg5⟩; have hP5 := hPq.keep hJ hg5 (by simp); have e0 := hP5.c0; have e4 := hP5.c4; have e7 := hP5.c7; have k4 := hP5.b4.fz 0; have k7 := hP5.b7.fz 0) | (refine ⟨trivial, ?_⟩))
            have hB5 := hBq.trans (blw hg5 (hszw _ hBq))
            have hk5 := hkq.trans (kog hg5)
            have hi5 := hiq.trans (KI.grown hg5 (hszw _ hBq) hPq.b8.lt hPq.b9.lt)
            refine ⟨(hk5.trans (KeepsOthers.setCell _ _ _)).trans (KeepsOthers.setCell _ _ _), (hi5.trans (KI.setCell _ (by omega) (by omega) (by omega))).trans (KI.setCell _ (by omega) (by omega) (by omega)), ⟨acc ++ [x.1], ?_, HN.out⟩, (hB5.setCell (p := ⟨w.heap.size + 1 + 1 + 1 + 1, 0, none⟩) (by dsimp only; omega) _).setCell (p := ⟨w.heap.size + 1 + 1 + 1 + 1 + 1 + 1 + 1, 0, none⟩) (by dsimp only; omega) _⟩
            rw [hE0]
            exact (hP5.setHd hJ x.1).setSp hJ act
          · have hone' : ¬ (n1 : Int) = 1 := by omega
            rcases hsp : s.sp with _ | _
            · have hE1 : pfold own looks mk ((pre ++ [x]).map Subtype.val) = ⟨s.h, s.sp, n1⟩ := by
                rw [hE0, if_neg]
                rintro (h1 | h1)
                · exact hone h1
                · rw [hsp] at h1; exact absurd h1.1 (by decide)
              rw [hsp] at d7
              clear hE0
              gi_wp2_with (first | (gi_at_call 40; refine (CallsIn.inRound l (callsIn_wide.2 hd1)).mono ?_; rintro y wq ⟨rfl, hKq, hoq, hJq⟩; (obtain ⟨hPq, hBq, hkq, hiq⟩ := HQ.out wq hKq hoq hJq); have q0 := hPq.c0; have q3 := hPq.c3; have q4 := hPq.c4; have q6 := hPq.c6; have q7 := hPq.c7; have v4 := hPq.b4.fz 0; have v7 := hPq.b7.fz 0; rw [hsp] at q7) | (refine ⟨trivial, ?_⟩))
              exact ⟨hkq, hiq, ⟨acc ++ [x.1], by rw [hE1]; exact hPq, HN.out⟩, hBq⟩
            · rw [hsp] at d7
              rcases hab : act with _ | _
              · have hE1 : pfold own looks mk ((pre ++ [x]).map Subtype.val) = ⟨x.1, act, n1⟩ := by
                  rw [hE0, if_pos (.inr ⟨hsp, by rw [hab] at hact; exact of_decide_eq_false hact⟩), hact]
                subst hab
                clear hE0 hact
                gi_wp2_with (first | (gi_at_call 40; refine (CallsIn.inRound l (callsIn_wide.2 hd1)).mono ?_; rintro y wq ⟨rfl, hKq, hoq, hJq⟩; (obtain ⟨hPq, hBq, hkq, hiq⟩ := HQ.out wq hKq hoq hJq); have q0 := hPq.c0; have q3 := hPq.c3; have q4 := hPq.c4; have q6 := hPq.c6; have q7 := hPq.c7; have v4 := hPq.b4.fz 0; have v7 := hPq.b7.fz 0; rw [hsp] at q7; have hacq := HAC.out _ hBq) | (gi_at_call 81; refine (CallsIn.inRound l (callsIn_wide.2 hacq)).mono ?_; clear hacq; rintro y w5 ⟨rfl, hg5⟩; have hP5 := hPq.keep hJ hg5 (by simp); have e0 := hP5.c0; have e4 := hP5.c4; have e7 := hP5.c7; rw [hsp] at e7; have hB5 := hBq.trans (blw hg5 (hszw _ hBq)); have hac5 := HAC.out _ hB5) | (gi_at_call 81; refine (CallsIn.inRound l (callsIn_wide.2 hac5)).mono ?_; clear hac5; rintro y w6 ⟨rfl, hg6⟩; have hP6 := hP5.keep hJ hg6 (by simp); have z4 := hP6.c4; have z7 := hP6.c7; have k4 := hP6.b4.fz 0; have k7 := hP6.b7.fz 0) | (refine ⟨trivial, ?_⟩))
                have hB6 := hB5.trans (blw hg6 (hszw _ hB5))
                have hk6 := (hkq.trans (kog hg5)).trans (kog hg6)
                have hi6 := (hiq.trans (KI.grown hg5 (hszw _ hBq) hPq.b8.lt hPq.b9.lt)).trans (KI.grown hg6 (hszw _ hB5) hP5.b8.lt hP5.b9.lt)
                refine ⟨(hk6.trans (KeepsOthers.setCell _ _ _)).trans (KeepsOthers.setCell _ _ _), (hi6.trans (KI.setCell _ (by omega) (by omega) (by omega))).trans (KI.setCell _ (by omega) (by omega) (by omega)), ⟨acc ++ [x.1], ?_, HN.out⟩, (hB6.setCell (p := ⟨w.heap.size + 1 + 1 + 1 + 1, 0, none⟩) (by dsimp only; omega) _).setCell (p := ⟨w.heap.size + 1 + 1 + 1 + 1 + 1 + 1 + 1, 0, none⟩) (by dsimp only; omega) _⟩
                rw [hE1]
                exact (hP6.setHd hJ x.1).setSp hJ false
              · have hE1 : pfold own looks mk ((pre ++ [x]).map Subtype.val) = ⟨s.h, s.sp, n1⟩ := by
                  rw [hE0, if_neg]
                  rintro (h1 | h1)
                  · exact hone h1
                  · rw [hab] at hact; exact h1.2 (of_decide_eq_true hact)
                subst hab
                clear hE0 hact
                gi_wp2_with (first | (gi_at_call 40; refine (CallsIn.inRound l (callsIn_wide.2 hd1)).mono ?_; rintro y wq ⟨rfl, hKq, hoq, hJq⟩; (obtain ⟨hPq, hBq, hkq, hiq⟩ := HQ.out wq hKq hoq hJq); have q0 := hPq.c0; have q3 := hPq.c3; have q4 := hPq.c4; have q6 := hPq.c6; have q7 := hPq.c7; have v4 := hPq.b4.fz 0; have v7 := hPq.b7.fz 0; rw [hsp] at q7; have hacq := HAC.out _ hBq) | (gi_at_call 81; refine (CallsIn.inRound l (callsIn_wide.2 hacq)).mono ?_; clear hacq; rintro y w5 ⟨rfl, hg5⟩; have hP5 := hPq.keep hJ hg5 (by simp); have e0 := hP5.c0; have e4 := hP5.c4; have e7 := hP5.c7; rw [hsp] at e7) | (refine ⟨trivial, ?_⟩))
                have hB5 := hBq.trans (blw hg5 (hszw _ hBq))
                have hk5 := hkq.trans (kog hg5)
                have hi5 := hiq.trans (KI.grown hg5 (hszw _ hBq) hPq.b8.lt hPq.b9.lt)
                exact ⟨hk5, hi5, ⟨acc ++ [x.1], by rw [hE1]; exact hP5, HN.out⟩, hB5⟩
        · rw [hdx] at hd1
          obtain HD := hPD hdx
          clear hPN hPD hE0
          gi_wp2_with (first | (gi_at_call 40; refine (CallsIn.inRound l (callsIn_wide.2 hd1)).mono ?_; rintro y wq ⟨rfl, hKq, hoq, hJq⟩; (obtain ⟨hPq, hBq, hkq, hiq⟩ := HQ.out wq hKq hoq hJq); have q0 := hPq.c0; have q3 := hPq.c3; have q4 := hPq.c4; have q6 := hPq.c6; have q7 := hPq.c7; have v4 := hPq.b4.fz 0; have v7 := hPq.b7.fz 0; have q5 := hPq.c5; have y4 := hPq.b4.fz 0; have y5 := hPq.b5.fz 0; have y6 := hPq.b6.fz 0) | (refine ⟨trivial, ?_⟩))
          have hmo : Tryz.prog.follows .mixedOrders = true := by kernel_rfl
          gi_region
          all_goals gi_wp2
          all_goals exact ⟨(((hkq.trans (KeepsOthers.setCell _ _ _)).trans (KeepsOthers.setCell _ _ _)).trans (KeepsOthers.setCell _ _ _)).trans (KeepsOthers.drew _), .inr ⟨rfl, _, acc ++ [x.1], HD.out.1, (((hPq.setHd hJ x.1).setId hJ true).setLk hJ n1).keep hJ (gb_drew (gb_refl _ none)) (by simp), HD.out.2⟩, (((hBq.setCell (p := ⟨w.heap.size + 1 + 1 + 1 + 1, 0, none⟩) (by dsimp only; omega) _).setCell (p := ⟨w.heap.size + 1 + 1 + 1 + 1 + 1, 0, none⟩) (by dsimp only; omega) _).setCell (p := ⟨w.heap.size + 1 + 1 + 1 + 1 + 1 + 1, 0, none⟩) (by dsimp only; omega) _).drew⟩
  case done =>
    rintro D ys W hD hS ⟨⟨acc, hP, hQ, hSN, hal⟩, hB⟩ hK
    subst hN0
    rw [hS] at hP hQ hSN
    have hsn : acc = snf own looks dd (R) [] := by have := hSN.eq []; rw [List.append_nil] at this; rw [this]; rfl
    clear hal
    obtain ⟨s, hs⟩ : ∃ s, pfold own looks mk (R) = s := ⟨_, rfl⟩
    rw [hs] at hP hQ
    have hpd : pd own looks mk dd ⟨0, false, 0⟩ (R) = (s, false) := by have := hQ []; rw [List.append_nil] at this; rw [this]; rfl
    clear hs hQ hSN
    have hP2 : PE J ka kd (W.setCell ⟨w.heap.size + 1 + 1 + 1 + 1, 0, none⟩ (.int .u64 s.h)) w.heap.size xb own looks ci s false acc := hP.setHd hJ s.h
    have hP3 := hP2.setId hJ false
    have hP4 : PE J ka kd (((W.setCell ⟨w.heap.size + 1 + 1 + 1 + 1, 0, none⟩ (.int .u64 s.h)).setCell ⟨w.heap.size + 1 + 1 + 1 + 1 + 1, 0, none⟩ (.bool false)).setCell ⟨w.heap.size + 1 + 1 + 1 + 1 + 1 + 1, 0, none⟩ (.int .i64 s.lk)) w.heap.size xb own looks ci s false acc := hP3.setLk hJ s.lk
    have c4 := hP.b4.cell 0
    have c6 := hP.b6.cell 0
    have f4 := hP.b4.fz 0
    have c5' := hP2.b5.cell 0
    have c6' := hP2.b6.cell 0
    have f5' := hP2.b5.fz 0
    have c6q := hP3.b6.cell 0
    have f6q := hP3.b6.fz 0
    simp only [List.getElem?_toArray, List.getElem?_cons_zero] at c4 c6 c5' c6' c6q
    have hB4 : Below n₀ w (((W.setCell ⟨w.heap.size + 1 + 1 + 1 + 1, 0, none⟩ (.int .u64 s.h)).setCell ⟨w.heap.size + 1 + 1 + 1 + 1 + 1, 0, none⟩ (.bool false)).setCell ⟨w.heap.size + 1 + 1 + 1 + 1 + 1 + 1, 0, none⟩ (.int .i64 s.lk)) := ((hB.setCell (p := ⟨w.heap.size + 1 + 1 + 1 + 1, 0, none⟩) (by dsimp only; omega) _).setCell (p := ⟨w.heap.size + 1 + 1 + 1 + 1 + 1, 0, none⟩) (by dsimp only; omega) _).setCell (p := ⟨w.heap.size + 1 + 1 + 1 + 1 + 1 + 1, 0, none⟩) (by dsimp only; omega) _
    have hK4 := (((KeepsOthers.setCell W ⟨w.heap.size + 1 + 1 + 1 + 1, 0, none⟩ (.int .u64 s.h)).trans (KeepsOthers.setCell _ ⟨w.heap.size + 1 + 1 + 1 + 1 + 1, 0, none⟩ (.bool false))).trans (KeepsOthers.setCell _ ⟨w.heap.size + 1 + 1 + 1 + 1 + 1 + 1, 0, none⟩ (.int .i64 s.lk))).same D _ hK rfl
    gi_wp2
    refine wpIn_wide.2 ?_
    go_region_law (fail)
    all_goals gi_wp2
    all_goals
      generalize ((W.setCell ⟨w.heap.size + 1 + 1 + 1 + 1, 0, none⟩ (.int .u64 s.h)).setCell ⟨w.heap.size + 1 + 1 + 1 + 1 + 1, 0, none⟩ (.bool false)).setCell ⟨w.heap.size + 1 + 1 + 1 + 1 + 1 + 1, 0, none⟩ (.int .i64 s.lk) = V at *
      have hK5 := (KeepsOthers.drew V).same D _ hK4 rfl
      refine ⟨by simp, .inl ⟨_, _, rfl, run_takeDeferred hK5, ?_⟩⟩
      have hgD := grownBy_putObj' V.drew D (.deferred none)
      have hPe := (hP4.keep hJ (gb_drew (gb_refl V none)) (by simp)).keep hJ hgD (fun r e => by cases e; exact ⟨_, hK5, rfl⟩)
      have x4 := hPe.b4.cell 0
      have x5 := hPe.b5.cell 0
      have x6 := hPe.b6.cell 0
      simp only [List.getElem?_toArray, List.getElem?_cons_zero] at x4 x5 x6
      have hBe := hB4.drew.trans (belowK_b (w := w) hn0 V.drew D (.deferred (some [])) (.deferred none) (by rw [hs0] at hD; omega) hK5 rfl rfl)
      refine ⟨_, ?_, rfl, hBe, by rw [← hsn]; exact hPe.j⟩
      simp [results, Tryz.f38, go_sem, x4, x5, x6, hpd]
  case stop =>
    rintro D c pre W hD ⟨q, hq⟩ ⟨⟨rfl, acc, hF, hP, hSN⟩ | ⟨rfl, s, acc, hF, hP, hSN⟩, hB⟩ hK
    · subst hN0
      have hpd := hF q
      rw [hq] at hpd
      have hsn : acc = snf own looks dd (R) [] := by have := hSN q; rw [hq] at this; exact this.symm
      generalize pfold own looks mk (pre.map Subtype.val) = s at *
      clear hF hq hSN
      have hP2 : PE J ka kd (W.setCell ⟨w.heap.size + 1 + 1 + 1 + 1, 0, none⟩ (.int .u64 s.h)) w.heap.size xb own looks ci s false acc := hP.setHd hJ s.h
      have hP3 := hP2.setId hJ false
      have hP4 : PE J ka kd (((W.setCell ⟨w.heap.size + 1 + 1 + 1 + 1, 0, none⟩ (.int .u64 s.h)).setCell ⟨w.heap.size + 1 + 1 + 1 + 1 + 1, 0, none⟩ (.bool false)).setCell ⟨w.heap.size + 1 + 1 + 1 + 1 + 1 + 1, 0, none⟩ (.int .i64 s.lk)) w.heap.size xb own looks ci s false acc := hP3.setLk hJ s.lk
      have c4 := hP.b4.cell 0
      have c6 := hP.b6.cell 0
      have f4 := hP.b4.fz 0
      have c5' := hP2.b5.cell 0
      have c6' := hP2.b6.cell 0
      have f5' := hP2.b5.fz 0
      have c6q := hP3.b6.cell 0
      have f6q := hP3.b6.fz 0
      simp only [List.getElem?_toArray, List.getElem?_cons_zero] at c4 c6 c5' c6' c6q
      have hB4 : Below n₀ w (((W.setCell ⟨w.heap.size + 1 + 1 + 1 + 1, 0, none⟩ (.int .u64 s.h)).setCell ⟨w.heap.size + 1 + 1 + 1 + 1 + 1, 0, none⟩ (.bool false)).setCell ⟨w.heap.size + 1 + 1 + 1 + 1 + 1 + 1, 0, none⟩ (.int .i64 s.lk)) := ((hB.setCell (p := ⟨w.heap.size + 1 + 1 + 1 + 1, 0, none⟩) (by dsimp only; omega) _).setCell (p := ⟨w.heap.size + 1 + 1 + 1 + 1 + 1, 0, none⟩) (by dsimp only; omega) _).setCell (p := ⟨w.heap.size + 1 + 1 + 1 + 1 + 1 + 1, 0, none⟩) (by dsimp only; omega) _
      have hK4 := (((KeepsOthers.setCell W ⟨w.heap.size + 1 + 1 + 1 + 1, 0, none⟩ (.int .u64 s.h)).trans (KeepsOthers.setCell _ ⟨w.heap.size + 1 + 1 + 1 + 1 + 1, 0, none⟩ (.bool false))).trans (KeepsOthers.setCell _ ⟨w.heap.size + 1 + 1 + 1 + 1 + 1 + 1, 0, none⟩ (.int .i64 s.lk))).same D _ hK rfl
      gi_wp2
      refine wpIn_wide.2 ?_
      go_region_law (fail)
      all_goals gi_wp2
      all_goals
        generalize ((W.setCell ⟨w.heap.size + 1 + 1 + 1 + 1, 0, none⟩ (.int .u64 s.h)).setCell ⟨w.heap.size + 1 + 1 + 1 + 1 + 1, 0, none⟩ (.bool false)).setCell ⟨w.heap.size + 1 + 1 + 1 + 1 + 1 + 1, 0, none⟩ (.int .i64 s.lk) = V at *
        have hK5 := (KeepsOthers.drew V).same D _ hK4 rfl
        refine ⟨by simp, .inl ⟨_, _, rfl, run_takeDeferred hK5, ?_⟩⟩
        have hgD := grownBy_putObj' V.drew D (.deferred none)
        have hPe := (hP4.keep hJ (gb_drew (gb_refl V none)) (by simp)).keep hJ hgD (fun r e => by cases e; exact ⟨_, hK5, rfl⟩)
        have x4 := hPe.b4.cell 0
        have x5 := hPe.b5.cell 0
        have x6 := hPe.b6.cell 0
        simp only [List.getElem?_toArray, List.getElem?_cons_zero] at x4 x5 x6
        have hBe := hB4.drew.trans (belowK_b (w := w) hn0 V.drew D (.deferred (some [])) (.deferred none) (by rw [hs0] at hD; omega) hK5 rfl rfl)
        refine ⟨_, ?_, rfl, hBe, by rw [← hsn]; exact hPe.j⟩
        simp [results, Tryz.f38, go_sem, x4, x5, x6, hpd]
    · subst hN0
      have hpd := hF q
      rw [hq] at hpd
      have hsn : acc = snf own looks dd (R) [] := by have := hSN q; rw [hq] at this; exact this.symm
      clear hF hq hSN
      gi_wp2
      refine ⟨by simp, .inl ⟨_, _, rfl, run_takeDeferred hK, ?_⟩⟩
      have hgD := grownBy_putObj' W D (.deferred none)
      have hPe := hP.keep hJ hgD (fun r e => by cases e; exact ⟨_, hK, rfl⟩)
      have x4 := hPe.b4.cell 0
      have x5 := hPe.b5.cell 0
      have x6 := hPe.b6.cell 0
      simp only [List.getElem?_toArray, List.getElem?_cons_zero] at x4 x5 x6
      have hBe := hB.trans (belowK_b (w := w) hn0 W D (.deferred (some [])) (.deferred none) (by rw [hs0] at hD; omega) hK rfl rfl)
      refine ⟨_, ?_, rfl, hBe, by rw [← hsn]; exact hPe.j⟩
      simp [results, Tryz.f38, go_sem, x4, x5, x6, hpd]
end
end Go.Proofs.YtohneboimmcocaaGreat
/-
  LruExact: the function that keeps a list of those that it was asked of.
-/
namespace Go.Proofs.YtohneboimmcocaaGreat
open Go.RowKit
set_option linter.unusedVariables false

/-- The law's own memory while Pick runs: those asked, those dead, the call. -/
structure JP (n₀ N0 ta td to : Nat) (o6 : Array Value) (dv : Value) (ds : List Nat) (W : World) (xs : List Nat) : Prop where
  b1 : ∃ tv, Box W 38 ta #[tv] ∧ W.ownsRow n₀ 27 1 tv xs.length (uvs xs) ∧ ∀ k, tv.ownBlock = some k → k ≠ ta ∧ k ≠ td ∧ k ≠ to ∧ dv.ownBlock ≠ some k ∧ ¬ (N0 ≤ k ∧ k < N0 + 10)
  b2 : Box W 38 td #[dv]
  b3 : W.ownsRow n₀ 27 1 dv ds.length (uvs ds)
  b4 : Box W 29 to o6
/-- Where it lies. -/
structure JL (n₀ N0 ta td to : Nat) (dv : Value) : Prop where
  n : n₀ ≤ N0
  a : n₀ ≤ ta ∧ ta < N0
  d : td < N0
  o : to < N0
  ad : ta ≠ td
  ao : ta ≠ to
  dl : ∀ k, dv.ownBlock = some k → k < N0 ∧ k ≠ ta
section
variable {n₀ N0 ta td to : Nat} {o6 : Array Value} {dv : Value} {ds : List Nat}
theorem row_own {W W' : World} {B : Nat} {v : Value} {n : Nat} {vs : List Value} (h : W.ownsRow B 27 1 v n vs) {row : Option Nat} (hf : W.grownBy W' row) (hr : ∀ r, row = some r → ∃ o : Obj, W.heap[r]? = some o ∧ o.isCells = false) : W'.ownsRow B 27 1 v n vs :=
  row_kept h hf (fun k hk e => by
    obtain ⟨o, ho, hc⟩ := hr k e.symm
    obtain ⟨cur, hb⟩ := row_block h k hk
    rw [ho] at hb
    cases hb
    simp [Obj.isCells] at hc)
theorem row_far {W : World} {B : Nat} {v : Value} {n j : Nat} {vs : List Value} {x : Value} (h : W.ownsRow B 27 1 v n vs) (hn : ∀ k, v.ownBlock = some k → k ≠ j) : (W.setCell ⟨j, 0, none⟩ x).ownsRow B 27 1 v n vs :=
  row_kept h (gb_setCell (gb_refl _ (some j)) _) (fun k hk e => hn k hk (by simpa using e))
theorem jp_ok (hl : JL n₀ N0 ta td to dv) : JOk N0 (JP n₀ N0 ta td to o6 dv ds) := by
  refine ⟨fun W W' row xs h hg hr => ?_, fun W xs k v h h1 h2 => ?_⟩
  · obtain ⟨tv, q1, q2, q3⟩ := h.b1
    exact ⟨⟨tv, q1.keptG hg hr, row_own q2 hg hr, q3⟩, h.b2.keptG hg hr, row_own h.b3 hg hr, h.b4.keptG hg hr⟩
  · obtain ⟨tv, q1, q2, q3⟩ := h.b1
    have ha := hl.a
    have hd := hl.d
    have ho := hl.o
    exact ⟨⟨tv, q1.far (by omega), row_far q2 (fun j hj e => (q3 j hj).2.2.2.2 (by omega)), q3⟩, h.b2.far (by omega), row_far h.b3 (fun j hj e => by have := (hl.dl j hj).1; omega), h.b4.far (by omega)⟩
set_option maxRecDepth 100000 in
set_option maxHeartbeats 2000000 in
theorem ask_40 {W : World} {xs : List Nat} (hl : JL n₀ N0 ta td to dv) (h : JP n₀ N0 ta td to o6 dv ds W xs) (hx : xs.length ≤ 5000) (hds : ds.length ≤ 300) (hN : N0 + 10 ≤ W.heap.size) (x : Nat) :
    Calls Tryz.prog 40 #[.int .u64 x, .pointer (some ⟨ta, 0, none⟩), .pointer (some ⟨td, 0, none⟩)] W fun y w' => y = .returned (.bool (decide (x ∈ ds))) ∧ Kp (PJ n₀ N0) W w' ∧ KeepsOthers W w' ∧ JP n₀ N0 ta td to o6 dv ds w' (xs ++ [x]) := by
  obtain ⟨tv, hb1, hrow, hap⟩ := h.b1
  obtain ⟨ao, cc, rfl, _, _, _, _⟩ := row_shape hrow
  obtain ⟨da, dc, hdv, _, _, _, hda⟩ := row_shape h.b3
  subst hdv
  have hsz : n₀ ≤ W.heap.size := by have := hl.n; omega
  have c1 := hb1.cell 0
  have z1 := hb1.fz 0
  simp at c1
  have c1a : ∀ o, (W.alloc o).cell? ⟨ta, 0, none⟩ = some (.slice ao xs.length cc) := fun o => gb_cellN (World.grownBy_alloc W o none) c1
  obtain ⟨n, hn⟩ : ∃ n, xs.length = n := ⟨_, rfl⟩
  have hst := fun (g1 cap1 : Nat) (w4 : World) (ho4 : World.ownsRow w4 n₀ 27 1 (.slice (some ⟨g1, 0, none⟩) (n + 1) cap1) (n + 1) (uvs xs ++ [.int .u64 (x : Int)])) (hg4 : W.grownBy w4 (Value.slice ao n cc).ownBlock) (hat4 : (Value.slice ao n cc).ownBlock = some g1 ∨ W.heap.size ≤ g1) => (show w4.cell? ⟨ta, 0, none⟩ = some (.slice ao n cc) ∧ w4.frozen? ⟨ta, 0, none⟩ = false ∧ Hid (Kp (PJ n₀ N0) W (w4.setCell ⟨ta, 0, none⟩ (.slice (some ⟨g1, 0, none⟩) (n + 1) cap1)) ∧ KeepsOthers W (w4.setCell ⟨ta, 0, none⟩ (.slice (some ⟨g1, 0, none⟩) (n + 1) cap1)) ∧ JP n₀ N0 ta td to o6 (.slice da ds.length dc) ds (w4.setCell ⟨ta, 0, none⟩ (.slice (some ⟨g1, 0, none⟩) (n + 1) cap1)) (xs ++ [x])) by
    rw [← hn] at ho4 hg4 hat4 ⊢
    have hlo : ∀ k, (Value.slice ao xs.length cc).ownBlock = some k → n₀ ≤ k := fun k hk => (hrow.lt k hk).1
    have hK4 : Kp (fun k => (Value.slice ao xs.length cc).ownBlock = some k) W w4 := (Kp.refl _ W).step hg4 (fun i hi => .inl hi)
    have k1 := hK4.box hb1 (fun hh => (hap _ hh).1 rfl)
    have k2 := hK4.box h.b2 (fun hh => (hap _ hh).2.1 rfl)
    have k4 := hK4.box h.b4 (fun hh => (hap _ hh).2.2.1 rfl)
    have k3 : w4.ownsRow n₀ 27 1 (.slice da ds.length dc) ds.length (uvs ds) := row_same h.b3 (fun k hk => hK4.block k (h.b3.lt k hk).2 (fun hh => (hap k hh).2.2.2.1 hk))
    have hgN : g1 ≠ ta ∧ g1 ≠ td ∧ g1 ≠ to ∧ (Value.slice da ds.length dc).ownBlock ≠ some g1 ∧ ¬ (N0 ≤ g1 ∧ g1 < N0 + 10) := by
      rcases hat4 with h1 | h1
      · exact hap g1 h1
      · have q1 := hb1.lt
        have q2 := h.b2.lt
        have q4 := h.b4.lt
        refine ⟨by omega, by omega, by omega, fun e => ?_, by omega⟩
        have := (h.b3.lt _ e).2
        omega
    have hKs : Kp (fun k => k = ta) w4 (w4.setCell ⟨ta, 0, none⟩ (.slice (some ⟨g1, 0, none⟩) (xs.length + 1) cap1)) := (Kp.refl _ _).step (gb_setCell (gb_refl _ (some ta)) _) (fun i hi => .inl (by simpa using hi.symm))
    have hKK : Kp (fun k => (Value.slice ao xs.length cc).ownBlock = some k ∨ k = ta) W (w4.setCell ⟨ta, 0, none⟩ (.slice (some ⟨g1, 0, none⟩) (xs.length + 1) cap1)) := hK4.trans hKs (fun _ h => .inl h) (fun k hk => .inl (.inr hk))
    have hla := hl.a
    refine ⟨k1.cell 0, k1.fz 0, hKK.mono (fun k hk => .inl ?_), ⟨hKK.size, fun k o ho hc => ?_⟩, ⟨_, k1.set 0 _, ?_, ?_⟩, hKs.box k2 (fun e => hl.ad e.symm), ?_, hKs.box k4 (fun e => hl.ao e.symm)⟩
    · rcases hk with hk | rfl
      · exact ⟨hlo k hk, (hap k hk).2.2.2.2⟩
      · exact ⟨hla.1, by omega⟩
    · have hlt : k < W.heap.size := (Array.getElem?_eq_some_iff.1 ho).1
      rw [hKK.block k hlt (fun hh => ?_)]
      · exact ho
      · rcases hh with hh | rfl
        · obtain ⟨cur, hb⟩ := row_block hrow k hh
          rw [ho] at hb
          cases hb
          simp [Obj.isCells] at hc
        · have hb : W.heap[k]? = _ := hb1
          rw [ho] at hb
          cases hb
          simp [Obj.isCells] at hc
    · rw [List.length_append, uvs_app]
      exact row_same ho4 (fun k hk => hKs.block k (ho4.lt k hk).2 (by simp [Value.ownBlock] at hk; omega))
    · intro k hk
      simp [Value.ownBlock] at hk
      subst hk
      exact hgN
    · exact row_same k3 (fun k hk => hKs.block k (k3.lt k hk).2 (hl.dl k hk).2))
  have hfin : ∀ b : Bool, (b = true ↔ x ∈ ds) → b = decide (x ∈ ds) := fun b hb => by
    by_cases e : x ∈ ds
    · rw [decide_eq_true e]; exact hb.2 e
    · rw [decide_eq_false e]
      cases b with
      | false => rfl
      | true => exact absurd (hb.1 rfl) e
  have hcs := fun W2 (hE : Hid (Kp (PJ n₀ N0) W W2 ∧ KeepsOthers W W2 ∧ JP n₀ N0 ta td to o6 (.slice da ds.length dc) ds W2 (xs ++ [x]))) => (show W2.cell? ⟨td, 0, none⟩ = some (.slice da ds.length dc) ∧ ∀ k, (hk : k < ds.length) → ∃ gg v, da = some ⟨gg, 0, none⟩ ∧ W2.cell? ⟨gg, k, none⟩ = some (.int .u64 ((v : Nat) : Int)) ∧ ds[k] = v by
    have hb3 := hE.out.2.2.b3
    exact ⟨hE.out.2.2.b2.cell 0, fun k hk => (by
      obtain ⟨gg, rfl⟩ := hda (by omega)
      exact ⟨gg, ds[k], rfl, row_cell hb3 _ _ (uvs_get (by simp [hk])), rfl⟩)⟩)
  rw [hn] at c1 c1a hrow hx
  clear h hl hb1 hap hn hda hN
  go_enter Tryz.func40, Tryz.ntmps40
  go_wp2_with (first | (at_builtin; go_must (refine push26 rfl _ _ rfl n₀ (.slice ao n cc) n (uvs xs) (by rfl) hrow (x : Int) (by rfl) (by omega) hsz ?_); intro g1 cap1 w4 ho4 hg4 hat4; (obtain ⟨e1, e2, hE⟩ := hst g1 cap1 w4 ho4 hg4 hat4)) | fail)
  clear hst hsz hrow e1 e2 ho4 hg4 hat4 c1 c1a
  generalize w4.setCell ⟨ta, 0, none⟩ (.slice (some ⟨g1, 0, none⟩) (n + 1) cap1) = W5 at *
  obtain ⟨c2, hcell⟩ := hcs _ hE
  clear hcs
  go_loopw [5] (fun iv wr => ∃ (k : Nat), iv = .int .i64 k ∧ k ≤ ds.length ∧ wr = W5 ∧ ∀ j (hj : j < ds.length), j < k → ds[j] ≠ x) (fun iv _ => ds.length - (intOf iv).toNat)
  case atStart => exact ⟨0, rfl, by omega, rfl, fun j hj h0 => by omega⟩
  case round =>
    obtain ⟨k, rfl, hk, rfl, hno⟩ := hrel
    by_cases hlt : k < ds.length
    · have hd : decide ((k : Int) < ds.length) = true := decide_eq_true (by omega)
      have hd' : (k : Int) < ds.length := by omega
      obtain ⟨gg, v, rfl, cv, hv⟩ := hcell k hlt
      by_cases e : v = x
      · have HF : Hid (true = decide (x ∈ ds)) := hfin true ⟨fun _ => by rw [← e, ← hv]; exact List.getElem_mem hlt, fun _ => rfl⟩
        subst e
        clear hcell hno hfin hv
        go_wp2
        go_ret
        exact ⟨by rw [← HF.out]; rfl, hE.out⟩
      · have e' : ¬ (v : Int) = (x : Int) := by omega
        have HN : Hid (∀ j (hj : j < ds.length), j < k + 1 → ds[j] ≠ x) := fun j hj h1 => by
          rcases Nat.lt_or_ge j k with h2 | h2
          · exact hno j hj h2
          · obtain rfl : j = k := by omega
            rw [hv]; exact e
        clear hcell hno hfin hv
        go_wp2
        exact ⟨⟨k + 1, by go_num, by omega, trivial, HN.out⟩, by simp [intOf]; omega⟩
    · obtain rfl : k = ds.length := by omega
      have hd : decide ((ds.length : Int) < ds.length) = false := decide_eq_false (by omega)
      have HF : Hid (false = decide (x ∈ ds)) := hfin false ⟨fun hh => (by cases hh), fun hm => (by
        obtain ⟨j, hj, e⟩ := List.getElem_of_mem hm
        exact absurd e (hno j hj hj))⟩
      clear hcell hno hfin
      go_wp2
      go_ret
      exact ⟨by rw [← HF.out]; rfl, hE.out⟩
end
end Go.Proofs.YtohneboimmcocaaGreat
/-
  LruExact: the document's Pick.
-/
namespace Go.Proofs.YtohneboimmcocaaGreat
open Go.RowKit
set_option linter.unusedVariables false

theorem row_down {w : World} {B B' : Nat} {v : Value} {n : Nat} {xs : List Value} (h : w.ownsRow B 27 1 v n xs) (hb : B' ≤ B) : w.ownsRow B' 27 1 v n xs :=
  ⟨h.1, h.2.imp id fun ⟨g, cap, cur, h1, h2, h3⟩ => ⟨g, cap, cur, h1, Nat.le_trans hb h2, h3⟩⟩
theorem take_succ' (R : List Nat) (i : Nat) (h : i < R.length) : R.take (i + 1) = R.take i ++ [R[i]] := by simp
section
variable {own : Nat} {looks : Int} {mk : Nat → Nat} {dd : Nat → Bool} {R acc : List Nat} {i x : Nat}
theorem SNq.whole (h : SNq own looks dd (R.take R.length) acc) : snf own looks dd R [] = acc := by
  have := h.eq []
  simpa [snf] using this
theorem SNq.stop (h : SNq own looks dd (R.take i) acc) (hf : looks ≤ (acc.length : Int)) : snf own looks dd R [] = acc := by
  have := h.eq (R.drop i)
  rw [List.take_append_drop, snf_stop (.inl hf)] at this
  exact this
theorem SNf.whole (h : SNf own looks dd (R.take i) acc) : snf own looks dd R [] = acc := by
  have := h (R.drop i)
  rwa [List.take_append_drop] at this
theorem pd_dead (h : snf own looks dd R [] = acc ++ [x]) (hd : dd x = true) : (pd own looks mk dd ⟨0, false, 0⟩ R).1.h = x ∧ (pd own looks mk dd ⟨0, false, 0⟩ R).2 = true := by
  obtain ⟨h1, h2, h3, h4⟩ := pd_snf (own := own) (looks := looks) (mk := mk) (dd := dd) R ⟨0, false, 0⟩ [] (pr0 mk) (fun hh => absurd rfl hh)
  rw [h] at h1 h2 h3 h4
  have h5 := h2.2 ⟨by simp, by simp [hd]⟩
  exact ⟨by rw [h3 h5]; simp, h5⟩
theorem pd_live (h : snf own looks dd R [] = acc) (hn : acc ≠ [] → dd (acc.getLastD 0) = false) : (pd own looks mk dd ⟨0, false, 0⟩ R).1.h = nmd mk acc ∧ (pd own looks mk dd ⟨0, false, 0⟩ R).2 = false := by
  obtain ⟨h1, h2, h3, h4⟩ := pd_snf (own := own) (looks := looks) (mk := mk) (dd := dd) R ⟨0, false, 0⟩ [] (pr0 mk) (fun hh => absurd rfl hh)
  rw [h] at h1 h2 h3 h4
  have h5 : (pd own looks mk dd ⟨0, false, 0⟩ R).2 = false := by
    cases hb : (pd own looks mk dd ⟨0, false, 0⟩ R).2 with
    | false => rfl
    | true =>
      have := h2.1 hb
      rw [hn this.1] at this
      exact absurd this.2 (by decide)
  exact ⟨h4 h5, h5⟩
theorem pd_len : (pd own looks mk dd ⟨0, false, 0⟩ R).1.lk = (snf own looks dd R []).length := (pd_snf (own := own) (looks := looks) (mk := mk) (dd := dd) R ⟨0, false, 0⟩ [] (pr0 mk) (fun hh => absurd rfl hh)).1
theorem snf_sub {own : Nat} {looks : Int} {dd : Nat → Bool} : ∀ (l acc : List Nat) (y : Nat), y ∈ snf own looks dd l acc → y ∈ acc ∨ y ∈ l
  | [], acc, y, h => .inl h
  | x :: l, acc, y, h => by
    unfold snf at h
    split at h
    · exact .inl h
    · split at h
      · rcases snf_sub l acc y h with h | h
        · exact .inl h
        · exact .inr (List.mem_cons_of_mem _ h)
      · rcases snf_sub l (acc ++ [x]) y h with h | h
        · rcases List.mem_append.1 h with h | h
          · exact .inl h
          · exact .inr (by simp at h; rw [h]; simp)
        · exact .inr (List.mem_cons_of_mem _ h)
theorem snf_le (own : Nat) (looks : Int) (dd : Nat → Bool) : ∀ (l acc : List Nat), (snf own looks dd l acc).length ≤ acc.length + l.length
  | [], acc => by simp [snf]
  | x :: l, acc => by
    unfold snf
    split
    · omega
    · split
      · have := snf_le own looks dd l acc
        simp only [List.length_cons]; omega
      · have := snf_le own looks dd l (acc ++ [x])
        simp only [List.length_cons, List.length_append, List.length_nil] at this ⊢; omega
theorem cf_drop (mk : Nat → Nat) (l : List Nat) {i : Nat} (hi : i < l.length) : cf mk (l.drop i) = if mk l[i] % 2 = 1 then cf mk (l.drop (i + 1)) else some l[i] := by
  rw [List.drop_eq_getElem_cons hi, cf]
end

set_option maxRecDepth 100000 in
set_option maxHeartbeats 4000000 in
theorem d_pick {w : World} {mb : Nat} {c : Int} {own : Nat} {looks : Int} {dv : Value} {ds R : List Nat} {mk : Nat → Nat} (hR5 : R.length ≤ 5000)
    (hrow : Calls Tryz.prog 82 #[.pointer (some ⟨mb, 0, none⟩), .int .i64 c] w fun y w' => ∃ v, y = .returned v ∧ w.grownBy w' none ∧ w'.ownsRow w.heap.size 27 1 v R.length (uvs R))
    (hin : ∀ W H, w.grownBy W none → Calls Tryz.prog 83 #[dv, .int .u64 (H : Nat)] W fun y w' => y = .returned (.bool (decide (H ∈ ds))) ∧ W = w')
    (his : ∀ W H, w.grownBy W none → H ∈ R → Calls Tryz.prog 45 #[.pointer (some ⟨mb, 0, none⟩), .int .u64 (H : Nat)] W fun y w' => y = .returned (.bool (decide (mk H % 2 = 1))) ∧ W = w') :
    Calls Tryz.prog 41 #[.pointer (some ⟨mb, 0, none⟩), .int .i64 c, .int .u64 own, .int .i64 looks, dv] w fun y w' => ∃ v, y = .returned (.tuple #[.int .u64 (pd own looks mk (fun x => decide (x ∈ ds)) ⟨0, false, 0⟩ R).1.h, .bool (pd own looks mk (fun x => decide (x ∈ ds)) ⟨0, false, 0⟩ R).2, v]) ∧ w.grownBy w' none ∧ w'.ownsRow w.heap.size 27 1 v (snf own looks (fun x => decide (x ∈ ds)) R []).length (uvs (snf own looks (fun x => decide (x ∈ ds)) R [])) := by
  obtain ⟨dd, hdd⟩ : ∃ dd : Nat → Bool, (fun x => decide (x ∈ ds)) = dd := ⟨_, rfl⟩
  have hin' : ∀ W H, w.grownBy W none → Calls Tryz.prog 83 #[dv, .int .u64 (H : Nat)] W fun y w' => y = .returned (.bool (dd H)) ∧ W = w' := fun W H hf => by rw [← hdd]; exact hin W H hf
  rw [hdd]
  clear hin hdd
  have hsub := fun y => (snf_sub (own := own) (looks := looks) (dd := dd) R [] y)
  have HD := fun x acc => pd_dead (own := own) (looks := looks) (mk := mk) (dd := dd) (R := R) (acc := acc) (x := x)
  have HL := fun acc => pd_live (own := own) (looks := looks) (mk := mk) (dd := dd) (R := R) (acc := acc)
  generalize pd own looks mk dd ⟨0, false, 0⟩ R = r at *
  obtain ⟨SN, hSN⟩ : ∃ SN, snf own looks dd R [] = SN := ⟨_, rfl⟩
  rw [hSN] at hsub HD HL ⊢
  go_enter Tryz.func41, Tryz.ntmps41
  go_wp2_with (first | (go_at_call 82; go_must (refine hrow.mono ?_); rintro y w1 ⟨v, rfl, hf1, hr1⟩; (obtain ⟨ra, rc, rfl, _, _, _, hra⟩ := row_shape hr1)) | fail)
  have hcell : ∀ j (hj : j < R.length), ∃ gg x, ra = some ⟨gg, 0, none⟩ ∧ R[j] = x ∧ ∀ W, w1.grownBy W none → W.cell? ⟨gg, j, none⟩ = some (.int .u64 ((x : Nat) : Int)) := fun j hj => by
    obtain ⟨gg, rfl⟩ := hra (by omega)
    exact ⟨gg, R[j], rfl, rfl, fun W hf => gb_cellN hf (row_cell hr1 j _ (uvs_get (List.getElem?_eq_getElem hj)))⟩
  clear hr1 hra hrow
  obtain ⟨rl, hrl⟩ : ∃ rl, R.length = rl := ⟨_, rfl⟩
  rw [hrl] at hR5 ⊢
  go_loopw [13, 15] (fun sv iv wr => ∃ (i : Nat) (acc : List Nat), i ≤ rl ∧ acc.length ≤ i ∧ iv = .int .i64 i ∧ wr.ownsRow w1.heap.size 27 1 sv acc.length (uvs acc) ∧ w1.grownBy wr none ∧ Hid (SNq own looks dd (R.take i) acc)) (fun _ iv _ => rl - (intOf iv).toNat)
  case atStart => exact ⟨0, [], by omega, by simp, rfl, World.ownsRow_nil _ _ _ _, gb_refl _ _, ⟨fun l => rfl, fun hh => absurd rfl hh⟩⟩
  case round =>
    obtain ⟨i, acc, hi, hai, rfl, ho, hg, hS⟩ := hrel
    obtain ⟨oa, oc, rfl, _, _, _, hoa⟩ := row_shape ho
    by_cases hlt : i < rl ∧ (acc.length : Int) < looks
    · have e1 : decide ((i : Int) < rl) = true := decide_eq_true (by omega)
      have e1' : (i : Int) < rl := by omega
      have e2 : decide ((acc.length : Int) < looks) = true := decide_eq_true hlt.2
      have e2' := hlt.2
      obtain ⟨gg, x, rfl, hx, hcx⟩ := hcell i (by omega)
      have cx := hcx _ hg
      have hfl : ¬ looks ≤ (acc.length : Int) := by omega
      have htk : R.take (i + 1) = R.take i ++ [x] := by rw [take_succ' R i (by omega), hx]
      by_cases hxo : x = own
      · have hxi : (x : Int) = (own : Int) := by omega
        have HN : Hid (SNq own looks dd (R.take (i + 1)) acc) := by show SNq _ _ _ _ _; rw [htk]; exact hS.out.skip hxo
        clear hcell hcx hS hx htk HD HL hsub his hin' hSN hoa
        go_wp2_with fail
        exact ⟨⟨i + 1, acc, by omega, by omega, by go_num, ho, hg, HN⟩, by simp [intOf]; omega⟩
      · have hxi : ¬ (x : Int) = (own : Int) := by omega
        have hsz := hg.size
        have hlo : ∀ bk, (Value.slice oa acc.length oc).ownBlock = some bk → w1.heap.size ≤ bk := fun bk hb => (ho.lt bk hb).1
        have cb : ∀ o, (wr.alloc o).cell? ⟨gg, i, none⟩ = some (.int .u64 x) := fun o => gb_cellN (World.grownBy_alloc wr o none) cx
        have HE : Hid (∀ w4, wr.grownBy w4 (Value.slice oa acc.length oc).ownBlock → w1.grownBy w4 none) := fun w4 hg4 => gb_far hg hg4 hlo (Nat.le_refl _)
        rcases hdx : dd x with _ | _
        · have HN : Hid (SNq own looks dd (R.take (i + 1)) (acc ++ [x])) := by show SNq _ _ _ _ _; rw [htk]; exact hS.out.next hxo hfl hdx
          have h83 := fun W (hW : w1.grownBy W none) => hin' W x (gb_trans hf1 hW)
          simp only [hdx] at h83
          clear hcell hS hx htk HD HL hsub his hin' hSN hoa hfl
          go_wp2_with (first | (at_builtin; go_must (refine push26 rfl _ _ rfl w1.heap.size (.slice oa acc.length oc) acc.length (uvs acc) (by rfl) ho (x : Int) (by rfl) (by omega) hsz ?_); intro g1 cap1 w4 ho4 hg4 hat4; (have hg5 := HE.out w4 hg4); (have cx4 := hcx w4 hg5)) | (go_at_call 83; go_must (refine (h83 _ hg5).mono ?_); rintro y w5 ⟨rfl, rfl⟩) | fail)
          exact ⟨⟨i + 1, acc ++ [x], by omega, by simp; omega, by go_num, by rw [uvs_app, List.length_append]; exact ho4, hg5, HN⟩, by simp [intOf]; omega⟩
        · have HN : Hid (r.1.h = x ∧ r.2 = true ∧ SN = acc ++ [x]) := by
            have h1 := SNf.whole (by rw [htk]; exact hS.out.dead hxo hfl hdx : SNf own looks dd (R.take (i + 1)) (acc ++ [x]))
            rw [hSN] at h1
            have h2 := HD x acc h1 hdx
            exact ⟨h2.1, h2.2, h1⟩
          have h83 := fun W (hW : w1.grownBy W none) => hin' W x (gb_trans hf1 hW)
          simp only [hdx] at h83
          clear hcell hS hx htk HD HL hsub his hin' hSN hoa hfl
          go_wp2_with (first | (at_builtin; go_must (refine push26 rfl _ _ rfl w1.heap.size (.slice oa acc.length oc) acc.length (uvs acc) (by rfl) ho (x : Int) (by rfl) (by omega) hsz ?_); intro g1 cap1 w4 ho4 hg4 hat4; (have hg5 := HE.out w4 hg4); (have cx4 := hcx w4 hg5)) | (go_at_call 83; go_must (refine (h83 _ hg5).mono ?_); rintro y w5 ⟨rfl, rfl⟩) | fail)
          go_ret3
          rw [HN.out.1, HN.out.2.1, HN.out.2.2, uvs_app, List.length_append]
          exact ⟨_, rfl, gb_trans hf1 hg5, row_down ho4 hf1.size⟩
    · have hfin : SN = acc ∧ (acc ≠ [] → dd (acc.getLastD 0) = false) := by
        refine ⟨?_, hS.out.nd⟩
        rw [← hSN]
        by_cases h1 : i < rl
        · exact hS.out.stop (i := i) (by omega)
        · obtain rfl : i = rl := by omega
          rw [← hrl] at hS
          exact hS.out.whole
      obtain ⟨hSE, hnd⟩ := hfin
      have hL := HL acc hSE hnd
      have hsu : ∀ y, y ∈ acc → y ∈ R := fun y hy => by
        rcases hsub y (by rw [hSE]; exact hy) with h | h
        · simp at h
        · exact h
      have hac : ∀ j, j < acc.length → ∃ g2 x, oa = some ⟨g2, 0, none⟩ ∧ acc[j]? = some x ∧ wr.cell? ⟨g2, j, none⟩ = some (.int .u64 ((x : Nat) : Int)) ∧ Calls Tryz.prog 45 #[.pointer (some ⟨mb, 0, none⟩), .int .u64 (x : Nat)] wr fun y w' => y = .returned (.bool (decide (mk x % 2 = 1))) ∧ wr = w' := fun j hj => by
        obtain ⟨g2, rfl⟩ := hoa (by omega)
        exact ⟨g2, acc[j], rfl, List.getElem?_eq_getElem hj, row_cell ho j _ (uvs_get (List.getElem?_eq_getElem hj)), his wr acc[j] (gb_trans hf1 hg) (hsu _ (List.getElem_mem hj))⟩
      have HO : Hid (w.grownBy wr none ∧ wr.ownsRow w.heap.size 27 1 (.slice oa acc.length oc) SN.length (uvs SN)) := ⟨gb_trans hf1 hg, by rw [hSE]; exact row_down ho hf1.size⟩
      have HR : Hid (r.1.h = nmd mk acc ∧ r.2 = false) := hL
      have hal : acc.length ≤ 5000 := by omega
      have hcd : ∀ j x, acc[j]? = some x → cf mk (acc.drop j) = if mk x % 2 = 1 then cf mk (acc.drop (j + 1)) else some x := fun j x hx => by
        obtain ⟨hj, rfl⟩ := List.getElem?_eq_some_iff.1 hx
        exact cf_drop mk acc hj
      have HZ : Hid (acc.length = 0 → SN = []) := fun h0 => by rw [hSE]; exact List.length_eq_zero_iff.1 h0
      have hnm0 : cf mk (acc.drop acc.length) = none := by simp [cf]
      have hnm : ∀ z, cf mk acc = z → nmd mk acc = z.getD (acc.headD 0) := fun z hz => by unfold nmd; rw [hz]
      have hhd : ∀ x, acc[0]? = some x → acc.headD 0 = x := fun x hx => by
        cases acc with
        | nil => simp at hx
        | cons a l => simpa using hx
      have hh0 : acc.length = 0 → acc.headD 0 = 0 := fun h0 => by rw [List.length_eq_zero_iff.1 h0]; rfl
      clear hcell HD HL hsub his hin' hSN hoa hS hL hSE hsu hnd ho
      obtain ⟨al, hall⟩ : ∃ al, acc.length = al := ⟨_, rfl⟩
      have hbr : (decide ((i : Int) < rl) = false) ∨ (decide ((i : Int) < rl) = true ∧ decide ((al : Int) < looks) = false) := by
        rw [← hall]
        by_cases h1 : i < rl
        · exact .inr ⟨decide_eq_true (by omega), decide_eq_false (fun h2 => hlt ⟨h1, h2⟩)⟩
        · exact .inl (decide_eq_false (by omega))
      clear hlt
      rw [hall] at hac HO hal HZ hnm0 hh0 ⊢
      have hMAIN : True := trivial
      rcases hbr with e1 | ⟨e1, e2⟩
      all_goals
        have e1' := e1
        simp only [decide_eq_false_iff_not, decide_eq_true_eq] at e1'
        try (have e2' := e2; simp only [decide_eq_false_iff_not] at e2')
        go_wp2
        go_loopw [16] (fun iv wz => ∃ j : Nat, j ≤ al ∧ iv = .int .i64 j ∧ wz = wr ∧ Hid (cf mk acc = cf mk (acc.drop j))) (fun iv _ => al - (intOf iv).toNat)
        case atStart => exact ⟨0, by omega, rfl, rfl, by show _ = _; simp⟩
        case round =>
          obtain ⟨j, hj, rfl, rfl, hC⟩ := hrel
          by_cases hjl : j < al
          · have f1 : decide ((j : Int) < al) = true := decide_eq_true (by omega)
            have f1' : (j : Int) < al := by omega
            obtain ⟨g2, x, rfl, hx, cx, h45⟩ := hac j (by omega)
            have hcj := hcd j x hx
            by_cases hm : mk x % 2 = 1
            · rw [if_pos hm] at hcj
              have HC : Hid (cf mk acc = cf mk (acc.drop (j + 1))) := hC.out.trans hcj
              rw [decide_eq_true hm] at h45
              clear hac hcd hnm hhd hh0 hC hcj HO HR HZ hnm0 hx
              go_wp2_with (first | (go_at_call 45; go_must (refine h45.mono ?_); rintro y w5 ⟨rfl, rfl⟩) | fail)
              exact ⟨⟨j + 1, by omega, by go_num, trivial, HC⟩, by simp [intOf]; omega⟩
            · rw [if_neg hm] at hcj
              have HX : Hid (r.1.h = x ∧ r.2 = false) := ⟨by rw [HR.out.1, hnm _ (hC.out.trans hcj)]; rfl, HR.out.2⟩
              rw [decide_eq_false hm] at h45
              clear hac hcd hnm hhd hh0 hC hcj HR HZ hnm0 hx
              go_wp2_with (first | (go_at_call 45; go_must (refine h45.mono ?_); rintro y w5 ⟨rfl, rfl⟩) | fail)
              go_ret3
              rw [HX.out.1, HX.out.2]
              exact ⟨_, rfl, HO.out.1, HO.out.2⟩
          · obtain rfl : j = al := by omega
            have f1 : decide ((j : Int) < j) = false := decide_eq_false (by omega)
            have hno := hnm _ (hC.out.trans hnm0)
            by_cases h0 : 0 < j
            · have f2 : decide ((j : Int) > 0) = true := decide_eq_true (by omega)
              have f2' : (j : Int) > 0 := by omega
              have f2'' : (0 : Int) < j := by omega
              obtain ⟨g2, x, rfl, hx, cx, _⟩ := hac 0 (by omega)
              have HX : Hid (r.1.h = x ∧ r.2 = false) := ⟨by rw [HR.out.1, hno]; exact hhd x hx, HR.out.2⟩
              clear hac hcd hnm hhd hh0 hC HR HZ hnm0 hx hno
              go_wp2
              go_ret3
              rw [HX.out.1, HX.out.2]
              exact ⟨_, rfl, HO.out.1, HO.out.2⟩
            · have h00 : j = 0 := by omega
              have HX : Hid (r.1.h = 0 ∧ r.2 = false ∧ SN = [] ∧ w.grownBy wr none) := ⟨by rw [HR.out.1, hno]; exact hh0 h00, HR.out.2, HZ.out h00, HO.out.1⟩
              subst h00
              clear hac hcd hnm hhd hh0 hC HR HZ hnm0 hno HO
              go_wp2
              go_ret3
              rw [HX.out.1, HX.out.2.1, HX.out.2.2.1]
              exact ⟨_, rfl, HX.out.2.2.2, World.ownsRow_nil _ _ _ _⟩
end Go.Proofs.YtohneboimmcocaaGreat
