import Derived.Test.YtoaaaeefcipdcaaSu
import Derived.Test.YtoaaaeefcipdcaaTd
import Derived.Deep.RegionHeld3
/-
  ClassApart: what one call answers.
-/
namespace Go.Proofs.Ytoaaaeefcipdcaa
open Go.RowKit
set_option linter.unusedVariables false

theorem tmod_add (i n : Int) (h : 0 < n) : (i.tmod n + n) % n = i % n := by
  rw [Int.add_emod_right, Int.tmod_eq_emod]
  split
  · simp
  · have : ((n.natAbs : Nat) : Int) = n := by omega
    rw [this, Int.sub_emod_right, Int.emod_emod]
theorem within_any (i n : Int) (h1 : 1 ≤ n) (h2 : n ≤ 1099511627776) (w : World) : Calls Try.prog 21 #[.int .i64 i, .int .i64 n] w fun e w' => e = .returned (.int .i64 (i % n)) ∧ w = w' := by
  obtain ⟨r, hr⟩ : ∃ r, i.tmod n = r := ⟨_, rfl⟩
  have h3 : -n < r := by rw [← hr]; exact Int.lt_tmod_of_pos _ (by omega)
  have h4 : r < n := by rw [← hr]; exact Int.tmod_lt_of_pos _ (by omega)
  have h5 : Hid ((r + n) % n = i % n) := by rw [← hr]; exact tmod_add i n (by omega)
  go_enter Try.func21, Try.ntmps21
  go_wp2
  go_ret
  refine ⟨?_, rfl⟩
  rw [← h5.out]
  rfl
theorem within_nat (i : Int) (n : Nat) (h1 : 1 ≤ n) (h2 : n ≤ 1099511627776) : ∃ k : Nat, k < n ∧ (k : Int) = i % n ∧ ∀ w, Calls Try.prog 21 #[.int .i64 i, .int .i64 n] w fun e w' => e = .returned (.int .i64 k) ∧ w = w' := by
  have h3 := Int.emod_nonneg i (show (n : Int) ≠ 0 by omega)
  have h4 := Int.emod_lt_of_pos i (show (0 : Int) < n by omega)
  refine ⟨(i % n).toNat, by omega, by omega, fun w => ?_⟩
  have := within_any i n (by omega) (by omega) w
  rwa [show i % (n : Int) = (((i % n).toNat : Nat) : Int) by omega] at this

theorem Try.info59 : (Try.prog.info? 59).map (fun i => (i.zero, i.size, i.bytes)) = some (some (.int .u64 0), 1, 8) := by kernel_rfl
section
variable {w : World} {ops : Array Oper} {rest : List Oper} {o : Oper} {a : Act} {Q : Exit → Act → World → Prop}
theorem push59 (hgd : o.guard = none) (s x : Operand) (ho : o.op = .call { callee := .builtin .append, args := #[s, x], argTypes := #[55, 55] })
    (B : Nat) (v : Value) (n : Nat) (xs : List Value) (hs : a.eval s = v) (hown : w.ownsRow B 59 1 v n xs) (u : Int) (hx : a.eval x = .slice (some ⟨w.heap.size, 0, none⟩) 1 1) (hn : n ≤ 100000000000) (hB : B ≤ w.heap.size)
    (h : ∀ g cap w', w'.ownsRow B 59 1 (.slice (some ⟨g, 0, none⟩) (n + 1) cap) (n + 1) (xs ++ [.int .u64 u]) → w.grownBy w' v.ownBlock → (v.ownBlock = some g ∨ w.heap.size ≤ g) → wpList Try.prog ops Q rest (a.put o.dst (.slice (some ⟨g, 0, none⟩) (n + 1) cap)) w') : wpList Try.prog ops Q (o :: rest) a (w.alloc (.cells #[.int .u64 u] 59)) := by
  obtain ⟨i0, hi, hz0, hz1, hz2⟩ := info_parts Try.info59
  exact wpList_pushN hgd s x 55 ho 59 i0 _ 1 8 Try.underlying55 hi hz0 hz1 hz2 rfl (by omega) (by omega) B v n xs hs hown [.int .u64 u] rfl (by simp [Value.oneCell']) hx hn hB h
end
theorem num_any2 (n : Int) (w : World) : Calls Try.prog 13 #[.int .i64 n] w fun e w' => e = .returned (.int .i64 n) ∧ w = w' := by
  go_enter Try.func13, Try.ntmps13
  go_wp2
  go_ret
  exact ⟨rfl, rfl⟩

def hdls (xs : List Nat) : List Value := xs.map fun (n : Nat) => Value.int .u64 (n : Int)
def opC (dn an bn : Int) (H : Nat) (raw : Bool) (v : Value) : Array Value := #[.int .i64 dn, .int .i64 an, .int .i64 bn, .int .u64 H, .bool raw, v]
def iL (o : List Int) : List Value := o.map (Value.int .i64)

/-- What a call leaves. -/
def OneR (w : World) (sb : Nat) (F : Nat → Prop) (b c d e f g : Int) (A' : Ab) (o : List Int) (hv : Value) (hs' : List Nat) (y : Ending) (w' : World) : Prop :=
  ∃ ov hv' F' B' zs', y = .returned (.tuple #[ov, hv']) ∧ w'.ownsRow w.heap.size 3 1 ov o.length (iL o) ∧ w'.ownsRow 0 59 1 hv' hs'.length (hdls hs') ∧ IsS w' sb F' B' b c d e f g A' zs' ∧ Kp (fun k => F k ∨ hv.ownBlock = some k) w w' ∧ (∀ k, F' k → F k ∨ w.heap.size ≤ k) ∧ (∀ k, hv'.ownBlock = some k → (hv.ownBlock = some k ∨ w.heap.size ≤ k) ∧ ¬ F' k)

theorem row_new (w : World) (base : Nat) (e : TypeId) (vs : Array Value) (hb : base ≤ w.heap.size) (hm : vs.size ≤ 1000) : (w.alloc (.cells vs e)).ownsRow base e 1 (.slice (some ⟨w.heap.size, 0, none⟩) vs.size vs.size) vs.size vs.toList := by
  refine ⟨by simp, .inr ⟨w.heap.size, vs.size, vs, rfl, hb, heap_alloc_new w _, Nat.le_refl _, by unfold maxLen; omega, by simp, by rw [Nat.mul_one, ← Array.length_toList]; exact List.take_length⟩⟩

/-- What stands behind a Take. -/
structure Tk (w w1 : World) (sb : Nat) (F : Nat → Prop) (b c d e f g : Int) (A' : Ab) (hv : Value) (hs : List Nat) : Prop where
  K : Kp F w w1
  row : w1.ownsRow 0 59 1 hv hs.length (hdls hs)
  set : ∃ F' B' zs', IsS w1 sb F' B' b c d e f g A' zs' ∧ (∀ k, F' k → F k ∨ w.heap.size ≤ k) ∧ ∀ k, hv.ownBlock = some k → ¬ F' k
theorem Tk.kept0 {w w1 w2 : World} {sb : Nat} {F : Nat → Prop} {b c d e f g : Int} {A' : Ab} {hv : Value} {hs : List Nat} (h : Tk w w1 sb F b c d e f g A' hv hs) (hf : w1.grownBy w2 none) : Tk w w2 sb F b c d e f g A' hv hs := by
  obtain ⟨F', B', zs', h1, h2, h3⟩ := h.set
  exact ⟨h.K.step hf (by simp), row_kept h.row hf (by simp), F', B', zs', h1.kept0 hf, h2, h3⟩
theorem tk_of {w W w1 : World} {sb : Nat} {F : Nat → Prop} {b c d e f g : Int} {A' : Ab} {hv : Value} {hs : List Nat} (hf : w.grownBy W none) (hr : w.ownsRow 0 59 1 hv hs.length (hdls hs)) (hF : ∀ k, hv.ownBlock = some k → ¬ F k) (hK : Kp F W w1) (hS : ∃ F' B' zs', IsS w1 sb F' B' b c d e f g A' zs' ∧ ∀ k, F' k → F k ∨ W.heap.size ≤ k) : Tk w w1 sb F b c d e f g A' hv hs := by
  have hs0 := hf.size
  have hr1 := row_kept hr hf (by simp)
  obtain ⟨F', B', zs', h1, h2⟩ := hS
  refine ⟨(Kp.of hf).trans hK (fun _ h => h) (fun k hk => .inl hk), row_same hr1 (fun k hk => ?_), F', B', zs', h1, fun k hk => (h2 k hk).elim .inl (fun h => .inr (by omega)), fun k hk hk2 => ?_⟩
  · obtain ⟨cur, hc⟩ := row_block hr1 k hk
    exact hK.block k (lt_of_block hc) (hF k hk)
  · rcases h2 k hk2 with h3 | h3
    · exact hF k hk h3
    · obtain ⟨cur, hc⟩ := row_block hr k hk
      have := lt_of_block hc
      omega

section
variable {w : World} {sb : Nat} {F : Nat → Prop} {B : Bl} {b c d e f g : Int} {A : Ab} {zs : List Int} {hv : Value} {hs : List Nat}

/-- The end of a call that told a handle. -/
theorem one_end_push {w w1 w4 : World} {A' : Ab} {ha : Option Addr} {hc g1 cap1 : Nat} {hd : Nat} (hT : Tk w w1 sb F b c d e f g A' (.slice ha hs.length hc) hs) (ho : w4.ownsRow 0 59 1 (.slice (some ⟨g1, 0, none⟩) (hs.length + 1) cap1) (hs.length + 1) (hdls hs ++ [.int .u64 (hd : Int)])) (hg : w1.grownBy w4 (Value.slice ha hs.length hc).ownBlock) (hat : (Value.slice ha hs.length hc).ownBlock = some g1 ∨ w1.heap.size ≤ g1) (o : List Int) (ho2 : o.length ≤ 1000) :
    OneR w sb F b c d e f g A' o (.slice ha hs.length hc) (hs ++ [hd]) (.returned (.tuple #[.slice (some ⟨w4.heap.size, 0, none⟩) o.length o.length, .slice (some ⟨g1, 0, none⟩) (hs.length + 1) cap1])) (w4.alloc (.cells (iL o).toArray 3)) := by
  obtain ⟨F', B', zs', h1, h2, h3⟩ := hT.set
  have hs1 := hT.K.size
  have hs4 := hg.size
  have hal := World.grownBy_alloc w4 (.cells (iL o).toArray 3) none
  have hn := row_new w4 w.heap.size 3 (iL o).toArray (by omega) (by simpa [iL] using ho2)
  have hgl := ho.lt g1 rfl
  refine ⟨_, _, F', B', zs', rfl, by simpa [iL] using hn, ?_, ?_, ?_, h2, ?_⟩
  · have := row_kept ho hal (by simp)
    simpa [hdls] using this
  · have h4 : IsS w4 sb F' B' b c d e f g A' zs' := h1.same hg.size (fun k hk => hg.block k (h1.lt k hk) (fun e => h3 k e.symm hk))
    exact h4.kept0 hal
  · refine ((hT.K.mono (fun k hk => .inl (.inl hk))).step hg (fun k hk => .inl (.inr hk))).step hal (by simp)
  · intro k hk
    simp [Value.ownBlock] at hk
    subst hk
    rcases hat with h4 | h4
    · exact ⟨.inl h4, h3 _ h4⟩
    · exact ⟨.inr (by omega), fun hk => by have := h1.lt _ hk; omega⟩
theorem one_end {w w1 : World} {A' : Ab} {hv : Value} (hT : Tk w w1 sb F b c d e f g A' hv hs) (o : List Int) (ho2 : o.length ≤ 1000) :
    OneR w sb F b c d e f g A' o hv hs (.returned (.tuple #[.slice (some ⟨w1.heap.size, 0, none⟩) o.length o.length, hv])) (w1.alloc (.cells (iL o).toArray 3)) := by
  obtain ⟨F', B', zs', h1, h2, h3⟩ := hT.set
  have hs1 := hT.K.size
  have hal := World.grownBy_alloc w1 (.cells (iL o).toArray 3) none
  have hn := row_new w1 w.heap.size 3 (iL o).toArray (by omega) (by simpa [iL] using ho2)
  refine ⟨_, _, F', B', zs', rfl, by simpa [iL] using hn, row_kept hT.row hal (by simp), h1.kept0 hal, (hT.K.mono (fun k hk => .inl (.inl hk))).step hal (by simp), h2, fun k hk => ⟨.inl hk, h3 k hk⟩⟩

set_option maxRecDepth 100000 in
set_option maxHeartbeats 4000000 in
theorem one_take_yt (h : IsS w sb F B b c d e f g A zs) (hI : Inv A) (hr : w.ownsRow 0 59 1 hv hs.length (hdls hs)) (hl : hs.length ≤ 1000000) (hF : ∀ k, hv.ownBlock = some k → ¬ F k) (an bn : Int) (H : Nat) (vv : Value)  (i : Nat) (hiw : ∀ W, Calls Try.prog 21 #[.int .i64 an, .int .i64 A.n] W fun e w' => e = .returned (.int .i64 i) ∧ W = w')
    (hd : Nat) (A' : Ab) (ht : ∀ W, w.grownBy W none → Calls Try.prog 23 #[.pointer (some ⟨sb, 0, none⟩), .int .i64 i] W fun y w' => y = .returned (.tuple #[.int .u64 hd, .int .i64 0]) ∧ Kp F W w' ∧ ∃ F' B' zs', IsS w' sb F' B' b c d e f g A' zs' ∧ ∀ k, F' k → F k ∨ W.heap.size ≤ k) :
    Calls Try.prog 28 #[.pointer (some ⟨sb, 0, none⟩), .agg (opC 1 an bn H true vv), hv] w (OneR w sb F b c d e f g A' [0, wrap64 hd] hv (hs ++ [hd])) := by
  have hal := World.grownBy_alloc w (.cells (opC 1 an bn H true vv) 44) none
  have hbx := Box.new w 44 (opC 1 an bn H true vv)
  have hcl := fun W (hf : w.grownBy W none) => classes_20 (h.kept0 hf) hI.toSzs
  obtain ⟨ha, hc, rfl, _, _, _, hha⟩ := row_shape hr
  have ht0 := (ht _ (gb_drew hal)).mono (R' := fun y w1 => y = .returned (.tuple #[.int .u64 hd, .int .i64 0]) ∧ w1.cell? ⟨w.heap.size, 1, none⟩ = some (.int .i64 an) ∧ w1.ownsRow 0 59 1 (.slice ha hs.length hc) hs.length (hdls hs) ∧ Hid (Tk w w1 sb F b c d e f g A' (.slice ha hs.length hc) hs)) (by
    rintro y w1 ⟨rfl, hK, hS⟩
    have hT := tk_of (gb_drew hal) hr hF hK hS
    exact ⟨rfl, (hK.box (hbx.kept (gb_drew (gb_refl _ none)) (by simp)) (fun hk => by have := h.lt _ hk; omega)).cell 1, hT.row, hT⟩)
  have hcl0 := hcl _ (gb_drew hal)
  unfold opC at *
  clear ht hr hF hcl h
  go_enter Try.func28, Try.ntmps28
  go_wp2
  generalize w.alloc (.cells #[.int .i64 1, .int .i64 an, .int .i64 bn, .int .u64 H, .bool true, vv] 44) = W0 at *
  have hC0 : W0.cell? ⟨w.heap.size, 1, none⟩ = some (.int .i64 an) := hbx.cell 1
  clear hbx
  go_region_held3 (fun w' => w'.cell? ⟨w.heap.size, 1, none⟩ = some (.int .i64 an)) ((first | with_reducible exact hC1 | go_keep)) ((first | (go_at_call 18; with_reducible refine hcl0.mono ?_; rintro y w' ⟨rfl, rfl⟩) | (go_at_call 21; with_reducible refine (hiw _).mono ?_; rintro y w' ⟨rfl, rfl⟩) | (go_at_call 23; with_reducible refine ht0.mono ?_; rintro y w1 ⟨rfl, hC1, hrow1, hT1⟩)))
  go_wp2_with (first | (go_at_call 13; go_must (refine (num_any2 _ _).mono ?_); rintro y w' ⟨rfl, rfl⟩) | (at_builtin; go_must (refine push59 rfl _ _ rfl 0 (.slice ha hs.length hc) hs.length _ (by rfl) hrow1 (hd : Int) (by rfl) (by omega) (Nat.zero_le _) ?_); intro g1 cap1 w4 ho4 hg4 hat4) | fail)
  go_ret2
  exact one_end_push hT1.out ho4 hg4 hat4 [0, wrap64 hd] (by simp)

set_option maxRecDepth 100000 in
set_option maxHeartbeats 4000000 in
theorem one_take_yn (h : IsS w sb F B b c d e f g A zs) (hI : Inv A) (hr : w.ownsRow 0 59 1 hv hs.length (hdls hs)) (hl : hs.length ≤ 1000000) (hF : ∀ k, hv.ownBlock = some k → ¬ F k) (an bn : Int) (H : Nat) (vv : Value) (j : Nat) (hj : j < hs.length) (hjw : ∀ W, Calls Try.prog 21 #[.int .i64 an, .int .i64 hs.length] W fun e w' => e = .returned (.int .i64 j) ∧ W = w') (i : Nat) (hiw : ∀ W, Calls Try.prog 21 #[.int .i64 an, .int .i64 A.n] W fun e w' => e = .returned (.int .i64 i) ∧ W = w')
    (hd : Nat) (A' : Ab) (ht : ∀ W, w.grownBy W none → Calls Try.prog 23 #[.pointer (some ⟨sb, 0, none⟩), .int .i64 i] W fun y w' => y = .returned (.tuple #[.int .u64 hd, .int .i64 0]) ∧ Kp F W w' ∧ ∃ F' B' zs', IsS w' sb F' B' b c d e f g A' zs' ∧ ∀ k, F' k → F k ∨ W.heap.size ≤ k) :
    Calls Try.prog 28 #[.pointer (some ⟨sb, 0, none⟩), .agg (opC 1 an bn H false vv), hv] w (OneR w sb F b c d e f g A' [0, wrap64 hd] hv (hs ++ [hd])) := by
  have hal := World.grownBy_alloc w (.cells (opC 1 an bn H false vv) 44) none
  have hbx := Box.new w 44 (opC 1 an bn H false vv)
  have hcl := fun W (hf : w.grownBy W none) => classes_20 (h.kept0 hf) hI.toSzs
  obtain ⟨ha, hc, rfl, _, _, _, hha⟩ := row_shape hr
  have ht0 := (ht _ (gb_drew hal)).mono (R' := fun y w1 => y = .returned (.tuple #[.int .u64 hd, .int .i64 0]) ∧ w1.cell? ⟨w.heap.size, 1, none⟩ = some (.int .i64 an) ∧ w1.ownsRow 0 59 1 (.slice ha hs.length hc) hs.length (hdls hs) ∧ Hid (Tk w w1 sb F b c d e f g A' (.slice ha hs.length hc) hs)) (by
    rintro y w1 ⟨rfl, hK, hS⟩
    have hT := tk_of (gb_drew hal) hr hF hK hS
    exact ⟨rfl, (hK.box (hbx.kept (gb_drew (gb_refl _ none)) (by simp)) (fun hk => by have := h.lt _ hk; omega)).cell 1, hT.row, hT⟩)
  have hcl0 := hcl _ (gb_drew hal)
  unfold opC at *
  obtain ⟨gh, rfl⟩ := hha (by omega)
  have hjc : ∀ W, w.grownBy W none → W.cell? ⟨gh, j, none⟩ = some (.int .u64 (hs.getD j 0 : Nat)) := fun W hf => by
    have := row_cell (row_kept hr hf (by simp)) j (.int .u64 (hs.getD j 0 : Nat)) (by simp [hdls, hj, List.getD])
    exact this
  have hj0 := hjc _ hal
  have hlz : decide ((hs.length : Int) > 0) = true := decide_eq_true (by omega)
  have hlz2 : decide (0 < (hs.length : Int)) = true := decide_eq_true (by omega)
  have hjz : (j : Int) < (hs.length : Int) := by omega
  clear ht hr hF hcl h hjc
  generalize hs.getD j 0 = hj1 at *
  go_enter Try.func28, Try.ntmps28
  go_wp2_with (first | (go_at_call 21; go_must (refine (hjw _).mono ?_); rintro y w' ⟨rfl, rfl⟩) | fail)
  generalize w.alloc (.cells #[.int .i64 1, .int .i64 an, .int .i64 bn, .int .u64 H, .bool false, vv] 44) = W0 at *
  have hC0 : W0.cell? ⟨w.heap.size, 1, none⟩ = some (.int .i64 an) := hbx.cell 1
  clear hbx
  go_region_held3 (fun w' => w'.cell? ⟨w.heap.size, 1, none⟩ = some (.int .i64 an)) ((first | with_reducible exact hC1 | go_keep)) ((first | (go_at_call 18; with_reducible refine hcl0.mono ?_; rintro y w' ⟨rfl, rfl⟩) | (go_at_call 21; with_reducible refine (hiw _).mono ?_; rintro y w' ⟨rfl, rfl⟩) | (go_at_call 23; with_reducible refine ht0.mono ?_; rintro y w1 ⟨rfl, hC1, hrow1, hT1⟩)))
  go_wp2_with (first | (go_at_call 13; go_must (refine (num_any2 _ _).mono ?_); rintro y w' ⟨rfl, rfl⟩) | (at_builtin; go_must (refine push59 rfl _ _ rfl 0 (.slice (some ⟨gh, 0, none⟩) hs.length hc) hs.length _ (by rfl) hrow1 (hd : Int) (by rfl) (by omega) (Nat.zero_le _) ?_); intro g1 cap1 w4 ho4 hg4 hat4) | fail)
  go_ret2
  exact one_end_push hT1.out ho4 hg4 hat4 [0, wrap64 hd] (by simp)

end
end Go.Proofs.Ytoaaaeefcipdcaa
