import Derived.Test.YtdlaanigfhlolaaGreatRf
/-
  The document's table: New, the first Put, a Find.
-/
namespace Go.Proofs.YtdlaanigfhlolaaGreat
open Go.RowKit
set_option linter.unusedVariables false

def itG (la : Bool) (ka : Option Addr) (kn kc : Nat) (va : Option Addr) (vn vc : Nat) (st : Int) : Array Value := #[.bool la, .slice ka kn kc, .slice va vn vc, .int .u64 0, .int .i64 0, .int .i64 0, .int .u64 0, .int .i64 st, .int .i64 0, .int .u64 0, .int .u64 0, .int .u64 0]
theorem Tryz.info40 : (Tryz.prog.info? 40).map (fun i => (i.zero, i.size, i.bytes)) = some (some (.int .u64 0), 1, 8) := by kernel_rfl
section
variable {w : World} {ops : Array Oper} {rest : List Oper} {o : Oper} {a : Act} {Q : Exit → Act → World → Prop}
theorem push40 (hgd : o.guard = none) (s x : Operand) (ho : o.op = .call { callee := .builtin .append, args := #[s, x], argTypes := #[37, 37] })
    (B : Nat) (v : Value) (n : Nat) (xs : List Value) (hs : a.eval s = v) (hown : w.ownsRow B 40 1 v n xs) (u : Int) (hx : a.eval x = .slice (some ⟨w.heap.size, 0, none⟩) 1 1) (hn : n ≤ 100000000000) (hB : B ≤ w.heap.size)
    (h : ∀ g cap w', w'.ownsRow B 40 1 (.slice (some ⟨g, 0, none⟩) (n + 1) cap) (n + 1) (xs ++ [.int .u64 u]) → w.grownBy w' v.ownBlock → (v.ownBlock = some g ∨ w.heap.size ≤ g) → wpList Tryz.prog ops Q rest (a.put o.dst (.slice (some ⟨g, 0, none⟩) (n + 1) cap)) w') : wpList Tryz.prog ops Q (o :: rest) a (w.alloc (.cells #[.int .u64 u] 40)) := by
  obtain ⟨i0, hi, hz0, hz1, hz2⟩ := info_parts Tryz.info40
  exact wpList_pushN hgd s x 37 ho 40 i0 _ 1 8 Tryz.underlying37 hi hz0 hz1 hz2 rfl (by omega) (by omega) B v n xs hs hown [.int .u64 u] rfl (by simp [Value.oneCell']) hx hn hB h
end

section
variable {w w' : World} {rb qb wb : Nat} {F : Nat → Prop} {Q : Rl} {c d e : Int} {R : Rb} {iv : Value} {M : Nat} {its : Nat → List Value}

set_option maxRecDepth 100000 in
set_option maxHeartbeats 1000000 in
theorem rnew5 (h : IsR w rb F Q c d e R) (hR : RFit R) (hq : IsQ w qb rb iv M its) : Calls Tryz.prog 31 #[.pointer (some ⟨qb, 0, none⟩)] w fun y w' => ∃ (wb : Nat) (mo : Int), y = .returned (.pointer (some ⟨wb, 0, none⟩)) ∧ w.grownBy w' none ∧ w.heap.size ≤ wb ∧ 16 ≤ mo ∧ Box w' 90 wb #[.pointer (some ⟨qb, 0, none⟩), .slice none 0 0, .int .i64 16, .int .i64 mo, .int .i64 0] := by
  obtain ⟨sb, sc, ob, oc, vb, vc, hsv, hov, hrv⟩ := h.shapes hR.n0 hR.m0
  have q0 := hq.box.cell 0
  simp at q0
  have c0 := h.sc 0
  have c1 := h.sc 1
  have c5 := h.sc 5
  simp [rset, hsv] at c0 c1 c5
  have es := h.scell hsv hR.n0
  have hs0 := hR.s0 0 hR.n0
  have hm2 := hR.m2
  have hps := hR.ps
  have hn0 := hR.n0
  have hn2 := hR.n2
  have hnz : (0 : Int) < (R.n : Int) := by omega
  have hq2 : R.ps / R.sz 0 ≤ 1048576 := by have := Nat.div_le_self R.ps (R.sz 0); omega
  have hmul : R.m * (R.ps / R.sz 0) ≤ 1024 * 1048576 := Nat.mul_le_mul hm2 hq2
  have hne : ¬ ((R.sz 0 : Int) = 0) := by omega
  have hne2 : ((R.sz 0 : Int) == 0) = false := beq_eq_false_iff_ne.2 (by omega)
  have hquo : (R.ps : Int).tdiv (R.sz 0) = ((R.ps / R.sz 0 : Nat) : Int) := by rw [Int.tdiv_eq_ediv_of_nonneg (by omega)]; simp
  have hquo2 : (R.ps : Int) / (R.sz 0) = ((R.ps / R.sz 0 : Nat) : Int) := by simp
  generalize R.ps / R.sz 0 = q at *
  generalize R.ps = ps at *
  generalize R.sz 0 = s at *
  have hmi : (R.m : Int) * (q : Int) = ((R.m * q : Nat) : Int) := by simp
  generalize R.m = m at *
  generalize R.n = n at *
  obtain ⟨mq, hmq⟩ : ∃ mq, mq = m * q := ⟨_, rfl⟩
  rw [← hmq] at hmi hmul
  clear hmq
  have hwr : IntKind.i64.wrap (mq : Int) = mq := by rw [IntKind.wrap_i64]; omega
  have hal := World.grownBy_alloc w (.cells #[.pointer (some ⟨qb, 0, none⟩), .slice none 0 0, .int .i64 16, .int .i64 16, .int .i64 0] 90) none
  have hb0 := Box.new w 90 #[.pointer (some ⟨qb, 0, none⟩), .slice none 0 0, .int .i64 16, .int .i64 16, .int .i64 0]
  have q1 := gb_cellN hal q0
  have c01 := gb_cellN hal c0
  have c11 := gb_cellN hal c1
  have c51 := gb_cellN hal c5
  have es1 := gb_cellN hal es
  clear h hq hR
  go_enter Tryz.func31, Tryz.ntmps31
  go_wp2
  generalize w.alloc (.cells #[.pointer (some ⟨qb, 0, none⟩), .slice none 0 0, .int .i64 16, .int .i64 16, .int .i64 0] 90) = W1 at *
  go_quiet (fail)
  have hF2 : w.grownBy (W1.drewN nq) none := gb_drewN hal _
  have hb2 : Box (W1.drewN nq) 90 w.heap.size #[.pointer (some ⟨qb, 0, none⟩), .slice none 0 0, .int .i64 16, .int .i64 16, .int .i64 0] := hb0.kept (gb_drewN (gb_refl _ none) _) (by simp)
  clear q1 c01 c11 c51 es1 hb0 hal
  generalize W1.drewN nq = W2 at *
  go_wp2
  go_loopw [5] (fun v wr => ∃ (n : Nat) (mo : Int), v = .int .i64 n ∧ 16 ≤ n ∧ n ≤ 2097152 ∧ 16 ≤ mo ∧ w.grownBy wr none ∧ Box wr 90 w.heap.size #[.pointer (some ⟨qb, 0, none⟩), .slice none 0 0, .int .i64 16, .int .i64 mo, .int .i64 0]) (fun v _ => 2097152 - (intOf v).toNat)
  case atStart => exact ⟨16, 16, rfl, by omega, by omega, by omega, hF2, hb2⟩
  case round =>
    obtain ⟨k, mo, rfl, hk1, hk2, hmo, hF, hb⟩ := hrel
    by_cases hle : k ≤ 1048576
    · have hd : decide ((k : Int) ≤ 1048576) = true := decide_eq_true (by omega)
      have b3 := hb.cell 3
      simp at b3
      have z3 := hb.fz 3
      by_cases hle2 : (k : Int) ≤ 4 * (mq : Int)
      · have hd2 : decide ((k : Int) ≤ 4 * (mq : Int)) = true := decide_eq_true hle2
        have HB : Hid (w.grownBy (wr.setCell ⟨w.heap.size, 3, none⟩ (.int .i64 k)) none ∧ Box (wr.setCell ⟨w.heap.size, 3, none⟩ (.int .i64 k)) 90 w.heap.size #[.pointer (some ⟨qb, 0, none⟩), .slice none 0 0, .int .i64 16, .int .i64 k, .int .i64 0]) := ⟨gb_mine hF (gb_setCell (gb_refl _ _) _) (Nat.le_refl _), hb.set 3 _⟩
        go_wp2
        go_roundw
        case rel => exact ⟨2 * k, k, congrArg (Value.int .i64) (show 2 * (k : Int) = ((2 * k : Nat) : Int) by omega), by omega, by omega, by omega, HB.out.1, HB.out.2⟩
        case measure => simp [intOf]; omega
      · have hd2 : decide ((k : Int) ≤ 4 * (mq : Int)) = false := decide_eq_false hle2
        go_wp2
        go_roundw
        case rel => exact ⟨2 * k, mo, congrArg (Value.int .i64) (show 2 * (k : Int) = ((2 * k : Nat) : Int) by omega), by omega, by omega, hmo, hF, hb⟩
        case measure => simp [intOf]; omega
    · have hd : decide ((k : Int) ≤ 1048576) = false := decide_eq_false (by omega)
      go_wp2
      go_ret
      exact ⟨_, mo, rfl, hF, Nat.le_refl _, hmo, hb⟩

set_option maxRecDepth 100000 in
theorem rfind5_nil {mo : Int} {bu mv : Int} (hb : Box w 90 wb #[.pointer (some ⟨qb, 0, none⟩), .slice none 0 0, .int .i64 bu, .int .i64 mo, .int .i64 mv]) (a : Option Addr) (n cp : Nat) :
    Calls Tryz.prog 50 #[.pointer (some ⟨wb, 0, none⟩), .slice a n cp] w fun y w' => y = .returned (.tuple #[.int .u64 0, .bool false]) ∧ w.grownBy w' none := by
  have c1 := hb.cell 1
  simp at c1
  clear hb
  go_enter Tryz.func50, Tryz.ntmps50
  go_wp2
  go_loopw [6] (fun v wr => v = .int .i64 0 ∧ w = wr) (fun _ _ => 0)
  case atStart => exact ⟨rfl, rfl⟩
  case round =>
    obtain ⟨rfl, rfl⟩ := hrel
    go_wp2
    go_ret2
    exact ⟨rfl, gb_refl _ _⟩

end
end Go.Proofs.YtdlaanigfhlolaaGreat
