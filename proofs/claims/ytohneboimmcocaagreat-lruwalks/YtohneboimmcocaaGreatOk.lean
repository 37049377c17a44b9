import Derived.Test.YtohneboimmcocaaGreatOh
import Derived.Test.YtohneboimmcocaaGreatWp
import Derived.Test.YtohneboimmcocaaGreatMa
import Derived.ProofKit
import Derived.OpenShut
import Derived.Below
import Derived.Deep.Slices
import Derived.Deep.MidRow
import Derived.Test.YtohneboimmcocaaGreatOj
/-
  The World at a script's start; what is there behind it, of the program.
-/
namespace Go.Proofs.YtohneboimmcocaaGreat
open Go.RowKit
set_option linter.unusedVariables false

theorem isH_none {H x k : Nat} : ¬ IsH qA H x k := fun h => absurd h.hp (Nat.not_lt_zero _)
theorem gx0 {D : Wd} (hA : D.A = qA) (hR : D.R = qR) (hl : D.xl = []) (hL : D.L = L0) : GX D (fun _ => 0) ⟨X0, fun _ => 0⟩ (fun _ => newT8 0) (fun _ => 0) (fun _ => 0) (fun _ => 0) := by
  refine ⟨by rw [hA]; exact q_invA, by rw [hA]; rfl, by rw [hA]; rfl, by rw [hA]; rfl, by rw [hR]; exact qR_fit, by rw [hA, hR]; exact q_rep, fun H hH => by rw [hl] at hH; simp at hH, fun H hH => by rw [hl] at hH; simp at hH, fun H x k h => by rw [hA] at h; exact absurd h isH_none, by rw [hl, hL]; exact li0, fun H hH => by rw [hl] at hH; simp at hH, fun H hH => by rw [hl] at hH; simp at hH⟩
theorem rl0 {w : World} {lsb : Nat} (h : Box w 38 lsb nil9) : RL w lsb (fun _ => .slice none 0 0) (fun _ => []) :=
  ⟨h, fun j hj => World.ownsRow_nil _ _ _ _, fun j hj => by simp⟩
/-- begun. -/
theorem begun_gs (x0 x1 : Int) {hot warm : Nat} (hh : (hot : Int) = 1 + x0 % 89) (hw : (warm : Int) = 1 + x1 % (90 - (1 + x0 % 89))) (w : World) : Calls Tryz.prog 10 #[.agg #[.int .i64 x0, .int .i64 x1]] w fun y w' => ∃ wb E, y = .returned (.pointer (some ⟨wb, 0, none⟩)) ∧ w.grownBy w' none ∧ GS w' (fun k => w.heap.size ≤ k) wb 0 hot warm E := by
  refine (begun_10 x0 x1 hh hw w).mono ?_
  rintro y w' ⟨wb, sb, qb, gl, gc, F, B, zs, rb, G, Q, lb, lsv, xb, mb, rfl, hf, hz, hM, lsb, rfl, hls, hbl, hnl⟩
  refine ⟨wb, _, rfl, hf, D0 sb qb gl gc F B zs rb G Q lb (.slice (some ⟨lsb, 0, none⟩) 9 9) xb mb, lsb, fun _ => .slice none 0 0, fun _ => [], ⟨X0, fun _ => 0⟩, fun _ => 0, same_refl _, ⟨?_, rfl, rl0 hbl, ?_⟩, ⟨_, _, _, _, gx0 rfl rfl rfl rfl⟩, ⟨fun c k hc hk => rfl, fun H hH => by simp [D0] at hH⟩, ⟨by omega, by simp [D0], by simp [D0], by simp [D0]⟩, fun H hH => by simp [D0] at hH, fun H hH => by simp [D0] at hH, hz, by simp [D0], fun H hH => by simp [D0] at hH⟩
  · obtain ⟨c, hc⟩ := hM.sep.ex
    refine ⟨hM.box, hM.iss, hM.qbx, hM.qrow, hM.isr, hM.lbx, hM.lrow, hM.trow, hM.xbx, hM.mbx, hM.arow, ⟨c, fun j k hj => ⟨(hc j k hj).1, (hc j k hj).2, ?_⟩⟩⟩
    rintro (rfl | ⟨i, hi, hk⟩)
    · exact hnl ⟨j, hj⟩
    · simp [Value.ownBlock] at hk
  · rintro k (rfl | ⟨j, hj, hk⟩)
    · exact hls
    · simp [Value.ownBlock] at hk
end Go.Proofs.YtohneboimmcocaaGreat
/-
  Slices of Shares that came in.
-/
namespace Go.Proofs.YtohneboimmcocaaGreat
open Go.ChangeShapes Go.WideShapes Go.ChangeAt Go.RowKit
set_option linter.unusedVariables false

def isI (n : Int) : Prop := -9223372036854775808 ≤ n ∧ n < 9223372036854775808
section
variable {H : Type} {enc : TypeId × Value → H} {P : Program} {w : World} {base : Nat} {spare : Nat → Bool} {held : Bool}

theorem one_of {cs : List Value} {o : Nat} {v : Value} (h : (cs.drop o).take 1 = [v]) : cs[o]? = some v := by
  have : ((cs.drop o).take 1)[0]? = some v := by rw [h]; rfl
  simpa using this

theorem field_int {fs : Array Field} {f : Field} {k : IntKind} {t : TypeId} {fuel : Nat} {cs : List Value} {x : DataW H × List MemPlace} (i : Nat) (ht : P.underlying t = some (.struct fs)) (h : DataW.trod enc P w base spare held fuel t cs = some x)
    (hf : fs[i]? = some f) (hk : P.underlying f.type = some (.int k)) (hc : P.cellsOf f.type = 1) : ∃ n, cs[f.offset]? = some (.int k n) ∧ (Lit.int k n).wf = true := by
  obtain ⟨xs, n, _, rfl, hl, hlen, hff⟩ := DataW.trod_struct ht h
  have := hff i f hf
  have hi : i < xs.length := by rw [hlen]; exact (Array.getElem?_eq_some_iff.1 hf).1
  rw [List.getElem?_eq_getElem hi] at this
  obtain ⟨m, h1, _, h3⟩ := DataW.trod_int hk this
  rw [hc] at h1
  exact ⟨m, one_of h1, h3⟩

theorem field_bool {fs : Array Field} {f : Field} {t : TypeId} {fuel : Nat} {cs : List Value} {x : DataW H × List MemPlace} (i : Nat) (ht : P.underlying t = some (.struct fs)) (h : DataW.trod enc P w base spare held fuel t cs = some x)
    (hf : fs[i]? = some f) (hk : P.underlying f.type = some .bool) (hc : P.cellsOf f.type = 1) : ∃ b, cs[f.offset]? = some (.bool b) := by
  obtain ⟨xs, n, _, rfl, hl, hlen, hff⟩ := DataW.trod_struct ht h
  have := hff i f hf
  have hi : i < xs.length := by rw [hlen]; exact (Array.getElem?_eq_some_iff.1 hf).1
  rw [List.getElem?_eq_getElem hi] at this
  obtain ⟨m, h1, _⟩ := DataW.trod_bool hk this
  rw [hc] at h1
  exact ⟨m, one_of h1⟩
end


theorem bounds_i64 {n : Int} (h : (Lit.int .i64 n).wf = true) : isI n := by
  simp [Lit.wf, IntKind.min, IntKind.max, IntKind.bits, IntKind.signed] at h
  unfold isI; omega
theorem plain_of {a : Addr} {w : World} {v : Value} (h : w.cell? (a.add 0) = some v) : ∃ b o, a = ⟨b, o, none⟩ := by
  have := World.cell?_spot h
  obtain ⟨b, o, s⟩ := a
  refine ⟨b, o, ?_⟩
  simp [Addr.add] at this
  rw [this]

/-- A slice of Shares that came in. -/
def SharesIn (w : World) (a : Option Addr) (n : Nat) : Prop :=
  ∀ i, i < n → ∃ b o, a = some ⟨b, o, none⟩ ∧ ∃ (x0 : Int) (x1 : Int), w.cell? ⟨b, o + i * 2, none⟩ = some (.int .i64 x0) ∧ w.cell? ⟨b, o + i * 2 + 1, none⟩ = some (.int .i64 x1) ∧ isI x0 ∧ isI x1
theorem cells_23 : Tryz.prog.cellsOf 23 = 2 := by kernel_rfl

set_option maxRecDepth 100000 in
theorem open_Shares {H : Type} {enc : TypeId × Value → H} {w : World} {base : Nat} {spare : Nat → Bool} {held : Bool} {r : Reach} {b0 : Nat} {v : Value} {d : DataW H} {p : List MemPlace}
    (hv : Value.okWide Tryz.prog w r b0 55 v) (h : DataW.Trod enc Tryz.prog w base spare held 55 v d p) :
    ∃ a n c, v = .slice a n c ∧ n ≤ maxLen ∧ SharesIn w a n := by
  obtain ⟨a, n, c, rfl⟩ := okWide_slice Tryz.underlying55 hv
  obtain ⟨fuel, hf⟩ := h
  have hf' : DataW.trod enc Tryz.prog w base spare held fuel 55 [.slice a n c] = some (d, p) := by simpa [Value.cells] using hf
  refine ⟨a, n, c, rfl, ?_⟩
  rcases Deep.open_slice Tryz.underlying55 hf' with ⟨hcs, _⟩ | ⟨a', len, cap, m, k, D, Pl, hcs, hb, hl, hm, hmm, _, hel⟩
  · simp only [List.cons.injEq, Value.slice.injEq, and_true] at hcs
    obtain ⟨rfl, rfl, rfl⟩ := hcs
    exact ⟨by unfold maxLen; omega, fun i hi => by omega⟩
  · simp only [List.cons.injEq, Value.slice.injEq, and_true] at hcs
    obtain ⟨rfl, rfl, rfl⟩ := hcs
    have all : ∀ i, i < n → ∃ (x0 : Int) (x1 : Int), w.cell? ((a'.add (i * 2)).add 0) = some (.int .i64 x0) ∧ w.cell? ((a'.add (i * 2)).add 1) = some (.int .i64 x1) ∧ isI x0 ∧ isI x1 := by
      intro i hi
      obtain ⟨cs', hc, ht⟩ := hel i (by rw [hmm]; split <;> omega)
      rw [cells_23] at hc
      obtain ⟨x0, e0, w0⟩ := field_int 0 Tryz.underlying23 ht rfl Tryz.underlying3 (by kernel_rfl)
      obtain ⟨x1, e1, w1⟩ := field_int 1 Tryz.underlying23 ht rfl Tryz.underlying3 (by kernel_rfl)
      have hcell := World.cells?_some hc
      have g0 := hcell.2.2 0 (by omega)
      have g1 := hcell.2.2 1 (by omega)
      exact ⟨x0, x1, g0.trans e0, g1.trans e1, bounds_i64 w0, bounds_i64 w1⟩
    refine ⟨by omega, fun i hi => ?_⟩
    obtain ⟨b, o, rfl⟩ : ∃ b o, a' = ⟨b, o, none⟩ := by
      obtain ⟨_, _, g0, _⟩ := all 0 (by omega)
      rw [Deep.add_add, Nat.zero_mul] at g0
      exact plain_of g0
    obtain ⟨x0, x1, g0, g1, hbb⟩ := all i hi
    simp only [Addr.add_mid] at g0 g1
    refine ⟨b, o, rfl, x0, x1, ?_, ?_, hbb⟩
    · simpa using g0
    · simpa [Nat.add_assoc] using g1
end Go.Proofs.YtohneboimmcocaaGreat
/-
  Scripts that came in; the law's scripted.
-/
namespace Go.Proofs.YtohneboimmcocaaGreat
open Go.ChangeShapes Go.WideShapes Go.ChangeAt Go.RowKit
set_option linter.unusedVariables false

def isU (n : Int) : Prop := 0 ≤ n ∧ n < 18446744073709551616
theorem bounds_u64 {n : Int} (h : (Lit.int .u64 n).wf = true) : isU n := by
  simp [Lit.wf, IntKind.min, IntKind.max, IntKind.bits, IntKind.signed] at h
  unfold isU; omega
/-- A slice of Ops0 that came in. -/
def Ops0In (w : World) (a : Option Addr) (n : Nat) : Prop :=
  ∀ i, i < n → ∃ b o, a = some ⟨b, o, none⟩ ∧ ∃ (x0 : Int) (x1 : Int) (x2 : Int) (x3 : Int) (x4 : Int) (x5 : Bool), w.cell? ⟨b, o + i * 6, none⟩ = some (.int .i64 x0) ∧ w.cell? ⟨b, o + i * 6 + 1, none⟩ = some (.int .i64 x1) ∧ w.cell? ⟨b, o + i * 6 + 2, none⟩ = some (.int .i64 x2) ∧ w.cell? ⟨b, o + i * 6 + 3, none⟩ = some (.int .i64 x3) ∧ w.cell? ⟨b, o + i * 6 + 4, none⟩ = some (.int .u64 x4) ∧ w.cell? ⟨b, o + i * 6 + 5, none⟩ = some (.bool x5) ∧ isI x0 ∧ isI x1 ∧ isI x2 ∧ isI x3 ∧ isU x4
theorem cells_29 : Tryz.prog.cellsOf 29 = 6 := by kernel_rfl

set_option maxRecDepth 100000 in
theorem open_Ops0 {H : Type} {enc : TypeId × Value → H} {w : World} {base : Nat} {spare : Nat → Bool} {held : Bool} {r : Reach} {b0 : Nat} {v : Value} {d : DataW H} {p : List MemPlace}
    (hv : Value.okWide Tryz.prog w r b0 24 v) (h : DataW.Trod enc Tryz.prog w base spare held 24 v d p) :
    ∃ a n c, v = .slice a n c ∧ n ≤ maxLen ∧ Ops0In w a n := by
  obtain ⟨a, n, c, rfl⟩ := okWide_slice Tryz.underlying24 hv
  obtain ⟨fuel, hf⟩ := h
  have hf' : DataW.trod enc Tryz.prog w base spare held fuel 24 [.slice a n c] = some (d, p) := by simpa [Value.cells] using hf
  refine ⟨a, n, c, rfl, ?_⟩
  rcases Deep.open_slice Tryz.underlying24 hf' with ⟨hcs, _⟩ | ⟨a', len, cap, m, k, D, Pl, hcs, hb, hl, hm, hmm, _, hel⟩
  · simp only [List.cons.injEq, Value.slice.injEq, and_true] at hcs
    obtain ⟨rfl, rfl, rfl⟩ := hcs
    exact ⟨by unfold maxLen; omega, fun i hi => by omega⟩
  · simp only [List.cons.injEq, Value.slice.injEq, and_true] at hcs
    obtain ⟨rfl, rfl, rfl⟩ := hcs
    have all : ∀ i, i < n → ∃ (x0 : Int) (x1 : Int) (x2 : Int) (x3 : Int) (x4 : Int) (x5 : Bool), w.cell? ((a'.add (i * 6)).add 0) = some (.int .i64 x0) ∧ w.cell? ((a'.add (i * 6)).add 1) = some (.int .i64 x1) ∧ w.cell? ((a'.add (i * 6)).add 2) = some (.int .i64 x2) ∧ w.cell? ((a'.add (i * 6)).add 3) = some (.int .i64 x3) ∧ w.cell? ((a'.add (i * 6)).add 4) = some (.int .u64 x4) ∧ w.cell? ((a'.add (i * 6)).add 5) = some (.bool x5) ∧ isI x0 ∧ isI x1 ∧ isI x2 ∧ isI x3 ∧ isU x4 := by
      intro i hi
      obtain ⟨cs', hc, ht⟩ := hel i (by rw [hmm]; split <;> omega)
      rw [cells_29] at hc
      obtain ⟨x0, e0, w0⟩ := field_int 0 Tryz.underlying29 ht rfl Tryz.underlying3 (by kernel_rfl)
      obtain ⟨x1, e1, w1⟩ := field_int 1 Tryz.underlying29 ht rfl Tryz.underlying3 (by kernel_rfl)
      obtain ⟨x2, e2, w2⟩ := field_int 2 Tryz.underlying29 ht rfl Tryz.underlying3 (by kernel_rfl)
      obtain ⟨x3, e3, w3⟩ := field_int 3 Tryz.underlying29 ht rfl Tryz.underlying3 (by kernel_rfl)
      obtain ⟨x4, e4, w4⟩ := field_int 4 Tryz.underlying29 ht rfl Tryz.underlying27 (by kernel_rfl)
      obtain ⟨x5, e5⟩ := field_bool 5 Tryz.underlying29 ht rfl Tryz.underlying4 (by kernel_rfl)
      have hcell := World.cells?_some hc
      have g0 := hcell.2.2 0 (by omega)
      have g1 := hcell.2.2 1 (by omega)
      have g2 := hcell.2.2 2 (by omega)
      have g3 := hcell.2.2 3 (by omega)
      have g4 := hcell.2.2 4 (by omega)
      have g5 := hcell.2.2 5 (by omega)
      exact ⟨x0, x1, x2, x3, x4, x5, g0.trans e0, g1.trans e1, g2.trans e2, g3.trans e3, g4.trans e4, g5.trans e5, bounds_i64 w0, bounds_i64 w1, bounds_i64 w2, bounds_i64 w3, bounds_u64 w4⟩
    refine ⟨by omega, fun i hi => ?_⟩
    obtain ⟨b, o, rfl⟩ : ∃ b o, a' = ⟨b, o, none⟩ := by
      obtain ⟨_, _, _, _, _, _, g0, _⟩ := all 0 (by omega)
      rw [Deep.add_add, Nat.zero_mul] at g0
      exact plain_of g0
    obtain ⟨x0, x1, x2, x3, x4, x5, g0, g1, g2, g3, g4, g5, hbb⟩ := all i hi
    simp only [Addr.add_mid] at g0 g1 g2 g3 g4 g5
    refine ⟨b, o, rfl, x0, x1, x2, x3, x4, x5, ?_, ?_, ?_, ?_, ?_, ?_, hbb⟩
    · simpa using g0
    · simpa [Nat.add_assoc] using g1
    · simpa [Nat.add_assoc] using g2
    · simpa [Nat.add_assoc] using g3
    · simpa [Nat.add_assoc] using g4
    · simpa [Nat.add_assoc] using g5

/-- A script in memory. -/
def OpsIn (w : World) (a : Option Addr) (n : Nat) : Prop :=
  ∀ i, i < n → ∃ b o, a = some ⟨b, o, none⟩ ∧ ∃ v : Opv, v.Ok ∧ w.cell? ⟨b, o + i * 6, none⟩ = some (.int .i64 v.d) ∧ w.cell? ⟨b, o + i * 6 + 1, none⟩ = some (.int .i64 v.a) ∧ w.cell? ⟨b, o + i * 6 + 2, none⟩ = some (.int .i64 v.b) ∧ w.cell? ⟨b, o + i * 6 + 3, none⟩ = some (.int .i64 v.c) ∧ w.cell? ⟨b, o + i * 6 + 4, none⟩ = some (.int .u64 v.h) ∧ w.cell? ⟨b, o + i * 6 + 5, none⟩ = some (.bool v.r)
theorem ops_in {w : World} {a : Option Addr} {n : Nat} (h : Ops0In w a n) : OpsIn w a n := fun i hi => by
  obtain ⟨b, o, ha, x0, x1, x2, x3, x4, x5, g0, g1, g2, g3, g4, g5, b0, b1, b2, b3, b4⟩ := h i hi
  obtain ⟨h4, rfl⟩ : ∃ h4 : Nat, x4 = (h4 : Int) := ⟨x4.toNat, by unfold isU at b4; omega⟩
  exact ⟨b, o, ha, ⟨x0, x1, x2, x3, h4, x5⟩, ⟨show h4 < _ by unfold isU at b4; omega, b2.2⟩, g0, g1, g2, g3, g4, g5⟩
theorem OpsIn.kept0 {w w' : World} {a : Option Addr} {n : Nat} (h : OpsIn w a n) (hf : w.grownBy w' none) : OpsIn w' a n := fun i hi => by
  obtain ⟨b, o, ha, v, hv, g0, g1, g2, g3, g4, g5⟩ := h i hi
  exact ⟨b, o, ha, v, hv, gb_cellN hf g0, gb_cellN hf g1, gb_cellN hf g2, gb_cellN hf g3, gb_cellN hf g4, gb_cellN hf g5⟩

set_option maxRecDepth 100000 in
set_option maxHeartbeats 1000000 in
/-- scripted. -/
theorem scripted_27 (x0 x1 : Int) {hot warm : Nat} (hh : (hot : Int) = 1 + x0 % 89) (hw : (warm : Int) = 1 + x1 % (90 - (1 + x0 % 89))) {w : World} {a : Option Addr} {n c : Nat} (hO : OpsIn w a n) (hn : n ≤ maxLen) :
    Calls Tryz.prog 27 #[.agg #[.int .i64 x0, .int .i64 x1], .slice a n c] w fun y w' => ∃ wb E, y = .returned (.pointer (some ⟨wb, 0, none⟩)) ∧ w.grownBy w' none ∧ GS w' (fun k => w.heap.size ≤ k) wb 250 hot warm E := by
  have hsh : hot ≤ 100 ∧ warm ≤ 100 := by
    have h1 : 0 ≤ x1 % (90 - (1 + x0 % 89)) ∧ x1 % (90 - (1 + x0 % 89)) < 90 - (1 + x0 % 89) := ⟨Int.emod_nonneg _ (by omega), Int.emod_lt_of_pos _ (by omega)⟩
    omega
  have hal := World.grownBy_alloc w (.cells #[.int .i64 x0, .int .i64 x1] 23) none
  have hb0 := Box.new w 23 #[.int .i64 x0, .int .i64 x1]
  have hbg := (begun_gs x0 x1 hh hw (w.alloc (.cells #[.int .i64 x0, .int .i64 x1] 23))).mono (R' := fun y w1 => ∃ wb E, y = .returned (.pointer (some ⟨wb, 0, none⟩)) ∧ Hid (w.grownBy w1 none ∧ GS w1 (fun k => w.heap.size ≤ k) wb 0 hot warm E)) (by
    rintro y w1 ⟨wb, E, rfl, hf, hG⟩
    exact ⟨wb, E, rfl, gb_trans hal hf, hG.less (fun k _ hk => Nat.le_trans hal.size hk)⟩)
  have u0 := hb0.cell 0
  have u1 := hb0.cell 1
  simp at u0 u1
  have hml : (n : Int) ≤ 9223372036854775807 := by unfold maxLen at hn; omega
  clear hh hw hb0 hn
  go_enter Tryz.func27, Tryz.ntmps27
  go_wp2_with (first | (go_at_call 10; go_must (refine hbg.mono ?_); rintro y w1 ⟨wb, E, rfl, hE⟩) | fail)
  go_loopw [6] (fun iv wr => ∃ j : Nat, j ≤ 250 ∧ iv = .int .i64 j ∧ Hid (w.grownBy wr none ∧ GS wr (fun k => w.heap.size ≤ k) wb j hot warm E)) (fun iv _ => 250 - (intOf iv).toNat)
  case atStart => exact ⟨0, by omega, rfl, hE⟩
  case round =>
    obtain ⟨j, hj, rfl, hEj⟩ := hrel
    by_cases hlt : j < n ∧ j < 250
    · obtain ⟨b, o, ha, v, hv, g0, g1, g2, g3, g4, g5⟩ := (hO.kept0 hEj.out.1) j hlt.1
      subst ha
      have hd1 : decide ((j : Int) < n) = true := decide_eq_true (by omega)
      have hd2 : decide ((j : Int) < 250) = true := decide_eq_true (by omega)
      have hl1 : (j : Int) < n := by omega
      have hl2 : (j : Int) < 250 := by omega
      have h15 := (moves_15 hEj.out.2 (fun k hk => Nat.le_trans hEj.out.1.size hk) (by omega) hsh.1 hsh.2 v hv).mono (R' := fun y w2 => y = .returned (.bool true) ∧ Hid (w.grownBy w2 none ∧ GS w2 (fun k => w.heap.size ≤ k) wb (j + 1) hot warm E)) (by
        rintro y w2 ⟨rfl, hK, hG⟩
        exact ⟨rfl, kp_grown hEj.out.1 hK, hG⟩)
      have hmore : Hid (w.grownBy wr none ∧ GS wr (fun k => w.heap.size ≤ k) wb (j + 1) hot warm E) := by
        refine ⟨hEj.out.1, ?_⟩
        obtain ⟨D, lsb, vs, Y, S, cl, hs, hW⟩ := hEj.out.2
        exact ⟨D, lsb, vs, Y, S, cl, hs, hW.more (by omega) (by omega)⟩
      unfold Opv.cs at h15
      obtain ⟨d0, a0, b0, c0v, h0v, r0⟩ := v
      dsimp only at *
      clear hO hEj hE hbg
      by_cases h8 : d0 = 8
      · subst h8
        go_wp2
        exact ⟨⟨j + 1, by omega, by go_num, hmore⟩, by simp [intOf]; omega⟩
      · go_wp2_with (first | (go_at_call 15; go_must (refine h15.mono ?_); rintro y w2 ⟨rfl, hE2⟩) | fail)
        exact ⟨⟨j + 1, by omega, by go_num, hE2⟩, by simp [intOf]; omega⟩
    · have hfin : Hid (w.grownBy wr none ∧ GS wr (fun k => w.heap.size ≤ k) wb 250 hot warm E) := by
        refine ⟨hEj.out.1, ?_⟩
        obtain ⟨D, lsb, vs, Y, S, cl, hs, hW⟩ := hEj.out.2
        exact ⟨D, lsb, vs, Y, S, cl, hs, hW.more (by omega) (by omega)⟩
      clear hO hEj hE hbg
      by_cases h1 : j < n
      · have hj2 : j = 250 := by omega
        subst hj2
        have hd1 : decide (((250 : Nat) : Int) < n) = true := decide_eq_true (by omega)
        have hl1 : (250 : Int) < n := by omega
        go_wp2
        go_ret
        first | exact ⟨wb, E, rfl, hfin.out.1, hfin.out.2⟩ | exact ⟨wb, rfl, hfin.out.1, E, hfin.out.2⟩
      · have hd1 : decide ((j : Int) < n) = false := decide_eq_false (by omega)
        have hl1 : ¬ (j : Int) < n := by omega
        go_wp2
        go_ret
        first | exact ⟨wb, E, rfl, hfin.out.1, hfin.out.2⟩ | exact ⟨wb, rfl, hfin.out.1, E, hfin.out.2⟩
end Go.Proofs.YtohneboimmcocaaGreat
