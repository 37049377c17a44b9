/-
  ArenaExact, walked.
-/
import Derived.Test.YtknhoncnaigogaaBr
namespace Go.Proofs.Ytknhoncnaigogaa
open Go.RowKit
set_option linter.unusedVariables false

/-- The calls that came in. -/
def OpsIn (w : World) (a : Option Addr) (n : Nat) : Prop := ∀ i, i < n → ∃ b o, a = some ⟨b, o, none⟩ ∧ ∃ (d x1 x2 x3 x4 x5 x6 : Int) (sa : Option Addr) (sn sc : Nat) (ys : List Int) (own : Bool),
  (w.cell? ⟨b, o + i * 9, none⟩ = some (.int .i64 d) ∧ w.cell? ⟨b, o + i * 9 + 1, none⟩ = some (.int .i64 x1) ∧ w.cell? ⟨b, o + i * 9 + 2, none⟩ = some (.int .i64 x2) ∧ w.cell? ⟨b, o + i * 9 + 3, none⟩ = some (.int .i64 x3) ∧ w.cell? ⟨b, o + i * 9 + 4, none⟩ = some (.int .i64 x4) ∧
  w.cell? ⟨b, o + i * 9 + 5, none⟩ = some (.int .i64 x5) ∧ w.cell? ⟨b, o + i * 9 + 6, none⟩ = some (.int .u64 x6) ∧ w.cell? ⟨b, o + i * 9 + 7, none⟩ = some (.slice sa sn sc) ∧ w.cell? ⟨b, o + i * 9 + 8, none⟩ = some (.bool own)) ∧
  (x2 ≤ 9223372036854775807 ∧ x3 ≤ 9223372036854775807 ∧ 0 ≤ x6 ∧ x6 < 18446744073709551616) ∧ Has w sa sn ys ∧ isBytes ys ∧ sn ≤ 140737488351232 ∧ (sa = none → sc = 0)

def PairIn (w : World) (p hb : Nat) (P : Nat → Prop) : Prop := ∃ ab ag rb rg F ps m zs, IsP w p ab ag rb rg hb F P ps m zs ∧ ps * m ≤ 1000000000

theorem Kp.grown {P : Nat → Prop} {v w w' : World} (h : v.grownBy w none) (k : Kp P w w') (hP : ∀ i, P i → v.heap.size ≤ i) : v.grownBy w' none :=
  ⟨k.os.trans h.os, k.tape.trans h.tape, k.output.trans h.output, Nat.le_trans h.size k.size, fun i hi _ => (k.block i (Nat.lt_of_lt_of_le hi h.size) (fun e => by have := hP i e; omega)).trans (h.block i hi (by simp))⟩
theorem PairIn.other {w w' : World} {q hb : Nat} {P Q : Nat → Prop} (h : PairIn w q hb Q) (hk : Kp P w w') (hd : ∀ k, Q k → ¬ P k) : PairIn w' q hb Q := by
  obtain ⟨ab, ag, rb, rg, F, ps, m, zs, h1, h2⟩ := h
  exact ⟨ab, ag, rb, rg, F, ps, m, zs, h1.same hk.size (fun k hk' => hk.block k (h1.lt k hk') (hd k hk')), h2⟩
theorem PairIn.lt {w : World} {q hb : Nat} {Q : Nat → Prop} (h : PairIn w q hb Q) : ∀ k, Q k → k < w.heap.size := by
  obtain ⟨ab, ag, rb, rg, F, ps, m, zs, h1, h2⟩ := h
  exact h1.lt
theorem PairIn.c2 {w : World} {q hb : Nat} {Q : Nat → Prop} (h : PairIn w q hb Q) : w.cell? ⟨q, 2, none⟩ = some (.pointer (some ⟨hb, 0, none⟩)) := by
  obtain ⟨ab, ag, rb, rg, F, ps, m, zs, h1, h2⟩ := h
  have := h1.box.cell 2
  simpa using this

theorem lays_in {w : World} {p hb : Nat} {P : Nat → Prop} (hP : PairIn w p hb P) (d x1 x2 x3 x4 x5 x6 : Int) (a : Option Addr) (n c : Nat) (ys : List Int) (own : Bool) (hx : x2 ≤ 9223372036854775807 ∧ x3 ≤ 9223372036854775807 ∧ 0 ≤ x6 ∧ x6 < 18446744073709551616)
    (hy : Has w a n ys) (hbs : isBytes ys) (hn : n ≤ 140737488351232) (hc : a = none → c = 0) (hfar : 0 < n → ∀ k, blk a = some k → ¬ P k) :
    Calls Try.prog 10 #[.pointer (some ⟨p, 0, none⟩), .agg #[.int .i64 d, .int .i64 x1, .int .i64 x2, .int .i64 x3, .int .i64 x4, .int .i64 x5, .int .u64 x6, .slice a n c, .bool own]] w fun e w' => e = .returned (.bool true) ∧ PairIn w' p hb P ∧ Kp P w w' := by
  obtain ⟨ab, ag, rb, rg, F, ps, m, zs, h1, h2⟩ := hP
  refine (lays_any h1 d x1 x2 x3 x4 x5 x6 a n c ys own hx.1 hx.2.1 hx.2.2 hy hbs hn hc hfar).mono ?_
  rintro e w' ⟨rfl, zs', h3, h4⟩
  exact ⟨rfl, ⟨ab, ag, rb, rg, F, ps, m, zs', h3, h2⟩, h4⟩
theorem tells_in {w : World} {p hb : Nat} {P : Nat → Prop} (hP : PairIn w p hb P) (d x1 x2 x3 x4 x5 x6 : Int) (a : Option Addr) (n c : Nat) (ys : List Int) (own : Bool) (hx : x2 ≤ 9223372036854775807 ∧ x3 ≤ 9223372036854775807 ∧ 0 ≤ x6 ∧ x6 < 18446744073709551616)
    (hy : Has w a n ys) (hbs : isBytes ys) (hn : n ≤ 140737488351232) (hc : a = none → c = 0) :
    Calls Try.prog 11 #[.pointer (some ⟨p, 0, none⟩), .agg #[.int .i64 d, .int .i64 x1, .int .i64 x2, .int .i64 x3, .int .i64 x4, .int .i64 x5, .int .u64 x6, .slice a n c, .bool own]] w fun e w' => e = .returned (.bool true) ∧ ∃ P', PairIn w' p hb P' ∧ Kp P w w' ∧ ∀ k, P' k → P k ∨ w.heap.size ≤ k := by
  obtain ⟨ab, ag, rb, rg, F, ps, m, zs, h1, h2⟩ := hP
  refine (tells_any h1 d x1 x2 x3 x4 x5 x6 a n c ys own hx.1 (by rw [h1.len]; exact h2) hy hbs hn hc).mono ?_
  rintro e w' ⟨rfl, zs', F', P', h3, h4, h5⟩
  exact ⟨rfl, P', ⟨ab, ag, rb, rg, F', ps, m, zs', h3, h2⟩, h4, h5⟩
theorem own_in {w : World} {p hb : Nat} {P : Nat → Prop} (hP : PairIn w p hb P) : Calls Try.prog 12 #[.pointer (some ⟨hb, 0, none⟩)] w fun e w' => e = .returned (.bool true) ∧ ∃ P', PairIn w' p hb P' ∧ Kp P w w' ∧ ∀ k, P' k → P k ∨ w.heap.size ≤ k := by
  obtain ⟨ab, ag, rb, rg, F, ps, m, zs, h1, h2⟩ := hP
  obtain ⟨gv, wv, L, M, sz, k1, k2, k3, k4⟩ := h1.held
  refine (heldOwn_any k1 (by omega)).mono ?_
  rintro e w' ⟨rfl, hk, hbx⟩
  have hk' : Kp (fun k => F k ∨ (⟨none, []⟩ : Got).a = some k) w w' := ⟨hk.os, hk.tape, hk.output, hk.size, fun i hi hn => hk.block i hi (fun h => hn (.inl h))⟩
  obtain ⟨zs', F', P', h3, h4, h5⟩ := tells_end h1 (gb_refl w none) h1.lt hk' (held_new hbx) (fun k hk => .inl (hk ▸ k1.fb)) (by intro g hg; cases hg)
  exact ⟨rfl, P', ⟨ab, ag, rb, rg, F', ps, m, zs', h3, h2⟩, h4, h5⟩
theorem all_in {w : World} {p hb : Nat} {P : Nat → Prop} (hP : PairIn w p hb P) : Calls Try.prog 13 #[.pointer (some ⟨p, 0, none⟩)] w fun e w' => e = .returned (.bool true) ∧ w.grownBy w' none := by
  obtain ⟨ab, ag, rb, rg, F, ps, m, zs, h1, h2⟩ := hP
  exact all_any h1

set_option maxRecDepth 100000 in
set_option maxHeartbeats 4000000 in
theorem exact_any (y0 y1 y2 y3 : Int) (a : Option Addr) (n c : Nat) (w : World) (hn : n ≤ maxLen) (hin : OpsIn w a n) :
    Calls Try.prog 3 #[.agg #[.int .i64 y0, .int .i64 y1, .int .i64 y2, .int .i64 y3, .slice a n c]] w fun e w' => e = .returned (.bool true) ∧ w.grownBy w' none := by
  unfold maxLen at hn
  have hB0 := Box.new w 25 #[.int .i64 y0, .int .i64 y1, .int .i64 y2, .int .i64 y3, .slice a n c]
  have hal := World.grownBy_alloc w (.cells #[.int .i64 y0, .int .i64 y1, .int .i64 y2, .int .i64 y3, .slice a n c] 25) none
  have hin0 : OpsIn (w.alloc (.cells #[.int .i64 y0, .int .i64 y1, .int .i64 y2, .int .i64 y3, .slice a n c] 25)) a n := by
    intro i hi
    obtain ⟨b, o, rfl, d, x1, x2, x3, x4, x5, x6, sa, sn, sc, ys, own, ⟨c0, c1, c2, c3, c4, c5, c6, c7, c8⟩, hx, hy, r⟩ := hin i hi
    exact ⟨b, o, rfl, d, x1, x2, x3, x4, x5, x6, sa, sn, sc, ys, own, ⟨gb_cellN hal c0, gb_cellN hal c1, gb_cellN hal c2, gb_cellN hal c3, gb_cellN hal c4, gb_cellN hal c5, gb_cellN hal c6, gb_cellN hal c7, gb_cellN hal c8⟩, hx, hy.kept0 hal, r⟩
  go_enter Try.func3, Try.ntmps3
  go_wp2_with fail
  refine (begun_any _ _ _).mono ?_
  rintro e w1 ⟨pa, _, _, _, _, ha, Fa, Pa, _, _, zsa, rfl, hf1, hPa, hla, hSa⟩
  have hIa : PairIn w1 pa ha Pa := ⟨_, _, _, _, Fa, _, _, zsa, hPa, by rw [← hPa.len]; exact hla⟩
  have hB1 := hB0.kept hf1 (by simp)
  clear hPa hla
  generalize hV : w.alloc (.cells #[.int .i64 y0, .int .i64 y1, .int .i64 y2, .int .i64 y3, .slice a n c] 25) = V at *
  clear hV
  have b1 := hB1.cell 1
  have b3 := hB1.cell 3
  simp at b1 b3
  go_wp2_with fail
  refine (begun_any _ _ _).mono ?_
  rintro e w2 ⟨pb, _, _, _, _, hbb, Fb, Pb, _, _, zsb, rfl, hf2, hPb, hlb, hSb⟩
  have hIb : PairIn w2 pb hbb Pb := ⟨_, _, _, _, Fb, _, _, zsb, hPb, by rw [← hPb.len]; exact hlb⟩
  have hIa2 : PairIn w2 pa ha Pa := hIa.other (Kp.of (F := fun _ => False) hf2) (by simp)
  have hdis : ∀ k, Pa k → ¬ Pb k := fun k h1 h2 => by have := hIa.lt k h1; have := hSb k h2; omega
  have hSb' : ∀ k, Pb k → V.heap.size ≤ k := fun k h => by have := hSb k h; have := hf1.size; omega
  have hF2 := gb_trans hf1 hf2
  clear hIa hPb hlb hSb hB1 b1 b3 hf1 hf2
  go_wp2
  go_loopw [5] (fun v wr => ∃ (i : Nat) (Pa Pb : Nat → Prop), i ≤ 300 ∧ v = .int .i64 i ∧ PairIn wr pa ha Pa ∧ PairIn wr pb hbb Pb ∧ (∀ k, Pa k → ¬ Pb k) ∧ (∀ k, Pa k → V.heap.size ≤ k) ∧ (∀ k, Pb k → V.heap.size ≤ k) ∧ V.grownBy wr none) (fun v _ => 300 - (intOf v).toNat)
  case atStart => exact ⟨0, Pa, Pb, by omega, rfl, hIa2, hIb, hdis, hSa, hSb', hF2⟩
  case round =>
    clear hIa2 hIb hdis hSa hSb' hF2
    obtain ⟨i, Pa, Pb, hi, rfl, hA, hB, hdis, hSa, hSb, hF⟩ := hrel
    have hB1 := hB0.kept hF (by simp)
    have b4 := hB1.cell 4
    simp at b4
    by_cases hlt : i < n
    · by_cases h3 : i < 300
      · obtain ⟨b, o, rfl, d, x1, x2, x3, x4, x5, x6, sa, sn, sc, ys, own, ⟨c0, c1, c2, c3, c4, c5, c6, c7, c8⟩, hx, hy, hbs, hsn, hsc⟩ := hin0 i hlt
        have d0 := gb_cellN hF c0
        have d1 := gb_cellN hF c1
        have d2 := gb_cellN hF c2
        have d3 := gb_cellN hF c3
        have d4 := gb_cellN hF c4
        have d5 := gb_cellN hF c5
        have d6 := gb_cellN hF c6
        have d7 := gb_cellN hF c7
        have d8 := gb_cellN hF c8
        have hdi : decide ((i : Int) < n) = true := by simp; omega
        have hd3 : decide ((i : Int) < 300) = true := by simp; omega
        have hii : (0 : Int) ≤ (i : Int) := by omega
        have hin2 : (i : Int) < (n : Int) := by omega
        have hy1 := hy.kept0 hF
        have ha1 := and1 x1
        by_cases hw : x1 % 2 = 1
        · have ht : (bits BinOp.and IntKind.i64 x1 1 == 1) = true := by rw [ha1, hw]; rfl
          clear hw ha1 hin hin0
          go_wp2_with fail
          refine (lays_in hB d x1 x2 x3 x4 x5 x6 sa sn sc ys own hx hy1 hbs hsn hsc (fun h0 k hk hP => by have := hy.lt h0 k hk; have := hSb k hP; omega)).mono ?_
          rintro e w1 ⟨rfl, hM1, hk1⟩
          have hO1 := hA.other hk1 (fun k h1 h2 => hdis k h1 h2)
          have hF1 := hk1.grown hF hSb
          clear d0 d1 d2 d3 d4 d5 d6 d7 d8 b4 hy1 hA hB hF hk1 hB1
          have hB1 := hB0.kept hF1 (by simp)
          have b4 := hB1.cell 4
          simp at b4
          have d0 := gb_cellN hF1 c0
          have d1 := gb_cellN hF1 c1
          have d2 := gb_cellN hF1 c2
          have d3 := gb_cellN hF1 c3
          have d4 := gb_cellN hF1 c4
          have d5 := gb_cellN hF1 c5
          have d6 := gb_cellN hF1 c6
          have d7 := gb_cellN hF1 c7
          have d8 := gb_cellN hF1 c8
          have hy1 := hy.kept0 hF1
          go_wp2_with fail
          refine (tells_in hM1 d x1 x2 x3 x4 x5 x6 sa sn sc ys own hx hy1 hbs hsn hsc).mono ?_
          rintro e w2 ⟨rfl, PM, hM2, hk2, hsub⟩
          have hO2 := hO1.other hk2 (fun k h1 h2 => hdis k h1 h2)
          have hF2 := hk2.grown hF1 hSb
          have hsz := hF1.size
          have hSM : ∀ k, PM k → V.heap.size ≤ k := fun k h => by
            rcases hsub k h with h1 | h1
            · exact hSb k h1
            · omega
          have hOlt := hO1.lt
          clear d0 d1 d2 d3 d4 d5 d6 d7 d8 b4 hy1 hO1 hM1 hF1 hk2 c0 c1 c2 c3 c4 c5 c6 c7 c8
          go_wp2
          go_roundw
          case rel =>
            refine ⟨i + 1, Pa, PM, by omega, by go_num, hO2, hM2, fun k h1 h2 => ?_, hSa, hSM, hF2⟩
            rcases hsub k h2 with h | h
            · exact hdis k h1 h
            · have := hOlt k h1; omega
          case measure => simp [intOf]; omega
        · have ht : (bits BinOp.and IntKind.i64 x1 1 == 1) = false := by rw [ha1]; simpa using hw
          clear hw ha1 hin hin0
          go_wp2_with fail
          refine (lays_in hA d x1 x2 x3 x4 x5 x6 sa sn sc ys own hx hy1 hbs hsn hsc (fun h0 k hk hP => by have := hy.lt h0 k hk; have := hSa k hP; omega)).mono ?_
          rintro e w1 ⟨rfl, hM1, hk1⟩
          have hO1 := hB.other hk1 (fun k h1 h2 => hdis k h2 h1)
          have hF1 := hk1.grown hF hSa
          clear d0 d1 d2 d3 d4 d5 d6 d7 d8 b4 hy1 hA hB hF hk1 hB1
          have hB1 := hB0.kept hF1 (by simp)
          have b4 := hB1.cell 4
          simp at b4
          have d0 := gb_cellN hF1 c0
          have d1 := gb_cellN hF1 c1
          have d2 := gb_cellN hF1 c2
          have d3 := gb_cellN hF1 c3
          have d4 := gb_cellN hF1 c4
          have d5 := gb_cellN hF1 c5
          have d6 := gb_cellN hF1 c6
          have d7 := gb_cellN hF1 c7
          have d8 := gb_cellN hF1 c8
          have hy1 := hy.kept0 hF1
          go_wp2_with fail
          refine (tells_in hM1 d x1 x2 x3 x4 x5 x6 sa sn sc ys own hx hy1 hbs hsn hsc).mono ?_
          rintro e w2 ⟨rfl, PM, hM2, hk2, hsub⟩
          have hO2 := hO1.other hk2 (fun k h1 h2 => hdis k h2 h1)
          have hF2 := hk2.grown hF1 hSa
          have hsz := hF1.size
          have hSM : ∀ k, PM k → V.heap.size ≤ k := fun k h => by
            rcases hsub k h with h1 | h1
            · exact hSa k h1
            · omega
          have hOlt := hO1.lt
          clear d0 d1 d2 d3 d4 d5 d6 d7 d8 b4 hy1 hO1 hM1 hF1 hk2 c0 c1 c2 c3 c4 c5 c6 c7 c8
          go_wp2
          go_roundw
          case rel =>
            refine ⟨i + 1, PM, Pb, by omega, by go_num, hM2, hO2, fun k h1 h2 => ?_, hSM, hSb, hF2⟩
            rcases hsub k h1 with h | h
            · exact hdis k h h2
            · have := hOlt k h2; omega
          case measure => simp [intOf]; omega
      · obtain rfl : i = 300 := by omega
        have hdi : decide ((300 : Int) < n) = true := by simp; omega
        have hlt2 : (300 : Int) < n := by omega
        clear hlt hin hin0 h3 hi
        have q2 := hA.c2
        go_wp2_with fail
        refine (own_in hA).mono ?_
        rintro e w1 ⟨rfl, Pa', hA1, hk1, hs1⟩
        have hB2 := hB.other hk1 (fun k h1 h2 => hdis k h2 h1)
        have hF1 := hk1.grown hF hSa
        have hd1 : ∀ k, Pa' k → ¬ Pb k := fun k h1 h2 => by
          rcases hs1 k h1 with h | h
          · exact hdis k h h2
          · have := hB.lt k h2; omega
        have r2 := hB2.c2
        clear hA q2 hk1 hs1 hB hF b4
        go_wp2_with fail
        refine (own_in hB2).mono ?_
        rintro e w2 ⟨rfl, Pb', hB3, hk2, hs2⟩
        have hA2 := hA1.other hk2 hd1
        have hF2 := hk2.grown hF1 hSb
        clear hA1 hB2 hk2 hs2 hF1 r2
        go_wp2_with fail
        refine (all_in hA2).mono ?_
        rintro e w3 ⟨rfl, hf3⟩
        have hB4 := hB3.other (Kp.of (F := fun _ => False) hf3) (by simp)
        have hF3 := gb_trans hF2 hf3
        clear hA2 hB3 hf3 hF2
        go_wp2_with fail
        refine (all_in hB4).mono ?_
        rintro e w4 ⟨rfl, hf4⟩
        have hF4 := gb_trans hF3 hf4
        clear hB4 hf4 hF3
        go_wp2_with fail
        refine (wakes_any _).mono ?_
        rintro e w5 ⟨rfl, hf5⟩
        go_wp2
        go_ret
        exact ⟨rfl, gb_trans hal (gb_trans hF4 hf5)⟩
    · have hdi : decide ((i : Int) < n) = false := by simp; omega
      have hlt2 : (n : Int) ≤ i := by omega
      clear hin hin0
      have q2 := hA.c2
      go_wp2_with fail
      refine (own_in hA).mono ?_
      rintro e w1 ⟨rfl, Pa', hA1, hk1, hs1⟩
      have hB2 := hB.other hk1 (fun k h1 h2 => hdis k h2 h1)
      have hF1 := hk1.grown hF hSa
      have hd1 : ∀ k, Pa' k → ¬ Pb k := fun k h1 h2 => by
        rcases hs1 k h1 with h | h
        · exact hdis k h h2
        · have := hB.lt k h2; omega
      have r2 := hB2.c2
      clear hA q2 hk1 hs1 hB hF b4
      go_wp2_with fail
      refine (own_in hB2).mono ?_
      rintro e w2 ⟨rfl, Pb', hB3, hk2, hs2⟩
      have hA2 := hA1.other hk2 hd1
      have hF2 := hk2.grown hF1 hSb
      clear hA1 hB2 hk2 hs2 hF1 r2
      go_wp2_with fail
      refine (all_in hA2).mono ?_
      rintro e w3 ⟨rfl, hf3⟩
      have hB4 := hB3.other (Kp.of (F := fun _ => False) hf3) (by simp)
      have hF3 := gb_trans hF2 hf3
      clear hA2 hB3 hf3 hF2
      go_wp2_with fail
      refine (all_in hB4).mono ?_
      rintro e w4 ⟨rfl, hf4⟩
      have hF4 := gb_trans hF3 hf4
      clear hB4 hf4 hF3
      go_wp2_with fail
      refine (wakes_any _).mono ?_
      rintro e w5 ⟨rfl, hf5⟩
      go_wp2
      go_ret
      exact ⟨rfl, gb_trans hal (gb_trans hF4 hf5)⟩

end Go.Proofs.Ytknhoncnaigogaa
