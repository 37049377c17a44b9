import Derived.Test.YtndjimdegkdljaaYs
import Derived.Test.YtndjimdegkdljaaYo
/-
  Two pairs of disks.
-/
namespace Go.Proofs.Ytndjimdegkdljaa
open Go.RowKit Go.MapKept
set_option linter.unusedVariables false
set_option linter.unusedSimpArgs false

theorem and_one (x : Int) : ∃ k : Nat, k < 2 ∧ bits .and .i64 x 1 = (k : Int) := by
  have e : (BitVec.ofInt 64 x &&& BitVec.ofInt 64 1).toNat = (BitVec.ofInt 64 x).toNat % 2 := by
    rw [BitVec.toNat_and]
    exact Nat.and_one_is_mod _
  refine ⟨(BitVec.ofInt 64 x).toNat % 2, by omega, ?_⟩
  show IntKind.wrap .i64 ((BitVec.ofInt 64 x &&& BitVec.ofInt 64 1).toNat : Int) = _
  rw [e]
  rcases Nat.mod_two_eq_zero_or_one (BitVec.ofInt 64 x).toNat with h | h <;> rw [h] <;> decide
theorem alike_dv {w0 w : World} {G : Nat → Prop} {d r : Nat} {M : Md} (D : Dv w0 w G d r M M) (hac : M.acts ≤ 390) :
    Calls Try.prog 10 #[pv d, pv r] w fun e w' => e = .returned (.bool true) ∧ ∃ M', Dv w0 w' G d r M' M' ∧ M'.acts ≤ M.acts := by
  obtain ⟨p, q, rfl, rfl, h3, h4, h5⟩ := D
  refine (alike_10 h3 hac).mono ?_
  rintro e w' ⟨he, M', hD, hM⟩
  exact ⟨he, M', Dv.trans h4 h5 hD, hM⟩
/-- Restart of both, of nothing loose. -/
theorem dv_11 {w0 w : World} {G : Nat → Prop} {d r : Nat} {M : Md} (D : Dv w0 w G d r M M) (hac : M.acts ≤ 390) :
    Calls Try.prog 11 #[pv d, .agg #[.slice none 0 0, .int .i64 0]] w fun e w' => e = .returned (.tuple #[]) ∧ ∃ S, Dv w0 w' G d r (((M.settle (btw 0 M.ch.length).toNat).cutBy S []).wake) M ∧ ∀ k, k ∈ S ↔ ∃ s, (M.settle (btw 0 M.ch.length).toNat).names s = some k := by
  obtain ⟨p, q, rfl, rfl, h3, h4, h5⟩ := D
  refine (restart_11 (ls := []) h3.rp (World.ownsRow_nil _ _ _ _) (by simp [Value.ownBlock]) 0 (fun k => Nat.le_trans (h3.rr.ok.len9 (by omega) k) (by decide))).mono ?_
  rintro e w' ⟨he, p', S, hp, ha, hS⟩
  exact ⟨he, S, Dv.prog h3 h4 h5 hp ha, hS⟩
theorem dv_12g {w0 w : World} {G : Nat → Prop} {d r : Nat} {M N : Md} (D : Dv w0 w G d r M N) (hac : N.acts ≤ 390) :
    Calls Try.prog 12 #[pv r, .agg #[.slice none 0 0, .int .i64 0]] w fun e w' => e = .returned (.tuple #[]) ∧ Dv w0 w' G d r M (((N.settle (btw 0 N.ch.length).toNat).cutBy (dn N.files.length) []).wake) ∧ Kx w w' := by
  refine D.callR fun q' hq hr hc => ?_
  subst hq
  exact rrestart_12 (ls := []) hr (Hin.nil _ _ _) 0 (fun k => Nat.le_trans (hr.ok.len9 (by omega) k) (by decide))
/-- Both restarted tell the same. -/
theorem Dv.both {w0 w : World} {G : Nat → Prop} {d r : Nat} {M : Md} {S : List Nat} (D : Dv w0 w G d r (((M.settle (btw 0 M.ch.length).toNat).cutBy S []).wake) (((M.settle (btw 0 M.ch.length).toNat).cutBy (dn M.files.length) []).wake)) (hS : ∀ k, k ∈ S ↔ ∃ s, (M.settle (btw 0 M.ch.length).toNat).names s = some k) :
    ∃ M', Dv w0 w G d r M' M' ∧ M'.acts = M.acts := ⟨_, Dv.swap (M1 := M.settle (btw 0 M.ch.length).toNat) D rfl hS, rfl⟩

/-- A pair of disks that stand alike, or none: F its blocks. -/
def Sl (w : World) (K : Nat) (F : Nat → Prop) (vd vr : Value) : Prop := (vd = .pointer none ∧ vr = .pointer none) ∨ ∃ p q M, vd = pv p.d ∧ vr = pv q.d ∧ Dz w p q M M ∧ M.acts ≤ K ∧ ∀ b, Both p q b → F b
/-- Two of them, all of whose blocks are at or above z. -/
def S2 (w : World) (z K : Nat) (a0 r0 a1 r1 : Value) : Prop := ∃ F0 F1, Sl w K F0 a0 r0 ∧ Sl w K F1 a1 r1 ∧ (∀ b, F0 b → ¬ F1 b) ∧ (∀ b, F0 b → z ≤ b ∧ b < w.heap.size) ∧ ∀ b, F1 b → z ≤ b ∧ b < w.heap.size
theorem S2.symm {w : World} {z K : Nat} {a0 r0 a1 r1 : Value} (h : S2 w z K a0 r0 a1 r1) : S2 w z K a1 r1 a0 r0 := by
  obtain ⟨F0, F1, h1, h2, h3, h4, h5⟩ := h
  exact ⟨F1, F0, h2, h1, fun b hb hc => h3 b hc hb, h5, h4⟩
theorem Sl.gb {w w' : World} {K K' : Nat} {F : Nat → Prop} {vd vr : Value} (h : Sl w K F vd vr) (g : w.grownBy w' none) (hK : K ≤ K') : Sl w' K' F vd vr := by
  rcases h with h | ⟨p, q, M, h1, h2, h3, h4, h5⟩
  · exact .inl h
  · exact .inr ⟨p, q, M, h1, h2, h3.gb g, by omega, h5⟩
theorem S2.gb {w w' : World} {z K K' : Nat} {a0 r0 a1 r1 : Value} (h : S2 w z K a0 r0 a1 r1) (g : w.grownBy w' none) (hK : K ≤ K') : S2 w' z K' a0 r0 a1 r1 := by
  obtain ⟨F0, F1, h1, h2, h3, h4, h5⟩ := h
  exact ⟨F0, F1, h1.gb g hK, h2.gb g hK, h3, fun b hb => ⟨(h4 b hb).1, Nat.lt_of_lt_of_le (h4 b hb).2 g.size⟩, fun b hb => ⟨(h5 b hb).1, Nat.lt_of_lt_of_le (h5 b hb).2 g.size⟩⟩
/-- A write below z. -/
theorem S2.low {w w' : World} {z K : Nat} {a0 r0 a1 r1 : Value} (h : S2 w z K a0 r0 a1 r1) {F : Nat → Prop} (g : Kp F w w') (hF : ∀ b, F b → b < z) : S2 w' z K a0 r0 a1 r1 := by
  obtain ⟨F0, F1, h1, h2, h3, h4, h5⟩ := h
  have one : ∀ {G : Nat → Prop} {vd vr : Value}, Sl w K G vd vr → (∀ b, G b → z ≤ b) → Sl w' K G vd vr := by
    intro G vd vr hs hG
    rcases hs with hs | ⟨p, q, M, k1, k2, k3, k4, k5⟩
    · exact .inl hs
    · exact .inr ⟨p, q, M, k1, k2, k3.kp g (fun b hb hf => by have := hG b (k5 b hb); have := hF b hf; omega), k4, k5⟩
  exact ⟨F0, F1, one h1 (fun b hb => (h4 b hb).1), one h2 (fun b hb => (h5 b hb).1), h3, fun b hb => ⟨(h4 b hb).1, Nat.lt_of_lt_of_le (h4 b hb).2 g.size⟩, fun b hb => ⟨(h5 b hb).1, Nat.lt_of_lt_of_le (h5 b hb).2 g.size⟩⟩
theorem S2.nil (w : World) (z K : Nat) : S2 w z K (.pointer none) (.pointer none) (.pointer none) (.pointer none) :=
  ⟨fun _ => False, fun _ => False, .inl ⟨rfl, rfl⟩, .inl ⟨rfl, rfl⟩, fun _ h => h.elim, fun _ h => h.elim, fun _ h => h.elim⟩
/-- A pair made. -/
theorem S2.made {w w1 w2 : World} {z K : Nat} {a1 r1 : Value} {p : Pl} {q : Rl} {n : Int} (h : S2 w z K (.pointer none) (.pointer none) a1 r1) (hz : z ≤ w.heap.size)
    (hp : RP w1 p (md0 n)) (g1 : w.grownBy w1 none) (c1 : ∀ b, b < w.heap.size → p.col b = 0) (hq : RR w2 q (md0 n)) (g2 : w1.grownBy w2 none) (c2 : ∀ b, b < w1.heap.size → q.col b = 0) : S2 w2 z K (pv p.d) (pv q.d) a1 r1 := by
  obtain ⟨F0, F1, -, h2, -, -, h5⟩ := h
  have hz1 : Dz w2 p q (md0 n) (md0 n) := ⟨hp.gb g2, hq, fun b hb => c2 b (hp.lt b hb)⟩
  have hlo : ∀ b, Both p q b → w.heap.size ≤ b := by
    rintro b (hb | hb)
    · rcases Nat.lt_or_ge b w.heap.size with hl | hl
      · exact absurd (c1 b hl) hb
      · exact hl
    · rcases Nat.lt_or_ge b w.heap.size with hl | hl
      · exact absurd (c2 b (Nat.lt_of_lt_of_le hl g1.size)) hb
      · exact hl
  refine ⟨Both p q, F1, .inr ⟨p, q, md0 n, rfl, rfl, hz1, Nat.zero_le _, fun _ h => h⟩, h2.gb (gb_trans g1 g2) (Nat.le_refl _), fun b hb hc => ?_, fun b hb => ⟨Nat.le_trans hz (hlo b hb), hz1.lt hb⟩, fun b hb => ⟨(h5 b hb).1, Nat.lt_of_lt_of_le (h5 b hb).2 (gb_trans g1 g2).size⟩⟩
  have := hlo b hb
  have := (h5 b hc).2
  omega
/-- One of the two has done something. -/
theorem S2.after {w w' : World} {z K K' : Nat} {a1 r1 : Value} {F0 F1 : Nat → Prop} {p : Pl} {q : Rl} {M M' : Md} (hz : z ≤ w.heap.size) (h3 : Dz w p q M M) (hF : ∀ b, Both p q b → F0 b) (h1 : Sl w K F1 a1 r1)
    (hd : ∀ b, F0 b → ¬ F1 b) (hl : ∀ b, F0 b → z ≤ b ∧ b < w.heap.size) (hl1 : ∀ b, F1 b → z ≤ b ∧ b < w.heap.size) (D : Dv w w' (Both p q) p.d q.d M' M') (hM : M'.acts ≤ K') (hK : K ≤ K') : S2 w' z K' (pv p.d) (pv q.d) a1 r1 := by
  obtain ⟨p2, q2, e1, e2, k3, k4, k5⟩ := D
  have hb2 : ∀ b, Both p2 q2 b → b < w.heap.size → F0 b := fun b hb hlt => by
    by_cases hB : Both p q b
    · exact hF b hB
    · have := k5 b hlt hB
      rcases hb with hb | hb
      · exact absurd this.1 hb
      · exact absurd this.2 hb
  refine ⟨Both p2 q2, F1, .inr ⟨p2, q2, M', by rw [e1], by rw [e2], k3, hM, fun _ h => h⟩, ?_, fun b hb hc => ?_, fun b hb => ⟨?_, k3.lt hb⟩, fun b hb => ⟨(hl1 b hb).1, Nat.lt_of_lt_of_le (hl1 b hb).2 k4.size⟩⟩
  · rcases h1 with h1 | ⟨p', q', N, m1, m2, m3, m4, m5⟩
    · exact .inl h1
    · exact .inr ⟨p', q', N, m1, m2, m3.kp k4 (fun b hb hB => hd b (hF b hB) (m5 b hb)), by omega, m5⟩
  · have hlt := (hl1 b hc).2
    exact hd b (hb2 b hb hlt) hc
  · rcases Nat.lt_or_ge b w.heap.size with hlt | hlt
    · exact (hl b (hb2 b hb hlt)).1
    · omega
/-- A pair that is there, and what follows of what it does. -/
theorem S2.open {w : World} {z K K' : Nat} {a0 r0 a1 r1 : Value} (h : S2 w z K a0 r0 a1 r1) (hz : z ≤ w.heap.size) (hK : K ≤ K') :
    (a0 = .pointer none ∧ r0 = .pointer none) ∨ ∃ (d r : Nat) (M : Md) (G : Nat → Prop), a0 = pv d ∧ r0 = pv r ∧ M.acts ≤ K ∧ Dv w w G d r M M ∧ (∀ b, G b → z ≤ b) ∧ ∀ (w' : World) (M' : Md), Dv w w' G d r M' M' → M'.acts ≤ K' → S2 w' z K' a0 r0 a1 r1 := by
  obtain ⟨F0, F1, h1, h2, h3, h4, h5⟩ := h
  rcases h1 with h1 | ⟨p, q, M, m1, m2, m3, m4, m5⟩
  · exact .inl h1
  · refine .inr ⟨p.d, q.d, M, Both p q, m1, m2, m4, Dv.start m3, fun b hb => (h4 b (m5 b hb)).1, fun w' M' D hM => ?_⟩
    rw [m1, m2]
    exact S2.after hz m3 m5 h2 h3 h4 h5 D hM hK
/-- What came in lies below z. -/
def loz (z b : Nat) : Nat := if b < z then 0 else 1
/-- A slice of acts that came in. -/
def ActsIn (w : World) (a : Option Addr) (n : Nat) : Prop :=
  ∀ i, i < n → ∃ b o, a = some ⟨b, o, none⟩ ∧ ∃ (on dov cnk : Int) (nm tn bs : Bs) (P : List Flt) (ls : List Int) (ba pa ca : Option Addr) (nb np nl bc pc cc : Nat),
    w.cell? ⟨b, o + i * 8, none⟩ = some (.int .i64 on) ∧ w.cell? ⟨b, o + i * 8 + 1, none⟩ = some (.int .i64 dov) ∧ w.cell? ⟨b, o + i * 8 + 2, none⟩ = some (sv nm) ∧ w.cell? ⟨b, o + i * 8 + 3, none⟩ = some (sv tn) ∧
    w.cell? ⟨b, o + i * 8 + 4, none⟩ = some (.slice ba nb bc) ∧ w.cell? ⟨b, o + i * 8 + 5, none⟩ = some (.slice pa np pc) ∧ w.cell? ⟨b, o + i * 8 + 6, none⟩ = some (.slice ca nl cc) ∧ w.cell? ⟨b, o + i * 8 + 7, none⟩ = some (.int .i64 cnk) ∧
    bs.length = min nb 2097152 ∧ P.length = min np 1000 ∧ ls.length = min nl 10000 ∧ (nb ≤ bc ∧ np ≤ pc ∧ nl ≤ cc ∧ bc ≤ maxLen ∧ pc ≤ maxLen ∧ cc ≤ maxLen) ∧
    Hin w (loz w.heap.size) (.slice ba bs.length bc) bs.length 1 (bs.map b8) ∧ Hin w (loz w.heap.size) (.slice pa P.length pc) P.length 3 (P.flatMap fltL) ∧ Hin w (loz w.heap.size) (.slice ca ls.length cc) ls.length 1 (ls.map (Value.int .i64)) ∧
    nm.length ≤ 140737488351232 ∧ tn.length ≤ 140737488351232
theorem Hin.low {w w' w0 : World} {z : Nat} {v : Value} {n sz : Nat} {xs : List Value} (h : Hin w (loz w.heap.size) v n sz xs) (g : w.grownBy w' none) (h0 : w.heap.size ≤ w0.heap.size) (hz : w.heap.size ≤ z) {G : Nat → Prop} (hG : ∀ b, G b → z ≤ b) : ∀ col : Nat → Nat, (∀ b, b < w0.heap.size → ¬ G b → col b = 0) → Hin w' col v n sz xs :=
  fun col hc => (h.gb g).col (fun b hb hl => by
    unfold loz at hl
    split at hl
    · next hlt => exact hc b (by omega) (fun hGb => by have := hG b hGb; omega)
    · omega)
end Go.Proofs.Ytndjimdegkdljaa
