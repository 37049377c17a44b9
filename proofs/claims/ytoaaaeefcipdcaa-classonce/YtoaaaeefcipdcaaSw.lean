import Derived.Test.YtoaaaeefcipdcaaSu
import Derived.Test.YtoaaaeefcipdcaaSv
/-
  begun, wakes.
-/
namespace Go.Proofs.Ytoaaaeefcipdcaa
open Go.RowKit
set_option linter.unusedVariables false

theorem inv_new {ps m F s0 il n : Nat} (h : Cfg ps m F s0 il) (hn : n ≤ 62) (hc : Cls F (limOf il) s0 n) : Inv (A0 ps m n (chain F (limOf il) s0)) := by
  obtain ⟨bp0, bp1, bp2, bp3⟩ := h.bounds
  have hcf := chain_facts h.good
  have hs := h.good.s64
  refine ⟨⟨hc.1, hn, fun i _ => ?_, fun i _ => ?_, fun i _ => (hcf i).1, fun i j hij hj => chain_lt h.good hc hij hj, h.pw, ⟨h.m1, h.m2⟩⟩, Nat.zero_le _, fun p hp => absurd hp (Nat.not_lt_zero _), fun _ _ => by show 0 < 4294967296; omega, fun c _ x hx => ?_, fun p k hp => absurd hp (Nat.not_lt_zero _), fun c _ => List.nodup_nil, fun c _ => rfl, fun c _ => ?_⟩
  · have := (hcf i).2.1; show 64 ≤ chain F (limOf il) s0 i; omega
  · have := (hcf i).2.2; show chain F (limOf il) s0 i ≤ ps; omega
  · exact absurd hx (by show x ∉ ([] : List Nat); simp)
  · show ([] : List Nat).length + 0 = _ * _
    simp [A0]

/-- What the document's Set is at first. -/
structure IsR0 (w : World) (rb : Nat) (ps m F s0 il n : Nat) (base : Nat) (sv ov rv : Value) : Prop where
  lo : base ≤ rb
  box : Box w 101 rb (rset ps m F s0 il sv ov (.slice none 0 0) rv)
  sz : w.ownsRow base 3 1 sv n (ints (szL F (limOf il) s0 n))
  ow : w.ownsRow base 3 1 ov m (List.replicate m (.int .i64 (-1)))
  rw : w.ownsRow base 46 1 rv n (List.replicate n (.slice none 0 0))
  ne : sv.ownBlock ≠ ov.ownBlock
theorem IsR0.kept {w w' : World} {rb ps m F s0 il n base : Nat} {sv ov rv : Value} (h : IsR0 w rb ps m F s0 il n base sv ov rv) (hf : w.grownBy w' none) : IsR0 w' rb ps m F s0 il n base sv ov rv :=
  ⟨h.lo, h.box.kept hf (by simp), row_kept h.sz hf (by simp), row_kept h.ow hf (by simp), row_kept h.rw hf (by simp), h.ne⟩

set_option maxHeartbeats 2000000 in
theorem begun_ok {ps m F s0 il n : Nat} (h : Cfg ps m F s0 il) (f g : Int) (hn : n ≤ 62) (hc : Cls F (limOf il) s0 n) (hmn : n ≤ m) (hR : Refd ps m F s0 il 0) (w : World) : Calls Try.prog 14 #[cfgV ps m F s0 il f g] w fun y w' => ∃ pb sb G B rb sv ov rv base, y = .returned (.pointer (some ⟨pb, 0, none⟩)) ∧ w.grownBy w' none ∧
    Box w' 96 pb #[.pointer (some ⟨sb, 0, none⟩), .pointer (some ⟨B.ab, 0, none⟩), .pointer (some ⟨rb, 0, none⟩), .slice none 0 0, .slice none 0 0, .slice none 0 0] ∧
    IsS w' sb G B m F s0 il f g (A0 ps m n (chain F (limOf il) s0)) (List.replicate (ps * m) 0) ∧ IsR0 w' rb ps m F s0 il n w.heap.size sv ov rv ∧ (∀ k, G k → base ≤ k ∧ k < pb) ∧ rb < base ∧ (∀ k, sv.ownBlock = some k ∨ ov.ownBlock = some k ∨ rv.ownBlock = some k → k < base) ∧ w.heap.size ≤ base := by
  have hc7 := fun W => config_any ps m F s0 il f g W
  have hrn := fun W => rnew_ok h hn hc hR W
  have hcn := fun W => new_ok h f g hn hc hmn W
  have h7 := C7.box w ps m F s0 il f g
  have hF0 : w.grownBy (w.alloc (.cells #[.int .i64 ps, .int .i64 m, .int .i64 F, .int .i64 s0, .int .i64 il, .int .i64 f, .int .i64 g] 23)) none := World.grownBy_alloc _ _ _
  clear h hc hR
  unfold cfgV at hc7 hcn ⊢
  unfold refV at hc7 hrn
  go_enter Try.func14, Try.ntmps14
  go_wp2_with (first | (go_at_call 11; go_must (refine (hc7 _).mono ?_); rintro y w1 ⟨rfl, hf1⟩; have h71 := h7.kept hf1) | (go_at_call 10; go_must (refine (hrn _).mono ?_); rintro y w2 ⟨rb, sv, ov, rv, rfl, hf2, hlo, hbx, hsv, hov, hrv, hne⟩; have h72 := h71.kept hf2; have h72' := h72; obtain ⟨k0, k1, k2, k3, k4, k5, k6⟩ := h72') | (go_at_call 12; go_must (refine (hcn _).mono ?_); rintro y w3 ⟨sb, G, B, rfl, hf3, hS, hG⟩; have hS' := hS; have hab := hS.sc 7; simp [setC] at hab) | (go_at_call 13; go_must (refine (num_any _ _).mono ?_); rintro y w' ⟨rfl, rfl⟩) | (go_at_call 46; go_must (refine (arena_39 hS').mono ?_); rintro y w' ⟨rfl, rfl⟩) | fail)
  go_ret
  have hbase := hf2.size
  have h1 := hf1.size
  have h0 := hF0.size
  refine ⟨w3.heap.size, sb, G, B, rb, sv, ov, rv, w2.heap.size, rfl, gb_alloc (gb_trans (gb_trans (gb_trans hF0 hf1) hf2) hf3) _, Box.new _ _ _, hS.kept0 (World.grownBy_alloc _ _ _), ?_, fun k hk => ⟨hG k hk, hS.lt k hk⟩, hbx.lt, ?_, by omega⟩
  · exact ((IsR0.mk (by omega) hbx (row_base hsv (by omega)) (row_base hov (by omega)) (row_base hrv (by omega)) hne : IsR0 w2 rb ps m F s0 il n w.heap.size sv ov rv).kept hf3).kept (World.grownBy_alloc _ _ _)
  · rintro k (hk | hk | hk)
    · exact (hsv.lt k hk).2
    · exact (hov.lt k hk).2
    · exact (hrv.lt k hk).2

end Go.Proofs.Ytoaaaeefcipdcaa
