import Derived.Test.YtdlaanigfhlolaaGreatVa
import Derived.Test.YtdlaanigfhlolaaGreatRg
/-
  begun.
-/
namespace Go.Proofs.YtdlaanigfhlolaaGreat
open Go.RowKit
set_option linter.unusedVariables false

def wkR : Rb := R0 4096 3 3 (chain 200 (limOf 256) 64)
theorem wkR_fit : RFit wkR := by
  have hz := wk_invA.toSzs
  refine ⟨by decide, by decide, by decide, by decide, fun i => by show 0 < 4294967296; omega, fun i hi => by simp [wkR, R0] at hi, by decide, fun i hi => hz.lo i hi, fun i hi => ?_, by decide, fun i hi => by show ([] : List Nat).length ≤ _; simp⟩
  have := hz.hi i hi
  exact Nat.le_trans this (by decide)

/-- A stage as begun leaves it. -/
structure St0 (w : World) (base st sb : Nat) (G : Nat → Prop) (B : Bl) (zs : List Int) (tb hb : Nat) (mo : Int) (rb : Nat) (Fr : Nat → Prop) (Q : Rl) (qb wb : Nat) (mo2 : Int) (a1 a2 : Nat) : Prop where
  box : Box w 39 st #[.pointer (some ⟨sb, 0, none⟩), .pointer (some ⟨tb, 0, none⟩), .pointer (some ⟨qb, 0, none⟩), .pointer (some ⟨wb, 0, none⟩), .slice none 0 0, .int .i64 0]
  zl : zs.length = 12288
  iss : IsS w sb G B 3 200 64 256 30 30 wkA zs
  ist : IsT w tb hb sb mo 0 16 0 2 (List.replicate 16 0)
  m16 : 16 ≤ mo
  isr : IsR w rb Fr Q 200 64 256 wkR
  isq : IsQ w qb rb (.slice none 0 0) 0 (fun _ => it0)
  bw : Box w 90 wb #[.pointer (some ⟨qb, 0, none⟩), .slice none 0 0, .int .i64 16, .int .i64 mo2, .int .i64 0]
  g1 : ∀ k, G k → base ≤ k ∧ k < a1
  g2 : ∀ k, Fr k → a1 ≤ k ∧ k < a2
  le : base ≤ a1 ∧ a1 ≤ a2
  lo : a2 ≤ tb ∧ a2 ≤ hb ∧ a2 ≤ qb ∧ a2 ≤ wb ∧ a2 ≤ st

set_option maxRecDepth 100000 in
set_option maxHeartbeats 2000000 in
theorem begun0 (w : World) : Calls Tryz.prog 7 #[.int .i64 0] w fun y w' => ∃ st sb G B zs tb hb mo rb Fr Q qb wb mo2 a1 a2, y = .returned (.pointer (some ⟨st, 0, none⟩)) ∧ w.grownBy w' none ∧ St0 w' w.heap.size st sb G B zs tb hb mo rb Fr Q qb wb mo2 a1 a2 := by
  have hcf := fun W => config_0 W
  have hcn := fun W => (new_ok wk_cfg 30 30 (by decide) wk_cls (by decide) W).mono (R' := fun x w' => ∃ sb G B zs, x = .returned (.tuple #[.pointer (some ⟨sb, 0, none⟩), .int .i64 0]) ∧ W.grownBy w' none ∧ zs.length = 12288 ∧ IsS w' sb G B 3 200 64 256 30 30 wkA zs ∧ ∀ k, G k → W.heap.size ≤ k) (by
    rintro x w' ⟨sb, G, B, rfl, hf, hS, hG⟩
    exact ⟨sb, G, B, _, rfl, hf, List.length_replicate, hS, hG⟩)
  have hrn := fun W => (rnew_ok wk_cfg (by decide) wk_cls wk_refd W).mono (R' := fun x w' => ∃ rb Q, x = .returned (.tuple #[.pointer (some ⟨rb, 0, none⟩), .int .i64 0]) ∧ W.grownBy w' none ∧ IsR w' rb (fun k => W.heap.size ≤ k ∧ k < w'.heap.size) Q 200 64 256 wkR) (by
    rintro x w' ⟨rb, sv, ov, rv, rfl, hf, hlo, hbx, hs, ho, hr, hne⟩
    exact ⟨rb, _, rfl, hf, rnew_is hlo hbx hs ho hr hne⟩)
  have htn := fun W sb G B zs (hS : IsS W sb G B 3 200 64 256 30 30 wkA zs) => tnew_ok hS wk_invA.toSzs
  have hn5 := fun W rb Fr Q qb (hS : IsR W rb Fr Q 200 64 256 wkR) (hq : IsQ W qb rb (.slice none 0 0) 0 (fun _ => it0)) => rnew5 hS wkR_fit hq
  unfold cfgV at hcn
  unfold refV at hrn
  change ∀ W, Calls Tryz.prog 27 #[.agg #[.int .i64 4096, .int .i64 3, .int .i64 200, .int .i64 64, .int .i64 256, .int .i64 30, .int .i64 30]] W _ at hcn
  change ∀ W, Calls Tryz.prog 28 #[.agg #[.int .i64 4096, .int .i64 3, .int .i64 200, .int .i64 64, .int .i64 256]] W _ at hrn
  go_enter Tryz.func7, Tryz.ntmps7
  go_wp2_with (first | (go_at_call 26; go_must (refine (hcf _).mono ?_); rintro y w1 ⟨rfl, hf1⟩; (have h71 := C7.box w1 4096 3 200 64 256 30 30)) | (go_at_call 27; go_must (refine (hcn _).mono ?_); rintro y w2 ⟨sb, G, B, zs, rfl, hf2, hzl, hS, hG⟩; (have h72 := h71.kept hf2); (obtain ⟨k0, k1, k2, k3, k4, k5, k6⟩ := h72)) | (go_at_call 28; go_must (refine (hrn _).mono ?_); rintro y w3 ⟨rb, Q, rfl, hf3, hR⟩; (have hS3 := hS.kept0 hf3)) | (go_at_call 13; go_must (refine (num_any _ _).mono ?_); rintro y w' ⟨rfl, rfl⟩) | (go_at_call 29; go_must (refine (htn _ _ _ _ _ hS3).mono ?_); rintro y w4 ⟨tb, hb, mo, rfl, hf4, hl1, hl2, hmo, hT⟩; (have hR4 := hR.kept0 hf4)) | (go_at_call 30; go_must (refine (rnew3 _ _).mono ?_); rintro y w5 ⟨rfl, hf5, hq5⟩; (have hR5 := hR4.kept0 hf5)) | (go_at_call 31; go_must (refine (hn5 _ _ _ _ _ hR5 hq5).mono ?_); rintro y w6 ⟨wb, mo2, rfl, hf6, hl6, hm6, hb6⟩) | fail)
  go_ret
  have hF1 : w.grownBy (w1.alloc (.cells #[.int .i64 4096, .int .i64 3, .int .i64 200, .int .i64 64, .int .i64 256, .int .i64 30, .int .i64 30] 76)) none := gb_alloc hf1 _
  have s1 := hF1.size
  have s2 := hf2.size
  have s3 := hf3.size
  have s4 := hf4.size
  have s5 := hf5.size
  have s6 := hf6.size
  have hal := World.grownBy_alloc w6 (.cells #[.pointer (some ⟨sb, 0, none⟩), .pointer (some ⟨tb, 0, none⟩), .pointer (some ⟨w4.heap.size, 0, none⟩), .pointer (some ⟨wb, 0, none⟩), .slice none 0 0, .int .i64 0] 39) none
  have hb7 := Box.new w6 39 #[.pointer (some ⟨sb, 0, none⟩), .pointer (some ⟨tb, 0, none⟩), .pointer (some ⟨w4.heap.size, 0, none⟩), .pointer (some ⟨wb, 0, none⟩), .slice none 0 0, .int .i64 0]
  have hf47 := gb_trans (gb_trans hf5 hf6) hal
  refine ⟨_, sb, G, B, zs, tb, hb, mo, rb, _, Q, w4.heap.size, wb, mo2, w2.heap.size, w3.heap.size, rfl, gb_trans (gb_trans (gb_trans (gb_trans hF1 hf2) hf3) hf4) hf47, ⟨hb7, hzl, (hS3.kept0 hf4).kept0 hf47, hT.kept0 hf47, by omega, hR4.kept0 hf47, (hq5.kept0 hf6).kept0 hal, hb6.kept hal (by simp), fun k hk => ⟨?_, hS.lt k hk⟩, fun k hk => hk, ⟨by omega, by omega⟩, ⟨by omega, by omega, by omega, by omega, by omega⟩⟩⟩
  have := hG k hk
  omega
end Go.Proofs.YtdlaanigfhlolaaGreat
