/-
  pair.tells, whole; begun.
-/
import Derived.Test.YtknhoncnaigogaaBp
namespace Go.Proofs.Ytknhoncnaigogaa
open Go.RowKit
set_option linter.unusedVariables false

set_option maxRecDepth 100000 in
set_option maxHeartbeats 4000000 in
theorem tells_any {w : World} {p ab ag rb rg hb : Nat} {F P : Nat → Prop} {ps m : Nat} {zs : List Int} (hP : IsP w p ab ag rb rg hb F P ps m zs) (d x1 x2 x3 x4 x5 x6 : Int) (a : Option Addr) (n c : Nat) (ys : List Int) (own : Bool) (h2 : x2 ≤ 9223372036854775807) (hN : zs.length ≤ 1000000000)
    (hy : Has w a n ys) (hbs : isBytes ys) (hn : n ≤ 140737488351232) (hc : a = none → c = 0) :
    Calls Try.prog 11 #[.pointer (some ⟨p, 0, none⟩), .agg #[.int .i64 d, .int .i64 x1, .int .i64 x2, .int .i64 x3, .int .i64 x4, .int .i64 x5, .int .u64 x6, .slice a n c, .bool own]] w (TellsPost w p ab ag rb rg hb P ps m) := by
  by_cases d1 : d = 1
  · subst d1; exact tells_get hP x1 x2 x3 x4 x5 x6 _ own h2
  by_cases d3 : d = 3
  · subst d3; exact tells_read hP x1 x2 x3 x4 x5 x6 _ own h2 hN
  by_cases d7 : d = 7
  · subst d7; exact tells_same hP x1 x2 x3 x4 x5 x6 a n c ys own h2 hN hy hbs hn hc
  by_cases d8 : d = 8
  · subst d8; exact tells_page hP x1 x2 x3 x4 x5 x6 _ own h2 hN
  unfold TellsPost
  obtain ⟨vs, hvs⟩ : ∃ vs : Array Value, vs = #[.int .i64 d, .int .i64 x1, .int .i64 x2, .int .i64 x3, .int .i64 x4, .int .i64 x5, .int .u64 x6, .slice a n c, .bool own] := ⟨_, rfl⟩
  have e0 : vs[0]? = some (.int .i64 d) := by rw [hvs]; rfl
  rw [← hvs]
  clear hvs
  have hB0 := Box.new w 31 vs
  have hal := World.grownBy_alloc w (.cells vs 31) none
  have hP0 := hP.kept0 hal
  have a0 := (hB0.cell 0).trans e0
  have t1 : (d == 1) = false := by simpa using d1
  have t3 : (d == 3) = false := by simpa using d3
  have t7 : (d == 7) = false := by simpa using d7
  have t8 : (d == 8) = false := by simpa using d8
  clear d1 d3 d7 d8
  go_enter Try.func11, Try.ntmps11
  go_wp2
  go_ret
  exact ⟨rfl, zs, F, P, hP0, Kp.of hal, fun k h => .inl h⟩

theorem begun_done {w w1 w2 : World} {ps m : Nat} {zs : List Int} (hf1 : w.grownBy w1 none) (hA : IsA w1 (w.heap.size + 1) w.heap.size ps m zs) (hf2 : w1.grownBy w2 none) (hR : IsR w2 (w1.heap.size + 1) w1.heap.size ps zs) (hl : zs.length = ps * m) :
    ∃ F P, w.grownBy ((w2.alloc (.cells #[.slice none 0 0, .slice none 0 0, .int .i64 0] 75)).alloc (.cells #[.pointer (some ⟨w.heap.size + 1, 0, none⟩), .pointer (some ⟨w1.heap.size + 1, 0, none⟩), .pointer (some ⟨w2.heap.size, 0, none⟩)] 37)) none ∧
      IsP ((w2.alloc (.cells #[.slice none 0 0, .slice none 0 0, .int .i64 0] 75)).alloc (.cells #[.pointer (some ⟨w.heap.size + 1, 0, none⟩), .pointer (some ⟨w1.heap.size + 1, 0, none⟩), .pointer (some ⟨w2.heap.size, 0, none⟩)] 37)) (w2.heap.size + 1) (w.heap.size + 1) w.heap.size (w1.heap.size + 1) w1.heap.size w2.heap.size F P ps m zs ∧ ∀ k, P k → w.heap.size ≤ k := by
  have h3 := World.grownBy_alloc w2 (.cells #[.slice none 0 0, .slice none 0 0, .int .i64 0] 75) none
  have hb := Box.new w2 75 #[.slice none 0 0, .slice none 0 0, .int .i64 0]
  generalize hW3 : w2.alloc (.cells #[.slice none 0 0, .slice none 0 0, .int .i64 0] 75) = w3 at *
  have hs3 : w3.heap.size = w2.heap.size + 1 := by rw [← hW3]; simp
  have h4 := World.grownBy_alloc w3 (.cells #[.pointer (some ⟨w.heap.size + 1, 0, none⟩), .pointer (some ⟨w1.heap.size + 1, 0, none⟩), .pointer (some ⟨w2.heap.size, 0, none⟩)] 37) none
  have pb := Box.new w3 37 #[.pointer (some ⟨w.heap.size + 1, 0, none⟩), .pointer (some ⟨w1.heap.size + 1, 0, none⟩), .pointer (some ⟨w2.heap.size, 0, none⟩)]
  generalize hW4 : w3.alloc (.cells #[.pointer (some ⟨w.heap.size + 1, 0, none⟩), .pointer (some ⟨w1.heap.size + 1, 0, none⟩), .pointer (some ⟨w2.heap.size, 0, none⟩)] 37) = w4 at *
  have hs4 : w4.heap.size = w3.heap.size + 1 := by rw [← hW4]; simp
  clear hW3 hW4
  rw [hs3] at pb
  have l1 : w.heap.size + 1 < w1.heap.size := lt_of_block hA.hb
  have l2 : w1.heap.size + 1 < w2.heap.size := lt_of_block hR.hb
  have h24 := gb_trans h3 h4
  refine ⟨fun k => k = w2.heap.size, fun k => w.heap.size ≤ k ∧ k < w4.heap.size, gb_trans (gb_trans hf1 hf2) h24, ⟨pb, hA.kept (gb_trans hf2 h24) (by simp) (by simp), hR.kept h24 (by simp) (by simp), hl, held_new (hb.kept h4 (by simp)), by omega, by omega, by omega, fun k hk => by omega, fun k hk => hk.2⟩, fun k hk => hk.1⟩

set_option maxRecDepth 100000 in
set_option maxHeartbeats 4000000 in
theorem begun_any (x y : Int) (w : World) : Calls Try.prog 9 #[.int .i64 x, .int .i64 y] w fun e w' => ∃ p ab ag rb rg hb F P ps m zs, e = .returned (.pointer (some ⟨p, 0, none⟩)) ∧ w.grownBy w' none ∧ IsP w' p ab ag rb rg hb F P ps m zs ∧ zs.length ≤ 1000000000 ∧ ∀ k, P k → w.heap.size ≤ k := by
  go_enter Try.func9, Try.ntmps9
  go_wp2_with fail
  refine (within_ex x 3 (by omega) (by omega) _).mono ?_
  rintro e w' ⟨r, rfl, hw, hr0, hr1⟩
  subst hw
  have h3 : r = 0 ∨ r = 1 ∨ r = 2 := by omega
  clear hr0 hr1
  rcases h3 with rfl | rfl | rfl
  · go_wp2_with fail
    refine (within_ex y 4 (by omega) (by omega) _).mono ?_
    rintro e w' ⟨s, rfl, hw, hs0, hs1⟩
    subst hw
    obtain ⟨m, hm, hm1⟩ : ∃ m : Nat, s = (m : Int) - 1 ∧ (1 ≤ m ∧ m ≤ 4) := ⟨(s + 1).toNat, by omega, by omega⟩
    have hm' : (1 : Int) + (↑m - 1) = m := by omega
    subst hm
    clear hs0 hs1
    go_wp2_with fail
    refine (new_yes 4096 m _ ⟨12, by decide, by omega, by omega⟩ page4096 (by omega)).mono ?_
    rintro e w1 ⟨rfl, hf1, hA⟩
    go_wp2_with (first | (go_at_call 16; refine (num_q _ _).mono ?_; rintro e w' ⟨rfl, hw⟩; subst hw) | fail)
    refine (rnew_any 4096 m _ (by omega) (by omega)).mono ?_
    rintro e w2 ⟨rfl, hf2, hR⟩
    have hl : (List.replicate (4096 * m) (0 : Int)).length = 4096 * m := by simp
    have HD := begun_done hf1 hA hf2 hR hl
    have hle : (List.replicate (4096 * m) (0 : Int)).length ≤ 1000000000 := by rw [hl]; omega
    clear hf1 hA hf2 hR hl
    go_wp2
    go_ret
    obtain ⟨F, P, g1, g2, g3⟩ := HD
    exact ⟨_, _, _, _, _, _, F, P, _, _, _, rfl, g1, g2, hle, g3⟩
  · go_wp2_with fail
    refine (within_ex y 4 (by omega) (by omega) _).mono ?_
    rintro e w' ⟨s, rfl, hw, hs0, hs1⟩
    subst hw
    obtain ⟨m, hm, hm1⟩ : ∃ m : Nat, s = (m : Int) - 1 ∧ (1 ≤ m ∧ m ≤ 4) := ⟨(s + 1).toNat, by omega, by omega⟩
    have hm' : (1 : Int) + (↑m - 1) = m := by omega
    subst hm
    clear hs0 hs1
    go_wp2_with fail
    refine (new_yes 8192 m _ ⟨13, by decide, by omega, by omega⟩ (by kernel_rfl) (by omega)).mono ?_
    rintro e w1 ⟨rfl, hf1, hA⟩
    go_wp2_with (first | (go_at_call 16; refine (num_q _ _).mono ?_; rintro e w' ⟨rfl, hw⟩; subst hw) | fail)
    refine (rnew_any 8192 m _ (by omega) (by omega)).mono ?_
    rintro e w2 ⟨rfl, hf2, hR⟩
    have hl : (List.replicate (8192 * m) (0 : Int)).length = 8192 * m := by simp
    have HD := begun_done hf1 hA hf2 hR hl
    have hle : (List.replicate (8192 * m) (0 : Int)).length ≤ 1000000000 := by rw [hl]; omega
    clear hf1 hA hf2 hR hl
    go_wp2
    go_ret
    obtain ⟨F, P, g1, g2, g3⟩ := HD
    exact ⟨_, _, _, _, _, _, F, P, _, _, _, rfl, g1, g2, hle, g3⟩
  · go_wp2_with fail
    refine (within_ex y 4 (by omega) (by omega) _).mono ?_
    rintro e w' ⟨s, rfl, hw, hs0, hs1⟩
    subst hw
    obtain ⟨m, hm, hm1⟩ : ∃ m : Nat, s = (m : Int) - 1 ∧ (1 ≤ m ∧ m ≤ 4) := ⟨(s + 1).toNat, by omega, by omega⟩
    have hm' : (1 : Int) + (↑m - 1) = m := by omega
    subst hm
    clear hs0 hs1
    go_wp2_with fail
    refine (new_yes 16384 m _ ⟨14, by decide, by omega, by omega⟩ (by kernel_rfl) (by omega)).mono ?_
    rintro e w1 ⟨rfl, hf1, hA⟩
    go_wp2_with (first | (go_at_call 16; refine (num_q _ _).mono ?_; rintro e w' ⟨rfl, hw⟩; subst hw) | fail)
    refine (rnew_any 16384 m _ (by omega) (by omega)).mono ?_
    rintro e w2 ⟨rfl, hf2, hR⟩
    have hl : (List.replicate (16384 * m) (0 : Int)).length = 16384 * m := by simp
    have HD := begun_done hf1 hA hf2 hR hl
    have hle : (List.replicate (16384 * m) (0 : Int)).length ≤ 1000000000 := by rw [hl]; omega
    clear hf1 hA hf2 hR hl
    go_wp2
    go_ret
    obtain ⟨F, P, g1, g2, g3⟩ := HD
    exact ⟨_, _, _, _, _, _, F, P, _, _, _, rfl, g1, g2, hle, g3⟩

end Go.Proofs.Ytknhoncnaigogaa
