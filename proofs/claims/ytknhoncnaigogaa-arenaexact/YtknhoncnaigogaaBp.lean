/-
  pair.tells: Same.
-/
import Derived.Test.YtknhoncnaigogaaBo
namespace Go.Proofs.Ytknhoncnaigogaa
open Go.RowKit
set_option linter.unusedVariables false

set_option maxHeartbeats 1000000 in
theorem same_yes_q {w : World} {b g ps pages : Nat} {zs : List Int} (hA : IsA w b g ps pages zs) (x : Int) (a : Option Addr) (n c : Nat) (ys : List Int) (hy : Has w a n ys) (hb : isBytes ys) (hn : (n : Int) ≤ 9223372036854775807) (ht : There ps zs.length x n) :
    Calls Try.prog 20 #[.pointer (some ⟨b, 0, none⟩), .int .i64 x, .slice a n c] w fun e w' => e = .returned (.bool (decide (cut zs x.toNat n = ys))) ∧ ∃ q, w' = w.drewN q := by
  go_enter Try.func20, Try.ntmps20
  go_wp2_with (first | (go_at_call 55; go_must (refine (hA.part_yes x n ht).mono ?_); rintro e w' ⟨⟨o, rfl, ho⟩, q, rfl⟩) | (go_at_call 56; go_must (refine (equal_56 ((hA.has ht ho).drewN q) (hy.drewN q) (isBytes_cut hA.hz _ _) hb _ _).mono ?_); rintro e w' ⟨rfl, rfl⟩))
  go_ret
  exact ⟨rfl, _, rfl⟩


set_option maxHeartbeats 1000000 in
theorem same_no_q {w : World} {b g ps pages : Nat} {zs : List Int} (hA : IsA w b g ps pages zs) (x : Int) (a : Option Addr) (n c : Nat) (hx : x ≤ 9223372036854775807) (hn : (n : Int) ≤ 9223372036854775807) (ht : ¬ There ps zs.length x n) :
    Calls Try.prog 20 #[.pointer (some ⟨b, 0, none⟩), .int .i64 x, .slice a n c] w fun e w' => e = .returned (.bool false) ∧ ∃ q, w' = w.drewN q := by
  go_enter Try.func20, Try.ntmps20
  go_wp2_with (go_at_call 55; go_must (refine (hA.part_no x n (by omega) ht).mono ?_); rintro e w' ⟨rfl, q, rfl⟩)
  go_ret
  exact ⟨rfl, _, rfl⟩


set_option maxHeartbeats 1000000 in
theorem rsame_yes_q {w : World} {b g ps : Nat} {zs : List Int} (h : IsR w b g ps zs) (x : Int) (a : Option Addr) (n c : Nat) (ys : List Int) (hy : Has w a n ys) (hb : isBytes ys) (hn : (n : Int) ≤ 9223372036854775807) (ht : There ps zs.length x n) :
    Calls Try.prog 47 #[.pointer (some ⟨b, 0, none⟩), .int .i64 x, .slice a n c] w fun e w' => e = .returned (.bool (decide (cut zs x.toNat n = ys))) ∧ ∃ q, w' = w.drewN q := by
  have hN := h.hN
  have c1 := h.c1
  have hTT := ht
  obtain ⟨t1, t2, t3, t4⟩ := ht
  have hl : (x + (n : Int)).toNat - x.toNat = n := by omega
  by_cases hx : zs.length = x.toNat
  · have hx' : zs.length - x.toNat = 0 := by omega
    have hk := h.has hTT (o := 0) (fun h => by omega)
    clear hx
    go_enter Try.func47, Try.ntmps47
    go_wp2_with (first | (go_at_call 71; go_must (refine (h.there_yes x n hTT).mono ?_); rintro e w' ⟨rfl, q, rfl⟩) | fail)
    refine (equal_34 (hk.drewN q) (hy.drewN q) (isBytes_cut h.hz _ _) hb _ _).mono ?_
    rintro e w2 ⟨rfl, rfl⟩
    go_wp2
    go_ret
    exact ⟨rfl, _, rfl⟩
  · have hk := h.has hTT (o := x.toNat) (fun h => rfl)
    go_enter Try.func47, Try.ntmps47
    go_wp2_with (first | (go_at_call 71; go_must (refine (h.there_yes x n hTT).mono ?_); rintro e w' ⟨rfl, q, rfl⟩) | fail)
    refine (equal_34 (hk.drewN q) (hy.drewN q) (isBytes_cut h.hz _ _) hb _ _).mono ?_
    rintro e w2 ⟨rfl, rfl⟩
    go_wp2
    go_ret
    exact ⟨rfl, _, rfl⟩


set_option maxHeartbeats 1000000 in
theorem rsame_no_q {w : World} {b g ps : Nat} {zs : List Int} (h : IsR w b g ps zs) (x : Int) (a : Option Addr) (n c : Nat) (hx : x ≤ 9223372036854775807) (hn : (n : Int) ≤ 9223372036854775807) (ht : ¬ There ps zs.length x n) :
    Calls Try.prog 47 #[.pointer (some ⟨b, 0, none⟩), .int .i64 x, .slice a n c] w fun e w' => e = .returned (.bool false) ∧ ∃ q, w' = w.drewN q := by
  go_enter Try.func47, Try.ntmps47
  go_wp2_with (go_at_call 71; go_must (refine (h.there_no x n hx ht).mono ?_); rintro e w' ⟨rfl, q, rfl⟩)
  go_ret
  exact ⟨rfl, _, rfl⟩


open Classical in
set_option maxHeartbeats 400000 in
theorem pack_same (ps m : Nat) (zs : List Int) (hz : isBytes zs) (x : Int) (hx : x ≤ 9223372036854775807) : ∃ r : List Int → Bool,
    (∀ (w : World) (b g : Nat) (a : Option Addr) (n c : Nat) (ys : List Int), isBytes ys → (n : Int) ≤ 9223372036854775807 → IsA w b g ps m zs → Has w a n ys → Calls Try.prog 20 #[.pointer (some ⟨b, 0, none⟩), .int .i64 x, .slice a n c] w fun e w' => e = .returned (.bool (r ys)) ∧ ∃ q, w' = w.drewN q) ∧
    (∀ (w : World) (b g : Nat) (a : Option Addr) (n c : Nat) (ys : List Int), isBytes ys → (n : Int) ≤ 9223372036854775807 → IsR w b g ps zs → Has w a n ys → Calls Try.prog 47 #[.pointer (some ⟨b, 0, none⟩), .int .i64 x, .slice a n c] w fun e w' => e = .returned (.bool (r ys)) ∧ ∃ q, w' = w.drewN q) := by
  refine ⟨fun ys => if There ps zs.length x ys.length then decide (cut zs x.toNat ys.length = ys) else false, fun w b g a n c ys hb hn h hy => ?_, fun w b g a n c ys hb hn h hy => ?_⟩
  · obtain rfl := hy.1
    by_cases ht : There ps zs.length x ys.length
    · dsimp only; rw [if_pos ht]; exact same_yes_q h x a _ c ys hy hb hn ht
    · dsimp only; rw [if_neg ht]; exact same_no_q h x a _ c hx hn ht
  · obtain rfl := hy.1
    by_cases ht : There ps zs.length x ys.length
    · dsimp only; rw [if_pos ht]; exact rsame_yes_q h x a _ c ys hy hb hn ht
    · dsimp only; rw [if_neg ht]; exact rsame_no_q h x a _ c hx hn ht

theorem IsA.drewN {w : World} {b g ps m : Nat} {zs : List Int} (h : IsA w b g ps m zs) (q : Nat) : IsA (w.drewN q) b g ps m zs := h.same rfl rfl
theorem IsR.drewN {w : World} {b g ps : Nat} {zs : List Int} (h : IsR w b g ps zs) (q : Nat) : IsR (w.drewN q) b g ps zs := h.same rfl rfl

set_option maxRecDepth 100000 in
set_option maxHeartbeats 4000000 in
theorem tells_same {w : World} {p ab ag rb rg hb : Nat} {F P : Nat → Prop} {ps m : Nat} {zs : List Int} (hP : IsP w p ab ag rb rg hb F P ps m zs) (x1 x2 x3 x4 x5 x6 : Int) (a : Option Addr) (n c : Nat) (ys : List Int) (own : Bool) (h2 : x2 ≤ 9223372036854775807) (hN : zs.length ≤ 1000000000)
    (hy : Has w a n ys) (hbs : isBytes ys) (hn : n ≤ 140737488351232) (hc : a = none → c = 0) :
    Calls Try.prog 11 #[.pointer (some ⟨p, 0, none⟩), .agg #[.int .i64 7, .int .i64 x1, .int .i64 x2, .int .i64 x3, .int .i64 x4, .int .i64 x5, .int .u64 x6, .slice a n c, .bool own]] w (TellsPost w p ab ag rb rg hb P ps m) := by
  unfold TellsPost
  obtain ⟨vs, hvs⟩ : ∃ vs : Array Value, vs = #[.int .i64 7, .int .i64 x1, .int .i64 x2, .int .i64 x3, .int .i64 x4, .int .i64 x5, .int .u64 x6, .slice a n c, .bool own] := ⟨_, rfl⟩
  have e0 : vs[0]? = some (.int .i64 7) := by rw [hvs]; rfl
  have e2 : vs[2]? = some (.int .i64 x2) := by rw [hvs]; rfl
  have e7 : vs[7]? = some (.slice a n c) := by rw [hvs]; rfl
  rw [← hvs]
  clear hvs
  have hB0 := Box.new w 31 vs
  have hal := World.grownBy_alloc w (.cells vs 31) none
  have hP0 := hP.kept0 hal
  have hy0 := hy.kept0 hal
  have a0 := (hB0.cell 0).trans e0
  have a7 := (hB0.cell 7).trans e7
  obtain ⟨xs, err, hbx, hlx, _, hcR⟩ := pack_read ps m zs hP.a.hz hN x2 n h2
  unfold TellsR at hcR
  dsimp only at hcR
  obtain ⟨r, hsA, hsR⟩ := pack_same ps m zs hP.a.hz x2 h2
  go_enter Try.func11, Try.ntmps11
  go_wp2_with fail
  refine (lend_any hy0 c hc hn).mono ?_
  rintro e v1 ⟨ao, cap, rfl, hown, hg1⟩
  clear a0 a7 e0
  have hwv := gb_trans hal hg1
  have hP1 := hP0.kept0 hg1
  have hy1 := hy0.kept0 hg1
  have hB1 := hB0.kept hg1 (by simp)
  clear hP0 hy0 hB0 hal hg1
  generalize w.alloc (.cells vs 31) = V at *
  have hll : (ys ++ marksTo 70).length = n + 70 := by rw [List.length_append, hy.1, length_marksTo]
  obtain ⟨gl, rfl, _, hcap, hmx⟩ := hown.shape (by omega)
  have a2 := (hB1.cell 2).trans e2
  have a7 := (hB1.cell 7).trans e7
  have p1 := hP1.box.cell 1
  simp at p1
  have hgd := gb_drew (gb_refl v1 none)
  have hR0 := hP1.r.kept hgd (by simp) (by simp)
  clear hmx hcap
  go_wp2
  go_region_held3 (fun w' => w'.cell? ⟨p, 1, none⟩ = some (.pointer (some ⟨rb, 0, none⟩)) ∧ w'.cell? ⟨w.heap.size, 2, none⟩ = some (.int .i64 x2) ∧ w'.cell? ⟨w.heap.size, 7, none⟩ = some (.slice a n c)) (go_keep) ((go_at_call 45; refine (hcR _ _ _ hR0).mono ?_; rintro e w2 ⟨ao2, cap2, rfl, hf1', hown2⟩; have hf1 := gb_trans hgd hf1'; have t1 := gb_cellN hf1 p1; have t2 := gb_cellN hf1 a2; have t3 := gb_cellN hf1 a7))
  have hP2 := hP1.kept0 hf1
  have hw2 := gb_trans hwv hf1
  have hy2 := hy1.kept0 hf1
  have hown1 := hown.kept hf1 (.inr (by simp [blk]))
  have hth := hown2.has
  have hH1 : Has w2 (some ⟨gl, 0, none⟩) n ys := by
    have hH := hown1.has
    rw [hll] at hH
    have := hH.piece 0 n 0 (by omega) (fun _ => rfl)
    have e : cut (ys ++ marksTo 70) 0 n = ys := by simp [cut, ← hy.1]
    rw [e] at this
    exact this
  have p0 := hP2.box.cell 0
  simp at p0
  have hA2 := hP2.a
  have hR2 := hP2.r
  clear hcR hR0 hf1' p1 a2 a7 hgd hown hy1 hP1 hwv hf1 hB1 hown2
  go_wp2
  obtain ⟨r1, hr1⟩ : ∃ r1, r ys = r1 := ⟨_, rfl⟩
  have hA1q : ∀ q, Calls Try.prog 20 #[.pointer (some ⟨ab, 0, none⟩), .int .i64 x2, .slice (some ⟨gl, 0, none⟩) n cap] (w2.drewN q) fun e w' => e = .returned (.bool r1) ∧ ∃ m, w' = (w2.drewN q).drewN m := fun q => hr1 ▸ hsA _ _ _ _ _ _ _ hbs (by omega) (hA2.drewN q) (hH1.drewN q)
  have hR1q : ∀ q, Calls Try.prog 47 #[.pointer (some ⟨rb, 0, none⟩), .int .i64 x2, .slice a n c] (w2.drewN q) fun e w' => e = .returned (.bool r1) ∧ ∃ m, w' = (w2.drewN q).drewN m := fun q => hr1 ▸ hsR _ _ _ _ _ _ _ hbs (by omega) (hR2.drewN q) (hy2.drewN q)
  obtain ⟨r2, hr2⟩ : ∃ r2, r xs = r2 := ⟨_, rfl⟩
  have hA2q : ∀ q, Calls Try.prog 20 #[.pointer (some ⟨ab, 0, none⟩), .int .i64 x2, .slice ao2 xs.length cap2] (w2.drewN q) fun e w' => e = .returned (.bool r2) ∧ ∃ m, w' = (w2.drewN q).drewN m := fun q => hr2 ▸ hsA _ _ _ _ _ _ _ hbx (by omega) (hA2.drewN q) (hth.drewN q)
  have hR2q : ∀ q, Calls Try.prog 47 #[.pointer (some ⟨rb, 0, none⟩), .int .i64 x2, .slice ao2 xs.length cap2] (w2.drewN q) fun e w' => e = .returned (.bool r2) ∧ ∃ m, w' = (w2.drewN q).drewN m := fun q => hr2 ▸ hsR _ _ _ _ _ _ _ hbx (by omega) (hR2.drewN q) (hth.drewN q)
  clear hsA hsR hr1 hr2 hA2 hR2 hth hH1
  have HP2 : Hid (IsP w2 p ab ag rb rg hb F P ps m zs) := hP2
  have HO1 : Hid (Own V.heap.size w2 (some ⟨gl, 0, none⟩) cap (ys ++ marksTo 70)) := hown1
  have HY2 : Hid (Has w2 a n ys) := hy2
  have HW2 : Hid (w.grownBy w2 none) := hw2
  clear hP2 hown1 hy2 hw2 hP hy hbx hlx h2
  cases r1 <;> cases r2
  all_goals
    go_quiet ((first | (go_at_call 20; with_reducible exact Calls.quiet_of (hA1q _)) | (go_at_call 20; with_reducible exact Calls.quiet_of (hA2q _)) | (go_at_call 47; with_reducible exact Calls.quiet_of (hR1q _)) | (go_at_call 47; with_reducible exact Calls.quiet_of (hR2q _))))
    have hG := gb_drewN (gb_refl w2 none) nq
    have hO := HO1.out.kept hG (.inr (by simp [blk]))
    have hY := HY2.out.kept0 hG
    clear hA1q hA2q hR1q hR2q p0 t1 t2
    go_wp2_with fail
    refine (intact_any hO hY hbs hn).mono ?_
    rintro e w4 ⟨rfl, hf4⟩
    clear hO hY
    go_wp2
    go_ret
    exact ⟨by simp, zs, F, P, (HP2.out.kept0 hG).kept0 hf4, Kp.of (gb_trans (gb_trans HW2.out hG) hf4), fun k h => .inl h⟩

end Go.Proofs.Ytknhoncnaigogaa
