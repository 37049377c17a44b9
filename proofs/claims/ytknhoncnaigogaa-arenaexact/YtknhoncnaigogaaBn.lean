/-
  pair.lays, whole; pair.tells: Get, Read, Page.
-/
import Derived.Test.YtknhoncnaigogaaBm
namespace Go.Proofs.Ytknhoncnaigogaa
open Go.RowKit
set_option linter.unusedVariables false

set_option maxRecDepth 100000 in
set_option maxHeartbeats 4000000 in
theorem lays_any {w : World} {p ab ag rb rg hb : Nat} {F P : Nat → Prop} {ps m : Nat} {zs : List Int} (hP : IsP w p ab ag rb rg hb F P ps m zs) (d x1 x2 x3 x4 x5 x6 : Int) (a : Option Addr) (n c : Nat) (ys : List Int) (own : Bool) (h2 : x2 ≤ 9223372036854775807) (h3 : x3 ≤ 9223372036854775807) (h6 : 0 ≤ x6 ∧ x6 < 18446744073709551616)
    (hy : Has w a n ys) (hbs : isBytes ys) (hn : n ≤ 140737488351232) (hc : a = none → c = 0) (hfar : 0 < n → ∀ k, blk a = some k → ¬ P k) :
    Calls Try.prog 10 #[.pointer (some ⟨p, 0, none⟩), .agg #[.int .i64 d, .int .i64 x1, .int .i64 x2, .int .i64 x3, .int .i64 x4, .int .i64 x5, .int .u64 x6, .slice a n c, .bool own]] w fun e w' => e = .returned (.bool true) ∧ ∃ zs', IsP w' p ab ag rb rg hb F P ps m zs' ∧ Kp P w w' := by
  by_cases d2 : d = 2
  · subst d2
    have : wd x5 = 1 ∨ wd x5 = 2 ∨ wd x5 = 4 ∨ wd x5 = 8 := isWidth_wd x5
    rcases this with h | h | h | h
    · exact lays_put_1 hP x1 x2 x3 x4 x5 x6 _ own h2 h6 h
    · exact lays_put_2 hP x1 x2 x3 x4 x5 x6 _ own h2 h6 h
    · exact lays_put_4 hP x1 x2 x3 x4 x5 x6 _ own h2 h6 h
    · exact lays_put_8 hP x1 x2 x3 x4 x5 x6 _ own h2 h6 h
  by_cases d4 : d = 4
  · subst d4; exact lays_write hP x1 x2 x3 x4 x5 x6 a n c ys own h2 hy hbs hn hc hfar
  by_cases d5 : d = 5
  · subst d5; exact lays_fill hP x1 x2 x3 x4 x5 x6 _ own h2 h6
  by_cases d6 : d = 6
  · subst d6; exact lays_move hP x1 x2 x3 x4 x5 x6 _ own h2 h3
  obtain ⟨vs, hvs⟩ : ∃ vs : Array Value, vs = #[.int .i64 d, .int .i64 x1, .int .i64 x2, .int .i64 x3, .int .i64 x4, .int .i64 x5, .int .u64 x6, .slice a n c, .bool own] := ⟨_, rfl⟩
  have e0 : vs[0]? = some (.int .i64 d) := by rw [hvs]; rfl
  rw [← hvs]
  clear hvs
  have hB0 := Box.new w 31 vs
  have hal := World.grownBy_alloc w (.cells vs 31) none
  have hP0 := hP.kept0 hal
  have a0 := (hB0.cell 0).trans e0
  have t2 : (d == 2) = false := by simpa using d2
  have t4 : (d == 4) = false := by simpa using d4
  have t5 : (d == 5) = false := by simpa using d5
  have t6 : (d == 6) = false := by simpa using d6
  clear d2 d4 d5 d6
  go_enter Try.func10, Try.ntmps10
  go_wp2
  go_ret
  exact ⟨rfl, zs, hP0, Kp.of hal⟩

theorem pack_get (ps m : Nat) (zs : List Int) (x k : Int) (own : Bool) (hk : isWidth k) (hk8 : 1 ≤ k ∧ k ≤ 8) (hx : x ≤ 9223372036854775807) : ∃ v err,
    (∀ w b g, IsA w b g ps m zs → Calls Try.prog 24 #[.pointer (some ⟨b, 0, none⟩), .int .i64 x, .int .i64 k, .bool own] w fun e w' => e = .returned (.tuple #[.int .u64 v, .int .i64 err]) ∧ w.grownBy w' none) ∧
    (∀ w b g, IsR w b g ps zs → Calls Try.prog 44 #[.pointer (some ⟨b, 0, none⟩), .int .i64 x, .int .i64 k] w fun e w' => e = .returned (.tuple #[.int .u64 v, .int .i64 err]) ∧ w.grownBy w' none) := by
  by_cases ht : There ps zs.length x k
  · exact ⟨_, 0, fun w b g h => get_yes h x k own hk ht, fun w b g h => rget_yes h x k hk8 ht⟩
  · exact ⟨0, 20, fun w b g h => get_no h x k own hk hx ht, fun w b g h => rget_no h x k hx ht⟩

def TellsA (f : FuncId) (args : Nat → Array Value) (ps m : Nat) (zs xs : List Int) (err : Int) : Prop := ∀ w b g, IsA w b g ps m zs → Calls Try.prog f (args b) w fun e w' => ∃ t : Got, t.xs = xs ∧ e = .returned (.tuple #[.slice t.adr xs.length xs.length, .int .i64 err]) ∧ w.grownBy w' none ∧ (t.a = none → xs = []) ∧ ∀ g, t.a = some g → w.heap.size ≤ g ∧ w'.heap[g]? = some (.cells (vals xs) 5 (0, 0))
def TellsR (f : FuncId) (args : Nat → Array Value) (ps : Nat) (zs xs : List Int) (err : Int) : Prop := ∀ w b g, IsR w b g ps zs → Calls Try.prog f (args b) w fun e w' => ∃ ao cap, e = .returned (.tuple #[.slice ao xs.length cap, .int .i64 err]) ∧ w.grownBy w' none ∧ Own w.heap.size w' ao cap xs

theorem pack_read (ps m : Nat) (zs : List Int) (hz : isBytes zs) (hN : zs.length ≤ 1000000000) (x n : Int) (hx : x ≤ 9223372036854775807) : ∃ xs err, isBytes xs ∧ xs.length ≤ 1000000000 ∧
    TellsA 28 (fun b => #[.pointer (some ⟨b, 0, none⟩), .int .i64 x, .int .i64 n]) ps m zs xs err ∧ TellsR 45 (fun b => #[.pointer (some ⟨b, 0, none⟩), .int .i64 x, .int .i64 n]) ps zs xs err := by
  by_cases ht : There ps zs.length x n
  · have hlc : (cut zs x.toNat n.toNat).length = n.toNat := length_cut (by obtain ⟨h1, h2, h3, h4⟩ := ht; omega)
    refine ⟨cut zs x.toNat n.toNat, 0, isBytes_cut hz _ _, by rw [hlc]; obtain ⟨h1, h2, h3, h4⟩ := ht; omega, fun w b g h => (read_yes h x n ht).mono ?_, fun w b g h => (rread_yes h x n ht).mono ?_⟩
    · rintro e w' ⟨rfl, hf, hg⟩
      refine ⟨⟨some w.heap.size, _⟩, rfl, by rw [hlc]; rfl, hf, by simp, fun g hg' => by cases hg'; exact ⟨Nat.le_refl _, hg⟩⟩
    · rintro e w' ⟨ao, cap, rfl, hf, hg⟩
      exact ⟨ao, cap, by rw [hlc], hf, hg⟩
  · refine ⟨[], 20, by simp [isBytes], by simp, fun w b g h => (read_no h x n hx ht).mono ?_, fun w b g h => (rread_no h x n hx ht).mono ?_⟩
    · rintro e w' ⟨rfl, hf⟩
      exact ⟨⟨none, []⟩, rfl, rfl, hf, by simp, by simp⟩
    · rintro e w' ⟨rfl, hf⟩
      exact ⟨none, 0, rfl, hf, Own.nil _ _⟩

theorem pack_page (ps m : Nat) (zs : List Int) (hz : isBytes zs) (hps : ps ≤ 1048576) (hm : zs.length = ps * m) (hmb : m ≤ 1024) (i : Int) : ∃ xs err, isBytes xs ∧ xs.length ≤ 1000000000 ∧
    TellsA 48 (fun b => #[.pointer (some ⟨b, 0, none⟩), .int .i64 i]) ps m zs xs err ∧ TellsR 49 (fun b => #[.pointer (some ⟨b, 0, none⟩), .int .i64 i]) ps zs xs err := by
  by_cases ht : 0 ≤ i ∧ i < m
  · have hlc : (cut zs (i.toNat * ps) ps).length = ps := length_cut (by
      rw [hm]
      have : (i.toNat + 1) * ps ≤ m * ps := Nat.mul_le_mul_right _ (by omega)
      rw [Nat.add_mul, Nat.one_mul] at this
      rw [Nat.mul_comm ps m]; exact this)
    refine ⟨cut zs (i.toNat * ps) ps, 0, isBytes_cut hz _ _, by rw [hlc]; omega, fun w b g h => (page_yes h i ht.1 ht.2).mono ?_, fun w b g h => (rwhole_yes h hm hmb i ht.1 ht.2).mono ?_⟩
    · rintro e w' ⟨rfl, hf, hg⟩
      refine ⟨⟨some w.heap.size, _⟩, rfl, by rw [hlc]; rfl, hf, by simp, fun g hg' => by cases hg'; exact ⟨Nat.le_refl _, hg⟩⟩
    · rintro e w' ⟨ao, cap, rfl, hf, hg⟩
      exact ⟨ao, cap, by rw [hlc], hf, hg⟩
  · have ht' : i < 0 ∨ (m : Int) ≤ i := by omega
    refine ⟨[], 20, by simp [isBytes], by simp, fun w b g h => (page_no h i ht').mono ?_, fun w b g h => (rwhole_no h hm hmb i ht').mono ?_⟩
    · rintro e w' ⟨rfl, rfl⟩
      exact ⟨⟨none, []⟩, rfl, rfl, gb_refl _ _, by simp, by simp⟩
    · rintro e w' ⟨rfl, hf⟩
      exact ⟨none, 0, rfl, hf, Own.nil _ _⟩


/-- What tells of both arenas leaves, and Add. -/
theorem tells_end {w V : World} {p ab ag rb rg hb : Nat} {F P : Nat → Prop} {ps m : Nat} {zs : List Int} (hP : IsP V p ab ag rb rg hb F P ps m zs) (hal : w.grownBy V none) (hPw : ∀ k, P k → k < w.heap.size) {W : World} {t : Got} {F' : Nat → Prop} (hk : Kp (fun k => F k ∨ t.a = some k) V W) (hO : HeldOK W hb F') (hF : ∀ k, F' k → F k ∨ t.a = some k ∨ V.heap.size ≤ k) (ht : ∀ g, t.a = some g → w.heap.size ≤ g) :
    ∃ zs' F' P', IsP W p ab ag rb rg hb F' P' ps m zs' ∧ Kp P w W ∧ ∀ k, P' k → P k ∨ w.heap.size ≤ k := by
  obtain ⟨p1, p2, p3, p4, p5⟩ := hP.inP
  obtain ⟨n1, n2, n3, n4, n5⟩ := hP.nF
  have hsz := hal.size
  have same : ∀ k, P k → ¬ F k → W.heap[k]? = V.heap[k]? := by
    intro k hk1 hk2
    refine hk.block k (hP.lt k hk1) ?_
    rintro (e | e)
    · exact hk2 e
    · have := ht k e; have := hPw k hk1; omega
  have hF' : ∀ k, F' k → F k ∨ w.heap.size ≤ k := by
    intro k h
    rcases hF k h with h | h | h
    · exact .inl h
    · exact .inr (ht k h)
    · exact .inr (by omega)
  have nf : ∀ k, P k → ¬ F k → ¬ F' k := by
    intro k h1 h2 h3
    rcases hF' k h3 with h | h
    · exact h2 h
    · have := hPw k h1; omega
  have hOlt : ∀ k, F' k → k < W.heap.size := by
    obtain ⟨gv, wv, L, M, sz, h1, h2⟩ := hO
    exact h1.inF
  refine ⟨zs, F', fun k => P k ∨ F' k, ⟨?_, hP.a.same (same _ p2 n3) (same _ p3 n1), hP.r.same (same _ p4 n4) (same _ p5 n2), hP.len, hO, hP.ne, ⟨nf _ p3 n1, nf _ p5 n2, nf _ p2 n3, nf _ p4 n4, nf _ p1 n5⟩, ⟨.inl p1, .inl p2, .inl p3, .inl p4, .inl p5⟩, fun k h => .inr h, ?_⟩, ?_, ?_⟩
  · unfold Box; rw [same _ p1 n5]; exact hP.box
  · rintro k (h | h)
    · exact Nat.lt_of_lt_of_le (hP.lt k h) hk.size
    · exact hOlt k h
  · refine (Kp.of (F := P) hal).trans hk (fun i h => h) (fun i h => ?_)
    rcases h with h | h
    · exact .inl (hP.FP i h)
    · exact .inr (ht i h)
  · rintro k (h | h)
    · exact .inl h
    · rcases hF' k h with h | h
      · exact .inl (hP.FP k h)
      · exact .inr h

def TellsPost (w : World) (p ab ag rb rg hb : Nat) (P : Nat → Prop) (ps m : Nat) : Ending → World → Prop := fun e w' => e = .returned (.bool true) ∧ ∃ zs' F' P', IsP w' p ab ag rb rg hb F' P' ps m zs' ∧ Kp P w w' ∧ ∀ k, P' k → P k ∨ w.heap.size ≤ k

set_option maxRecDepth 100000 in
set_option maxHeartbeats 4000000 in
theorem tells_get {w : World} {p ab ag rb rg hb : Nat} {F P : Nat → Prop} {ps m : Nat} {zs : List Int} (hP : IsP w p ab ag rb rg hb F P ps m zs) (x1 x2 x3 x4 x5 x6 : Int) (sv : Value) (own : Bool) (h2 : x2 ≤ 9223372036854775807) :
    Calls Try.prog 11 #[.pointer (some ⟨p, 0, none⟩), .agg #[.int .i64 1, .int .i64 x1, .int .i64 x2, .int .i64 x3, .int .i64 x4, .int .i64 x5, .int .u64 x6, sv, .bool own]] w (TellsPost w p ab ag rb rg hb P ps m) := by
  unfold TellsPost
  obtain ⟨vs, hvs⟩ : ∃ vs : Array Value, vs = #[.int .i64 1, .int .i64 x1, .int .i64 x2, .int .i64 x3, .int .i64 x4, .int .i64 x5, .int .u64 x6, sv, .bool own] := ⟨_, rfl⟩
  have e0 : vs[0]? = some (.int .i64 1) := by rw [hvs]; rfl
  have e2 : vs[2]? = some (.int .i64 x2) := by rw [hvs]; rfl
  have e5 : vs[5]? = some (.int .i64 x5) := by rw [hvs]; rfl
  have e8 : vs[8]? = some (.bool own) := by rw [hvs]; rfl
  rw [← hvs]
  clear hvs
  have hB0 := Box.new w 31 vs
  have hal := World.grownBy_alloc w (.cells vs 31) none
  have hP0 := hP.kept0 hal
  have hPw := hP.lt
  have a0 := (hB0.cell 0).trans e0
  have hw8 : 1 ≤ wd x5 ∧ wd x5 ≤ 8 := by rcases isWidth_wd x5 with h | h | h | h <;> omega
  obtain ⟨v, err, hcA, hcR⟩ := pack_get ps m zs x2 (wd x5) own (isWidth_wd x5) hw8 h2
  go_enter Try.func11, Try.ntmps11
  go_wp2
  clear a0 e0 hP hw8
  have a2 := (hB0.cell 2).trans e2
  have a5 := (hB0.cell 5).trans e5
  have a8 := (hB0.cell 8).trans e8
  generalize w.alloc (.cells vs 31) = V at *
  have p0 := hP0.box.cell 0
  simp at p0
  have hgd := gb_drew (gb_refl V none)
  have hA0 := hP0.a.kept hgd (by simp) (by simp)
  go_region_held3 (fun w' => w'.cell? ⟨p, 0, none⟩ = some (.pointer (some ⟨ab, 0, none⟩)) ∧ w'.cell? ⟨w.heap.size, 2, none⟩ = some (.int .i64 x2) ∧ w'.cell? ⟨w.heap.size, 5, none⟩ = some (.int .i64 x5) ∧ w'.cell? ⟨w.heap.size, 8, none⟩ = some (.bool own)) (go_keep) ((first | (go_at_call 21; refine (widthOf_any _ _).mono ?_; rintro e w' ⟨rfl, rfl⟩) | (go_at_call 24; refine (hcA _ _ _ hA0).mono ?_; rintro e w1 ⟨rfl, hf1'⟩; have hf1 := gb_trans hgd hf1'; have r1 := gb_cellN hf1 p0; have r2 := gb_cellN hf1 a2; have r3 := gb_cellN hf1 a5; have r4 := gb_cellN hf1 a8)))
  have hP1 := hP0.kept0 hf1
  have hw1 := gb_trans hal hf1
  have p1 := hP1.box.cell 1
  simp at p1
  have hge := gb_drew (gb_refl w1 none)
  have hR1d := hP1.r.kept hge (by simp) (by simp)
  clear hcA hA0 hf1' p0 a2 a5 a8 r1 hgd hP0 hal hf1 hB0
  go_wp2
  go_region_held3 (fun w' => w'.cell? ⟨p, 1, none⟩ = some (.pointer (some ⟨rb, 0, none⟩)) ∧ w'.cell? ⟨w.heap.size, 2, none⟩ = some (.int .i64 x2) ∧ w'.cell? ⟨w.heap.size, 5, none⟩ = some (.int .i64 x5)) (go_keep) ((first | (go_at_call 21; refine (widthOf_any _ _).mono ?_; rintro e w' ⟨rfl, rfl⟩) | (go_at_call 44; refine (hcR _ _ _ hR1d).mono ?_; rintro e w2 ⟨rfl, hf2'⟩; have hf2 := gb_trans hge hf2'; have s1 := gb_cellN hf2 p1; have s2 := gb_cellN hf2 r2; have s3 := gb_cellN hf2 r3)))
  go_wp2
  go_ret
  exact ⟨by simp, zs, F, P, hP1.kept0 hf2, Kp.of (gb_trans hw1 hf2), fun k h => .inl h⟩

end Go.Proofs.Ytknhoncnaigogaa
