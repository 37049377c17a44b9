/-
  Outcomes: in memory; few.
-/
import Derived.Test.YtonbkpfnpnlkpaaDoorOa
import Derived.Test.YtonbkpfnpnlkpaaDoorU
import Derived.Test.YtonbkpfnpnlkpaaDoorN
namespace Go.Proofs.YtonbkpfnpnlkpaaDoor
open Go.ChangeShapes Go.WideShapes Go.ChangeAt Go.RowKit
set_option linter.unusedVariables false
set_option linter.unusedSimpArgs false
attribute [local go_sem] Oper.semAt_some

theorem Ints.off {w : World} {v : Value} {l : List Int} (h : Ints w v l) {F : Nat → Prop} (hF : ∀ k, F k → w.heap.size ≤ k) : Off v F := by
  obtain ⟨ao, c, rfl, hlc, hc, hx⟩ := h
  intro a n c' e h0 hf
  injection e with e1 e2 e3
  subst e1 e2 e3
  obtain ⟨x, hx0⟩ : ∃ x, l[0]? = some x := ⟨_, List.getElem?_eq_getElem h0⟩
  obtain ⟨g, o, e, hc0⟩ := hx 0 x hx0
  have h1 : g < w.heap.size := World.block_lt_of_cell? _ _ hc0
  have h2 := hF _ hf
  injection e with e
  rw [e] at h2
  have h3 : w.heap.size ≤ g := h2
  omega
theorem Flgs.off {w : World} {v : Value} {l : List Fl} (h : Flgs w v l) {F : Nat → Prop} (hF : ∀ k, F k → w.heap.size ≤ k) : Off v F := by
  obtain ⟨ao, c, rfl, hlc, hc, ha, hx⟩ := h
  intro a n c' e h0 hf
  injection e with e1 e2 e3
  subst e1 e2 e3
  obtain ⟨x, hx0⟩ : ∃ x, l[0]? = some x := ⟨_, List.getElem?_eq_getElem h0⟩
  obtain ⟨g, o, e, hc0, _⟩ := hx 0 x hx0
  have h1 : g < w.heap.size := World.block_lt_of_cell? _ _ hc0
  have h2 := hF _ hf
  injection e with e
  rw [e] at h2
  have h3 : w.heap.size ≤ g := h2
  omega
/-- An outcome. -/
structure Oc where
  c : Cm
  a : An
  y : Value
  m : Mt
  fl : List Fl
  why : List Int
/-- Its cells. -/
def ocL (x : Oc) : List Value := [.int .i64 x.c.verb, .slice x.c.ka x.c.kn x.c.kc, .int .u64 x.c.fl, .int .i64 x.c.ex, .int .u64 x.c.tk, .int .u64 x.c.de, .slice x.c.da x.c.dn x.c.dc, .bool x.c.nr, .bool x.c.lg, .slice x.c.ma x.c.mn x.c.mc, .string x.c.what, .int .i64 x.a.kind, x.a.ent, x.a.num, sv x.a.text, x.a.stats, x.y, .int .i64 x.m.dr, .int .i64 x.m.re, .int .i64 x.m.bu, .int .i64 x.m.li, .int .i64 x.m.lo, .int .i64 x.m.cr]
structure OcOk (w : World) (x : Oc) : Prop where
  a : x.a.Ok
  fl : Flgs w x.c.mt x.fl
  why : Ints w x.y x.why
  m : x.m.Ok
theorem OcOk.kept {w w' : World} {x : Oc} (h : OcOk w x) (hg : w.grownBy w' none) : OcOk w' x :=
  ⟨h.a, h.fl.kept (Kp.of (F := fun _ => False) hg) (fun _ _ _ _ _ h => h), h.why.kept (Kp.of (F := fun _ => False) hg) (fun _ _ _ _ _ h => h), h.m⟩
/-- A row of outcomes. -/
def Ocs (w : World) (v : Value) (l : List Oc) : Prop := ∃ ao c, v = .slice ao l.length c ∧ l.length ≤ c ∧ c ≤ maxLen ∧ ∀ (i : Nat) (x : Oc), l[i]? = some x → OcOk w x ∧ ∃ g o, ao = some ⟨g, o, none⟩ ∧ ∀ (j : Nat) (u : Value), (ocL x)[j]? = some u → w.cell? ⟨g, o + i * 23 + j, none⟩ = some u
theorem drop_take {cs : List Value} {o n j : Nat} {v : Value} (h : ((cs.drop o).take n)[j]? = some v) : cs[o + j]? = some v := by
  rw [List.getElem?_take] at h
  split at h
  · rw [List.getElem?_drop] at h; exact h
  · cases h
theorem cells53 : Tryd.prog.cellsOf 53 = 23 := by kernel_rfl
theorem cells35 : Tryd.prog.cellsOf 35 = 11 := by kernel_rfl
theorem cells39 : Tryd.prog.cellsOf 39 = 5 := by kernel_rfl
theorem cells40 : Tryd.prog.cellsOf 40 = 1 := by kernel_rfl
theorem cells33 : Tryd.prog.cellsOf 33 = 1 := by kernel_rfl
theorem cells42 : Tryd.prog.cellsOf 42 = 6 := by kernel_rfl
section
variable {H : Type} {enc : TypeId × Value → H} {w : World} {base : Nat} {spare : Nat → Bool} {held : Bool}
/-- A command, an answer, a row of numbers, a meter: the cells from o on. -/
theorem open_parts {cs : List Value} {o : Nat} {f1 f2 f3 f4 : Nat} {z1 z2 z3 z4 : DataW H × List MemPlace}
    (h1 : DataW.trod enc Tryd.prog w base spare held f1 35 ((cs.drop o).take 11) = some z1) (h2 : DataW.trod enc Tryd.prog w base spare held f2 39 ((cs.drop (o + 11)).take 5) = some z2) (h3 : DataW.trod enc Tryd.prog w base spare held f3 40 ((cs.drop (o + 16)).take 1) = some z3) (h4 : DataW.trod enc Tryd.prog w base spare held f4 42 ((cs.drop (o + 17)).take 6) = some z4)
    (s1 : ∀ k ∈ z1.1.weights Tryd.prog 35, k ≤ 140737488351232) (s2 : ∀ k ∈ z2.1.weights Tryd.prog 39, k ≤ 140737488351232) :
    ∃ x : Oc, OcOk w x ∧ ∀ (j : Nat) (u : Value), (ocL x)[j]? = some u → cs[o + j]? = some u := by
  obtain ⟨vb, c0, _⟩ := field_int 0 Tryd.underlying35 h1 rfl Tryd.underlying3 (by kernel_rfl)
  obtain ⟨ka, kn, kc, c1⟩ := field_slice 1 Tryd.underlying35 h1 rfl Tryd.underlying31 (by kernel_rfl)
  obtain ⟨fl1, c2, _⟩ := field_int 2 Tryd.underlying35 h1 rfl Tryd.underlying30 (by kernel_rfl)
  obtain ⟨ex, c3, _⟩ := field_int 3 Tryd.underlying35 h1 rfl Tryd.underlying3 (by kernel_rfl)
  obtain ⟨tk, c4, _⟩ := field_int 4 Tryd.underlying35 h1 rfl Tryd.underlying30 (by kernel_rfl)
  obtain ⟨de, c5, _⟩ := field_int 5 Tryd.underlying35 h1 rfl Tryd.underlying30 (by kernel_rfl)
  obtain ⟨da, dn, dc, c6⟩ := field_slice 6 Tryd.underlying35 h1 rfl Tryd.underlying32 (by kernel_rfl)
  obtain ⟨nr, c7⟩ := field_bool 7 Tryd.underlying35 h1 rfl Tryd.underlying4 (by kernel_rfl)
  obtain ⟨lg, c8⟩ := field_bool 8 Tryd.underlying35 h1 rfl Tryd.underlying4 (by kernel_rfl)
  obtain ⟨n9, z9, h9, w9⟩ := field_at 9 Tryd.underlying35 h1 rfl
  have h9 : DataW.trod enc Tryd.prog w base spare held n9 33 ((((cs.drop o).take 11).drop 9).take (Tryd.prog.cellsOf 33)) = some z9 := h9
  rw [cells33] at h9
  obtain ⟨ma, mn, mc, fs, c9, hfs⟩ := open_flags h9 (fun k hk => s1 k (w9 k hk))
  have c9 := one_of c9
  obtain ⟨wt, c10, _⟩ := field_string 10 Tryd.underlying35 h1 rfl Tryd.underlying9 (by kernel_rfl)
  obtain ⟨ak, a0, _⟩ := field_int 0 Tryd.underlying39 h2 rfl Tryd.underlying3 (by kernel_rfl)
  obtain ⟨x1, n1, k1, a1⟩ := field_slice 1 Tryd.underlying39 h2 rfl Tryd.underlying36 (by kernel_rfl)
  obtain ⟨n2, a2, _⟩ := field_int 2 Tryd.underlying39 h2 rfl Tryd.underlying30 (by kernel_rfl)
  obtain ⟨tx, a3, wtx⟩ := field_string 3 Tryd.underlying39 h2 rfl Tryd.underlying9 (by kernel_rfl)
  obtain ⟨x3, n3, k3, a4⟩ := field_slice 4 Tryd.underlying39 h2 rfl Tryd.underlying37 (by kernel_rfl)
  obtain ⟨y, why, hy, hint⟩ := open_why h3
  have hy := one_of hy
  obtain ⟨dr, m0, b0⟩ := field_int 0 Tryd.underlying42 h4 rfl Tryd.underlying3 (by kernel_rfl)
  obtain ⟨re, m1, b1⟩ := field_int 1 Tryd.underlying42 h4 rfl Tryd.underlying3 (by kernel_rfl)
  obtain ⟨bu, m2, _⟩ := field_int 2 Tryd.underlying42 h4 rfl Tryd.underlying3 (by kernel_rfl)
  obtain ⟨li, m3, _⟩ := field_int 3 Tryd.underlying42 h4 rfl Tryd.underlying3 (by kernel_rfl)
  obtain ⟨lo, m4, _⟩ := field_int 4 Tryd.underlying42 h4 rfl Tryd.underlying3 (by kernel_rfl)
  obtain ⟨cr, m5, b5⟩ := field_int 5 Tryd.underlying42 h4 rfl Tryd.underlying3 (by kernel_rfl)
  have hb0 := bounds_i64 b0
  have hb1 := bounds_i64 b1
  have hb5 := bounds_i64 b5
  have htx := s2 _ wtx
  refine ⟨⟨⟨vb, ka, kn, kc, fl1, ex, tk, de, da, dn, dc, nr, lg, ma, mn, mc, ⟨wt.toArray⟩⟩, ⟨ak, .slice x1 n1 k1, .int .u64 n2, tx, .slice x3 n3 k3⟩, y, ⟨dr, re, bu, li, lo, cr⟩, fs, why⟩, ⟨⟨⟨_, _, _, rfl⟩, ⟨_, rfl⟩, ⟨_, _, _, rfl⟩, by simp; omega⟩, hfs, hint, ⟨by simp; omega, by simp; omega, by simp; omega⟩⟩, ?_⟩
  intro j u hu
  have hj : j < 23 := by
    have := (List.getElem?_eq_some_iff.1 hu).1
    simpa [ocL] using this
  have e : ∀ k n : Nat, o + k + n = o + (k + n) := fun k n => by omega
  rcases (by omega : j = 0 ∨ j = 1 ∨ j = 2 ∨ j = 3 ∨ j = 4 ∨ j = 5 ∨ j = 6 ∨ j = 7 ∨ j = 8 ∨ j = 9 ∨ j = 10 ∨ j = 11 ∨ j = 12 ∨ j = 13 ∨ j = 14 ∨ j = 15 ∨ j = 16 ∨ j = 17 ∨ j = 18 ∨ j = 19 ∨ j = 20 ∨ j = 21 ∨ j = 22) with rfl | rfl | rfl | rfl | rfl | rfl | rfl | rfl | rfl | rfl | rfl | rfl | rfl | rfl | rfl | rfl | rfl | rfl | rfl | rfl | rfl | rfl | rfl
  · exact (drop_take c0).trans hu
  · exact (drop_take c1).trans hu
  · exact (drop_take c2).trans hu
  · exact (drop_take c3).trans hu
  · exact (drop_take c4).trans hu
  · exact (drop_take c5).trans hu
  · exact (drop_take c6).trans hu
  · exact (drop_take c7).trans hu
  · exact (drop_take c8).trans hu
  · exact (drop_take c9).trans hu
  · exact (drop_take c10).trans hu
  · rw [← e 11 0]; exact (drop_take a0).trans hu
  · rw [← e 11 1]; exact (drop_take a1).trans hu
  · rw [← e 11 2]; exact (drop_take a2).trans hu
  · rw [← e 11 3]; exact (drop_take a3).trans hu
  · rw [← e 11 4]; exact (drop_take a4).trans hu
  · exact hy.trans hu
  · rw [← e 17 0]; exact (drop_take m0).trans hu
  · rw [← e 17 1]; exact (drop_take m1).trans hu
  · rw [← e 17 2]; exact (drop_take m2).trans hu
  · rw [← e 17 3]; exact (drop_take m3).trans hu
  · rw [← e 17 4]; exact (drop_take m4).trans hu
  · rw [← e 17 5]; exact (drop_take m5).trans hu
set_option maxRecDepth 100000 in
theorem open_outs {r : Reach} {b0 : Nat} {v : Value} {d : DataW H} {p : List MemPlace} (hv : Value.okWide Tryd.prog w r b0 50 v) (h : DataW.Trod enc Tryd.prog w base spare held 50 v d p) (hsz : ∀ k ∈ d.weights Tryd.prog 50, k ≤ 140737488351232) : ∃ l, Ocs w v l := by
  obtain ⟨a, n, c, rfl⟩ := okWide_slice Tryd.underlying50 hv
  obtain ⟨fuel, hf⟩ := h
  have hf' : DataW.trod enc Tryd.prog w base spare held fuel 50 [.slice a n c] = some (d, p) := by simpa [Value.cells] using hf
  rcases Deep.open_slice Tryd.underlying50 hf' with ⟨hcs, _⟩ | ⟨a', len, cap, m, k, D, Pl, hcs, hb, hl, hm, hmm, hx, hel⟩
  · simp only [List.cons.injEq, Value.slice.injEq, and_true] at hcs
    obtain ⟨rfl, rfl, rfl⟩ := hcs
    exact ⟨[], ⟨none, 0, rfl, by simp, by unfold maxLen; omega, by simp⟩⟩
  · simp only [List.cons.injEq, Value.slice.injEq, and_true] at hcs
    obtain ⟨rfl, rfl, rfl⟩ := hcs
    have hlm : n ≤ m := by rw [hmm]; split <;> omega
    have one : ∀ i, ∃ x : Oc, i < n → OcOk w x ∧ ∀ (j : Nat) (u : Value), (ocL x)[j]? = some u → w.cell? ((a'.add (i * 23)).add j) = some u := by
      intro i
      by_cases hi : i < n
      · obtain ⟨cs', hc, ht⟩ := hel i (by omega)
        rw [cells53] at hc
        have hw : ∀ q ∈ (D i).weights Tryd.prog 53, q ≤ 140737488351232 := fun q hq => hsz _ (by
          rw [show d = _ from congrArg Prod.fst hx]
          simp only [DataW.weights, Tryd.underlying50]
          exact List.mem_cons_of_mem _ (List.mem_append_left _ (weightsAll_mem (d := D i) (List.mem_map.2 ⟨i, List.mem_range.2 hi, rfl⟩) _ hq)))
        obtain ⟨f1, z1, h1, w1⟩ := field_at 0 Tryd.underlying53 ht rfl
        obtain ⟨f2, z2, h2, w2⟩ := field_at 1 Tryd.underlying53 ht rfl
        obtain ⟨f3, z3, h3, w3⟩ := field_at 2 Tryd.underlying53 ht rfl
        obtain ⟨f4, z4, h4, w4⟩ := field_at 3 Tryd.underlying53 ht rfl
        have h1 : DataW.trod enc Tryd.prog w base spare held f1 35 ((cs'.drop 0).take (Tryd.prog.cellsOf 35)) = some z1 := h1
        have h2 : DataW.trod enc Tryd.prog w base spare held f2 39 ((cs'.drop 11).take (Tryd.prog.cellsOf 39)) = some z2 := h2
        have h3 : DataW.trod enc Tryd.prog w base spare held f3 40 ((cs'.drop 16).take (Tryd.prog.cellsOf 40)) = some z3 := h3
        have h4 : DataW.trod enc Tryd.prog w base spare held f4 42 ((cs'.drop 17).take (Tryd.prog.cellsOf 42)) = some z4 := h4
        rw [cells35] at h1
        rw [cells39] at h2
        rw [cells40] at h3
        rw [cells42] at h4
        obtain ⟨x, hok, hxc⟩ := open_parts (o := 0) h1 h2 h3 h4 (fun k hk => hw k (w1 k hk)) (fun k hk => hw k (w2 k hk))
        have hcell := World.cells?_some hc
        refine ⟨x, fun _ => ⟨hok, fun j u hu => ?_⟩⟩
        have hj : j < 23 := by
          have := (List.getElem?_eq_some_iff.1 hu).1
          simpa [ocL] using this
        rw [hcell.2.2 j (by omega)]
        have := hxc j u hu
        rw [Nat.zero_add] at this
        exact this
      · exact ⟨⟨⟨0, none, 0, 0, 0, 0, 0, 0, none, 0, 0, false, false, none, 0, 0, ⟨#[]⟩⟩, ⟨0, .bool false, .bool false, [], .bool false⟩, .bool false, ⟨0, 0, 0, 0, 0, 0⟩, [], []⟩, fun h => absurd h hi⟩
    obtain ⟨F, hF⟩ := Classical.axiomOfChoice one
    have hfl : ((List.range n).map F).length = n := by simp
    refine ⟨(List.range n).map F, ⟨some a', c, by rw [hfl], by rw [hfl]; exact hl, by unfold maxLen at hm ⊢; omega, fun i x hi => ?_⟩⟩
    have hil : i < n := by
      have := (List.getElem?_eq_some_iff.1 hi).1
      omega
    obtain ⟨b, o, rfl⟩ : ∃ b o, a' = ⟨b, o, none⟩ := by
      have g0 := (hF 0 (by omega)).2 0 _ rfl
      rw [Deep.add_add, Nat.zero_mul] at g0
      exact plain_of g0
    have := hF i hil
    simp [hil] at hi
    rw [hi] at this
    refine ⟨this.1, b, o, rfl, fun j u hu => ?_⟩
    have := this.2 j u hu
    simp only [Addr.add_mid] at this
    exact this
end
/-- No more than 10000 of a row. -/
def fw (v : Value) : Value := match v with | .slice a n c => .slice a (min n 10000) c | v => v
set_option maxRecDepth 100000 in
set_option maxHeartbeats 4000000 in
theorem few_20 (y : Value) (why : List Int) (w : World) (hy : Ints w y why) : Calls Tryd.prog 20 #[y] w fun e w' => e = .returned (fw y) ∧ w' = w := by
  obtain ⟨ao, c, rfl, hlc, hc, hx⟩ := hy
  unfold maxLen at hc
  have hl : why.length ≤ 9223372036854775807 := by omega
  by_cases h : (10000 : Int) < why.length
  · obtain ⟨g, o, rfl, hcell⟩ := hx 0 why[0] (List.getElem?_eq_getElem (by omega))
    rw [show fw (.slice (some ⟨g, o, none⟩) why.length c) = .slice (some ⟨g, o, none⟩) 10000 c from by simp only [fw]; rw [show min why.length 10000 = 10000 by omega]]
    have d1 : (10000 : Int) ≤ c := by omega
    clear hx
    go_enter Tryd.func20, Tryd.ntmps20
    go_wp2
    go_ret
    exact ⟨rfl, rfl⟩
  · rw [show fw (.slice ao why.length c) = .slice ao why.length c from by simp only [fw]; rw [show min why.length 10000 = why.length by omega]]
    clear hx
    go_enter Tryd.func20, Tryd.ntmps20
    go_wp2
    go_ret
    exact ⟨rfl, rfl⟩
theorem few_ints {w : World} {y : Value} {why : List Int} (hy : Ints w y why) : Ints w (fw y) (why.take 10000) := by
  obtain ⟨ao, c, rfl, hlc, hc, hx⟩ := hy
  refine ⟨ao, c, by simp only [fw, List.length_take, Nat.min_comm], by simp; omega, hc, fun i x hi => ?_⟩
  rw [List.getElem?_take] at hi
  split at hi
  · exact hx i x hi
  · cases hi
end Go.Proofs.YtonbkpfnpnlkpaaDoor
