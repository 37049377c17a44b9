/-
  CountExact.
-/
import Derived.Test.YtonbkpfnpnlkpaaDoorX1
import Derived.Great.Walk
namespace Go.Proofs.YtonbkpfnpnlkpaaDoor
open Go.ChangeShapes Go.WideShapes Go.ChangeAt Go.RowKit
set_option linter.unusedVariables false
set_option linter.unusedSimpArgs false
attribute [local go_sem] Oper.semAt_some

/-- A row of calls. -/
def Oqs (w : World) (v : Value) (l : List Oq) : Prop := ∃ ao c, v = .slice ao l.length c ∧ l.length ≤ c ∧ c ≤ maxLen ∧ ∀ (i : Nat) (x : Oq), l[i]? = some x → OqOk w x ∧ ∃ g o, ao = some ⟨g, o, none⟩ ∧ ∀ (j : Nat) (u : Value), (oqL x)[j]? = some u → w.cell? ⟨g, o + i * 27 + j, none⟩ = some u
theorem cells44 : Tryd.prog.cellsOf 44 = 27 := by kernel_rfl
section
variable {H : Type} {enc : TypeId × Value → H} {w : World} {base : Nat} {spare : Nat → Bool} {held : Bool}
set_option maxRecDepth 100000 in
theorem open_ops {r : Reach} {b0 : Nat} {v : Value} {d : DataW H} {p : List MemPlace} (hv : Value.okWide Tryd.prog w r b0 22 v) (h : DataW.Trod enc Tryd.prog w base spare held 22 v d p) (hsz : ∀ k ∈ d.weights Tryd.prog 22, k ≤ 140737488351232) : ∃ l, Oqs w v l := by
  obtain ⟨a, n, c, rfl⟩ := okWide_slice Tryd.underlying22 hv
  obtain ⟨fuel, hf⟩ := h
  have hf' : DataW.trod enc Tryd.prog w base spare held fuel 22 [.slice a n c] = some (d, p) := by simpa [Value.cells] using hf
  rcases Deep.open_slice Tryd.underlying22 hf' with ⟨hcs, _⟩ | ⟨a', len, cap, m, k, D, Pl, hcs, hb, hl, hm, hmm, hx, hel⟩
  · simp only [List.cons.injEq, Value.slice.injEq, and_true] at hcs
    obtain ⟨rfl, rfl, rfl⟩ := hcs
    exact ⟨[], ⟨none, 0, rfl, by simp, by unfold maxLen; omega, by simp⟩⟩
  · simp only [List.cons.injEq, Value.slice.injEq, and_true] at hcs
    obtain ⟨rfl, rfl, rfl⟩ := hcs
    have hlm : n ≤ m := by rw [hmm]; split <;> omega
    have one : ∀ i, ∃ x : Oq, i < n → OqOk w x ∧ ∀ (j : Nat) (u : Value), (oqL x)[j]? = some u → w.cell? ((a'.add (i * 27)).add j) = some u := by
      intro i
      by_cases hi : i < n
      · obtain ⟨cs', hc, ht⟩ := hel i (by omega)
        rw [cells44] at hc
        have hw : ∀ q ∈ (D i).weights Tryd.prog 44, q ≤ 140737488351232 := fun q hq => hsz _ (by
          rw [show d = _ from congrArg Prod.fst hx]
          simp only [DataW.weights, Tryd.underlying22]
          exact List.mem_cons_of_mem _ (List.mem_append_left _ (weightsAll_mem (d := D i) (List.mem_map.2 ⟨i, List.mem_range.2 hi, rfl⟩) _ hq)))
        obtain ⟨on, c0, _⟩ := field_int 0 Tryd.underlying44 ht rfl Tryd.underlying3 (by kernel_rfl)
        obtain ⟨dd, c1, _⟩ := field_int 1 Tryd.underlying44 ht rfl Tryd.underlying3 (by kernel_rfl)
        obtain ⟨name, c2, _⟩ := field_int 2 Tryd.underlying44 ht rfl Tryd.underlying3 (by kernel_rfl)
        obtain ⟨nz, c3, hb3⟩ := field_int 3 Tryd.underlying44 ht rfl Tryd.underlying30 (by kernel_rfl)
        have hb3 := bounds_u64 hb3
        obtain ⟨f1, z1, h1, w1⟩ := field_at 4 Tryd.underlying44 ht rfl
        obtain ⟨f2, z2, h2, w2⟩ := field_at 5 Tryd.underlying44 ht rfl
        obtain ⟨f3, z3, h3, w3⟩ := field_at 6 Tryd.underlying44 ht rfl
        obtain ⟨f4, z4, h4, w4⟩ := field_at 7 Tryd.underlying44 ht rfl
        have h1 : DataW.trod enc Tryd.prog w base spare held f1 35 ((cs'.drop 4).take (Tryd.prog.cellsOf 35)) = some z1 := h1
        have h2 : DataW.trod enc Tryd.prog w base spare held f2 39 ((cs'.drop 15).take (Tryd.prog.cellsOf 39)) = some z2 := h2
        have h3 : DataW.trod enc Tryd.prog w base spare held f3 40 ((cs'.drop 20).take (Tryd.prog.cellsOf 40)) = some z3 := h3
        have h4 : DataW.trod enc Tryd.prog w base spare held f4 42 ((cs'.drop 21).take (Tryd.prog.cellsOf 42)) = some z4 := h4
        rw [cells35] at h1
        rw [cells39] at h2
        rw [cells40] at h3
        rw [cells42] at h4
        obtain ⟨x, hok, hxc⟩ := open_parts (o := 4) h1 h2 h3 h4 (fun k hk => hw k (w1 k hk)) (fun k hk => hw k (w2 k hk))
        have hcell := World.cells?_some hc
        refine ⟨⟨on, dd, name, nz.toNat, x⟩, fun _ => ⟨⟨hok, by simp; omega⟩, fun j u hu => ?_⟩⟩
        have hj : j < 27 := by
          have := (List.getElem?_eq_some_iff.1 hu).1
          simpa [oqL] using this
        rw [hcell.2.2 j (by omega)]
        rcases (by omega : j = 0 ∨ j = 1 ∨ j = 2 ∨ j = 3 ∨ 4 ≤ j) with rfl | rfl | rfl | rfl | h4j
        · exact c0.trans hu
        · exact c1.trans hu
        · exact c2.trans hu
        · rw [show cs'[3]? = _ from c3, ← hu]
          show some (Value.int .u64 nz) = some (Value.int .u64 ((nz.toNat : Nat) : Int))
          rw [show ((nz.toNat : Nat) : Int) = nz by omega]
        · obtain ⟨q, rfl⟩ : ∃ q, j = 4 + q := ⟨j - 4, by omega⟩
          refine hxc q u ?_
          rw [← hu, Nat.add_comm]; rfl
      · exact ⟨⟨0, 0, 0, 0, ⟨⟨0, none, 0, 0, 0, 0, 0, 0, none, 0, 0, false, false, none, 0, 0, ⟨#[]⟩⟩, ⟨0, .bool false, .bool false, [], .bool false⟩, .bool false, ⟨0, 0, 0, 0, 0, 0⟩, [], []⟩⟩, fun h => absurd h hi⟩
    obtain ⟨F, hF⟩ := Classical.axiomOfChoice one
    have hfl : ((List.range n).map F).length = n := by simp
    refine ⟨(List.range n).map F, ⟨some a', c, by rw [hfl], by rw [hfl]; exact hl, by unfold maxLen at hm ⊢; omega, fun i x hi => ?_⟩⟩
    have hil : i < n := by
      have := (List.getElem?_eq_some_iff.1 hi).1
      omega
    obtain ⟨b, o, rfl⟩ : ∃ b o, a' = ⟨b, o, none⟩ := by
      have g0 := (hF 0 (by omega)).2 0 _ rfl
      rw [Deep.add_add, Nat.zero_mul] at g0
      exact plain_of g0
    have := hF i hil
    simp [hil] at hi
    rw [hi] at this
    refine ⟨this.1, b, o, rfl, fun j u hu => ?_⟩
    have := this.2 j u hu
    simp only [Addr.add_mid] at this
    exact this
end
/-- Where the walk stands: two pairs of boards. -/
structure Ex (w W : World) (B R : Nat → Nat) (sb sr : Nat) : Prop where
  two : ∀ k, k < 2 → ∃ N, Two W (B k) (R k) N
  cb : ∀ k, k < 2 → W.cell? ⟨sb, k, none⟩ = some (.pointer (some ⟨B k, 0, none⟩))
  cr : ∀ k, k < 2 → W.cell? ⟨sr, k, none⟩ = some (.pointer (some ⟨R k, 0, none⟩))
  gb : w.grownBy W none
/-- What keeps the blocks apart. -/
structure Ap (w : World) (B R : Nat → Nat) (sb sr : Nat) : Prop where
  br : ∀ k j, k < 2 → j < 2 → B k ≠ R j
  bb : B 0 ≠ B 1
  rr : R 0 ≠ R 1
  wb : ∀ k, k < 2 → w.heap.size ≤ B k
  wr : ∀ k, k < 2 → w.heap.size ≤ R k
  sb : ∀ k, k < 2 → sb ≠ B k ∧ sb ≠ R k
  sr : ∀ k, k < 2 → sr ≠ B k ∧ sr ≠ R k
theorem Ex.play {w W W' : World} {B R : Nat → Nat} {sb sr : Nat} (h : Ex w W B R sb sr) (a : Ap w B R sb sr) {k : Nat} (hk : k < 2) (ht : ∃ N', Two W' (B k) (R k) N') (kp : Kp (fun x => x = B k ∨ x = R k) W W') : Ex w W' B R sb sr := by
  refine ⟨fun j hj => ?_, fun j hj => kp.cell (h.cb j hj) ?_, fun j hj => kp.cell (h.cr j hj) ?_, ?_⟩
  · by_cases e : j = k
    · subst e; exact ht
    · obtain ⟨N, h1, h2, h3, h4⟩ := h.two j hj
      have n1 : B j ≠ B k := by
        have := a.bb
        rcases (by omega : (j = 0 ∧ k = 1) ∨ (j = 1 ∧ k = 0)) with ⟨rfl, rfl⟩ | ⟨rfl, rfl⟩
        · exact this
        · exact fun e => this e.symm
      have n2 : R j ≠ R k := by
        have := a.rr
        rcases (by omega : (j = 0 ∧ k = 1) ∨ (j = 1 ∧ k = 0)) with ⟨rfl, rfl⟩ | ⟨rfl, rfl⟩
        · exact this
        · exact fun e => this e.symm
      refine ⟨N, kp.box h1 ?_, kp.box h2 ?_, h3, h4⟩
      · rintro (e | e)
        · exact n1 e
        · exact a.br j k hj hk e
      · rintro (e | e)
        · exact a.br k j hk hj e.symm
        · exact n2 e
  · have := a.sb k hk
    rintro (e | e)
    · exact this.1 e
    · exact this.2 e
  · have := a.sr k hk
    rintro (e | e)
    · exact this.1 e
    · exact this.2 e
  · refine ((Kp.of (F := fun x => x = B k ∨ x = R k) h.gb).then kp).grown ?_
    rintro i (rfl | rfl)
    · exact a.wb k hk
    · exact a.wr k hk
theorem Ex.grown {w W W' : World} {B R : Nat → Nat} {sb sr : Nat} (h : Ex w W B R sb sr) (hg : W.grownBy W' none) : Ex w W' B R sb sr :=
  ⟨fun j hj => by obtain ⟨N, h1, h2, h3, h4⟩ := h.two j hj; exact ⟨N, Box.kept h1 hg (by simp), Box.kept h2 hg (by simp), h3, h4⟩, fun j hj => gb_cellN hg (h.cb j hj), fun j hj => gb_cellN hg (h.cr j hj), gb_trans h.gb hg⟩
theorem and_one (x : Int) : ∃ k : Nat, k < 2 ∧ bits .and .i64 x 1 = (k : Int) := by
  have e : (BitVec.ofInt 64 x &&& BitVec.ofInt 64 1).toNat = (BitVec.ofInt 64 x).toNat % 2 := by
    rw [BitVec.toNat_and]
    exact Nat.and_one_is_mod _
  refine ⟨(BitVec.ofInt 64 x).toNat % 2, by omega, ?_⟩
  show IntKind.wrap .i64 ((BitVec.ofInt 64 x &&& BitVec.ofInt 64 1).toNat : Int) = _
  rw [e]
  rcases Nat.mod_two_eq_zero_or_one (BitVec.ofInt 64 x).toNat with h | h <;> rw [h] <;> decide
theorem OqOk.kept {w w' : World} {x : Oq} (h : OqOk w x) (hg : w.grownBy w' none) : OqOk w' x := ⟨h.1.kept hg, h.2⟩
/-- One pair and all. -/
structure Pk (w W : World) (B R : Nat → Nat) (sb sr k : Nat) (N : Cn) : Prop where
  ex : Ex w W B R sb sr
  two : Two W (B k) (R k) N
section
variable {w W W' : World} {B R : Nat → Nat} {sb sr k : Nat} {N : Cn}
theorem Pk.grown (h : Pk w W B R sb sr k N) (hg : W.grownBy W' none) : Pk w W' B R sb sr k N :=
  ⟨h.ex.grown hg, Box.kept h.two.pb hg (by simp), Box.kept h.two.pr hg (by simp), h.two.fit, h.two.ne⟩
theorem Pk.kp (h : Pk w W B R sb sr k N) (a : Ap w B R sb sr) (hk : k < 2) (hb : Bd W' (B k) 0 N) (kp : Kp (· = B k) W W') : Pk w W' B R sb sr k N := by
  have t : Two W' (B k) (R k) N := ⟨hb, Rb.kept h.two.pr kp (fun e => h.two.ne e.symm), h.two.fit, h.two.ne⟩
  exact ⟨h.ex.play a hk ⟨N, t⟩ (kp.mono (fun _ e => Or.inl (Or.inl e))), t⟩
theorem Pk.stats (h : Pk w W B R sb sr k N) (a : Ap w B R sb sr) (hk : k < 2) (hW : Wo w) :
    Calls Tryd.prog 15 #[.pointer (some ⟨B k, 0, none⟩)] W fun e w' => ∃ v, e = .returned v ∧ StP W.heap.size N v w' ∧ Pk w w' B R sb sr k N := by
  have h0 := hW.lt
  have h1 := a.wb k hk
  refine (stats_15 (B k) N W h.two.pb (hW.kept (Kp.of (F := fun _ => False) h.ex.gb) (fun h => h)) (by omega)).mono ?_
  rintro e w' ⟨v, rfl, st, hb, kp⟩
  exact ⟨v, rfl, st, h.kp a hk hb kp⟩
theorem Pk.rstats (h : Pk w W B R sb sr k N) :
    Calls Tryd.prog 16 #[.pointer (some ⟨R k, 0, none⟩)] W fun e w' => ∃ v, e = .returned v ∧ StP W.heap.size N v w' ∧ W.grownBy w' none ∧ Pk w w' B R sb sr k N := by
  refine (rstats_16 (R k) N W h.two.pr).mono ?_
  rintro e w' ⟨v, rfl, st, hg⟩
  exact ⟨v, rfl, st, hg, h.grown hg⟩
theorem Pk.read (h : Pk w W B R sb sr k N) (a : Ap w B R sb sr) (hk : k < 2) (n : Int) :
    Calls Tryd.prog 17 #[.pointer (some ⟨B k, 0, none⟩), .int .i64 n] W fun e w' => e = .returned (.int .u64 (rd N n : Nat)) ∧ Pk w w' B R sb sr k N := by
  refine (read_17 (B k) N n W h.two.pb).mono ?_
  rintro e w' ⟨rfl, hb, kp⟩
  exact ⟨rfl, h.kp a hk hb kp⟩
theorem Pk.rread (h : Pk w W B R sb sr k N) (n : Int) :
    Calls Tryd.prog 18 #[.pointer (some ⟨R k, 0, none⟩), .int .i64 n] W fun e w' => e = .returned (.int .u64 (rd N n : Nat)) ∧ Pk w w' B R sb sr k N := by
  refine (rread_18 (R k) N n W h.two.pr).mono ?_
  rintro e w' ⟨rfl, rfl⟩
  exact ⟨rfl, h⟩
end
set_option maxRecDepth 100000 in
set_option maxHeartbeats 8000000 in
theorem exact_3 (v : Value) (l : List Oq) (w : World) (hW : Wo w) (hv : Oqs w v l) :
    Calls Tryd.prog 3 #[v] w fun e w' => e = .returned (.bool true) ∧ w.grownBy w' none := by
  obtain ⟨ao, c, rfl, hlc, hc, hx⟩ := hv
  unfold maxLen at hc
  have hlen : l.length ≤ 9223372036854775807 := by omega
  have h10 := wakes_10 w hW
  have h00 := hW.lt
  go_enter Tryd.func3, Tryd.ntmps3
  go_wp2_with (go_at_call 10; (with_reducible refine h10.mono ?_); rintro e w1 ⟨rfl, hg1⟩)
  refine (new_11 w1).mono ?_
  rintro e w2 ⟨rfl, ha2, hg2, hs2⟩
  go_wp2_with fail
  refine (new_11 w2).mono ?_
  rintro e w3 ⟨rfl, hb3, hg3, hs3⟩
  go_wp2_with fail
  rw [hs2] at hs3 hb3
  have g4 := World.grownBy_alloc w3 (.cells #[.pointer (some ⟨w1.heap.size, 0, none⟩), .pointer (some ⟨w1.heap.size + 1, 0, none⟩)] 24) none
  have x4 := Box.new w3 24 #[.pointer (some ⟨w1.heap.size, 0, none⟩), .pointer (some ⟨w1.heap.size + 1, 0, none⟩)]
  rw [hs3] at x4
  have s4 : (w3.alloc (.cells #[.pointer (some ⟨w1.heap.size, 0, none⟩), .pointer (some ⟨w1.heap.size + 1, 0, none⟩)] 24)).heap.size = w1.heap.size + 1 + 1 + 1 := by simp [hs3]
  generalize w3.alloc (.cells #[.pointer (some ⟨w1.heap.size, 0, none⟩), .pointer (some ⟨w1.heap.size + 1, 0, none⟩)] 24) = w4 at *
  refine (rnew_12 w4).mono ?_
  rintro e w5 ⟨rfl, hr5, hg5, hs5⟩
  rw [s4] at hr5 hs5
  go_wp2_with fail
  refine (rnew_12 w5).mono ?_
  rintro e w6 ⟨rfl, hr6, hg6, hs6⟩
  rw [hs5] at hr6 hs6
  have g7 := World.grownBy_alloc w6 (.cells #[.pointer (some ⟨w1.heap.size + 1 + 1 + 1, 0, none⟩), .pointer (some ⟨w1.heap.size + 1 + 1 + 1 + 1, 0, none⟩)] 27) none
  have x7 := Box.new w6 27 #[.pointer (some ⟨w1.heap.size + 1 + 1 + 1, 0, none⟩), .pointer (some ⟨w1.heap.size + 1 + 1 + 1 + 1, 0, none⟩)]
  rw [hs6] at x7
  have y7 := ((x4.kept hg5 (by simp)).kept hg6 (by simp)).kept g7 (by simp)
  have cb0 : World.cell? _ ⟨w1.heap.size + 1 + 1, 0, none⟩ = some (.pointer (some ⟨w1.heap.size, 0, none⟩)) := y7.cell 0
  have cb1 : World.cell? _ ⟨w1.heap.size + 1 + 1, 1, none⟩ = some (.pointer (some ⟨w1.heap.size + 1, 0, none⟩)) := y7.cell 1
  have cr0 : World.cell? _ ⟨w1.heap.size + 1 + 1 + 1 + 1 + 1, 0, none⟩ = some (.pointer (some ⟨w1.heap.size + 1 + 1 + 1, 0, none⟩)) := x7.cell 0
  have cr1 : World.cell? _ ⟨w1.heap.size + 1 + 1 + 1 + 1 + 1, 1, none⟩ = some (.pointer (some ⟨w1.heap.size + 1 + 1 + 1 + 1, 0, none⟩)) := x7.cell 1
  have e0 : Bd _ w1.heap.size 0 N0 := Box.kept (Box.kept (Box.kept (Box.kept (Box.kept ha2 hg3 (by simp)) g4 (by simp)) hg5 (by simp)) hg6 (by simp)) g7 (by simp)
  have e1 : Bd _ (w1.heap.size + 1) 0 N0 := Box.kept (Box.kept (Box.kept (Box.kept hb3 g4 (by simp)) hg5 (by simp)) hg6 (by simp)) g7 (by simp)
  have f0 : Rb _ (w1.heap.size + 1 + 1 + 1) N0 := Box.kept (Box.kept hr5 hg6 (by simp)) g7 (by simp)
  have f1 : Rb _ (w1.heap.size + 1 + 1 + 1 + 1) N0 := Box.kept hr6 g7 (by simp)
  have G7 := gb_trans (gb_trans (gb_trans (gb_trans (gb_trans (gb_trans hg1 hg2) hg3) g4) hg5) hg6) g7
  have hn1 := hg1.size
  go_wp2
  generalize w6.alloc (.cells #[.pointer (some ⟨w1.heap.size + 1 + 1 + 1, 0, none⟩), .pointer (some ⟨w1.heap.size + 1 + 1 + 1 + 1, 0, none⟩)] 27) = W7 at *
  obtain ⟨B, hB⟩ : ∃ B : Nat → Nat, B = fun k => w1.heap.size + k := ⟨_, rfl⟩
  obtain ⟨R, hR⟩ : ∃ R : Nat → Nat, R = fun k => w1.heap.size + 3 + k := ⟨_, rfl⟩
  obtain ⟨sb, hsb⟩ : ∃ sb, sb = w1.heap.size + 1 + 1 := ⟨_, rfl⟩
  obtain ⟨sr, hsr⟩ : ∃ sr, sr = w1.heap.size + 1 + 1 + 1 + 1 + 1 := ⟨_, rfl⟩
  have hA : Ap w B R sb sr := by
    subst hB hR hsb hsr
    exact ⟨fun k j hk hj => by show _ + _ ≠ _ + _ + _; omega, by show _ + _ ≠ _ + _; omega, by show _ + _ + _ ≠ _ + _ + _; omega, fun k hk => by show _ ≤ _ + _; omega, fun k hk => by show _ ≤ _ + _ + _; omega, fun k hk => by constructor <;> (show _ ≠ _; simp; omega), fun k hk => by constructor <;> (show _ ≠ _; simp; omega)⟩
  have hE : Ex w W7 B R sb sr := by
    subst hB hR hsb hsr
    refine ⟨fun k hk => ?_, fun k hk => ?_, fun k hk => ?_, G7⟩
    · rcases (by omega : k = 0 ∨ k = 1) with rfl | rfl
      · exact ⟨N0, e0, f0, N0_fit, by simp⟩
      · exact ⟨N0, e1, f1, N0_fit, by simp⟩
    · rcases (by omega : k = 0 ∨ k = 1) with rfl | rfl
      · exact cb0
      · exact cb1
    · rcases (by omega : k = 0 ∨ k = 1) with rfl | rfl
      · exact cr0
      · exact cr1
  rw [← hsr, ← hsb]
  clear hB hR hsb hsr cb0 cb1 cr0 cr1 e0 e1 f0 f1 x7 y7 x4 g7 g4
  go_loopw [5] (fun v wr => ∃ i : Nat, i ≤ l.length ∧ i ≤ 2000 ∧ v = .int .i64 i ∧ Ex w wr B R sb sr) (fun v _ => l.length - (intOf v).toNat)
  case atStart => exact ⟨0, by omega, by omega, rfl, hE⟩
  case round =>
    obtain ⟨i, hi, hi2, rfl, E⟩ := hrel
    have Wr := hW.kept (Kp.of (F := fun _ => False) E.gb) (fun h => h)
    rcases (by omega : (i < l.length ∧ i < 2000) ∨ ¬ (i < l.length ∧ i < 2000)) with ⟨hlt, hlt2⟩ | hend
    · obtain ⟨x, hxi⟩ : ∃ x, l[i]? = some x := ⟨_, List.getElem?_eq_getElem hlt⟩
      obtain ⟨ok, g, o, rfl, hcells⟩ := hx i x hxi
      have hgw : g < w.heap.size := World.block_lt_of_cell? _ _ (hcells 0 _ rfl)
      have d1 : (i : Int) < l.length := by omega
      have d2 : (i : Int) < 2000 := by omega
      clear hx hE
      have s0 : wr.cell? ⟨g, o + i * 27, none⟩ = some (.int .i64 x.on) := gb_cellN E.gb (hcells 0 _ rfl)
      have rg : wr.rangeAt g (o + i * 27) (oqL x) := fun j u hu => gb_cellN E.gb (hcells j u hu)
      go_wp2_with fail
      obtain ⟨kk, hk2, hkk⟩ := and_one x.on
      rw [hkk]
      have pb := E.cb kk hk2
      have pr := E.cr kk hk2
      obtain ⟨N, hT⟩ := E.two kk hk2
      have b1 := hA.wb kk hk2
      have b2 := hA.wr kk hk2
      have hgk : ¬ (g = B kk ∨ g = R kk) := by omega
      have nb : ¬ (sb = B kk ∨ sb = R kk) := fun h => h.elim (hA.sb kk hk2).1 (hA.sb kk hk2).2
      have nr' : ¬ (sr = B kk ∨ sr = R kk) := fun h => h.elim (hA.sr kk hk2).1 (hA.sr kk hk2).2
      have h13 := fun (X : World) (hX : wr.grownBy X none) => plays_13 (B kk) (R kk) N x X ⟨Box.kept hT.pb hX (by simp), Box.kept hT.pr hX (by simp), hT.fit, hT.ne⟩ (ok.kept (gb_trans E.gb hX)) (hW.kept (Kp.of (F := fun _ => False) (gb_trans E.gb hX)) (fun h => h)) (by omega) (by omega) (fun k hk => ok.1.fl.off (fun j hj => by omega)) (fun k hk => ok.1.why.off (fun j hj => by omega))
      have hkz : ((kk : Nat) : Int) < 2 := by omega
      have hsz : (Tryd.prog.info? 44).map (·.size) = some (oqL x).length := by simp only [oqL, List.length]; kernel_rfl
      clear hcells hkk
      refine wp_region_noPanic ?_
      refine wp_region_held_drew (S := fun X => X.cell? ⟨sb, kk, none⟩ = some (.pointer (some ⟨B kk, 0, none⟩)) ∧ X.cell? ⟨sr, kk, none⟩ = some (.pointer (some ⟨R kk, 0, none⟩)) ∧ X.rangeAt g (o + i * 27) (oqL x)) (by kernel_rfl) ?_ (fun hHeld0 => ?_)
      · exact ⟨gb_cellN (gb_drew (gb_refl wr none)) pb, gb_cellN (gb_drew (gb_refl wr none)) pr, fun j u hu => gb_cellN (gb_drew (gb_refl wr none)) (rg j u hu)⟩
      refine wpAnyH_take (i := 0) (oi := { dst := some 43, op := Op.move (Operand.tmp 3), type := 26, pos := _, after := #[], guard := none }) (v := ?_) rfl (by kernel_rfl) (by kernel_rfl) (by kernel_rfl) (fun _ _ _ h => h) (Or.inl ⟨by rfl, ?_⟩) (by first | trivial | assumption) ?_
      rotate_left 1
      · (intro W hSw; obtain ⟨q0, q1, q2⟩ := hSw; go_simp; (try (with_reducible rfl)))
      try simp only [Act.put, List.setIfInBounds_toArray, List.set_cons_zero, List.set_cons_succ]
      refine wpAnyH_take (i := 1) (oi := { dst := some 44, op := Op.move (Operand.tmp 6), type := 3, pos := _, after := #[], guard := none }) (v := ?_) rfl (by kernel_rfl) (by kernel_rfl) (by kernel_rfl) (fun _ _ _ h => h) (Or.inl ⟨by rfl, ?_⟩) (by first | trivial | assumption) ?_
      rotate_left 1
      · (intro W hSw; obtain ⟨q0, q1, q2⟩ := hSw; go_simp; (try (with_reducible rfl)))
      try simp only [Act.put, List.setIfInBounds_toArray, List.set_cons_zero, List.set_cons_succ]
      refine wpAnyH_take (i := 2) (oi := { dst := some 45, op := Op.indexAddr 26 (Operand.tmp 43) (Operand.tmp 44), type := 0, pos := _, after := #[{ on := 0, ground := Ground.data }, { on := 1, ground := Ground.data }], guard := none }) (v := ?_) rfl (by kernel_rfl) (by kernel_rfl) (by kernel_rfl) (fun _ _ _ h => h) (Or.inl ⟨by rfl, ?_⟩) (by first | trivial | assumption) ?_
      rotate_left 1
      · (intro W hSw; obtain ⟨q0, q1, q2⟩ := hSw; go_simp; (try (with_reducible rfl)))
      try simp only [Act.put, List.setIfInBounds_toArray, List.set_cons_zero, List.set_cons_succ]
      refine wpAnyH_take (i := 3) (oi := { dst := some 46, op := Op.load 24 (Operand.tmp 45), type := 24, pos := _, after := #[{ on := 2, ground := Ground.data }], guard := none }) (v := ?_) rfl (by kernel_rfl) (by kernel_rfl) (by kernel_rfl) (fun _ _ _ h => h) (Or.inl ⟨by rfl, ?_⟩) (by first | trivial | assumption) ?_
      rotate_left 1
      · (intro W hSw; obtain ⟨q0, q1, q2⟩ := hSw; go_simp; (try (with_reducible rfl)))
      try simp only [Act.put, List.setIfInBounds_toArray, List.set_cons_zero, List.set_cons_succ]
      refine wpAnyH_take (i := 4) (oi := { dst := some 47, op := Op.move (Operand.tmp 4), type := 29, pos := _, after := #[], guard := none }) (v := ?_) rfl (by kernel_rfl) (by kernel_rfl) (by kernel_rfl) (fun _ _ _ h => h) (Or.inl ⟨by rfl, ?_⟩) (by first | trivial | assumption) ?_
      rotate_left 1
      · (intro W hSw; obtain ⟨q0, q1, q2⟩ := hSw; go_simp; (try (with_reducible rfl)))
      try simp only [Act.put, List.setIfInBounds_toArray, List.set_cons_zero, List.set_cons_succ]
      refine wpAnyH_take (i := 5) (oi := { dst := some 48, op := Op.move (Operand.tmp 6), type := 3, pos := _, after := #[], guard := none }) (v := ?_) rfl (by kernel_rfl) (by kernel_rfl) (by kernel_rfl) (fun _ _ _ h => h) (Or.inl ⟨by rfl, ?_⟩) (by first | trivial | assumption) ?_
      rotate_left 1
      · (intro W hSw; obtain ⟨q0, q1, q2⟩ := hSw; go_simp; (try (with_reducible rfl)))
      try simp only [Act.put, List.setIfInBounds_toArray, List.set_cons_zero, List.set_cons_succ]
      refine wpAnyH_take (i := 6) (oi := { dst := some 49, op := Op.indexAddr 29 (Operand.tmp 47) (Operand.tmp 48), type := 0, pos := _, after := #[{ on := 4, ground := Ground.data }, { on := 5, ground := Ground.data }], guard := none }) (v := ?_) rfl (by kernel_rfl) (by kernel_rfl) (by kernel_rfl) (fun _ _ _ h => h) (Or.inl ⟨by rfl, ?_⟩) (by first | trivial | assumption) ?_
      rotate_left 1
      · (intro W hSw; obtain ⟨q0, q1, q2⟩ := hSw; go_simp; (try (with_reducible rfl)))
      try simp only [Act.put, List.setIfInBounds_toArray, List.set_cons_zero, List.set_cons_succ]
      refine wpAnyH_take (i := 7) (oi := { dst := some 50, op := Op.load 27 (Operand.tmp 49), type := 27, pos := _, after := #[{ on := 6, ground := Ground.data }], guard := none }) (v := ?_) rfl (by kernel_rfl) (by kernel_rfl) (by kernel_rfl) (fun _ _ _ h => h) (Or.inl ⟨by rfl, ?_⟩) (by first | trivial | assumption) ?_
      rotate_left 1
      · (intro W hSw; obtain ⟨q0, q1, q2⟩ := hSw; go_simp; (try (with_reducible rfl)))
      try simp only [Act.put, List.setIfInBounds_toArray, List.set_cons_zero, List.set_cons_succ]
      refine wpAnyH_take (i := 8) (oi := { dst := some 51, op := Op.move (Operand.tmp 0), type := 22, pos := _, after := #[], guard := none }) (v := ?_) rfl (by kernel_rfl) (by kernel_rfl) (by kernel_rfl) (fun _ _ _ h => h) (Or.inl ⟨by rfl, ?_⟩) (by first | trivial | assumption) ?_
      rotate_left 1
      · (intro W hSw; obtain ⟨q0, q1, q2⟩ := hSw; go_simp; (try (with_reducible rfl)))
      try simp only [Act.put, List.setIfInBounds_toArray, List.set_cons_zero, List.set_cons_succ]
      refine wpAnyH_take (i := 9) (oi := { dst := some 52, op := Op.move (Operand.tmp 5), type := 3, pos := _, after := #[], guard := none }) (v := ?_) rfl (by kernel_rfl) (by kernel_rfl) (by kernel_rfl) (fun _ _ _ h => h) (Or.inl ⟨by rfl, ?_⟩) (by first | trivial | assumption) ?_
      rotate_left 1
      · (intro W hSw; obtain ⟨q0, q1, q2⟩ := hSw; go_simp; (try (with_reducible rfl)))
      try simp only [Act.put, List.setIfInBounds_toArray, List.set_cons_zero, List.set_cons_succ]
      refine wpAnyH_take (i := 10) (oi := { dst := some 53, op := Op.indexAddr 22 (Operand.tmp 51) (Operand.tmp 52), type := 0, pos := _, after := #[{ on := 8, ground := Ground.data }, { on := 9, ground := Ground.data }], guard := none }) (v := ?_) rfl (by kernel_rfl) (by kernel_rfl) (by kernel_rfl) (fun _ _ _ h => h) (Or.inl ⟨by rfl, ?_⟩) (by first | trivial | assumption) ?_
      rotate_left 1
      · (intro W hSw; obtain ⟨q0, q1, q2⟩ := hSw; go_simp; (try (with_reducible rfl)))
      try simp only [Act.put, List.setIfInBounds_toArray, List.set_cons_zero, List.set_cons_succ]
      refine wpAnyH_take (i := 11) (oi := { dst := some 54, op := Op.load 44 (Operand.tmp 53), type := 44, pos := _, after := #[{ on := 10, ground := Ground.data }], guard := none }) (v := _) rfl (by kernel_rfl) (by kernel_rfl) (by kernel_rfl) (fun _ _ _ h => h) (yieldsIf_load_mid (by rfl) _ _ rfl g (o + i * 27) rfl (oqL x) _ (fun w h => h.2.2) Tryd.underlying44 rfl hsz) (by assumption) ?_
      try simp only [Act.put, List.setIfInBounds_toArray, List.set_cons_zero, List.set_cons_succ]
      refine wpAnyH_ready (rs := [12]) (by kernel_rfl) (by simp) ?_
      refine AllReadyH.cons rfl (fun K hK => ?_) AllReadyH.nil
      go_simp
      go_at_call 13
      (with_reducible refine (h13 _ (gb_drew (gb_refl _ _))).mono ?_)
      rintro e3 w3 ⟨rfl, hT3, hk3⟩
      have K3 : Kp (fun k => k = B kk ∨ k = R kk) wr w3 := (Kp.drew _ _).then hk3
      try simp only []
      refine hK.out _ _ ⟨K3.cell pb nb, K3.cell pr nr', fun j u hu => K3.cell (rg j u hu) hgk⟩ (fun hHeld1 => ?_)
      clear hK K hHeld0
      try simp only [Act.put, List.setIfInBounds_toArray, List.set_cons_zero, List.set_cons_succ]
      refine wpAnyH_take (i := 13) (oi := { dst := some 56, op := Op.unOp UnOp.not 4 (Operand.tmp 55), type := 4, pos := _, after := #[{ on := 12, ground := Ground.data }], guard := none }) (v := ?_) rfl (by kernel_rfl) (by kernel_rfl) (by kernel_rfl) (fun _ _ _ h => h) (Or.inl ⟨by rfl, ?_⟩) (by first | trivial | assumption) ?_
      rotate_left 1
      · (intro W hSw; obtain ⟨q0, q1, q2⟩ := hSw; go_simp; (try (with_reducible rfl)))
      try simp only [Act.put, List.setIfInBounds_toArray, List.set_cons_zero, List.set_cons_succ]
      refine wpAnyH_done (by kernel_rfl) ?_ _
      refine NoPanic.normal ?_
      have E3 := E.play hA hk2 hT3 K3
      clear hHeld1 h13 hT hk3 pb pr s0 rg
      go_wp2
      refine ⟨⟨i + 1, by omega, by omega, by simp, E3⟩, ?_⟩
      simp only [intOf]; omega
    · have hstop : ¬ ((i : Int) < l.length) ∨ ((i : Int) < l.length ∧ ¬ ((i : Int) < 2000)) := by omega
      clear hx hend hE
      rcases hstop with h1 | ⟨h1, h2⟩
      · go_wp2
        go_loopw [7] (fun v wr => ∃ k : Nat, k ≤ 2 ∧ v = .int .i64 k ∧ Ex w wr B R sb sr) (fun v _ => 2 - (intOf v).toNat)
        case atStart => exact ⟨0, by omega, rfl, E⟩
        case round =>
          clear E
          obtain ⟨k, hk, rfl, E⟩ := hrel
          rcases (by omega : k < 2 ∨ ¬ k < 2) with hk2 | hk2
          · have d1 : (k : Int) < 2 := by omega
            obtain ⟨N, hT⟩ := E.two k hk2
            have hP : Pk w wr B R sb sr k N := ⟨E, hT⟩
            have pb := E.cb k hk2
            have pr := E.cr k hk2
            have h15 := fun (X : World) (h : Pk w X B R sb sr k N) => h.stats hA hk2 hW
            have h16 := fun (X : World) (h : Pk w X B R sb sr k N) => h.rstats
            go_wp2_with fail
            go_region_held3 (fun X => X.cell? ⟨sb, k, none⟩ = some (.pointer (some ⟨B k, 0, none⟩)) ∧ X.cell? ⟨sr, k, none⟩ = some (.pointer (some ⟨R k, 0, none⟩))) ((first | exact ⟨gb_cellN hg7 (hP6.ex.cb k hk2), gb_cellN hg7 (hP6.ex.cr k hk2)⟩ | exact ⟨hP6.ex.cb k hk2, hP6.ex.cr k hk2⟩ | exact ⟨hP5.ex.cb k hk2, hP5.ex.cr k hk2⟩ | go_keep)) ((first | (go_at_call 15; (with_reducible refine (h15 _ (hP.grown (gb_drew (gb_refl _ _)))).mono ?_); rintro e5 w5 ⟨v5, rfl, st5, hP5⟩) | (go_at_call 16; (with_reducible refine (h16 _ hP5).mono ?_); rintro e6 w6 ⟨v6, rfl, st6, hg6, hP6⟩) | (go_at_call 14; (with_reducible refine (lines_14 (st5.kept hg6) st6).mono ?_); rintro e7 w7 ⟨rfl, hg7⟩)))
            have hP7 := hP6.grown hg7
            clear h15 h16 st5 st6 hg6 hP6 hP5 hP hT pb pr
            go_wp2
            go_loopw [8] (fun v wr => ∃ m : Int, -1 ≤ m ∧ m ≤ 33 ∧ v = .int .i64 m ∧ Pk w wr B R sb sr k N) (fun v _ => (33 - intOf v).toNat)
            case atStart => exact ⟨-1, by omega, by omega, rfl, hP7⟩
            case round =>
              clear hP7 E
              obtain ⟨m, hm1, hm2, rfl, P⟩ := hrel
              have pb := P.ex.cb k hk2
              have pr := P.ex.cr k hk2
              rcases (by omega : m ≤ 32 ∨ ¬ m ≤ 32) with hm | hm
              · have h17 := fun (X : World) (h : Pk w X B R sb sr k N) => h.read hA hk2 m
                have h18 := fun (X : World) (h : Pk w X B R sb sr k N) => h.rread m
                go_wp2_with fail
                go_region_held3 (fun X => X.cell? ⟨sb, k, none⟩ = some (.pointer (some ⟨B k, 0, none⟩)) ∧ X.cell? ⟨sr, k, none⟩ = some (.pointer (some ⟨R k, 0, none⟩))) ((first | exact ⟨hP9.ex.cb k hk2, hP9.ex.cr k hk2⟩ | exact ⟨hP8.ex.cb k hk2, hP8.ex.cr k hk2⟩ | go_keep)) ((first | (go_at_call 17; (with_reducible refine (h17 _ (P.grown (gb_drew (gb_refl _ _)))).mono ?_); rintro e8 w8 ⟨rfl, hP8⟩) | (go_at_call 18; (with_reducible refine (h18 _ hP8).mono ?_); rintro e9 w9 ⟨rfl, hP9⟩)))
                clear h17 h18
                go_wp2
                refine ⟨⟨m + 1, by omega, by omega, by simp, hP9⟩, ?_⟩
                simp only [intOf]; omega
              · go_wp2
                refine ⟨⟨k + 1, by omega, by simp, P.ex⟩, ?_⟩
                simp only [intOf]; omega
          · have d1 : ¬ ((k : Int) < 2) := by omega
            go_wp2
            go_ret
            exact ⟨rfl, E.gb⟩
      · go_wp2
        go_loopw [7] (fun v wr => ∃ k : Nat, k ≤ 2 ∧ v = .int .i64 k ∧ Ex w wr B R sb sr) (fun v _ => 2 - (intOf v).toNat)
        case atStart => exact ⟨0, by omega, rfl, E⟩
        case round =>
          clear E
          obtain ⟨k, hk, rfl, E⟩ := hrel
          rcases (by omega : k < 2 ∨ ¬ k < 2) with hk2 | hk2
          · have d1 : (k : Int) < 2 := by omega
            obtain ⟨N, hT⟩ := E.two k hk2
            have hP : Pk w wr B R sb sr k N := ⟨E, hT⟩
            have pb := E.cb k hk2
            have pr := E.cr k hk2
            have h15 := fun (X : World) (h : Pk w X B R sb sr k N) => h.stats hA hk2 hW
            have h16 := fun (X : World) (h : Pk w X B R sb sr k N) => h.rstats
            go_wp2_with fail
            go_region_held3 (fun X => X.cell? ⟨sb, k, none⟩ = some (.pointer (some ⟨B k, 0, none⟩)) ∧ X.cell? ⟨sr, k, none⟩ = some (.pointer (some ⟨R k, 0, none⟩))) ((first | exact ⟨gb_cellN hg7 (hP6.ex.cb k hk2), gb_cellN hg7 (hP6.ex.cr k hk2)⟩ | exact ⟨hP6.ex.cb k hk2, hP6.ex.cr k hk2⟩ | exact ⟨hP5.ex.cb k hk2, hP5.ex.cr k hk2⟩ | go_keep)) ((first | (go_at_call 15; (with_reducible refine (h15 _ (hP.grown (gb_drew (gb_refl _ _)))).mono ?_); rintro e5 w5 ⟨v5, rfl, st5, hP5⟩) | (go_at_call 16; (with_reducible refine (h16 _ hP5).mono ?_); rintro e6 w6 ⟨v6, rfl, st6, hg6, hP6⟩) | (go_at_call 14; (with_reducible refine (lines_14 (st5.kept hg6) st6).mono ?_); rintro e7 w7 ⟨rfl, hg7⟩)))
            have hP7 := hP6.grown hg7
            clear h15 h16 st5 st6 hg6 hP6 hP5 hP hT pb pr
            go_wp2
            go_loopw [8] (fun v wr => ∃ m : Int, -1 ≤ m ∧ m ≤ 33 ∧ v = .int .i64 m ∧ Pk w wr B R sb sr k N) (fun v _ => (33 - intOf v).toNat)
            case atStart => exact ⟨-1, by omega, by omega, rfl, hP7⟩
            case round =>
              clear hP7 E
              obtain ⟨m, hm1, hm2, rfl, P⟩ := hrel
              have pb := P.ex.cb k hk2
              have pr := P.ex.cr k hk2
              rcases (by omega : m ≤ 32 ∨ ¬ m ≤ 32) with hm | hm
              · have h17 := fun (X : World) (h : Pk w X B R sb sr k N) => h.read hA hk2 m
                have h18 := fun (X : World) (h : Pk w X B R sb sr k N) => h.rread m
                go_wp2_with fail
                go_region_held3 (fun X => X.cell? ⟨sb, k, none⟩ = some (.pointer (some ⟨B k, 0, none⟩)) ∧ X.cell? ⟨sr, k, none⟩ = some (.pointer (some ⟨R k, 0, none⟩))) ((first | exact ⟨hP9.ex.cb k hk2, hP9.ex.cr k hk2⟩ | exact ⟨hP8.ex.cb k hk2, hP8.ex.cr k hk2⟩ | go_keep)) ((first | (go_at_call 17; (with_reducible refine (h17 _ (P.grown (gb_drew (gb_refl _ _)))).mono ?_); rintro e8 w8 ⟨rfl, hP8⟩) | (go_at_call 18; (with_reducible refine (h18 _ hP8).mono ?_); rintro e9 w9 ⟨rfl, hP9⟩)))
                clear h17 h18
                go_wp2
                refine ⟨⟨m + 1, by omega, by omega, by simp, hP9⟩, ?_⟩
                simp only [intOf]; omega
              · go_wp2
                refine ⟨⟨k + 1, by omega, by simp, P.ex⟩, ?_⟩
                simp only [intOf]; omega
          · have d1 : ¬ ((k : Int) < 2) := by omega
            go_wp2
            go_ret
            exact ⟨rfl, E.gb⟩
end Go.Proofs.YtonbkpfnpnlkpaaDoor
