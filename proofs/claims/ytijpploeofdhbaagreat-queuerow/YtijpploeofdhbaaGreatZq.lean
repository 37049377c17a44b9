import Derived.Test.YtijpploeofdhbaaGreatZp
/-
  QueueRow: where it stands.
-/
namespace Go.Proofs.YtijpploeofdhbaaGreat
open Go.RowKit
set_option linter.unusedVariables false

theorem MS.kept {w w' : World} {P : Nat → Prop} {wb sb qb gl gc : Nat} {F : Nat → Prop} {B : Bl} {A : Ab} {zs : List Int} {rb : Nat} {G : Nat → Prop} {Q : Rl} {R : Rb} {lb : Nat} {lv lsv tv : Value} {xl xt : List Nat} {L : Ls} (h : MS w P wb sb qb gl gc F B A zs rb G Q R lb lv lsv tv xl xt L) {D : Nat → Prop} (hK : Kp D w w') (hd : ∀ k, P k → ¬ D k) : MS w' P wb sb qb gl gc F B A zs rb G Q R lb lv lsv tv xl xt L := by
  obtain ⟨c, h1, h2, h3, h4, h5, h6, h7, h8⟩ := h.sep.ex
  refine ⟨hK.box h.box (hd _ h5.2), h.iss.kept hK (fun k hk => hd _ (h1 k hk).2), hK.box h.qbx (hd _ h7.2), row_same h.qrow (fun k hk => hK.block k ?_ (hd _ ?_)), h.isr.kept hK (fun k hk => hd _ (h2 k hk).2), hK.box h.lbx (hd _ h6.2), row_same h.lrow (fun k hk => hK.block k (h.lvl k hk) (hd _ (h3 k hk).2)), row_same h.trow (fun k hk => hK.block k (h.tvl k hk) (hd _ (h4 k hk).2)), h.sep⟩
  · simp [Value.ownBlock] at hk; subst hk; exact h.gll
  · simp [Value.ownBlock] at hk; subst hk; exact h8.2
theorem WW.kept {w w' : World} {P : Nat → Prop} {wb qb : Nat} {tv : Value} {i : Nat} {X : Nat → Nat → List Nat} (h : WW w P wb qb tv i X) {D : Nat → Prop} (hK : Kp D w w') (hd : ∀ k, P k → ¬ D k) : WW w' P wb qb tv i X := by
  obtain ⟨sb, gl, gc, F, B, A, zs, rb, G, Q, R, lb, lv, lsv, bs, p, n, s, L, fr, hM, hx⟩ := h.ex
  exact ⟨h.i64, h.tn, sb, gl, gc, F, B, A, zs, rb, G, Q, R, lb, lv, lsv, bs, p, n, s, L, fr, hM.kept hK hd, hx⟩
theorem upX_upX (X : Nat → Nat → List Nat) (c k : Nat) (u v : List Nat) : upX (upX X c k u) c k v = upX X c k v := by
  funext c2 k2
  simp only [upX]
  split <;> rfl

/-- Where the law stands: want is xs, the list from its tail on is ys. -/
structure QS (w0 w : World) (wb qb k : Nat) (wv : Value) (i : Nat) (xs ys : List Nat) (xc : Array Value) : Prop where
  ex : ∃ P tv, WW w P wb qb tv i (upX X0 0 k ys.reverse) ∧ (∀ g, wv.ownBlock = some g → ¬ P g) ∧ (∀ k, P k → w0.heap.size < k)
  row : w.ownsRow w0.heap.size 26 1 wv xs.length (uvs xs)
  gr : w0.grownBy w none
  bx : Box w 62 w0.heap.size xc
  sub : ∀ H, H ∈ ys → H ∈ hs i
  k3 : k < 3

section
variable {w0 w : World} {wb qb k : Nat} {wv : Value} {i : Nat} {xs ys : List Nat} {xc : Array Value}
theorem QS.wvl (h : QS w0 w wb qb k wv i xs ys xc) : ∀ g, wv.ownBlock = some g → g < w.heap.size := fun g hg => by
  obtain ⟨cur, hc⟩ := row_block h.row g hg
  exact lt_of_block hc
theorem QS.wlt (h : QS w0 w wb qb k wv i xs ys xc) : w0.heap.size < w.heap.size := h.bx.lt
theorem grown_of {w0 w w' : World} {P : Nat → Prop} (hf : w0.grownBy w none) (hK : Kp P w w') (hP : ∀ k, P k → w0.heap.size ≤ k) : w0.grownBy w' none :=
  ((Kp.of (F := fun _ => False) hf).trans hK (H := fun _ => False) (fun _ h => h) (fun k hk => .inr (hP k hk))).grown (fun i hi => hi.elim)
/-- A call of the queue that leaves another list. -/
theorem QS.list (h : QS w0 w wb qb k wv i xs ys xc) {w' : World} {ys' : List Nat} (hc : ∀ P tv, WW w P wb qb tv i (upX X0 0 k ys.reverse) → WW w' P wb qb tv i (upX X0 0 k ys'.reverse) ∧ Kp P w w') (hsub : ∀ H, H ∈ ys' → H ∈ hs i) : QS w0 w' wb qb k wv i xs ys' xc := by
  obtain ⟨P, tv, hW, h1, h2⟩ := h.ex
  obtain ⟨hW', hK⟩ := hc P tv hW
  exact ⟨⟨P, tv, hW', h1, h2⟩, row_same h.row (fun g hg => hK.block g (h.wvl g hg) (h1 g hg)), grown_of h.gr hK (fun k hk => Nat.le_of_lt (h2 k hk)), hK.box h.bx (fun hk => Nat.lt_irrefl _ (h2 _ hk)), hsub, h.k3⟩
theorem QS.kept0 (h : QS w0 w wb qb k wv i xs ys xc) {w' : World} (hf : w.grownBy w' none) : QS w0 w' wb qb k wv i xs ys xc := by
  obtain ⟨P, tv, hW, h1, h2⟩ := h.ex
  exact ⟨⟨P, tv, hW.kept0 hf, h1, h2⟩, row_kept h.row hf (by simp), gb_trans h.gr hf, h.bx.kept hf (by simp), h.sub, h.k3⟩
/-- want is another row. -/
theorem QS.want (h : QS w0 w wb qb k wv i xs ys xc) {w' : World} {wv' : Value} {xs' : List Nat} (hf : w.grownBy w' wv.ownBlock) (hr : w'.ownsRow w0.heap.size 26 1 wv' xs'.length (uvs xs')) (ho : ∀ g, wv'.ownBlock = some g → wv.ownBlock = some g ∨ w.heap.size ≤ g) : QS w0 w' wb qb k wv' i xs' ys xc := by
  obtain ⟨P, tv, hW, h1, h2⟩ := h.ex
  have hK : Kp (fun g => wv.ownBlock = some g) w w' := (Kp.refl _ _).step hf (fun i hi => .inl hi)
  refine ⟨⟨fun k => P k ∧ k < w.heap.size, tv, (hW.less (fun k hk hl => ⟨hk, hl⟩)).kept hK (fun k hk e => h1 k e hk.1), fun g hg hP => ?_, fun k hk => h2 k hk.1⟩, hr, ?_, ?_, h.sub, h.k3⟩
  · rcases ho g hg with h3 | h3
    · exact h1 g h3 hP.1
    · exact absurd hP.2 (by omega)
  · exact grown_of h.gr hK (fun g hg => (h.row.lt g hg).1)
  · exact h.bx.kept hf (fun e => by
      obtain ⟨cur, hc⟩ := row_block h.row _ e.symm
      exact ne_of_type h.bx hc (by decide) rfl)
theorem hs_sub {i H : Nat} (h : H ∈ hs i) : H ∈ hs (i + 1) := by rw [hs_succ]; exact List.mem_append_left _ h

/-- makes. -/
theorem qs_makes (h : QS w0 w wb qb k wv i xs ys xc) (hi : i < 64) :
    Calls Tryz.prog 20 #[.pointer (some ⟨wb, 0, none⟩), opMake] w fun y w' => y = .returned (.bool true) ∧ QS w0 w' wb qb k wv (i + 1) xs ys xc := by
  obtain ⟨P, tv, hW, h1, h2⟩ := h.ex
  have hlt := h.wlt
  refine (makes_any (hW.less (P' := fun k => P k ∨ w.heap.size ≤ k) (fun k hk _ => .inl hk)) hi (fun k hk => .inr hk)).mono ?_
  rintro y w' ⟨rfl, hK, tv', hW'⟩
  have hn : ∀ g, wv.ownBlock = some g → ¬ (P g ∨ w.heap.size ≤ g) := fun g hg hP => by
    rcases hP with h3 | h3
    · exact h1 g hg h3
    · have := h.wvl g hg; omega
  have h2' : ∀ k, (P k ∨ w.heap.size ≤ k) → w0.heap.size < k := fun k hk => by
    rcases hk with h3 | h3
    · exact h2 k h3
    · omega
  exact ⟨rfl, ⟨_, tv', hW', hn, h2'⟩, row_same h.row (fun g hg => hK.block g (h.wvl g hg) (hn g hg)), grown_of h.gr hK (fun k hk => Nat.le_of_lt (h2' k hk)), hK.box h.bx (fun hk => Nat.lt_irrefl _ (h2' _ hk)), fun H hH => hs_sub (h.sub H hH), h.k3⟩
theorem QS.told (h : QS w0 w wb qb k wv (i + 1) xs ys xc) : ∃ g cap, w.cell? ⟨wb, 4, none⟩ = some (.slice (some ⟨g, 0, none⟩) (i + 1) cap) ∧ w.cell? ⟨g, i, none⟩ = some (.int .u64 ((8 * i + 1 : Nat) : Int)) ∧ w.cell? ⟨wb, 1, none⟩ = some (.pointer (some ⟨qb, 0, none⟩)) := by
  obtain ⟨P, tv, hW, h1, h2⟩ := h.ex
  obtain ⟨e1, e2, e3⟩ := hW.cells
  obtain ⟨ao, cap, rfl, _, _, _, hao⟩ := row_shape e3
  obtain ⟨g, rfl⟩ := hao (by omega)
  exact ⟨g, cap, e2, row_cell e3 i _ (uvs_get (hs_get (by omega))), e1⟩
theorem QS.qcell (h : QS w0 w wb qb k wv i xs ys xc) : w.cell? ⟨wb, 1, none⟩ = some (.pointer (some ⟨qb, 0, none⟩)) := by
  obtain ⟨P, tv, hW, h1, h2⟩ := h.ex
  exact hW.cells.1
theorem fresh_no {i k : Nat} {ys : List Nat} (hsub : ∀ H, H ∈ ys → H ∈ hs i) : ∀ k2, (8 * i + 1) ∉ upX X0 0 k ys.reverse 0 k2 := fun k2 hm => by
  by_cases e : k2 = k
  · subst e
    rw [upX_same] at hm
    obtain ⟨l, hl, e⟩ := hs_mem.1 (hsub _ (List.mem_reverse.1 hm))
    omega
  · rw [upX_ne _ _ (fun e2 => e e2.2)] at hm
    simp [X0] at hm
theorem qs_push (h : QS w0 w wb qb k wv i xs ys xc) (hsub : ∀ H, H ∈ ys → H ∈ hs (i - 1)) (hi : 1 ≤ i) (hl : ys.length ≤ 64) :
    Calls Tryz.prog 21 #[.pointer (some ⟨qb, 0, none⟩), .int .u64 ((8 * (i - 1) + 1 : Nat) : Int), .int .i64 ((k : Int) + 1)] w fun y w' => y = .returned (.int .i64 0) ∧ QS w0 w' wb qb k wv i xs (ys ++ [8 * (i - 1) + 1]) xc := by
  obtain ⟨P, tv, hW, h1, h2⟩ := h.ex
  refine (ww_push hW (H := 8 * (i - 1) + 1) (k := k) (hs_mem.2 ⟨i - 1, by omega, rfl⟩) h.k3 (fresh_no hsub) (by rw [upX_same]; simp; omega)).mono ?_
  rintro y w' ⟨rfl, hK, hW'⟩
  rw [upX_same, upX_upX] at hW'
  refine ⟨rfl, ⟨P, tv, by simpa using hW', h1, h2⟩, row_same h.row (fun g hg => hK.block g (h.wvl g hg) (h1 g hg)), grown_of h.gr hK (fun k hk => Nat.le_of_lt (h2 k hk)), hK.box h.bx (fun hk => Nat.lt_irrefl _ (h2 _ hk)), fun H hH => ?_, h.k3⟩
  rcases List.mem_append.1 hH with h3 | h3
  · exact h.sub H h3
  · simp at h3; subst h3; exact hs_mem.2 ⟨i - 1, by omega, rfl⟩
theorem qs_last (h : QS w0 w wb qb k wv i xs ys xc) (hsub : ∀ H, H ∈ ys → H ∈ hs (i - 1)) (hi : 1 ≤ i) (hl : ys.length ≤ 64) :
    Calls Tryz.prog 22 #[.pointer (some ⟨qb, 0, none⟩), .int .u64 ((8 * (i - 1) + 1 : Nat) : Int), .int .i64 ((k : Int) + 1)] w fun y w' => y = .returned (.int .i64 0) ∧ QS w0 w' wb qb k wv i xs ((8 * (i - 1) + 1) :: ys) xc := by
  obtain ⟨P, tv, hW, h1, h2⟩ := h.ex
  refine (ww_last hW (H := 8 * (i - 1) + 1) (k := k) (hs_mem.2 ⟨i - 1, by omega, rfl⟩) h.k3 (fresh_no hsub) (by rw [upX_same]; simp; omega)).mono ?_
  rintro y w' ⟨rfl, hK, hW'⟩
  rw [upX_same, upX_upX] at hW'
  refine ⟨rfl, ⟨P, tv, by simpa using hW', h1, h2⟩, row_same h.row (fun g hg => hK.block g (h.wvl g hg) (h1 g hg)), grown_of h.gr hK (fun k hk => Nat.le_of_lt (h2 k hk)), hK.box h.bx (fun hk => Nat.lt_irrefl _ (h2 _ hk)), fun H hH => ?_, h.k3⟩
  rcases List.mem_cons.1 hH with rfl | h3
  · exact hs_mem.2 ⟨i - 1, by omega, rfl⟩
  · exact h.sub H h3
theorem qs_shift (h : QS w0 w wb qb k wv i xs ys xc) {C D : List Nat} {H : Nat} (hy : ys = C ++ H :: D) (hl : ys.length ≤ 64) :
    Calls Tryz.prog 24 #[.pointer (some ⟨qb, 0, none⟩), .int .u64 H, .int .i64 ((k : Int) + 1)] w fun y w' => y = .returned (.int .i64 0) ∧ QS w0 w' wb qb k wv i xs (C ++ D ++ [H]) xc := by
  obtain ⟨P, tv, hW, h1, h2⟩ := h.ex
  refine (ww_shift hW (H := H) (k := k) (k2 := k) (U := D.reverse) (V := C.reverse) (by rw [upX_same, hy]; simp) h.k3 (by rw [upX_same]; simp; omega)).mono ?_
  rintro y w' ⟨rfl, hK, hW'⟩
  rw [upX_same, upX_upX, upX_upX] at hW'
  refine ⟨rfl, ⟨P, tv, by simpa using hW', h1, h2⟩, row_same h.row (fun g hg => hK.block g (h.wvl g hg) (h1 g hg)), grown_of h.gr hK (fun k hk => Nat.le_of_lt (h2 k hk)), hK.box h.bx (fun hk => Nat.lt_irrefl _ (h2 _ hk)), fun G hG => h.sub G (by rw [hy]; simp at hG ⊢; rcases hG with h3 | h3 | h3; exact .inl h3; exact .inr (.inr h3); exact .inr (.inl h3)), h.k3⟩
theorem qs_drop (h : QS w0 w wb qb k wv i xs ys xc) {D : List Nat} {H : Nat} (hy : ys = H :: D) :
    Calls Tryz.prog 23 #[.pointer (some ⟨qb, 0, none⟩), .int .u64 H] w fun y w' => y = .returned (.int .i64 0) ∧ QS w0 w' wb qb k wv i xs D xc := by
  obtain ⟨P, tv, hW, h1, h2⟩ := h.ex
  refine (ww_drop hW (H := H) (k := k) (U := D.reverse) (V := []) (by rw [upX_same, hy]; simp)).mono ?_
  rintro y w' ⟨rfl, hK, hW'⟩
  rw [upX_upX, List.append_nil] at hW'
  exact ⟨rfl, ⟨P, tv, hW', h1, h2⟩, row_same h.row (fun g hg => hK.block g (h.wvl g hg) (h1 g hg)), grown_of h.gr hK (fun k hk => Nat.le_of_lt (h2 k hk)), hK.box h.bx (fun hk => Nat.lt_irrefl _ (h2 _ hk)), fun G hG => h.sub G (by rw [hy]; exact List.mem_cons_of_mem _ hG), h.k3⟩
theorem qs_tail (h : QS w0 w wb qb k wv i xs ys xc) :
    Calls Tryz.prog 27 #[.pointer (some ⟨qb, 0, none⟩), .int .i64 0, .int .i64 ((k : Int) + 1)] w fun y w' => y = .returned (.tuple #[.int .u64 ((ys.headD 0 : Nat) : Int), .bool (decide (¬ ys.headD 0 = 0))]) ∧ QS w0 w' wb qb k wv i xs ys xc := by
  obtain ⟨P, tv, hW, h1, h2⟩ := h.ex
  refine (ww_tail hW (c := 0) (k := k) (v := ys.headD 0) (by omega) h.k3 (by rw [upX_same]; cases ys <;> simp)).mono ?_
  rintro y w' ⟨rfl, hf⟩
  exact ⟨rfl, h.kept0 hf⟩
theorem qs_len (h : QS w0 w wb qb k wv i xs ys xc) :
    Calls Tryz.prog 28 #[.pointer (some ⟨qb, 0, none⟩), .int .i64 0, .int .i64 ((k : Int) + 1)] w fun y w' => y = .returned (.int .i64 ((ys.length : Nat) : Int)) ∧ QS w0 w' wb qb k wv i xs ys xc := by
  obtain ⟨P, tv, hW, h1, h2⟩ := h.ex
  refine (ww_len hW (c := 0) (k := k) (v := ys.length) (by omega) h.k3 (by rw [upX_same]; simp)).mono ?_
  rintro y w' ⟨rfl, hf⟩
  exact ⟨rfl, h.kept0 hf⟩
end
end Go.Proofs.YtijpploeofdhbaaGreat
