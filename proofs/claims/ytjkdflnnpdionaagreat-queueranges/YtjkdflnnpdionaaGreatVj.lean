import Derived.Test.YtjkdflnnpdionaaGreatVi
/-
  The document's lists: put at a list's tail; Push there.
-/
namespace Go.Proofs.YtjkdflnnpdionaaGreat
open Go.RowKit
set_option linter.unusedVariables false

set_option maxRecDepth 100000 in
/-- append(us, xs...) in a region that draws. -/
theorem step_cat27 {w : World} {ops : Array Oper} {o : Oper} {a : Act} {K : Act → World → Prop} {Q : Exit → Act → World → Prop} {E : Prop} (hgd : o.guard = none) (s x : Operand)
    (ho : o.op = .call { callee := .builtin .append, args := #[s, x], argTypes := #[45, 45] })
    (base g n cap : Nat) (us : List Value) (hs : a.eval s = .slice (some ⟨g, 0, none⟩) n cap) (hown : w.ownsRow base 26 1 (.slice (some ⟨g, 0, none⟩) n cap) n us)
    (wv : Value) (xs : List Nat) (hx : a.eval x = wv) (hrow : w.ownsRow 0 26 1 wv xs.length (uvs xs)) (hn : n + xs.length ≤ 100000) (hbase : base ≤ w.heap.size)
    (h : ∀ g' cap' w', w'.ownsRow base 26 1 (.slice (some ⟨g', 0, none⟩) (n + xs.length) cap') (n + xs.length) (us ++ uvs xs) → w.grownBy w' (some g) → (g' = g ∨ w.heap.size ≤ g') → K (a.put o.dst (.slice (some ⟨g', 0, none⟩) (n + xs.length) cap')) w') :
    if Region.wanted o (yielded ops a.tmps) = true then Oper.wp Tryz.prog o a w K Q else E := by
  obtain ⟨i0, hi, hz0, hz1, hz2⟩ := info_parts Tryz.info26
  obtain ⟨ao, cap0, rfl, _, _, _, hao⟩ := row_shape hrow
  cases ao with
  | none =>
    have hx0 : xs = [] ∧ cap0 = 0 := by
      rcases hrow.2 with ⟨e1, e2⟩ | ⟨g, c, cur, hv, _⟩
      · simp at e1; exact ⟨List.length_eq_zero_iff.1 e2, e1.2⟩
      · simp at hv
    obtain ⟨rfl, rfl⟩ := hx0
    have hw : Region.wanted o (yielded ops a.tmps) = true := by simp [Region.wanted, hgd]
    rw [if_pos hw]
    have hrun := run_append_owned_none (P := Tryz.prog) (w := w) base 45 o.type 26 i0 1 Tryz.underlying45 hi _ _ _ hown
    unfold Oper.wp execOp
    simp only [ho, resolve, invoke, builtin, Sem.run_bind, Sem.run_pure, Result.andThen_ok, List.map_toArray, List.map_cons, List.map_nil, hs, hx, List.length_nil, hrun]
    have h9 := h g cap w (by simpa [uvs] using hown) (gb_refl _ _) (.inl rfl)
    exact h9
  | some ad =>
    rcases Nat.eq_zero_or_pos xs.length with h0 | h0
    · obtain rfl := List.length_eq_zero_iff.1 h0
      exact step_app26 hgd s x ho base g n cap _ hs hown ad 0 cap0 [] hx rfl (by simp) (by simp) (by simp only [List.length_nil] at hn; omega) hbase (fun g' cap' w' h1 h2 h3 => h g' cap' w' (by simpa [uvs] using h1) h2 h3)
    · obtain ⟨b, hb⟩ := hao h0
      simp at hb
      subst hb
      refine step_app26 hgd s x ho base g n cap _ hs hown ⟨b, 0, none⟩ xs.length cap0 (uvs xs) hx (by simp [uvs]) ?_ (uvs_one xs) (by omega) hbase h
      have := part_cells hrow 0 xs.length (by omega)
      simpa using this
section
variable {w : World} {lb rb lsb : Nat} {lv : Value} {vs : Nat → Value} {Y : Nat → List Nat} {szb szc : Nat}
set_option maxRecDepth 100000 in
set_option maxHeartbeats 2000000 in
/-- put, at a list's tail. -/
theorem put_last (h : RQ w lb rb lsb lv vs Y szb szc) (hrb : rb ≠ lsb) {H c k : Nat} {pl : Int} (hc : c < 3) (hk : k < 3) (hln : (Y (3 * c + k)).length < 1000)
    (hAt : Calls Tryz.prog 96 #[.pointer (some ⟨rb, 0, none⟩), .int .u64 H] w fun y w' => y = .returned (.tuple #[.int .i64 pl, .int .i64 c, .int .i64 0]) ∧ w.grownBy w' none) :
    Calls Tryz.prog 86 #[.pointer (some ⟨lb, 0, none⟩), .int .u64 H, .int .i64 ((k : Int) + 1), .bool true] w fun y w' => y = .returned (.tuple #[]) ∧ Kp (fun k => k = lsb) w w' ∧ ∃ v', RQ w' lb rb lsb lv (upV vs (3 * c + k) v') (upY Y (3 * c + k) (Y (3 * c + k) ++ [H])) szb szc ∧ ∀ k, v'.ownBlock = some k → w.heap.size ≤ k := by
  have c0 := h.box.cell 0
  simp at c0
  have hl := fun W (hW : w.grownBy W none) => list_yes (h.kept0 hW) hc hk
  have hj : 3 * c + k < 9 := by omega
  obtain ⟨j, hjE⟩ : ∃ j, 3 * c + k = j := ⟨_, rfl⟩
  rw [hjE] at hl hj hln ⊢
  have hr := fun W (hW : w.grownBy W none) => (h.kept0 hW).rl.ls j hj
  have hfin := fun W (hW : w.grownBy W none) v' (ho : W.ownsRow 0 26 1 v' (Y j ++ [H]).length (uvs (Y j ++ [H]))) => h.set hj hW ho (by simp; omega) hrb
  have hj9 : (j : Int) < 9 := by omega
  have hj0 : ¬ (j : Int) < 0 := by omega
  have hCC : ∀ W, w.grownBy W none → W.cell? ⟨lb, 2, none⟩ = some (.slice (some ⟨lsb, 0, none⟩) 9 9) ∧ W.cell? ⟨lsb, j, none⟩ = some (vs j) ∧ W.frozen? ⟨lsb, j, none⟩ = false := fun W hW => ⟨(h.kept0 hW).box.cell 2, (h.kept0 hW).rl.cell hj, (h.kept0 hW).rl.blk.fz j⟩
  clear h
  go_enter Tryz.func86, Tryz.ntmps86
  go_wp2_with (first | (go_at_call 96; go_must (refine hAt.mono ?_); rintro y w1 ⟨rfl, hg1⟩) | (go_at_call 68; go_must (refine (hl _ hg1).mono ?_); rintro y w' ⟨rfl, rfl⟩; obtain ⟨e2, ej, fj⟩ := hCC _ hg1) | fail)
  have al0 := World.grownBy_alloc w1 (.cells #[] 26) none
  have al1 := World.grownBy_alloc w1 (.cells #[.int .u64 (H : Int)] 26) none
  have g1 : w1.grownBy (w1.alloc (.cells #[] 26)).drew none := gb_drew al0
  have g3 : w1.grownBy ((w1.alloc (.cells #[] 26)).alloc (.cells #[.int .u64 (H : Int)] 26)).drew none := gb_drew (gb_alloc al0 _)
  have g4 : w1.grownBy ((w1.alloc (.cells #[.int .u64 (H : Int)] 26)).alloc (.cells #[] 26)).drew none := gb_drew (gb_alloc al1 _)
  have o0 := own_new (w := w1) (us := []) (n := 0) rfl (by unfold maxLen; omega)
  have a1 : (w1.alloc (.cells #[] 26)).drew.ownsRow w1.heap.size 26 1 (.slice (some ⟨w1.heap.size, 0, none⟩) 0 0) 0 [] := row_kept o0 (gb_drew (gb_refl _ none)) (by simp)
  have a3 : ((w1.alloc (.cells #[] 26)).alloc (.cells #[.int .u64 (H : Int)] 26)).drew.ownsRow w1.heap.size 26 1 (.slice (some ⟨w1.heap.size, 0, none⟩) 0 0) 0 [] := row_kept o0 (gb_drew (gb_alloc (gb_refl _ none) _)) (by simp)
  have o4 := own_new (w := w1.alloc (.cells #[.int .u64 (H : Int)] 26)) (us := []) (n := 0) rfl (by unfold maxLen; omega)
  have hs4 : (w1.alloc (.cells #[.int .u64 (H : Int)] 26)).heap.size = w1.heap.size + 1 := by simp
  have hs3 : (w1.alloc (.cells #[] 26)).heap.size = w1.heap.size + 1 := by simp
  rw [hs4] at o4
  have a4 : ((w1.alloc (.cells #[.int .u64 (H : Int)] 26)).alloc (.cells #[] 26)).drew.ownsRow w1.heap.size 26 1 (.slice (some ⟨w1.heap.size + 1, 0, none⟩) 0 0) 0 [] := row_base (row_kept o4 (gb_drew (gb_refl _ none)) (by simp)) (by omega)
  have b3 := own_new (w := w1.alloc (.cells #[] 26)) (us := [.int .u64 (H : Int)]) (n := 1) rfl (by unfold maxLen; omega)
  rw [hs3] at b3
  have b3' : ((w1.alloc (.cells #[] 26)).alloc (.cells #[.int .u64 (H : Int)] 26)).drew.ownsRow 0 26 1 (.slice (some ⟨w1.heap.size + 1, 0, none⟩) 1 1) 1 (uvs [H]) := row_base (row_kept b3 (gb_drew (gb_refl _ none)) (by simp)) (Nat.zero_le _)
  have b4' : ((w1.alloc (.cells #[.int .u64 (H : Int)] 26)).alloc (.cells #[] 26)).drew.ownsRow 0 26 1 (.slice (some ⟨w1.heap.size, 0, none⟩) 1 1) 1 (uvs [H]) := row_base (row_kept (own_new (w := w1) (us := [.int .u64 (H : Int)]) (n := 1) rfl (by unfold maxLen; omega)) (gb_drew (gb_alloc (gb_refl _ none) _)) (by simp)) (Nat.zero_le _)
  have hcb : ∀ o, (w1.alloc o).cell? ⟨lsb, j, none⟩ = some (vs j) := fun o => gb_cellN (World.grownBy_alloc w1 o none) ej
  have hca : ∀ o, (w1.alloc o).cell? ⟨lb, 2, none⟩ = some (.slice (some ⟨lsb, 0, none⟩) 9 9) := fun o => gb_cellN (World.grownBy_alloc w1 o none) e2
  have hcb2 : ∀ o p, ((w1.alloc o).alloc p).cell? ⟨lsb, j, none⟩ = some (vs j) := fun o p => gb_cellN (World.grownBy_alloc _ p none) (hcb o)
  have hca2 : ∀ o p, ((w1.alloc o).alloc p).cell? ⟨lb, 2, none⟩ = some (.slice (some ⟨lsb, 0, none⟩) 9 9) := fun o p => gb_cellN (World.grownBy_alloc _ p none) (hca o)
  have hrw := fun W (hW : w1.grownBy W none) => hr W (gb_trans hg1 hW)
  have hs1 := hg1.size
  have hb5 : ∀ W, (W : World).heap.size ≤ W.heap.size := fun W => Nat.le_refl _
  clear hr hl hAt hjE o0 o4 b3 al0 al1
  go_region_law ((first
    | (refine step_cat27 rfl (.tmp 32) (.tmp 39) rfl w1.heap.size _ 0 _ [] rfl a1 (vs j) (Y j) rfl (hrw _ g1) (by omega) g1.size ?_; intro g5 cap5 w5 ho5 hg5 hat5; rw [Nat.zero_add, List.nil_append] at ho5; (have hG5 : w1.grownBy w5 none := gb_mine g1 hg5 (Nat.le_refl _)); (have hG6 : w1.grownBy (w5.alloc (.cells #[.int .u64 (H : Int)] 26)) none := gb_alloc hG5 _); (have hH6 : (w5.alloc (.cells #[.int .u64 (H : Int)] 26)).ownsRow 0 26 1 (.slice (some ⟨w5.heap.size, 0, none⟩) 1 1) 1 (uvs [H]) := row_base (own_new (w := w5) (us := [.int .u64 (H : Int)]) (n := 1) rfl (by unfold maxLen; omega)) (Nat.zero_le _)); obtain ⟨s2, sj, sf⟩ := hCC _ (gb_trans hg1 hG5); (have ho6 := row_kept ho5 (World.grownBy_alloc w5 (.cells #[.int .u64 (H : Int)] 26) none) (by simp)); obtain ⟨q2, qj, qf⟩ := hCC _ (gb_trans hg1 hG6))
    | (refine step_cat27 rfl (.tmp 32) (.tmp 39) rfl w1.heap.size _ 0 _ [] rfl a3 (vs j) (Y j) rfl (hrw _ g3) (by omega) g3.size ?_; intro g5 cap5 w5 ho6 hg5 hat5; rw [Nat.zero_add, List.nil_append] at ho6; (have hG6 : w1.grownBy w5 none := gb_mine g3 hg5 (Nat.le_refl _)); (have hH6 := row_kept b3' hg5 (fun k hk e => by simp [Value.ownBlock] at hk e; omega)); obtain ⟨q2, qj, qf⟩ := hCC _ (gb_trans hg1 hG6))
    | (refine step_cat27 rfl (.tmp 32) (.tmp 39) rfl w1.heap.size _ 0 _ [] rfl a4 (vs j) (Y j) rfl (hrw _ g4) (by omega) g4.size ?_; intro g5 cap5 w5 ho6 hg5 hat5; rw [Nat.zero_add, List.nil_append] at ho6; (have hG6 : w1.grownBy w5 none := gb_mine g4 hg5 (by omega)); (have hH6 := row_kept b4' hg5 (fun k hk e => by simp [Value.ownBlock] at hk e; omega)); obtain ⟨q2, qj, qf⟩ := hCC _ (gb_trans hg1 hG6))
    | (refine step_cat27 rfl (.tmp 40) (.tmp 42) rfl w1.heap.size _ _ _ _ rfl ho6 _ [H] rfl hH6 (by simp; omega) hG6.size ?_; intro g7 cap7 w7 ho7 hg7 hat7; (have hG7 : w.grownBy w7 none := gb_trans hg1 (gb_mine hG6 hg7 (ho6.lt _ rfl).1)); obtain ⟨p2, pj, pf⟩ := hCC _ hG7)))
  all_goals
    go_wp2
    go_end0
    obtain ⟨r1, r2⟩ := hfin _ hG7 _ (by
      rw [List.length_append, uvs_app]
      exact row_base ho7 (Nat.zero_le _))
    refine ⟨rfl, r2, _, r1, fun k hk => ?_⟩
    have := (ho7.lt k hk).1
    omega
set_option maxRecDepth 100000 in
/-- Push at the tail. -/
theorem rlast_yes (h : RQ w lb rb lsb lv vs Y szb szc) (hrb : rb ≠ lsb) {H c k : Nat} {pl : Int} (hc : c < 3) (hk : k < 3) (hln : (Y (3 * c + k)).length < 1000) (hS : Nowhere Y H) (hIs : Calls Tryz.prog 27 #[.pointer (some ⟨lb, 0, none⟩), .int .u64 H] w fun y w' => y = .returned (.bool true) ∧ w.grownBy w' none)
    (hAt : ∀ W, w.grownBy W none → Calls Tryz.prog 96 #[.pointer (some ⟨rb, 0, none⟩), .int .u64 H] W fun y w' => y = .returned (.tuple #[.int .i64 pl, .int .i64 c, .int .i64 0]) ∧ W.grownBy w' none) :
    Calls Tryz.prog 31 #[.pointer (some ⟨lb, 0, none⟩), .int .u64 H, .int .i64 ((k : Int) + 1), .bool true] w fun y w' => y = .returned (.int .i64 0) ∧ Kp (fun k => k = lsb) w w' ∧ ∃ v', RQ w' lb rb lsb lv (upV vs (3 * c + k) v') (upY Y (3 * c + k) (Y (3 * c + k) ++ [H])) szb szc ∧ ∀ k, v'.ownBlock = some k → w.heap.size ≤ k := by
  have k1 : ¬ (k : Int) + 1 < 1 := by omega
  have k2 : ¬ (3 : Int) < (k : Int) + 1 := by omega
  have hw := fun W (hW : w.grownBy W none) => where_no (h.kept0 hW) hS
  have hp := fun W (hW : w.grownBy W none) => (put_last (h.kept0 hW) hrb hc hk hln (hAt W hW)).mono (R' := fun y w' => y = .returned (.tuple #[]) ∧ Hid (Kp (fun k => k = lsb) w w' ∧ ∃ v', RQ w' lb rb lsb lv (upV vs (3 * c + k) v') (upY Y (3 * c + k) (Y (3 * c + k) ++ [H])) szb szc ∧ ∀ k, v'.ownBlock = some k → w.heap.size ≤ k)) (by
    rintro y w' ⟨rfl, h1, v', h2, h3⟩
    exact ⟨rfl, (Kp.of hW).trans h1 (fun _ h => h) (fun k hk => .inl hk), v', h2, fun k hk => Nat.le_trans hW.size (h3 k hk)⟩)
  clear h hS hAt
  go_enter Tryz.func31, Tryz.ntmps31
  go_wp2_with (first | (go_at_call 27; go_must (refine hIs.mono ?_); rintro y w1 ⟨rfl, hf1⟩) | (go_at_call 85; go_must (refine (hw _ hf1).mono ?_); rintro y w' ⟨rfl, rfl⟩) | (go_at_call 86; go_must (with_reducible refine (hp _ hf1).mono ?_); rintro y w2 ⟨rfl, hE2⟩) | fail)
  go_ret
  exact ⟨rfl, hE2.out⟩
end
end Go.Proofs.YtjkdflnnpdionaaGreat
