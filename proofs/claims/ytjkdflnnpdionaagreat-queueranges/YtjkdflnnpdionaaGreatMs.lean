import Derived.Test.YtjkdflnnpdionaaGreatMr
/-
  The document's lists: Drop, put.
-/
namespace Go.Proofs.YtjkdflnnpdionaaGreat
open Go.RowKit
set_option linter.unusedVariables false

def upV (vs : Nat → Value) (j : Nat) (v : Value) : Nat → Value := fun k => if k = j then v else vs k
def upY (Y : Nat → List Nat) (j : Nat) (ys : List Nat) : Nat → List Nat := fun k => if k = j then ys else Y k
theorem upY_same (Y : Nat → List Nat) (j : Nat) (ys : List Nat) : upY Y j ys j = ys := if_pos rfl
theorem upY_ne (Y : Nat → List Nat) {j k : Nat} (ys : List Nat) (h : k ≠ j) : upY Y j ys k = Y k := if_neg h
section
variable {w : World} {lb rb lsb : Nat} {lv : Value} {vs : Nat → Value} {Y : Nat → List Nat} {szb szc : Nat}
theorem RL.set (h : RL w lsb vs Y) {j : Nat} (hj : j < 9) {W : World} {v : Value} {ys : List Nat} {B : Nat} (hg : w.grownBy W none) (ho : W.ownsRow B 26 1 v ys.length (uvs ys)) (hl : ys.length ≤ 1000) : RL (W.setCell ⟨lsb, j, none⟩ v) lsb (upV vs j v) (upY Y j ys) := by
  have b1 := (h.blk.kept hg (by simp)).set j v
  have hne : ∀ (B : Nat) (u : Value) n xs, W.ownsRow B 26 1 u n xs → (W.setCell ⟨lsb, j, none⟩ v).ownsRow B 26 1 u n xs := fun B u n xs hr => row_kept hr (gb_setCell (gb_refl _ (some lsb)) _) (fun k hk e => by
    obtain ⟨cur, hc⟩ := row_block hr k hk
    exact ne_of_type hc (h.blk.kept hg (by simp)) (by decide) (by simpa using e))
  refine ⟨?_, fun i hi => ?_, fun i hi => ?_⟩
  · have hj' : j = 0 ∨ j = 1 ∨ j = 2 ∨ j = 3 ∨ j = 4 ∨ j = 5 ∨ j = 6 ∨ j = 7 ∨ j = 8 := by omega
    rcases hj' with rfl | rfl | rfl | rfl | rfl | rfl | rfl | rfl | rfl <;> exact b1
  · by_cases e : i = j
    · subst e
      rw [upY_same]
      have : upV vs i v i = v := if_pos rfl
      rw [this]
      exact row_base (hne _ _ _ _ ho) (Nat.zero_le _)
    · rw [upY_ne _ _ e]
      have : upV vs j v i = vs i := if_neg e
      rw [this]
      exact hne _ _ _ _ (row_kept (h.ls i hi) hg (by simp))
  · by_cases e : i = j
    · subst e; rw [upY_same]; exact hl
    · rw [upY_ne _ _ e]; exact h.ln i hi
theorem RQ.set (h : RQ w lb rb lsb lv vs Y szb szc) {j : Nat} (hj : j < 9) {W : World} {v : Value} {ys : List Nat} {B : Nat} (hg : w.grownBy W none) (ho : W.ownsRow B 26 1 v ys.length (uvs ys)) (hl : ys.length ≤ 1000) (hrb : rb ≠ lsb) : RQ (W.setCell ⟨lsb, j, none⟩ v) lb rb lsb lv (upV vs j v) (upY Y j ys) szb szc ∧ Kp (fun k => k = lsb) w (W.setCell ⟨lsb, j, none⟩ v) := by
  have hK : Kp (fun k => k = lsb) w (W.setCell ⟨lsb, j, none⟩ v) := (Kp.of hg).step (gb_setCell (gb_refl _ (some lsb)) _) (fun i hi => .inl (by simpa using hi.symm))
  have hne : lb ≠ lsb := ne_of_type h.box h.rl.blk (by decide)
  refine ⟨⟨hK.box h.box hne, h.rl.set hj hg ho hl, ?_⟩, hK⟩
  have h1 := World.block_lt_of_cell? _ _ h.sz
  have h2 := hK.block rb h1 hrb
  simpa [World.cell?, h2] using h.sz
set_option maxRecDepth 100000 in
set_option maxHeartbeats 1000000 in
/-- Drop. -/
theorem drop_97 (h : RQ w lb rb lsb lv vs Y szb szc) (hrb : rb ≠ lsb) {H : Nat} :
    Calls Tryz.prog 32 #[.pointer (some ⟨lb, 0, none⟩), .int .u64 H] w fun y w' => ((∀ j, j < 9 → H ∉ Y j) ∧ y = .returned (.int .i64 20) ∧ w = w') ∨ ∃ j U V v', j < 9 ∧ Y j = U ++ H :: V ∧ H ∉ U ∧ (∀ j', j' < j → H ∉ Y j') ∧ y = .returned (.int .i64 0) ∧ Kp (fun k => k = lsb) w w' ∧ RQ w' lb rb lsb lv (upV vs j v') (upY Y j (U ++ V)) szb szc ∧ ∀ k, v'.ownBlock = some k → w.heap.size ≤ k := by
  have hw := where_50 h.box h.rl (H := H)
  have c2 := h.box.cell 2
  simp at c2
  have hwo := fun W (hW : w.grownBy W none) j U V (hj : j < 9) (hX : Y j = U ++ H :: V) => (without_95 ((h.kept0 hW).rl.ls j hj) (by have := h.rl.ln j hj; omega) hX).mono (R' := fun y w' => ∃ ao ln cc, y = .returned (.slice ao ln cc) ∧ w'.cell? ⟨lb, 2, none⟩ = some (.slice (some ⟨lsb, 0, none⟩) 9 9) ∧ w'.cell? ⟨lsb, j, none⟩ = some (vs j) ∧ w'.frozen? ⟨lsb, j, none⟩ = false ∧ Hid (Kp (fun k => k = lsb) w (w'.setCell ⟨lsb, j, none⟩ (.slice ao ln cc)) ∧ RQ (w'.setCell ⟨lsb, j, none⟩ (.slice ao ln cc)) lb rb lsb lv (upV vs j (.slice ao ln cc)) (upY Y j (U ++ V)) szb szc ∧ ∀ k, (Value.slice ao ln cc).ownBlock = some k → w.heap.size ≤ k)) (by
    rintro y w' ⟨v', rfl, hg, ho⟩
    have hl := h.rl.ln j hj
    rw [hX] at hl
    have hg' := gb_trans hW hg
    obtain ⟨r1, r2⟩ := h.set hj hg' ho (by simp at hl ⊢; omega) hrb
    have hk := h.kept0 hg'
    have hs := hW.size
    obtain ⟨ao, cc, rfl, _⟩ := row_shape ho
    refine ⟨ao, _, cc, rfl, gb_cellN hg' c2, hk.rl.cell hj, hk.rl.blk.fz j, r2, r1, fun k hk => ?_⟩
    rcases ho.2 with ⟨h1, _⟩ | ⟨g, cap, cur, h1, h2, _⟩
    · rw [h1] at hk; simp [Value.ownBlock] at hk
    · rw [h1] at hk; simp [Value.ownBlock] at hk; omega)
  have hC := fun j (hj : j < 9) => h.rl.cell hj
  clear h
  go_enter Tryz.func32, Tryz.ntmps32
  go_wp2_with (first | (go_at_call 85; go_must (refine hw.mono ?_); rintro y w1 ⟨rfl, (⟨rfl, hno⟩ | ⟨j, U, V, hj, rfl, hX, hU, hlo⟩)⟩) | fail)
  · go_ret
    exact .inl ⟨hno, rfl, rfl⟩
  · have hdr : w.grownBy w.drew none := gb_drew (gb_refl _ _)
    have cj := hC j hj
    have hw2 := hwo _ hdr j U V hj hX
    have hj9 : (j : Int) < 9 := by omega
    have hj0 : ¬ (j : Int) < 0 := by omega
    have HF : Hid _ := And.intro hX (And.intro hU hlo)
    clear hwo hC hw hX hU hlo
    generalize U.length = ul at *
    go_region_law ((go_simp; go_at_call 87; refine hw2.mono ?_; rintro y w2 ⟨ao, ln, cc, rfl, e2, ej, fj, hE⟩))
    all_goals
      go_wp2
      go_ret
      exact .inr ⟨j, hj, U, V, HF.out.1, HF.out.2.1, HF.out.2.2, rfl, hE.out.1, _, hE.out.2.1, hE.out.2.2⟩
end
end Go.Proofs.YtjkdflnnpdionaaGreat
/-
  The document's lists: put, Push, Shift.
-/
namespace Go.Proofs.YtjkdflnnpdionaaGreat
open Go.RowKit
set_option linter.unusedVariables false

set_option maxRecDepth 100000 in
/-- append([]uint64{u}, xs...) in a region that draws. -/
theorem step_front27 {w : World} {ops : Array Oper} {o : Oper} {a : Act} {K : Act → World → Prop} {Q : Exit → Act → World → Prop} {E : Prop} (hgd : o.guard = none) (s x : Operand)
    (ho : o.op = .call { callee := .builtin .append, args := #[s, x], argTypes := #[45, 45] })
    (base g : Nat) (u : Nat) (hs : a.eval s = .slice (some ⟨g, 0, none⟩) 1 1) (hown : w.ownsRow base 26 1 (.slice (some ⟨g, 0, none⟩) 1 1) 1 [.int .u64 (u : Int)])
    (wv : Value) (xs : List Nat) (hx : a.eval x = wv) (hrow : w.ownsRow 0 26 1 wv xs.length (uvs xs)) (hn : xs.length ≤ 100000) (hbase : base ≤ w.heap.size)
    (h : ∀ g' ln cap' w', w'.ownsRow base 26 1 (.slice (some ⟨g', 0, none⟩) ln cap') (u :: xs).length (uvs (u :: xs)) → w.grownBy w' (some g) → K (a.put o.dst (.slice (some ⟨g', 0, none⟩) ln cap')) w') :
    if Region.wanted o (yielded ops a.tmps) = true then Oper.wp Tryz.prog o a w K Q else E := by
  obtain ⟨i0, hi, hz0, hz1, hz2⟩ := info_parts Tryz.info26
  obtain ⟨ao, cap, rfl, _, _, _, hao⟩ := row_shape hrow
  have fin : ∀ g' cap' w', w'.ownsRow base 26 1 (.slice (some ⟨g', 0, none⟩) (1 + xs.length) cap') (1 + xs.length) ([.int .u64 (u : Int)] ++ uvs xs) → w.grownBy w' (some g) → K (a.put o.dst (.slice (some ⟨g', 0, none⟩) (1 + xs.length) cap')) w' := fun g' cap' w' h1 h2 => by
    refine h g' _ cap' w' ?_ h2
    rw [show (u :: xs).length = 1 + xs.length by simp; omega]
    exact h1
  cases ao with
  | none =>
    have hx0 : xs = [] ∧ cap = 0 := by
      rcases hrow.2 with ⟨e1, e2⟩ | ⟨g, c, cur, hv, _⟩
      · simp at e1; exact ⟨List.length_eq_zero_iff.1 e2, e1.2⟩
      · simp at hv
    obtain ⟨rfl, rfl⟩ := hx0
    have hw : Region.wanted o (yielded ops a.tmps) = true := by simp [Region.wanted, hgd]
    rw [if_pos hw]
    have hrun := run_append_owned_none (P := Tryz.prog) (w := w) base 45 o.type 26 i0 1 Tryz.underlying45 hi _ _ _ hown
    unfold Oper.wp execOp
    simp only [ho, resolve, invoke, builtin, Sem.run_bind, Sem.run_pure, Result.andThen_ok, List.map_toArray, List.map_cons, List.map_nil, hs, hx]
    have h9 := fin g 1 w (show w.ownsRow base 26 1 (.slice (some ⟨g, 0, none⟩) 1 1) 1 [.int .u64 (u : Int)] from hown) (gb_refl _ _)
    exact h9
  | some ad =>
    rcases Nat.eq_zero_or_pos xs.length with h0 | h0
    · obtain rfl := List.length_eq_zero_iff.1 h0
      exact step_app26 hgd s x ho base g 1 1 _ hs hown ad 0 cap [] hx rfl (by simp) (by simp) (by omega) hbase (fun g' cap' w' h1 h2 _ => fin g' cap' w' (by simpa [uvs] using h1) h2)
    · obtain ⟨b, hb⟩ := hao h0
      simp at hb
      subst hb
      refine step_app26 hgd s x ho base g 1 1 _ hs hown ⟨b, 0, none⟩ xs.length cap (uvs xs) hx (by simp [uvs]) ?_ (uvs_one xs) (by omega) hbase (fun g' cap' w' h1 h2 _ => fin g' cap' w' h1 h2)
      have := part_cells hrow 0 xs.length (by omega)
      simpa using this
section
variable {w : World} {lb rb lsb : Nat} {lv : Value} {vs : Nat → Value} {Y : Nat → List Nat} {szb szc : Nat}
set_option maxRecDepth 100000 in
set_option maxHeartbeats 2000000 in
/-- put, at a list's head. -/
theorem put_103 (h : RQ w lb rb lsb lv vs Y szb szc) (hrb : rb ≠ lsb) {H c k : Nat} {pl : Int} (hc : c < 3) (hk : k < 3) (hln : (Y (3 * c + k)).length < 1000)
    (hAt : Calls Tryz.prog 96 #[.pointer (some ⟨rb, 0, none⟩), .int .u64 H] w fun y w' => y = .returned (.tuple #[.int .i64 pl, .int .i64 c, .int .i64 0]) ∧ w.grownBy w' none) :
    Calls Tryz.prog 86 #[.pointer (some ⟨lb, 0, none⟩), .int .u64 H, .int .i64 ((k : Int) + 1), .bool false] w fun y w' => y = .returned (.tuple #[]) ∧ Kp (fun k => k = lsb) w w' ∧ ∃ v', RQ w' lb rb lsb lv (upV vs (3 * c + k) v') (upY Y (3 * c + k) (H :: Y (3 * c + k))) szb szc ∧ ∀ k, v'.ownBlock = some k → w.heap.size ≤ k := by
  have c0 := h.box.cell 0
  simp at c0
  have hl := fun W (hW : w.grownBy W none) => list_yes (h.kept0 hW) hc hk
  have hj : 3 * c + k < 9 := by omega
  obtain ⟨j, hjE⟩ : ∃ j, 3 * c + k = j := ⟨_, rfl⟩
  rw [hjE] at hl hj hln ⊢
  have hr := fun W (hW : w.grownBy W none) => (h.kept0 hW).rl.ls j hj
  have hfin := fun W (hW : w.grownBy W none) v' (ho : W.ownsRow 0 26 1 v' (H :: Y j).length (uvs (H :: Y j))) => h.set hj hW ho (by simp; omega) hrb
  have hj9 : (j : Int) < 9 := by omega
  have hj0 : ¬ (j : Int) < 0 := by omega
  have hCC : ∀ W, w.grownBy W none → W.cell? ⟨lb, 2, none⟩ = some (.slice (some ⟨lsb, 0, none⟩) 9 9) ∧ W.cell? ⟨lsb, j, none⟩ = some (vs j) ∧ W.frozen? ⟨lsb, j, none⟩ = false := fun W hW => ⟨(h.kept0 hW).box.cell 2, (h.kept0 hW).rl.cell hj, (h.kept0 hW).rl.blk.fz j⟩
  clear h
  go_enter Tryz.func86, Tryz.ntmps86
  go_wp2_with (first | (go_at_call 96; go_must (refine hAt.mono ?_); rintro y w1 ⟨rfl, hg1⟩) | (go_at_call 68; go_must (refine (hl _ hg1).mono ?_); rintro y w' ⟨rfl, rfl⟩; obtain ⟨e2, ej, fj⟩ := hCC _ hg1) | fail)
  have hal := World.grownBy_alloc w1 (.cells #[.int .u64 (H : Int)] 26) none
  have hgd : w1.grownBy (w1.alloc (.cells #[.int .u64 (H : Int)] 26)).drew none := gb_drew hal
  have hown : (w1.alloc (.cells #[.int .u64 (H : Int)] 26)).drew.ownsRow w1.heap.size 26 1 (.slice (some ⟨w1.heap.size, 0, none⟩) 1 1) 1 [.int .u64 (H : Int)] := row_kept (own_new (w := w1) (us := [.int .u64 (H : Int)]) rfl (by unfold maxLen; omega)) (gb_drew (gb_refl _ none)) (by simp)
  have hrw := hr _ (gb_trans hg1 hgd)
  have hcb : ∀ o, (w1.alloc o).cell? ⟨lsb, j, none⟩ = some (vs j) := fun o => gb_cellN (World.grownBy_alloc w1 o none) ej
  have hca : ∀ o, (w1.alloc o).cell? ⟨lb, 2, none⟩ = some (.slice (some ⟨lsb, 0, none⟩) 9 9) := fun o => gb_cellN (World.grownBy_alloc w1 o none) e2
  have hs1 := hg1.size
  clear hr hl hAt hjE
  go_region_law ((refine step_front27 rfl (.tmp 51) (.tmp 58) rfl w1.heap.size w1.heap.size H rfl hown (vs j) (Y j) rfl hrw (by omega) hgd.size ?_; intro g4 ln cap4 w4 ho4 hg4; (have hG4 : w.grownBy w4 none := gb_trans hg1 (gb_mine hgd hg4 (Nat.le_refl _))); obtain ⟨p2, pj, pf⟩ := hCC _ hG4))
  all_goals
    go_wp2
    go_end0
    obtain ⟨r1, r2⟩ := hfin _ hG4 _ (row_base ho4 (Nat.zero_le _))
    refine ⟨rfl, r2, _, r1, fun k hk => ?_⟩
    have := (ho4.lt k hk).1
    omega
end
end Go.Proofs.YtjkdflnnpdionaaGreat
/-
  The document's lists: Push, Shift.
-/
namespace Go.Proofs.YtjkdflnnpdionaaGreat
open Go.RowKit
set_option linter.unusedVariables false

/-- Where a handle stands, by number of list. -/
def Stands (Y : Nat → List Nat) (H j : Nat) (U V : List Nat) : Prop := j < 9 ∧ Y j = U ++ H :: V ∧ H ∉ U ∧ ∀ j', j' < j → H ∉ Y j'
def Nowhere (Y : Nat → List Nat) (H : Nat) : Prop := ∀ j, j < 9 → H ∉ Y j
theorem Stands.not {Y : Nat → List Nat} {H j : Nat} {U V : List Nat} (h : Stands Y H j U V) : ¬ Nowhere Y H := fun hn => hn j h.1 (by rw [h.2.1]; simp)
theorem Stands.eq {Y : Nat → List Nat} {H j i : Nat} {U V U' V' : List Nat} (h : Stands Y H j U V) (k : Stands Y H i U' V') : j = i ∧ U = U' ∧ V = V' := by
  have hji : j = i := by
    rcases Nat.lt_trichotomy j i with h1 | h1 | h1
    · exact absurd (show H ∈ Y j by rw [h.2.1]; simp) (k.2.2.2 j h1)
    · exact h1
    · exact absurd (show H ∈ Y i by rw [k.2.1]; simp) (h.2.2.2 i h1)
  subst hji
  have e : U ++ H :: V = U' ++ H :: V' := h.2.1.symm.trans k.2.1
  have hu := h.2.2.1
  have hu' := k.2.2.1
  clear h k
  revert U'
  induction U with
  | nil =>
    intro U' e hu'
    cases U' with
    | nil => simp at e; exact ⟨rfl, rfl, e⟩
    | cons x U' => simp at e; exact absurd (by rw [← e.1]; simp) hu'
  | cons y U ih =>
    intro U' e hu'
    cases U' with
    | nil => simp at e; exact absurd (by rw [e.1]; simp) hu
    | cons x U' =>
      simp at e
      obtain ⟨rfl, e2⟩ := e
      obtain ⟨_, h2, h3⟩ := ih (by simp at hu; exact hu.2) e2 (by simp at hu'; exact hu'.2)
      exact ⟨rfl, by rw [h2], h3⟩
section
variable {w : World} {lb rb lsb : Nat} {lv : Value} {vs : Nat → Value} {Y : Nat → List Nat} {szb szc : Nat}
theorem drop_yes (h : RQ w lb rb lsb lv vs Y szb szc) (hrb : rb ≠ lsb) {H j : Nat} {U V : List Nat} (hS : Stands Y H j U V) :
    Calls Tryz.prog 32 #[.pointer (some ⟨lb, 0, none⟩), .int .u64 H] w fun y w' => y = .returned (.int .i64 0) ∧ Kp (fun k => k = lsb) w w' ∧ ∃ v', RQ w' lb rb lsb lv (upV vs j v') (upY Y j (U ++ V)) szb szc ∧ ∀ k, v'.ownBlock = some k → w.heap.size ≤ k := by
  refine (drop_97 h hrb).mono ?_
  rintro y w' (⟨h1, _⟩ | ⟨i, U', V', v', h1, h2, h3, h4, rfl, h5, h6, h7⟩)
  · exact absurd h1 hS.not
  · obtain ⟨rfl, rfl, rfl⟩ := hS.eq ⟨h1, h2, h3, h4⟩
    exact ⟨rfl, h5, v', h6, h7⟩
theorem drop_no (h : RQ w lb rb lsb lv vs Y szb szc) (hrb : rb ≠ lsb) {H : Nat} (hS : Nowhere Y H) :
    Calls Tryz.prog 32 #[.pointer (some ⟨lb, 0, none⟩), .int .u64 H] w fun y w' => y = .returned (.int .i64 20) ∧ w = w' := by
  refine (drop_97 h hrb).mono ?_
  rintro y w' (⟨h1, rfl, rfl⟩ | ⟨i, U', V', v', h1, h2, h3, h4, rfl, h5, h6, h7⟩)
  · exact ⟨rfl, rfl⟩
  · exact absurd hS (Stands.not ⟨h1, h2, h3, h4⟩)
theorem where_yes (h : RQ w lb rb lsb lv vs Y szb szc) {H j : Nat} {U V : List Nat} (hS : Stands Y H j U V) :
    Calls Tryz.prog 85 #[.pointer (some ⟨lb, 0, none⟩), .int .u64 H] w fun y w' => y = .returned (.tuple #[.int .i64 (j : Nat), .int .i64 (U.length : Nat)]) ∧ w = w' := by
  refine (where_50 h.box h.rl).mono ?_
  rintro y w' ⟨rfl, (⟨rfl, h1⟩ | ⟨i, U', V', h1, rfl, h2, h3, h4⟩)⟩
  · exact absurd h1 hS.not
  · obtain ⟨rfl, rfl, rfl⟩ := hS.eq ⟨h1, h2, h3, h4⟩
    exact ⟨rfl, rfl⟩
theorem where_no (h : RQ w lb rb lsb lv vs Y szb szc) {H : Nat} (hS : Nowhere Y H) :
    Calls Tryz.prog 85 #[.pointer (some ⟨lb, 0, none⟩), .int .u64 H] w fun y w' => y = .returned (.tuple #[.int .i64 (-1), .int .i64 (-1)]) ∧ w = w' := by
  refine (where_50 h.box h.rl).mono ?_
  rintro y w' ⟨rfl, (⟨rfl, h1⟩ | ⟨i, U', V', h1, rfl, h2, h3, h4⟩)⟩
  · exact ⟨rfl, rfl⟩
  · exact absurd hS (Stands.not ⟨h1, h2, h3, h4⟩)
set_option maxRecDepth 100000 in
/-- Shift of an item of a list. -/
theorem shift_yes (h : RQ w lb rb lsb lv vs Y szb szc) (hrb : rb ≠ lsb) {H j c k : Nat} {U V : List Nat} {pl : Int} (hS : Stands Y H j U V) (hc : c < 3) (hk : k < 3) (hln : ∀ i, i < 9 → (Y i).length < 1000)
    (hAt : ∀ W, Kp (fun k => k = lsb) w W → Calls Tryz.prog 96 #[.pointer (some ⟨rb, 0, none⟩), .int .u64 H] W fun y w' => y = .returned (.tuple #[.int .i64 pl, .int .i64 c, .int .i64 0]) ∧ W.grownBy w' none) :
    Calls Tryz.prog 33 #[.pointer (some ⟨lb, 0, none⟩), .int .u64 H, .int .i64 ((k : Int) + 1)] w fun y w' => y = .returned (.int .i64 0) ∧ Kp (fun k => k = lsb) w w' ∧ ∃ vs', RQ w' lb rb lsb lv vs' (upY (upY Y j (U ++ V)) (3 * c + k) (H :: upY Y j (U ++ V) (3 * c + k))) szb szc ∧ ∀ i, i < 9 → vs' i = vs i ∨ ∀ k, (vs' i).ownBlock = some k → w.heap.size ≤ k := by
  have hd := (drop_yes h hrb hS).mono (R' := fun y w1 => y = .returned (.int .i64 0) ∧ ∃ v', Hid (Kp (fun k => k = lsb) w w1 ∧ RQ w1 lb rb lsb lv (upV vs j v') (upY Y j (U ++ V)) szb szc ∧ ∀ k, v'.ownBlock = some k → w.heap.size ≤ k)) (by
    rintro y w1 ⟨rfl, h1, v', h2, h3⟩
    exact ⟨rfl, v', h1, h2, h3⟩)
  have hp := fun w1 v' (hE : Hid (Kp (fun k => k = lsb) w w1 ∧ RQ w1 lb rb lsb lv (upV vs j v') (upY Y j (U ++ V)) szb szc ∧ ∀ k, v'.ownBlock = some k → w.heap.size ≤ k)) => (put_103 hE.out.2.1 hrb (H := H) (c := c) (k := k) (pl := pl) hc hk (by
      by_cases e : 3 * c + k = j
      · rw [e, upY_same]
        have := hln j hS.1
        rw [hS.2.1] at this
        simp at this ⊢; omega
      · rw [upY_ne _ _ e]; exact hln _ (by omega)) (hAt w1 hE.out.1)).mono (R' := fun y w2 => y = .returned (.tuple #[]) ∧ Hid (Kp (fun k => k = lsb) w w2 ∧ ∃ vs', RQ w2 lb rb lsb lv vs' (upY (upY Y j (U ++ V)) (3 * c + k) (H :: upY Y j (U ++ V) (3 * c + k))) szb szc ∧ ∀ i, i < 9 → vs' i = vs i ∨ ∀ k, (vs' i).ownBlock = some k → w.heap.size ≤ k)) (by
    rintro y w2 ⟨rfl, h1, v2, h2, h3⟩
    refine ⟨rfl, hE.out.1.trans h1 (fun _ h => h) (fun k hk => .inl hk), _, h2, fun i hi => ?_⟩
    have hsz := hE.out.1.size
    by_cases e1 : i = 3 * c + k
    · right
      intro x hx
      have : upV (upV vs j v') (3 * c + k) v2 i = v2 := if_pos e1
      rw [this] at hx
      exact Nat.le_trans hsz (h3 x hx)
    · have : upV (upV vs j v') (3 * c + k) v2 i = upV vs j v' i := if_neg e1
      rw [this]
      by_cases e2 : i = j
      · right
        intro x hx
        have : upV vs j v' i = v' := if_pos e2
        rw [this] at hx
        exact hE.out.2.2 x hx
      · left; exact if_neg e2)
  have k1 : ¬ (k : Int) + 1 < 1 := by omega
  have k2 : ¬ (k : Int) + 1 > 3 := by omega
  have k2' : ¬ (3 : Int) < (k : Int) + 1 := by omega
  clear h hS hAt hln
  go_enter Tryz.func33, Tryz.ntmps33
  go_wp2_with (first | (go_at_call 32; go_must (refine hd.mono ?_); rintro y w1 ⟨rfl, v', hE1⟩) | (go_at_call 86; go_must (with_reducible refine (hp _ _ hE1).mono ?_); rintro y w2 ⟨rfl, hE2⟩) | fail)
  go_ret
  exact ⟨rfl, hE2.out⟩
set_option maxRecDepth 100000 in
theorem shift_no (h : RQ w lb rb lsb lv vs Y szb szc) (hrb : rb ≠ lsb) {H k : Nat} (hS : Nowhere Y H) (hk : k < 3) :
    Calls Tryz.prog 33 #[.pointer (some ⟨lb, 0, none⟩), .int .u64 H, .int .i64 ((k : Int) + 1)] w fun y w' => y = .returned (.int .i64 20) ∧ w = w' := by
  have hd := drop_no h hrb hS
  have k1 : ¬ (k : Int) + 1 < 1 := by omega
  have k2 : ¬ (k : Int) + 1 > 3 := by omega
  have k2' : ¬ (3 : Int) < (k : Int) + 1 := by omega
  clear h hS
  go_enter Tryz.func33, Tryz.ntmps33
  go_wp2_with (first | (go_at_call 32; go_must (refine hd.mono ?_); rintro y w1 ⟨rfl, rfl⟩) | fail)
  go_ret
  exact ⟨rfl, rfl⟩
set_option maxRecDepth 100000 in
theorem shift_arg {H : Nat} {k : Int} (hk : ¬ (1 ≤ k ∧ k ≤ 3)) (w : World) :
    Calls Tryz.prog 33 #[.pointer (some ⟨lb, 0, none⟩), .int .u64 H, .int .i64 k] w fun y w' => y = .returned (.int .i64 1) ∧ w = w' := by
  by_cases k1 : k < 1
  · clear hk
    go_enter Tryz.func33, Tryz.ntmps33
    go_wp2
    go_ret
    exact ⟨rfl, rfl⟩
  · have k2 : (3 : Int) < k := by omega
    clear hk
    go_enter Tryz.func33, Tryz.ntmps33
    go_wp2
    go_ret
    exact ⟨rfl, rfl⟩
end
end Go.Proofs.YtjkdflnnpdionaaGreat
/-
  The document's Set: Find and At of good handles and of others.
-/
namespace Go.Proofs.YtjkdflnnpdionaaGreat
open Go.RowKit
set_option linter.unusedVariables false

section
variable {w : World} {rb : Nat} {F : Nat → Prop} {Q : Rl} {c d e : Int} {A : Ab} {R : Rb}
theorem Rep.good (hr : Rep A R) (hA : Fit2 A) {H p k : Nat} (hH : IsH A H p k) : ∃ i, i < R.N ∧ R.tk i = true ∧ R.hdl i = H ∧ R.cl i = A.own p ∧ ∀ j, j < i → R.tk j = true → R.hdl j ≠ H := by
  obtain ⟨i, hi, hpl⟩ := hr.sur p k hH.hp hH.hk
  obtain ⟨h1, h2, h3, h4⟩ := hr.of hA.toFit1 hi hH.hp hH.hk hpl
  refine ⟨i, hi, by rw [h3]; exact hH.ht, by rw [h4]; exact hH.hH.symm, h1, fun j hj htj e => ?_⟩
  obtain ⟨p', k', g1, g2, g3, g4, g5, g6⟩ := hr.at' j (by omega)
  obtain ⟨_, _, _, g7⟩ := hr.of hA.toFit1 (show j < R.N by omega) g1 g2 g3
  have hH' : IsH A H p' k' := ⟨g1, g2, by rw [← g6]; exact htj, by rw [← e, g7]⟩
  obtain ⟨rfl, rfl⟩ := isH_eq hA hH hH'
  have := hr.inj i j hi (by omega) (by rw [hpl, g3])
  omega
theorem Rep.bad (hr : Rep A R) (hA : Fit2 A) {H : Nat} (hH : ∀ p k, ¬ IsH A H p k) : ∀ j, j < R.N → R.tk j = true → R.hdl j ≠ H := fun j hj ht e => by
  obtain ⟨p', k', g1, g2, g3, g4, g5, g6⟩ := hr.at' j hj
  obtain ⟨_, _, _, g7⟩ := hr.of hA.toFit1 hj g1 g2 g3
  exact hH p' k' ⟨g1, g2, by rw [← g6]; exact ht, by rw [← e, g7]⟩
theorem rfind_good (h : IsR w rb F Q c d e R) (hR : RFit R) (hr : Rep A R) (hA : Fit2 A) {H p k : Nat} (hH : IsH A H p k) :
    Calls Tryz.prog 79 #[.pointer (some ⟨rb, 0, none⟩), .int .u64 H] w fun y w' => ∃ i : Nat, y = .returned (.int .i64 i) ∧ i < R.N ∧ R.cl i = A.own p ∧ w.grownBy w' none := by
  obtain ⟨i, h1, h2, h3, h4, h5⟩ := hr.good hA hH
  refine (rfind_yes h hR h1 h2 h3 h5).mono ?_
  rintro y w' ⟨rfl, hf⟩
  exact ⟨i, rfl, h1, h4, hf⟩
set_option maxRecDepth 100000 in
/-- At of a good handle. -/
theorem rat_good (h : IsR w rb F Q c d e R) (hR : RFit R) (hr : Rep A R) (hA : Fit2 A) {H p k : Nat} (hH : IsH A H p k) :
    Calls Tryz.prog 96 #[.pointer (some ⟨rb, 0, none⟩), .int .u64 H] w fun y w' => ∃ pl : Int, y = .returned (.tuple #[.int .i64 pl, .int .i64 (A.own p : Nat), .int .i64 0]) ∧ w.grownBy w' none := by
  have hN := hR.N
  have hf := (rfind_good h hR hr hA hH).mono (R' := fun y w1 => ∃ (i cb cc : Nat) (pl : Nat), y = .returned (.int .i64 i) ∧ i < R.N ∧ w.grownBy w1 none ∧ w1.cell? ⟨rb, 7, none⟩ = some (.slice (some ⟨cb, 0, none⟩) R.N cc) ∧ w1.cell? ⟨cb, i * 4, none⟩ = some (.int .i64 pl) ∧ w1.cell? ⟨cb, i * 4 + 1, none⟩ = some (.int .i64 (A.own p : Nat))) (by
    rintro y w1 ⟨i, rfl, hi, hcl, hf⟩
    have h' := h.kept0 hf
    obtain ⟨cb, cc, hcv⟩ := h'.cshape (by omega)
    have c7 := h'.sc 7
    simp [rset, hcv] at c7
    have e0 := h'.ccell hcv hi (j := 0) (by omega)
    have e1 := h'.ccell hcv hi (j := 1) (by omega)
    simp [rckC] at e0 e1
    rw [hcl] at e1
    exact ⟨i, cb, cc, _, rfl, hi, hf, c7, e0, e1⟩)
  generalize A.own p = op at *
  generalize R.N = N at *
  clear h hR hr hA hH
  go_enter Tryz.func96, Tryz.ntmps96
  go_wp2_with (first | (go_at_call 79; go_must (refine hf.mono ?_); rintro y w1 ⟨i, cb, cc, pl, rfl, hi, hf1, c7, e0, e1⟩; (have hiz : (i : Int) < (N : Int) := by omega); (have hi0 : ¬ (i : Int) < 0 := by omega)) | fail)
  go_quiet (fail)
  go_wp2
  go_ret3
  exact ⟨_, rfl, gb_trans hf1 (gb_drewN (gb_refl _ _) _)⟩
theorem rfind_bad (h : IsR w rb F Q c d e R) (hR : RFit R) (hr : Rep A R) (hA : Fit2 A) {H : Nat} (hH : ∀ p k, ¬ IsH A H p k) :
    Calls Tryz.prog 79 #[.pointer (some ⟨rb, 0, none⟩), .int .u64 H] w fun y w' => y = .returned (.int .i64 (-1)) ∧ w.grownBy w' none := rfind_no h hR (hr.bad hA hH)
/-- at, of whatever. -/
theorem rat_any {v : Value} {xs : List Nat} {H : Nat} (h : w.ownsRow 0 26 1 v xs.length (uvs xs)) (hl : xs.length ≤ 1000000) :
    Calls Tryz.prog 80 #[v, .int .u64 H] w fun y w' => ∃ x : Int, y = .returned (.int .i64 x) ∧ decide (x ≥ 0) = decide (H ∈ xs) ∧ (0 ≤ x ↔ H ∈ xs) ∧ w = w' := by
  by_cases hm : H ∈ xs
  · obtain ⟨U, V, e1, e2⟩ := List.eq_append_cons_of_mem hm
    refine (rat_yes h (by omega) e1 e2).mono ?_
    rintro y w' ⟨rfl, rfl⟩
    exact ⟨_, rfl, by simp [hm], by simp [hm], rfl⟩
  · obtain ⟨ao, cc, hv, _, _, _, _⟩ := row_shape h
    rw [hv] at h ⊢
    refine (rat_no h (by omega) hm).mono ?_
    rintro y w' ⟨rfl, rfl⟩
    exact ⟨_, rfl, by simp [hm], by simp [hm], rfl⟩
set_option maxRecDepth 100000 in
/-- Is: a good handle. -/
theorem is_good {lb lsb : Nat} {lv : Value} {xl : List Nat} (hb : Box w 123 lb #[.pointer (some ⟨rb, 0, none⟩), lv, .slice (some ⟨lsb, 0, none⟩) 9 9]) (hl : w.ownsRow 0 26 1 lv xl.length (uvs xl)) (hn : xl.length ≤ 1000000) (h : IsR w rb F Q c d e R) (hR : RFit R) (hr : Rep A R) (hA : Fit2 A) {H p k : Nat} (hH : IsH A H p k) :
    Calls Tryz.prog 27 #[.pointer (some ⟨lb, 0, none⟩), .int .u64 H] w fun y w' => y = .returned (.bool (decide (H ∈ xl))) ∧ w.grownBy w' none := by
  have hf := (rfind_good h hR hr hA hH).mono (R' := fun y w1 => ∃ i : Nat, y = .returned (.int .i64 i) ∧ w.grownBy w1 none) (by
    rintro y w1 ⟨i, rfl, _, _, hf⟩
    exact ⟨i, rfl, hf⟩)
  have c0 := hb.cell 0
  simp at c0
  have c1 := hb.cell 1
  simp at c1
  have hat := fun W (hW : w.grownBy W none) => rat_any (w := W) (H := H) (row_kept hl hW (by simp)) hn
  obtain ⟨bb, hbb⟩ : ∃ bb, decide (H ∈ xl) = bb := ⟨_, rfl⟩
  rw [hbb]
  clear h hR hr hA hH hb hl
  go_enter Tryz.func27, Tryz.ntmps27
  go_wp2_with (first | (go_at_call 79; go_must (refine hf.mono ?_); rintro y w1 ⟨i, rfl, hf1⟩; (have hi0 : (i : Int) ≥ 0 := by omega); (have d1 := gb_cellN hf1 c1)) | (go_at_call 80; go_must (refine (hat _ hf1).mono ?_); rintro y w' ⟨x, rfl, hx, hx2, rfl⟩) | fail)
  go_ret
  refine ⟨?_, hf1⟩
  rw [← hbb, ← hx]
  rfl
set_option maxRecDepth 100000 in
theorem is_bad {lb lsb : Nat} {lv : Value} (hb : Box w 123 lb #[.pointer (some ⟨rb, 0, none⟩), lv, .slice (some ⟨lsb, 0, none⟩) 9 9]) (h : IsR w rb F Q c d e R) (hR : RFit R) (hr : Rep A R) (hA : Fit2 A) {H : Nat} (hH : ∀ p k, ¬ IsH A H p k) :
    Calls Tryz.prog 27 #[.pointer (some ⟨lb, 0, none⟩), .int .u64 H] w fun y w' => y = .returned (.bool false) ∧ w.grownBy w' none := by
  have hf := rfind_bad h hR hr hA hH
  have c0 := hb.cell 0
  simp at c0
  clear h hR hr hA hH hb
  go_enter Tryz.func27, Tryz.ntmps27
  go_wp2_with (first | (go_at_call 79; go_must (refine hf.mono ?_); rintro y w1 ⟨rfl, hf1⟩) | fail)
  go_ret
  exact ⟨rfl, hf1⟩
end
end Go.Proofs.YtjkdflnnpdionaaGreat
