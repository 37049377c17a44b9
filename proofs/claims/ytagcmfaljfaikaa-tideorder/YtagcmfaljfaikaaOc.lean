/-
  TideOrder's walk.
-/
import Derived.Test.YtagcmfaljfaikaaOb
namespace Go.Proofs.Ytagcmfaljfaikaa
open Go.RowKit
set_option linter.unusedVariables false

/-- Where the first loop stands: i puts were done; lv is their row. -/
structure O1 (w wr : World) (wb : Nat) (F : Nat → Prop) (H E : Nat → Int) (i : Nat) (lv : Value) (n : Nat) : Prop where
  wh : Wh wr wb F (Liv H E i) (cnt E i) n
  ni : n ≤ i
  g : w.grownBy wr none
  fl : ∀ k, F k → w.heap.size ≤ k
  row : wr.ownsRow w.heap.size 87 2 lv i (rng i (putC H E))
  rf : ∀ k, lv.ownBlock = some k → ¬ F k
theorem O1.kept0 {w wr w' : World} {wb : Nat} {F : Nat → Prop} {H E : Nat → Int} {i : Nat} {lv : Value} {n : Nat} (h : O1 w wr wb F H E i lv n) (hf : wr.grownBy w' none) : O1 w w' wb F H E i lv n :=
  ⟨h.wh.kept0 hf, h.ni, gb_trans h.g hf, h.fl, row_kept h.row hf (by simp), h.rf⟩
theorem own_base {w : World} {B : Nat} {e : TypeId} {s : Nat} {v : Value} {n : Nat} {xs : List Value} (h : w.ownsRow B e s v n xs) {j : Nat} (hj : v.ownBlock = some j) : B ≤ j ∧ j < w.heap.size := by
  rcases h.2 with ⟨h1, _⟩ | ⟨g, c, cur, h1, h2, h3, _⟩
  · rw [h1] at hj; simp [Value.ownBlock] at hj
  · rw [h1] at hj; simp [Value.ownBlock] at hj; subst hj; exact ⟨h2, lt_of_block h3⟩
/-- a put more in the row -/
theorem O1.push {w wr w' : World} {wb : Nat} {F : Nat → Prop} {H E : Nat → Int} {i : Nat} {lv : Value} {n g cap : Nat} (h : O1 w wr wb F H E i lv n) (hg : wr.grownBy w' lv.ownBlock) (hat : lv.ownBlock = some g ∨ wr.heap.size ≤ g)
    (hrow : w'.ownsRow w.heap.size 87 2 (.slice (some ⟨g, 0, none⟩) (i + 1) cap) (i + 1) (rng i (putC H E) ++ [.int .i64 (H i), .int .i64 (E i)])) :
    Wh w' wb F (Liv H E i) (cnt E i) n ∧ w.grownBy w' none ∧ w'.ownsRow w.heap.size 87 2 (.slice (some ⟨g, 0, none⟩) (i + 1) cap) (i + 1) (rng (i + 1) (putC H E)) ∧ ¬ F g := by
  have hK : Kp (fun j => lv.ownBlock = some j) wr w' := (Kp.refl _ _).step hg (fun j hj => .inl hj)
  refine ⟨h.wh.kept hK (fun j hj hj2 => h.rf j hj2 hj), gb_of_kp h.g hK (fun j hj => (own_base h.row hj).1), ?_, fun hj => ?_⟩
  · rw [rng_succ]; exact hrow
  · rcases hat with h1 | h1
    · exact h.rf _ h1 hj
    · have := h.wh.fl _ hj; omega
/-- the wheel was set -/
theorem O1.next {w w4 w5 : World} {wb : Nat} {F F' : Nat → Prop} {H E : Nat → Int} {i : Nat} {lv : Value} {n0 : Nat} (hg4 : w.grownBy w4 none) (hrow : w4.ownsRow w.heap.size 87 2 lv (i + 1) (rng (i + 1) (putC H E))) (hrf : ∀ k, lv.ownBlock = some k → ¬ F k) (hfl : ∀ k, F k → w.heap.size ≤ k)
    (hK : Kp F w4 w5) (hF : ∀ k, F' k → F k ∨ w4.heap.size ≤ k) (hw : Wh w5 wb F' (Liv H E (i + 1)) (cnt E (i + 1)) n0) (hn : n0 ≤ i + 1) : O1 w w5 wb F' H E (i + 1) lv n0 := by
  refine ⟨hw, hn, gb_of_kp hg4 hK hfl, fun k hk => ?_, row_same hrow (fun j hj => hK.block j (own_base hrow hj).2 (hrf j hj)), fun k hk hk2 => ?_⟩
  · rcases hF k hk with h | h
    · exact hfl k h
    · exact Nat.le_trans hg4.size h
  · rcases hF k hk2 with h | h
    · exact hrf k hk h
    · have := (own_base hrow hk).2; omega

/-- Where the second loop stands: q tells the k first. -/
structure O2 (w wr : World) (wb : Nat) (F : Nat → Prop) (S : En → Prop) (sets : Nat) (H E : Nat → Int) (i : Nat) (lv dv : Value) (ds : List En) (B k : Nat) (q : Nat → En) (rv : Value) (n1 n0 : Nat) : Prop where
  wh : Wh wr wb F (fun y => S y ∧ ∀ j, j < k → q j ≠ y) sets n1
  nk : n1 + k = n0
  sq : Seq S k q
  g : w.grownBy wr none
  fl : ∀ j, F j → w.heap.size ≤ j
  row : wr.ownsRow B 87 2 rv k (rng k (seqC q))
  rf : ∀ j, rv.ownBlock = some j → ¬ F j
  lrow : wr.ownsRow w.heap.size 87 2 lv i (rng i (putC H E))
  lf : ∀ j, lv.ownBlock = some j → ¬ F j
  lb : ∀ j, lv.ownBlock = some j → j < B
  drow : wr.ownsRow w.heap.size 89 1 dv ds.length (ds.map fun d => Value.int .u64 d.h)
  df : ∀ j, dv.ownBlock = some j → ¬ F j
  wB : w.heap.size ≤ B
  Bs : B ≤ wr.heap.size
section
variable {w wr w' : World} {wb : Nat} {F : Nat → Prop} {S : En → Prop} {sets : Nat} {H E : Nat → Int} {i : Nat} {lv dv : Value} {ds : List En} {B k : Nat} {q : Nat → En} {rv : Value} {n1 n0 : Nat}
theorem O2.kept0 (h : O2 w wr wb F S sets H E i lv dv ds B k q rv n1 n0) (hf : wr.grownBy w' none) : O2 w w' wb F S sets H E i lv dv ds B k q rv n1 n0 :=
  ⟨h.wh.kept0 hf, h.nk, h.sq, gb_trans h.g hf, h.fl, row_kept h.row hf (by simp), h.rf, row_kept h.lrow hf (by simp), h.lf, h.lb, row_kept h.drow hf (by simp), h.df, h.wB, Nat.le_trans h.Bs hf.size⟩
/-- an entry more in the row (the wheel not yet) -/
theorem O2.push (h : O2 w wr wb F S sets H E i lv dv ds B k q rv n1 n0) {e : En} {g cap : Nat} (hg : wr.grownBy w' rv.ownBlock) (hat : rv.ownBlock = some g ∨ wr.heap.size ≤ g)
    (hrow : w'.ownsRow B 87 2 (.slice (some ⟨g, 0, none⟩) (k + 1) cap) (k + 1) (rng k (seqC q) ++ [.int .i64 e.h, .int .i64 e.x])) :
    Wh w' wb F (fun y => S y ∧ ∀ j, j < k → q j ≠ y) sets n1 ∧ w.grownBy w' none ∧ w'.ownsRow B 87 2 (.slice (some ⟨g, 0, none⟩) (k + 1) cap) (k + 1) (rng (k + 1) (seqC (upd q k e))) ∧ ¬ F g ∧ w'.ownsRow w.heap.size 87 2 lv i (rng i (putC H E)) ∧ w'.ownsRow w.heap.size 89 1 dv ds.length (ds.map fun d => Value.int .u64 d.h) := by
  have hK : Kp (fun j => rv.ownBlock = some j) wr w' := (Kp.refl _ _).step hg (fun j hj => .inl hj)
  refine ⟨h.wh.kept hK (fun j hj hj2 => h.rf j hj2 hj), gb_of_kp h.g hK (fun j hj => Nat.le_trans h.wB (own_base h.row hj).1), ?_, fun hj => ?_, row_kept h.lrow hg (fun j hj e' => ?_), row_kept h.drow hg (fun j hj e' => ?_)⟩
  · have : rng k (seqC q) ++ [.int .i64 e.h, .int .i64 e.x] = rng (k + 1) (seqC (upd q k e)) := by
      rw [rng_succ]
      unfold seqC
      rw [upd_same]
      congr 1
      exact rng_congr (fun j hj => by rw [upd_other _ _ (by omega)])
    rw [← this]; exact hrow
  · rcases hat with h1 | h1
    · exact h.rf _ h1 hj
    · have := h.wh.fl _ hj; omega
  · have h1 := h.lb j hj
    have h2 := (own_base h.row e'.symm).1
    omega
  · obtain ⟨c1, h1⟩ := row_block h.drow j hj
    obtain ⟨c2, h2⟩ := row_block h.row j e'.symm
    exact ne_of_type h1 h2 (by decide) rfl
/-- the entry was taken -/
theorem O2.next {w4 : World} {g cap : Nat} {e : En} (h : O2 w wr wb F S sets H E i lv dv ds B k q rv (n1 + 1) n0) (hg4 : w.grownBy w4 none) (hB4 : B ≤ w4.heap.size) (hrow : w4.ownsRow B 87 2 (.slice (some ⟨g, 0, none⟩) (k + 1) cap) (k + 1) (rng (k + 1) (seqC (upd q k e)))) (hFg : ¬ F g) (hl : w4.ownsRow w.heap.size 87 2 lv i (rng i (putC H E))) (hd : w4.ownsRow w.heap.size 89 1 dv ds.length (ds.map fun d => Value.int .u64 d.h))
    (hK : Kp F w4 w') (hw : Wh w' wb F (fun y => (S y ∧ ∀ j, j < k → q j ≠ y) ∧ y.h ≠ e.h) sets n1) (hT : ∀ x y, S x → S y → x.t = y.t → x = y) (hone : ∀ x y, S x → S y → x.h = y.h → x = y) (he : S e) (hne : ∀ j, j < k → q j ≠ e) (hmin : ∀ y, (S y ∧ ∀ j, j < k → q j ≠ y) → ¬ ah y e) :
    O2 w w' wb F S sets H E i lv dv ds B (k + 1) (upd q k e) (.slice (some ⟨g, 0, none⟩) (k + 1) cap) n1 n0 := by
  have keep : ∀ {e : TypeId} {s : Nat} {B : Nat} {v : Value} {n : Nat} {xs : List Value}, w4.ownsRow B e s v n xs → (∀ j, v.ownBlock = some j → ¬ F j) → w'.ownsRow B e s v n xs := fun hr hf => row_same hr (fun j hj => hK.block j (own_base hr hj).2 (hf j hj))
  have hgF : ∀ j, (Value.slice (some ⟨g, 0, none⟩) (k + 1) cap).ownBlock = some j → ¬ F j := fun j hj => by simp [Value.ownBlock] at hj; subst hj; exact hFg
  refine ⟨hw.congr (fun y => ?_), by have := h.nk; omega, h.sq.step hT he hne (fun y hy hyn => hmin y ⟨hy, hyn⟩), gb_of_kp hg4 hK h.fl, h.fl, keep hrow hgF, hgF, keep hl h.lf, h.lf, h.lb, keep hd h.df, h.df, h.wB, Nat.le_trans hB4 hK.size⟩
  constructor
  · rintro ⟨⟨h1, h2⟩, h3⟩
    refine ⟨h1, fun j hj => ?_⟩
    by_cases e' : j = k
    · rw [e', upd_same]; exact fun e'' => h3 (by rw [e''])
    · rw [upd_other _ _ e']; exact h2 j (by omega)
  · rintro ⟨h1, h2⟩
    refine ⟨⟨h1, fun j hj => ?_⟩, fun e' => ?_⟩
    · have := h2 j (by omega); rwa [upd_other _ _ (by omega)] at this
    · have := h2 k (by omega); rw [upd_same] at this
      exact this (hone e y he h1 e'.symm)
end

set_option maxRecDepth 100000 in
set_option maxHeartbeats 32000000 in
theorem order_any (a : Option Addr) (n c : Nat) (w : World) (hn : n ≤ maxLen) (hin : PutIn w a n) : Calls Try.prog 8 #[.slice a n c] w fun y w' => y = .returned (.bool true) ∧ w.grownBy w' none := by
  have hn' : (n : Int) ≤ 9223372036854775807 := by unfold maxLen at hn; omega
  obtain ⟨X0, X1, hX⟩ : ∃ X0 X1 : Nat → Int, ∀ i, i < n → ∃ b o, a = some ⟨b, o, none⟩ ∧ w.cell? ⟨b, o + i * 2, none⟩ = some (.int .i64 (X0 i)) ∧ w.cell? ⟨b, o + i * 2 + 1, none⟩ = some (.int .i64 (X1 i)) ∧ isI (X0 i) ∧ isI (X1 i) := by
    refine ⟨fun i => if h : i < n then (hin i h).choose_spec.choose_spec.2.choose else 0, fun i => if h : i < n then (hin i h).choose_spec.choose_spec.2.choose_spec.choose else 0, fun i hi => ?_⟩
    simp only [dif_pos hi]
    exact ⟨_, _, (hin i hi).choose_spec.choose_spec.1, (hin i hi).choose_spec.choose_spec.2.choose_spec.choose_spec.1, (hin i hi).choose_spec.choose_spec.2.choose_spec.choose_spec.2.1, (hin i hi).choose_spec.choose_spec.2.choose_spec.choose_spec.2.2.1, (hin i hi).choose_spec.choose_spec.2.choose_spec.choose_spec.2.2.2⟩
  obtain ⟨H, hH⟩ : ∃ H : Nat → Int, H = fun i => wth (X0 i) 0 40 := ⟨_, rfl⟩
  have hHb : ∀ i, 0 ≤ H i ∧ H i ≤ 40 := fun i => by rw [hH]; exact wth_in (by omega)
  have hHw : ∀ i, i < n → ∀ W, Calls Try.prog 29 #[.int .i64 (X0 i), .int .i64 0, .int .i64 40] W fun y w' => y = .returned (.int .i64 (H i)) ∧ w' = W := fun i hi W => by
    obtain ⟨b, o, _, _, _, hb, _⟩ := hX i hi
    rw [hH]; exact within_29 (X0 i) 0 40 hb (by omega) (by omega) (by omega) (by omega) W
  clear hin hH
  have c21 := new_21 w
  go_enter Try.func8, Try.ntmps8
  go_wp2_with fail
  refine c21.mono ?_
  rintro y w1 ⟨wb, F, rfl, hg1, hF1, hW1⟩
  have c13 := wakes_13 w1
  clear c21
  go_wp2_with (first | (go_at_call 13; go_must (refine c13.mono ?_); rintro y w2 ⟨rfl, hg2⟩) | fail)
  have ho : O1 w w2 wb F H X1 0 (.slice none 0 0) 0 := ⟨(hW1.kept0 hg2).congr (fun y => (liv_zero y).symm), Nat.le_refl _, gb_trans hg1 hg2, hF1, ⟨rfl, .inl ⟨rfl, rfl⟩⟩, fun k hk => by simp [Value.ownBlock] at hk⟩
  clear hW1 hg1 hg2 hF1 c13
  go_loopw [4, 5] (fun lv v wr => ∃ (i : Nat) (F : Nat → Prop) (n0 : Nat), i ≤ n ∧ i ≤ 300 ∧ v = .int .i64 i ∧ O1 w wr wb F H X1 i lv n0) (fun _ v _ => n - (intOf v).toNat)
  case atStart => exact ⟨0, F, 0, by omega, by omega, rfl, ho⟩
  case round =>
    clear ho
    obtain ⟨i, F, n0, hi, hi3, rfl, ho⟩ := hrel
    have hHH : ∀ y, Liv H X1 i y → 0 ≤ y.h ∧ y.h ≤ 40 := fun y hy => by obtain ⟨a', _, h2, _⟩ := hy; have := hHb a'; omega
    have hHi : ∀ y, Liv H X1 i y → isH y.h := fun y hy => by have := hHH y hy; unfold isH; omega
    by_cases hlt2 : i < n ∧ i < 300
    · obtain ⟨hin1, hin2⟩ := hlt2
      obtain ⟨bb, oo, rfl, y0, y1, b0, b1⟩ := hX i hin1
      replace y0 := gb_cellN ho.g y0
      replace y1 := gb_cellN ho.g y1
      have hd1 : decide ((i : Int) < n) = true := by simp; omega
      have hd2 : decide ((i : Int) < 300) = true := by simp; omega
      have hd3 : decide (i < n) = true := by simp; omega
      have hd4 : decide (i < 300) = true := by simp; omega
      have hib : (i : Int) < n := by omega
      have hw29 := hHw i hin1
      have hHr := hHb i
      have hcu : IntKind.u64.wrap (H i) = H i := by simp [IntKind.wrap, IntKind.bits, IntKind.signed]; omega
      have hal := fun V => World.grownBy_alloc V (.cells #[.int .i64 (H i), .int .i64 (X1 i)] 87) none
      clear hX hHw
      obtain ⟨ao, cp, hdv, _, _, _, _⟩ := row_shape ho.row
      subst hdv
      go_wp2
      go_region_held3 (fun w' => w'.cell? ⟨bb, oo + i * 2, none⟩ = some (.int .i64 (X0 i)) ∧ w'.cell? ⟨bb, oo + i * 2 + 1, none⟩ = some (.int .i64 (X1 i))) ((first | go_keep)) ((first | (go_at_call 29; with_reducible refine (hw29 _).mono ?_; rintro y w3 ⟨rfl, rfl⟩)))
      all_goals
        have hBV : Box (wr.alloc (.cells #[.int .i64 (H i), .int .i64 (X1 i)] 87)).drew 87 wr.heap.size #[.int .i64 (H i), .int .i64 (X1 i)] := Box.new _ _ _
        have hoV := ho.kept0 (gb_drew (hal wr))
        have hpbn : ∀ j, (Value.slice ao i cp).ownBlock = some j → wr.heap.size ≠ j := fun j hj => by have := (own_base ho.row hj).2; omega
        obtain ⟨pb, hpb⟩ : ∃ pb, pb = wr.heap.size := ⟨_, rfl⟩
        rw [← hpb] at hBV hpbn ⊢
        clear hpb y0 y1 ho hal
        generalize (wr.alloc (.cells #[.int .i64 (H i), .int .i64 (X1 i)] 87)).drew = V at *
        have e0 : V.cell? ⟨pb, 0, none⟩ = some (.int .i64 (H i)) := hBV.cell 0
        have e1 : V.cell? ⟨pb, 1, none⟩ = some (.int .i64 (X1 i)) := hBV.cell 1
        have hsz := hoV.g.size
        have hrV := hoV.row
        go_wp2_with (at_builtin; go_must (refine push87 rfl _ _ rfl w.heap.size _ i _ (by rfl) hrV (H i) (X1 i) (by rfl) (by omega) hsz ?_))
        intro g4 cap4 w4 hrow4 hgb4 hat4
        obtain ⟨hW4, hg4, hr4, hFg⟩ := hoV.push hgb4 hat4 hrow4
        have f0 := gb_cell hgb4 e0 (fun e' => hpbn _ e'.symm rfl)
        have f1 := gb_cell hgb4 e1 (fun e' => hpbn _ e'.symm rfl)
        have hfl := hoV.fl
        have hni := hoV.ni
        have hcl := cnt_le X1 i
        have hrf4 : ∀ k, (Value.slice (some ⟨g4, 0, none⟩) (i + 1) cap4).ownBlock = some k → ¬ F k := fun k hk => by simp [Value.ownBlock] at hk; subst hk; exact hFg
        clear hrV hrow4 hgb4 hat4 hoV e0 e1 hBV hpbn
        by_cases hE : X1 i < 1
        · obtain ⟨n1, hn1, h30⟩ := set_30_low hW4 (by omega) hHi (x := H i) (by unfold isH; omega) hE
          clear hW4
          go_wp2_with fail
          refine h30.mono ?_
          rintro y w5 ⟨rfl, hk5, hW5⟩
          have hc5 := hW5.congr (fun y => (liv_low (by omega) y).symm)
          rw [← cnt_same (E := X1) (k := i) (by omega)] at hc5
          have ho5 := O1.next hg4 hr4 hrf4 hfl hk5 (fun _ h => .inl h) hc5 (by omega)
          clear h30 hW5 hc5 hk5 hr4 hg4
          go_wp2
          exact ⟨⟨i + 1, _, n1, by omega, by omega, by go_num, ho5⟩, by simp [intOf]; omega⟩
        · obtain ⟨n1, hn1, h30⟩ := set_30_high hW4 (by omega) (by omega) hHi (x := H i) (by unfold isH; omega) hE
          clear hW4
          go_wp2_with fail
          refine h30.mono ?_
          rintro y w5 ⟨rfl, hk5, F5, hF5, hW5⟩
          have hc5 := hW5.congr (fun y => (liv_high (by omega) y).symm)
          rw [← cnt_succ (E := X1) (k := i) (by omega)] at hc5
          have ho5 := O1.next hg4 hr4 hrf4 hfl hk5 hF5 hc5 (by omega)
          clear h30 hW5 hc5 hk5 hr4 hg4 hF5
          go_wp2
          exact ⟨⟨i + 1, F5, n1, by omega, by omega, by go_num, ho5⟩, by simp [intOf]; omega⟩
    · have h23 := len_23 ho.wh (by have := ho.ni; omega)
      have h31 := due_31 ho.wh (by have := ho.ni; omega) hHi (fun x y hx hy => liv_turn hx hy) 9223372036854775807 1000 (by unfold isI; omega) (by unfold isI; omega)
      have hsh : n0 ≤ 41 := by obtain ⟨_, _, _, _, _, h2, _⟩ := ho.wh; exact img_short h2.img hHH
      have hST : ∀ x y, Liv H X1 i x → Liv H X1 i y → x.t = y.t → x = y := fun x y hx hy => liv_turn hx hy
      have hS1 : ∀ x y, Liv H X1 i x → Liv H X1 i y → x.h = y.h → x = y := fun x y hx hy => liv_one hx hy
      have hend : (decide ((i : Int) < n) = true ∧ decide ((i : Int) < 300) = false ∧ decide (i < n) = true ∧ decide (i < 300) = false) ∨ (decide ((i : Int) < n) = false ∧ decide (i < n) = false) := by
        by_cases hq : i < n
        · left; refine ⟨by simp; omega, by simp; omega, by simp; omega, by simp; omega⟩
        · right; refine ⟨by simp; omega, by simp; omega⟩
      have hfl1 := ho.wh.fl
      have hEx : ∀ y, Liv H X1 i y → y.x ≤ 9223372036854775807 := fun y hy => by
        obtain ⟨a', h1, _, h3, _⟩ := hy
        obtain ⟨_, _, _, _, _, _, hb⟩ := hX a' (by omega)
        unfold isI at hb; omega
      clear hX hHw hlt2
      rcases hend with ⟨hd1, hd2, hd3, hd4⟩ | ⟨hd1, hd3⟩
      all_goals
        go_wp2_with (first | (go_at_call 23; go_must (refine h23.mono ?_); rintro y w3 ⟨rfl, hw3⟩; have hw4 := hw3.symm; subst hw4) | fail)
        refine h31.mono ?_
        rintro y w3 ⟨dv, ds, rfl, hg3, ht3, hr3⟩
        have ho3 := ho.kept0 hg3
        obtain ⟨B, hB⟩ : ∃ B, B = w3.heap.size := ⟨_, rfl⟩
        have h2 : O2 w w3 wb F (Liv H X1 i) (cnt X1 i) H X1 i u4 dv ds B 0 (fun _ => ⟨0, 0, 0⟩) (.slice none 0 0) n0 n0 :=
          ⟨ho3.wh.congr (fun y => ⟨fun h => ⟨h, fun j hj => by omega⟩, fun h => h.1⟩), rfl, seq_start _ _, ho3.g, ho3.fl, ⟨rfl, .inl ⟨rfl, rfl⟩⟩, fun j hj => by simp [Value.ownBlock] at hj, ho3.row, ho3.rf, fun j hj => by have := (own_base ho3.row hj).2; omega, row_base hr3 ho.g.size, fun j hj hj2 => by have := (own_base hr3 hj).1; have := hfl1 j hj2; omega, by rw [hB]; exact ho3.g.size, by omega⟩
        clear ho ho3 hr3 h31 h23 hg3 hfl1 hB hd1 hd3
        go_wp2
        go_loopw [7, 10] (fun rv v wq => ∃ (k : Nat) (q : Nat → En) (n1 : Nat), v = .int .i64 k ∧ O2 w wq wb F (Liv H X1 i) (cnt X1 i) H X1 i u4 dv ds B k q rv n1 n0) (fun _ v _ => 42 - (intOf v).toNat)
        case atStart => exact ⟨0, _, n0, rfl, h2⟩
        case round =>
          clear h2
          obtain ⟨k, q, n1, rfl, h2⟩ := hrel
          have hnk := h2.nk
          have hk41 : decide ((k : Int) ≤ 41) = true := by simp; omega
          have hk42 : decide (k ≤ 41) = true := by simp; omega
          by_cases hn1 : n1 = 0
          · subst hn1
            have h32 := first_no h2.wh
            have h23b := len_23 h2.wh (by omega)
            have hall : ∀ y, Liv H X1 i y → ∃ j, j < k ∧ q j = y := fun y hy => by
              obtain ⟨_, _, _, _, _, hfu, _⟩ := h2.wh
              by_cases hex : ∃ j, j < k ∧ q j = y
              · exact hex
              · obtain ⟨j, hj, _⟩ := hfu.img.all y ⟨hy, fun j hj e' => hex ⟨j, hj, e'⟩⟩
                omega
            have hds : ds = (List.range k).map q := seq_told h2.sq hall ht3 hEx (fun l hp hS => by have := short hHH hS1 l hp hS; omega)
            have hdl : ds.length = k := by rw [hds]; simp
            have hdrow := h2.drow
            rw [hdl] at hdrow
            have hdrow2 : wr.ownsRow w.heap.size 89 1 dv k ((List.range k).map fun j => Value.int .u64 (q j).h) := by
              have : (ds.map fun d => Value.int .u64 d.h) = (List.range k).map fun j => Value.int .u64 (q j).h := by rw [hds, List.map_map]; rfl
              rw [← this]; exact hdrow
            obtain ⟨aod, cpd, hdvd, _, _, _, hposd⟩ := row_shape hdrow2
            subst hdvd
            obtain ⟨aor, cpr, hdvr, _, _, _, hposr⟩ := row_shape h2.row
            subst hdvr
            obtain ⟨aol, cpl, hdvl, _, _, _, hposl⟩ := row_shape h2.lrow
            subst hdvl
            obtain rfl : k = n0 := by omega
            have hrow := h2.row
            have hlrow := h2.lrow
            have hgw := h2.g
            have hsq := h2.sq
            have hrr : wr.ownsRow B 87 2 (.slice aor k cpr) k (rng k (putC (fun j => (q j).h) (fun j => (q j).x))) := hrow
            have hqh : ∀ j, j < k → 0 ≤ (q j).h ∧ (q j).h ≤ 40 := fun j hj => hHH _ (hsq.inn j hj)
            have hq1 : ∀ j j', j < k → j' < k → (q j).h = (q j').h → j = j' := fun j j' hj hj' e' => by
              have he := hS1 _ _ (hsq.inn j hj) (hsq.inn j' hj') e'
              rcases Nat.lt_trichotomy j j' with h | h | h
              · exact absurd (hsq.srt j j' h hj') (by rw [he]; exact ah_irrefl _)
              · exact h
              · exact absurd (hsq.srt j' j h hj) (by rw [he]; exact ah_irrefl _)
            clear h2 hdrow hrow hds ht3 hEx hnk
            have hW0 : wr.grownBy wr none := gb_refl _ _
            obtain ⟨w5, hw5⟩ : ∃ w5, w5 = wr := ⟨_, rfl⟩
            go_wp2_with (first | (go_at_call 32; go_must (refine h32.mono ?_); rintro y w7 ⟨rfl, hw7⟩; have hw6 := hw7.symm; subst hw6) | (go_at_call 23; go_must (refine h23b.mono ?_); rintro y w8 ⟨rfl, hw8⟩; have hw9 := hw8.symm; subst hw9) | fail)
            rw [← hw5] at hrr hlrow hgw hdrow2 ⊢
            clear hw5 hW0 h23b
            go_loopw [14, 15] (fun t v wq => ∃ h : Nat, h ≤ 41 ∧ v = .int .i64 h ∧ t = .int .i64 (below q h k : Nat) ∧ wq = w5) (fun _ v _ => 41 - (intOf v).toNat)
            case atStart => exact ⟨0, by omega, rfl, by rw [below_none (fun j hj => by have := hqh j hj; omega)]; rfl, rfl⟩
            case round =>
              obtain ⟨h, hh, rfl, rfl, rfl⟩ := hrel
              by_cases hh41 : h = 41
              · subst hh41
                have hbk := below_all (q := q) (h := ((41 : Nat) : Int)) (k := k) (fun j hj => by have := hqh j hj; omega)
                rw [hbk]
                clear hbk
                go_wp2
                go_loopw [17] (fun v wq => ∃ j : Nat, j ≤ k ∧ v = .int .i64 j ∧ wr.grownBy wq none) (fun v _ => k - (intOf v).toNat)
                case atStart => exact ⟨0, by omega, rfl, gb_refl _ _⟩
                case round =>
                  obtain ⟨j, hj, rfl, hg⟩ := hrel
                  by_cases hjk : j = k
                  · subst hjk
                    have hgf := gb_trans hgw hg
                    clear hall hsq hlrow hrr hdrow2
                    go_wp2
                    go_ret
                    exact ⟨rfl, hgf⟩
                  · have hjk2 : j < k := by omega
                    have hlr := row_kept hlrow hg (by simp)
                    have hrr2 := row_kept hrr hg (by simp)
                    have hdr2 := row_kept hdrow2 hg (by simp)
                    obtain ⟨la, la1, hl, hEa, hta, h1x⟩ := liv_last (hsq.inn j hjk2)
                    obtain ⟨lg, rfl⟩ := hposl (by omega)
                    obtain ⟨rg, rfl⟩ := hposr (by omega)
                    obtain ⟨dg, rfl⟩ := hposd (by omega)
                    have r0 : wr.cell? ⟨rg, j * 2, none⟩ = some (.int .i64 (q j).h) := (put_cells hrr2 hjk2).1
                    have r1 : wr.cell? ⟨rg, j * 2 + 1, none⟩ = some (.int .i64 (q j).x) := (put_cells hrr2 hjk2).2
                    have l1 : wr.cell? ⟨lg, la * 2 + 1, none⟩ = some (.int .i64 (q j).x) := by rw [← hEa]; exact (put_cells hlr la1).2
                    have dd : wr.cell? ⟨dg, j, none⟩ = some (.int .u64 (q j).h) := row_cell hdr2 j _ (by simp [hjk2])
                    have h34 := last_34 hlr (by omega) (q j).h
                    rw [hl] at h34
                    have hjh := hqh j hjk2
                    have hcu : IntKind.u64.wrap (q j).h = (q j).h := by simp [IntKind.wrap, IntKind.bits, IntKind.signed]; omega
                    have hx1 : decide ((q j).x < 1) = false := by simp; omega
                    have hla0 : decide ((la : Int) < 0) = false := by simp
                    have hib : (la : Int) < i := by omega
                    have hjb : (j : Int) < k := by omega
                    have hgf := gb_trans hgw hg
                    by_cases hj0 : j = 0
                    · subst hj0
                      clear hall hsq hlrow hrr hdrow2 hlr hrr2 hdr2 hl hta hEa h1x
                      rw [Nat.zero_mul] at r0
                      rw [Nat.zero_mul, Nat.zero_add] at r1
                      generalize q 0 = e at *
                      go_wp2_with (first | (go_at_call 34; go_must (refine h34.mono ?_); rintro y w8 ⟨rfl, hw8⟩; have hw9 := hw8.symm; subst hw9) | fail)
                      go_quiet (fail)
                      go_wp2
                      have hgV : wr.grownBy (wr.drewN nq) none := gb_drewN (gb_refl _ _) nq
                      have hgW := gb_trans hg hgV
                      have hgX := gb_trans hgf hgV
                      generalize wr.drewN nq = V at *
                      go_quiet (fail)
                      go_wp2_with fail
                      refine ⟨⟨_, _, _, _, _, _, _, _, _, _, _, _, _, _, _, _, _, _, _, _, _, _, _, _, _, _, _, _, _, _, _, _, _, _, _, _, _, _, _, _, _, _, _, _, _, _, _, _, _, _, _, _, _, _, _, _, _, _, _, _, _, _, _, _, _, _, _, _, _, _, _, _, _, _, _, _, _, _, _, _, _, _, _, _, _, _, _, _, _, _, _, _, _, _, ⟨1, by omega, by go_num, gb_drewN hgW _⟩, rfl⟩, ?_⟩
                      simp [intOf]
                      omega
                    · obtain ⟨p, rfl⟩ : ∃ p, j = p + 1 := ⟨j - 1, by omega⟩
                      have hpk : p < k := by omega
                      have hsr := hsq.srt p (p + 1) (by omega) hjk2
                      obtain ⟨lb, lb1, hlb, hEb, htb, h1y⟩ := liv_last (hsq.inn p hpk)
                      have s0 : wr.cell? ⟨rg, p * 2, none⟩ = some (.int .i64 (q p).h) := (put_cells hrr2 hpk).1
                      have s1 : wr.cell? ⟨rg, p * 2 + 1, none⟩ = some (.int .i64 (q p).x) := (put_cells hrr2 hpk).2
                      have h34b := fun V (hV : wr.grownBy V none) => last_34 (row_kept hlr hV (by simp)) (by omega) (q p).h
                      rw [hlb] at h34b
                      have hd0 : decide ((0 : Int) < ((p + 1 : Nat) : Int)) = true := by simp
                      have hd0b : decide ((0 : Int) < (p : Int) + 1) = true := by simp only [decide_eq_true_eq]; omega
                      have hd0c : decide (0 < p + 1) = true := by simp
                      have hpw : IntKind.i64.wrap (p : Int) = p := by rw [IntKind.wrap_i64]; omega
                      have hpb : (p : Int) < k := by omega
                      have hab : (q p).x = (q (p + 1)).x → decide ((la : Int) ≤ lb) = false ∧ decide (la ≤ lb) = false := fun e' => by
                        have ht : (q p).t < (q (p + 1)).t := by unfold ah at hsr; omega
                        have : lb < la := by
                          rcases Nat.lt_or_ge lb la with h | h
                          · exact h
                          · have := cnt_mono X1 (show la + 1 ≤ lb + 1 by omega); omega
                        exact ⟨by simp; omega, by simp; omega⟩
                      have hxle : (q p).x ≤ (q (p + 1)).x := by unfold ah at hsr; omega
                      have hlt3 : decide ((q (p + 1)).x < (q p).x) = false := by simp; omega
                      clear hall hsq hlrow hrr hdrow2 hlr hrr2 hdr2 hl hta hEa h1x hlb htb hEb h1y hsr
                      generalize q (p + 1) = e at *
                      generalize q p = e' at *
                      by_cases hxx : e'.x = e.x
                      · obtain ⟨hab1, hab2⟩ := hab hxx
                        have hbq : (e.x == e'.x) = true := by simp [hxx]
                        clear hab hxx hxle
                        go_wp2_with (first | (go_at_call 34; go_must (refine h34.mono ?_); rintro y w8 ⟨rfl, hw8⟩; have hw9 := hw8.symm; subst hw9) | fail)
                        go_quiet (fail)
                        go_wp2
                        have hgV : wr.grownBy (wr.drewN nq) none := gb_drewN (gb_refl _ _) nq
                        have hgW := gb_trans hg hgV
                        have t1 := gb_cellN hgV r1
                        have t2 := gb_cellN hgV s0
                        have t3 := gb_cellN hgV s1
                        have h34c := fun nq' => h34b _ (gb_drewN hgV nq')
                        clear h34b h34 r0 r1 s0 s1 l1 dd
                        generalize wr.drewN nq = V at *
                        go_quiet ((first | (go_at_call 34; with_reducible exact Calls.quiet_of_same (h34c _))))
                        go_wp2_with fail
                        refine ⟨⟨_, _, _, _, _, _, _, _, _, _, _, _, _, _, _, _, _, _, _, _, _, _, _, _, _, _, _, _, _, _, _, _, _, _, _, _, _, _, _, _, _, _, _, _, _, _, _, _, _, _, _, _, _, _, _, _, _, _, _, _, _, _, _, _, _, _, _, _, _, _, _, _, _, _, _, _, _, _, _, _, _, _, _, _, _, _, _, _, _, _, _, _, _, _, ⟨p + 2, by omega, by go_num, gb_drewN hgW _⟩, rfl⟩, ?_⟩
                        simp [intOf]
                        omega
                      · have hbq : (e.x == e'.x) = false := by simp; omega
                        clear hab hxle h34b
                        go_wp2_with (first | (go_at_call 34; go_must (refine h34.mono ?_); rintro y w8 ⟨rfl, hw8⟩; have hw9 := hw8.symm; subst hw9) | fail)
                        go_quiet (fail)
                        go_wp2
                        have hgV : wr.grownBy (wr.drewN nq) none := gb_drewN (gb_refl _ _) nq
                        have hgW := gb_trans hg hgV
                        have t1 := gb_cellN hgV r1
                        have t3 := gb_cellN hgV s1
                        clear h34 r0 r1 s0 s1 l1 dd
                        generalize wr.drewN nq = V at *
                        go_quiet (fail)
                        go_wp2_with fail
                        refine ⟨⟨_, _, _, _, _, _, _, _, _, _, _, _, _, _, _, _, _, _, _, _, _, _, _, _, _, _, _, _, _, _, _, _, _, _, _, _, _, _, _, _, _, _, _, _, _, _, _, _, _, _, _, _, _, _, _, _, _, _, _, _, _, _, _, _, _, _, _, _, _, _, _, _, _, _, _, _, _, _, _, _, _, _, _, _, _, _, _, _, _, _, _, _, _, _, ⟨p + 2, by omega, by go_num, gb_drewN hgW _⟩, rfl⟩, ?_⟩
                        simp [intOf]
                        omega
              · have hd1 : decide ((h : Int) ≤ 40) = true := by simp; omega
                have hd2 : decide (h ≤ 40) = true := by simp; omega
                have h34 := last_34 hlrow (by omega) (h : Int)
                have hble := below_le q h k
                rcases lastOf_or H h i with ⟨hl, hno⟩ | ⟨la, la1, hl, la2, la3⟩
                · rw [hl] at h34
                  have hb := below_miss (q := q) (h := (h : Int)) (k := k) (fun j hj e' => by
                    obtain ⟨a', a1, a2, _⟩ := hsq.inn j hj
                    exact hno a' a1 (by rw [a2, e']))
                  clear hl hno hsq hall
                  go_wp2_with (first | (go_at_call 34; go_must (refine h34.mono ?_); rintro y w8 ⟨rfl, hw8⟩; have hw9 := hw8.symm; subst hw9) | fail)
                  exact ⟨⟨h + 1, by omega, by go_num, by rw [show ((h + 1 : Nat) : Int) = (h : Int) + 1 by omega, hb], trivial⟩, by simp [intOf]; omega⟩
                · rw [hl] at h34
                  obtain ⟨lg, rfl⟩ := hposl (by omega)
                  obtain ⟨c0, c1⟩ := put_cells hlrow la1
                  have hib : (la : Int) < i := by omega
                  by_cases hE : 0 < X1 la
                  · have hb : below q ((h : Int) + 1) k = below q h k + 1 := by
                      obtain ⟨j, hj, hjq⟩ := hall _ (last_liv la1 la2 la3 (by omega))
                      exact below_hit (q := q) (h := (h : Int)) (k := k) hj (by rw [hjq]) hq1
                    have hdE : decide (0 < X1 la) = true := by simp; omega
                    clear hl la2 la3 hsq hall
                    go_wp2_with (first | (go_at_call 34; go_must (refine h34.mono ?_); rintro y w8 ⟨rfl, hw8⟩; have hw9 := hw8.symm; subst hw9) | fail)
                    exact ⟨⟨h + 1, by omega, by go_num, by rw [show ((h + 1 : Nat) : Int) = (h : Int) + 1 by omega, hb]; go_num, trivial⟩, by simp [intOf]; omega⟩
                  · have hb := below_miss (q := q) (h := (h : Int)) (k := k) (fun j hj e' => by
                      obtain ⟨a', a1, a2, a3, _, a5⟩ := liv_last (hsq.inn j hj)
                      rw [e', hl] at a2
                      have : la = a' := by omega
                      subst this
                      omega)
                    have hdE : decide (0 < X1 la) = false := by simp; omega
                    clear hl la2 la3 hsq hall
                    go_wp2_with (first | (go_at_call 34; go_must (refine h34.mono ?_); rintro y w8 ⟨rfl, hw8⟩; have hw9 := hw8.symm; subst hw9) | fail)
                    exact ⟨⟨h + 1, by omega, by go_num, by rw [show ((h + 1 : Nat) : Int) = (h : Int) + 1 by omega, hb], trivial⟩, by simp [intOf]; omega⟩
          · obtain ⟨n1, rfl⟩ : ∃ n2, n1 = n2 + 1 := ⟨n1 - 1, by omega⟩
            obtain ⟨e, ⟨heS, hne⟩, hmin, h32⟩ := first_yes h2.wh (by omega) (by omega)
            have heh := hHH e heS
            obtain ⟨ao, cp, hdv, _, _, _, _⟩ := row_shape h2.row
            subst hdv
            have hcu : IntKind.i64.wrap e.h = e.h := by rw [IntKind.wrap_i64]; omega
            go_wp2_with fail
            refine h32.mono ?_
            rintro y w5 ⟨rfl, hg5⟩
            have h25 := h2.kept0 hg5
            have hsz := h25.Bs
            have hr5 := h25.row
            clear h32 hg5 h2
            go_wp2_with (at_builtin; go_must (refine push87 rfl _ _ rfl B _ k _ (by rfl) hr5 e.h e.x (by rfl) (by omega) hsz ?_))
            intro g6 cap6 w6 hrow6 hgb6 hat6
            obtain ⟨hW6, hg6, hr6, hFg, hl6, hd6⟩ := h25.push hgb6 hat6 hrow6
            have hB6 : B ≤ w6.heap.size := Nat.le_trans hsz hgb6.size
            have hHi2 : ∀ y, (Liv H X1 i y ∧ ∀ j, j < k → q j ≠ y) → isH y.h := fun y hy => hHi y hy.1
            have h33 := take_yes hW6 (by omega) hHi2 (e := e) ⟨heS, hne⟩
            clear hW6 hr5 hrow6 hgb6 hat6
            go_wp2_with fail
            refine h33.mono ?_
            rintro y w7 ⟨rfl, hk7, hW7⟩
            have h33b := take_no hW7 (x := e.h) (hHi e heS) (fun y hy => hy.2)
            have h2n := h25.next hg6 hB6 hr6 hFg hl6 hd6 hk7 hW7 hST hS1 heS hne hmin
            clear h33 hW7 hr6 hl6 hd6 hk7 hg6 h25
            go_wp2_with (first | (go_at_call 33; go_must (refine h33b.mono ?_); rintro y w8 ⟨rfl, hw8⟩; have hw9 := hw8.symm; subst hw9) | fail)
            exact ⟨⟨k + 1, _, n1, by go_num, h2n⟩, by simp [intOf]; omega⟩

end Go.Proofs.Ytagcmfaljfaikaa
