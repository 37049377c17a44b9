import Derived.Test.YtjkdflnnpdionaaGreatMs
/-
  The document's Set: no room; a chunk is given back.
-/
namespace Go.Proofs.YtjkdflnnpdionaaGreat
open Go.RowKit
set_option linter.unusedVariables false

section
variable {w : World} {rb : Nat} {F : Nat → Prop} {Q : Rl} {c d e : Int} {R : Rb}
set_option maxRecDepth 100000 in
theorem rpage_no (h : IsR w rb F Q c d e R) (hR : RFit R) {i : Nat} (hlo : ∀ q, q < R.m → 0 ≤ R.ow q) :
    Calls Tryz.prog 139 #[.pointer (some ⟨rb, 0, none⟩), .int .i64 i] w fun y w' => y = .returned (.bool false) ∧ w = w' := by
  obtain ⟨sb, sc, ob, oc, vb, vc, hsv, hov, hrv⟩ := h.shapes hR.n0 hR.m0
  have hm2 := hR.m2
  have c6 := h.sc 6
  simp [rset, hov] at c6
  have eo := fun k (hk : k < R.m) => h.ocell hov (i := k) hk
  clear h hR
  generalize R.ow = ow at *
  generalize R.m = m at *
  go_enter Tryz.func139, Tryz.ntmps139
  go_wp2
  go_loopw [5] (fun iv wr => ∃ (k : Nat), iv = .int .i64 k ∧ k ≤ m ∧ w = wr) (fun iv _ => m - (intOf iv).toNat)
  case atStart => exact ⟨0, rfl, by omega, rfl⟩
  case round =>
    obtain ⟨k, rfl, hk, rfl⟩ := hrel
    by_cases hkp : k = m
    · subst hkp
      have hkm : decide ((k : Int) < (k : Int)) = false := by simp
      clear eo hlo
      go_wp2
      go_ret
      exact ⟨rfl, rfl⟩
    · have hkz : (k : Int) < (m : Int) := by omega
      have hkm : decide ((k : Int) < (m : Int)) = true := decide_eq_true hkz
      have h0 := hlo k (by omega)
      have e0 := eo k (by omega)
      clear eo hlo
      generalize ow k = ok at *
      have hge : decide (ok ≥ 0) = true := by simp; omega
      have hge : decide (0 ≤ ok) = true := by simp; omega
      go_wp2
      go_roundw
      case rel => exact ⟨k + 1, by go_num, by omega, by first | trivial | rfl⟩
      case measure => simp [intOf]; omega
set_option maxRecDepth 100000 in
theorem rtake_room (h : IsR w rb F Q c d e R) (hR : RFit R) {i : Nat} (hi : i < R.n) (hr : R.row i = []) (hlo : ∀ q, q < R.m → 0 ≤ R.ow q) :
    Calls Tryz.prog 70 #[.pointer (some ⟨rb, 0, none⟩), .int .i64 i] w fun y w' => y = .returned (.tuple #[.int .u64 0, .int .i64 21]) ∧ w.grownBy w' none := by
  obtain ⟨sb, sc, ob, oc, vb, vc, hsv, hov, hrv⟩ := h.shapes hR.n0 hR.m0
  have his := (ris_yes h hi).mono (R' := fun y w2 => y = .returned (.bool true) ∧ w.grownBy w2 none ∧ w2.cell? ⟨rb, 8, none⟩ = some (.slice (some ⟨vb, 0, none⟩) R.n vc) ∧ (∃ ao cp, w2.cell? ⟨vb, i, none⟩ = some (.slice ao 0 cp)) ∧ Hid (IsR w2 rb F Q c d e R)) (by
    rintro y w2 ⟨rfl, hf⟩
    have h2 := h.kept0 hf
    have c8 := h2.sc 8
    simp [rset, hrv] at c8
    have cr := h2.rcell hrv hi
    obtain ⟨ao, cp, e1, _⟩ := row_shape (h2.rr i hi)
    rw [hr] at e1
    exact ⟨rfl, hf, c8, ⟨ao, cp, by rw [cr, e1]; rfl⟩, h2⟩)
  have hpg := fun W (hS : Hid (IsR W rb F Q c d e R)) => rpage_no hS.out hR (i := i) hlo
  have hiz : (i : Int) < (R.n : Int) := by omega
  have hn2 := hR.n2
  clear h hR hlo
  go_enter Tryz.func70, Tryz.ntmps70
  go_wp2_with (first | (go_at_call 138; go_must (refine his.mono ?_); rintro y w2 ⟨rfl, hf2, c8, ⟨ao, cp, cr⟩, hE⟩) | (go_at_call 139; go_must (refine (hpg _ hE).mono ?_); rintro y w3 ⟨rfl, rfl⟩) | fail)
  go_ret2
  exact ⟨rfl, hf2⟩

/-- A chunk is given back. -/
def Rb.gave (R : Rb) (i : Nat) : Rb := { R with tk := upd R.tk i false, gn := upd R.gn i ((R.gn i + 1) % 4294967296), row := upd R.row (R.cl i) (R.row (R.cl i) ++ [i]) }

theorem rgive_no {H : Nat} (hf : Calls Tryz.prog 79 #[.pointer (some ⟨rb, 0, none⟩), .int .u64 H] w fun y w' => y = .returned (.int .i64 (-1)) ∧ w.grownBy w' none) :
    Calls Tryz.prog 177 #[.pointer (some ⟨rb, 0, none⟩), .int .u64 H] w fun y w' => y = .returned (.int .i64 20) ∧ w.grownBy w' none := by
  go_enter Tryz.func177, Tryz.ntmps177
  go_wp2_with (first | (go_at_call 79; go_must (refine hf.mono ?_); rintro y w2 ⟨rfl, hf2⟩) | fail)
  go_ret
  exact ⟨rfl, hf2⟩

set_option maxRecDepth 100000 in
set_option maxHeartbeats 2000000 in
theorem rgive_yes (h : IsR w rb F Q c d e R) (hR : RFit R) {i H : Nat} (hi : i < R.N) (hc : R.cl i < R.n) (hl : (R.row (R.cl i)).length < 16777216)
    (hfd : Calls Tryz.prog 79 #[.pointer (some ⟨rb, 0, none⟩), .int .u64 H] w fun y w' => y = .returned (.int .i64 i) ∧ w.grownBy w' none) :
    Calls Tryz.prog 177 #[.pointer (some ⟨rb, 0, none⟩), .int .u64 H] w fun y w' => y = .returned (.int .i64 0) ∧ Kp F w w' ∧ ∃ F' Q', IsR w' rb F' Q' c d e (R.gave i) ∧ ∀ k, F' k → F k ∨ w.heap.size ≤ k := by
  obtain ⟨sb, sc, ob, oc, vb, vc, hsv, hov, hrv⟩ := h.shapes hR.n0 hR.m0
  obtain ⟨cb, cc, hcv⟩ := h.cshape (by omega)
  have hiz : (i : Int) < (R.N : Int) := by omega
  have hN := hR.N
  have hcz : (R.cl i : Int) < (R.n : Int) := by omega
  have hgn := hR.gn i
  have hn2 := hR.n2
  have hcbF : F cb := h.fc cb (by rw [hcv]; rfl)
  have hfd2 := hfd.mono (R' := fun y w1 => y = .returned (.int .i64 i) ∧ w1.cell? ⟨rb, 7, none⟩ = some (.slice (some ⟨cb, 0, none⟩) R.N cc) ∧ w1.cell? ⟨cb, i * 4 + 1, none⟩ = some (.int .i64 (R.cl i)) ∧ w1.cell? ⟨cb, i * 4 + 3, none⟩ = some (.bool (R.tk i)) ∧ w1.frozen? ⟨cb, i * 4 + 3, none⟩ = false ∧ Hid (Kp F w w1 ∧ IsR w1 rb F Q c d e R)) (by
    rintro y w1 ⟨rfl, hf⟩
    have h1 := h.kept0 hf
    have c7 := h1.sc 7
    simp [rset, hcv] at c7
    obtain ⟨cur, hcur⟩ := h1.blk_cb hcv
    exact ⟨rfl, c7, h1.ccell hcv hi (j := 1) (by omega), h1.ccell hcv hi (j := 3) (by omega), by simp [World.frozen?, hcur], Kp.of hf, h1⟩)
  have hs1 := fun W (hE : Hid (Kp F w W ∧ IsR W rb F Q c d e R)) => (show (W.setCell ⟨cb, i * 4 + 3, none⟩ (.bool false)).cell? ⟨rb, 7, none⟩ = some (.slice (some ⟨cb, 0, none⟩) R.N cc) ∧ (W.setCell ⟨cb, i * 4 + 3, none⟩ (.bool false)).cell? ⟨cb, i * 4 + 2, none⟩ = some (.int .u64 (R.gn i)) ∧ (W.setCell ⟨cb, i * 4 + 3, none⟩ (.bool false)).frozen? ⟨cb, i * 4 + 2, none⟩ = false ∧ Hid (Kp F w (W.setCell ⟨cb, i * 4 + 3, none⟩ (.bool false)) ∧ IsR (W.setCell ⟨cb, i * 4 + 3, none⟩ (.bool false)) rb F Q c d e { R with tk := upd R.tk i false }) by
    have h2 := hE.out.2.setTk hcv hi false
    have c7 := h2.sc 7
    simp [rset, hcv] at c7
    obtain ⟨cur, hcur⟩ := h2.blk_cb hcv
    exact ⟨c7, h2.ccell hcv hi (j := 2) (by omega), by simp [World.frozen?, hcur], hE.out.1.trans (hE.out.2.kp_set hcbF _) (fun _ h => h) (fun k hk => .inl hk), h2⟩)
  have hs2 := fun W (hE : Hid (Kp F w W ∧ IsR W rb F Q c d e { R with tk := upd R.tk i false })) (gv : Nat) => (show (W.setCell ⟨cb, i * 4 + 2, none⟩ (.int .u64 gv)).drew.cell? ⟨rb, 8, none⟩ = some (.slice (some ⟨vb, 0, none⟩) R.n vc) ∧ (W.setCell ⟨cb, i * 4 + 2, none⟩ (.int .u64 gv)).drew.cell? ⟨vb, R.cl i, none⟩ = some (Q.rr (R.cl i)) ∧ (W.setCell ⟨cb, i * 4 + 2, none⟩ (.int .u64 gv)).drew.frozen? ⟨vb, R.cl i, none⟩ = false ∧ Hid (Kp F w (W.setCell ⟨cb, i * 4 + 2, none⟩ (.int .u64 gv)).drew ∧ IsR (W.setCell ⟨cb, i * 4 + 2, none⟩ (.int .u64 gv)).drew rb F Q c d e { R with tk := upd R.tk i false, gn := upd R.gn i gv }) by
    have h2 := (hE.out.2.setGn hcv hi gv).kept0 (gb_drew (gb_refl _ none))
    have c8 := h2.sc 8
    simp [rset, hrv] at c8
    obtain ⟨cur, hcur⟩ := h2.blk_vb hrv
    exact ⟨c8, h2.rcell hrv hc, by simp [World.frozen?] at hcur ⊢; simp [hcur], (hE.out.1.trans (hE.out.2.kp_set hcbF _) (fun _ h => h) (fun k hk => .inl hk)).step (gb_drew (gb_refl _ none)) (by simp), h2⟩)
  clear hfd
  have HRG : Hid (∀ gv, (R.gn i + 1) % 4294967296 = gv → R.gave i = { R with tk := upd R.tk i false, gn := upd R.gn i gv, row := upd R.row (R.cl i) (R.row (R.cl i) ++ [i]) }) := fun gv hgv => by subst hgv; rfl
  generalize R.gn i = gn at *
  generalize R.cl i = ci at *
  go_enter Tryz.func177, Tryz.ntmps177
  go_wp2_with (first | (go_at_call 79; go_must (refine hfd2.mono ?_); rintro y w1 ⟨rfl, c7, c1, c3, z3, hE1⟩) | fail)
  obtain ⟨d7, d2, z2, hE2⟩ := hs1 _ hE1
  clear hs1 hE1 c7 c1 c3 z3
  generalize w1.setCell ⟨cb, i * 4 + 3, none⟩ (.bool false) = W2 at *
  obtain ⟨gv, hgv⟩ : ∃ gv, (gn + 1) % 4294967296 = gv := ⟨_, rfl⟩
  have hw1 : IntKind.u64.wrap (IntKind.u64.wrap ((gn : Int) + 1) % 4294967296) = gv := by
    have : IntKind.u64.wrap ((gn : Int) + 1) = (gn : Int) + 1 := by rw [IntKind.wrap_u64]; omega
    rw [this, IntKind.wrap_u64]; omega
  have hw2 : IntKind.u64.wrap ((gn : Int) + 1) = (gn : Int) + 1 := by rw [IntKind.wrap_u64]; omega
  have hw3 : ((gn : Int) + 1).tmod 4294967296 = gv := by rw [Int.tmod_eq_emod_of_nonneg (by omega)]; omega
  have hE3 := hs2 _ hE2 gv
  clear hs2 
  have HG : Hid ((gn + 1) % 4294967296 = gv) := hgv
  clear hgv
  obtain ⟨e8, er, zr, hE4⟩ := hE3
  have hrow := hE4.out.2.rr ci hc
  dsimp only at hrow
  have hbx := hE4.out.2.box
  obtain ⟨cur, hcur⟩ := row_block hE4.out.2.rs vb (by rw [hrv]; rfl)
  have hnk : (Q.rr ci).ownBlock = some vb → False := fun e => by
    obtain ⟨cur2, hc2⟩ := row_block hrow _ e
    exact ne_of_type hcur hc2 (by decide) rfl
  have hnb : (Q.rr ci).ownBlock = some rb → False := fun e => by
    obtain ⟨cur2, hc2⟩ := row_block hrow _ e
    exact ne_of_type hbx hc2 (by decide) rfl
  clear hbx
  have HQ : Hid (ci < R.n ∧ Q.rv = .slice (some ⟨vb, 0, none⟩) R.n vc ∧ (∀ k, (Q.rr ci).ownBlock = some k → F k)) := ⟨hc, hrv, fun k hk => h.fr ci k hc hk⟩
  obtain ⟨iu, hu0, hy0, hy1, hy2⟩ := info_parts Tryz.info3
  have hFin : Hid (∀ W7 g3 cap3, World.ownsRow W7 0 3 1 (.slice (some ⟨g3, 0, none⟩) ((R.row ci).length + 1) cap3) ((R.row ci).length + 1) (ixs (R.row ci) ++ [.int .i64 (i : Int)]) → (W2.setCell ⟨cb, i * 4 + 2, none⟩ (.int .u64 gv)).drew.grownBy W7 (Q.rr ci).ownBlock → ((Q.rr ci).ownBlock = some g3 ∨ (W2.setCell ⟨cb, i * 4 + 2, none⟩ (.int .u64 gv)).drew.heap.size ≤ g3) → Kp F w (W7.setCell ⟨vb, ci, none⟩ (.slice (some ⟨g3, 0, none⟩) ((R.row ci).length + 1) cap3)) ∧ ∃ F' Q', IsR (W7.setCell ⟨vb, ci, none⟩ (.slice (some ⟨g3, 0, none⟩) ((R.row ci).length + 1) cap3)) rb F' Q' c d e { R with tk := upd R.tk i false, gn := upd R.gn i gv, row := upd R.row ci (R.row ci ++ [i]) } ∧ ∀ k, F' k → F k ∨ w.heap.size ≤ k) := fun W7 g3 cap3 o1 o2 o3 => by
    have hS8 := hE4.out.2.pushR (i := ci) (x := i) HQ.out.1 HQ.out.2.1 (g2 := g3) (cap2 := cap3) o1 o2 o3
    refine ⟨hE4.out.1.trans hS8.2 (fun _ h => h) (fun k hk => .inl hk), _, _, hS8.1, ?_⟩
    rintro k (hk | rfl)
    · exact .inl hk
    · rcases o3 with o3 | o3
      · exact .inl (HQ.out.2.2 _ o3)
      · exact .inr (Nat.le_trans hE4.out.1.size o3)
  have hlb : (R.row ci).length ≤ 100000000 := by omega
  generalize (R.row ci).length = rl at *
  generalize ixs (R.row ci) = rx at *
  generalize Q.rr ci = rvv at *
  clear h hR hE2 hE4 hsv hov hrv hcv hcbF hl
  go_region_law (fail)
  all_goals
    generalize (W2.setCell ⟨cb, i * 4 + 2, none⟩ (.int .u64 gv)).drew = W3 at *
    have al : ∀ o a v, W3.cell? a = some v → (W3.alloc o).cell? a = some v := fun o a v h => gb_cellN (World.grownBy_alloc W3 o none) h
    have a8 := fun o => al o _ _ e8
    have ar := fun o => al o _ _ er
    clear al
    clear hfd2 d7 d2 z2
    go_wp2
    go_region_law ((refine step_append_lies _ (by rfl) _ _ _ (by rfl) 0 3 iu _ 1 8 Tryz.underlying55 hu0 hy0 hy1 hy2 rfl (by omega) rvv rl rx (by rfl) (World.ownsRow.alloc (w := W3) hrow _) ⟨W3.heap.size, 0, none⟩ 1 1 [.int .i64 (i : Int)] (by rfl) (by rfl) (World.news_of_block (cs := #[.int .i64 (i : Int)]) (t := 3) (fr := (0, 0)) (heap_alloc_new W3 _)) (by simp [Value.oneCell']) (by omega) (by unfold maxLen; omega) (by omega) (Nat.zero_le _) (W3.heap.size + 1) (by simp) ?_; intro g3 cap3 w7 hown7 hgrow7 hat7 hlt7; have hg7 : W3.grownBy w7 rvv.ownBlock := gb_trans (by first | exact gb_drew (gb_alloc (gb_refl _ _) _) | exact gb_alloc (gb_drew (gb_refl _ _)) _ | exact gb_alloc (gb_refl _ _) _) hgrow7; have hcur7 : w7.heap[vb]? = some (.cells cur 55 (0, 0)) := (by rw [hg7.block vb (lt_of_block hcur) (fun e => hnk e.symm)]; exact hcur); have b8 := gb_cell hg7 e8 (fun e => hnb e.symm); have b4 : w7.cell? ⟨vb, ci, none⟩ = some rvv := gb_cell hg7 er (fun e => hnk e.symm); have b5 : w7.frozen? ⟨vb, ci, none⟩ = false := (by simp [World.frozen?, hcur7])))
    all_goals
      have hEE : Hid _ := hFin.out w7 g3 cap3 hown7 hg7 (by rcases hat7 with h | h; exact .inl h; exact .inr (by omega))
      generalize w7.setCell ⟨vb, ci, none⟩ (.slice (some ⟨g3, 0, none⟩) (rl + 1) cap3) = W9 at *
      go_wp2
      go_ret
      refine ⟨rfl, hEE.out.1, ?_⟩
      rw [HRG.out gv HG.out]
      exact hEE.out.2
end
end Go.Proofs.YtjkdflnnpdionaaGreat
/-
  Both Sets: a chunk is taken, none can be, one is given back.
-/
namespace Go.Proofs.YtjkdflnnpdionaaGreat
open Go.RowKit
set_option linter.unusedVariables false

/-- The Set behind a call: which chunks are taken. -/
structure Kin (A A' : Ab) : Prop where
  n : A'.n = A.n
  ps : A'.ps = A.ps
  m : A'.m = A.m
  sz : ∀ i, A'.sz i = A.sz i
  np : A.np ≤ A'.np
  own : ∀ q, q < A.np → A'.own q = A.own q
theorem Kin.place {A A' : Ab} (h : Kin A A') {q : Nat} (hq : q < A.np) (l : Nat) : A'.place q l = A.place q l := by
  unfold Ab.place
  rw [h.ps, h.sz, h.own q hq]
theorem Kin.each {A A' : Ab} (h : Kin A A') (c : Nat) : A'.each c = A.each c := by
  unfold Ab.each
  rw [h.ps, h.sz]
/-- A chunk is taken. -/
structure Takes (A A' : Ab) (c H p k : Nat) : Prop where
  kin : Kin A A'
  good : IsH A' H p k
  own : A'.own p = c
  old : ∀ G q l, IsH A G q l → IsH A' G q l
  new : ∀ G q l, IsH A' G q l → (q = p ∧ l = k) ∨ IsH A G q l
  not : ∀ q l, ¬ IsH A H q l
/-- One is given back. -/
structure Gives (A A' : Ab) (H p k : Nat) : Prop where
  kin : Kin A A'
  new : ∀ G q l, IsH A' G q l ↔ IsH A G q l ∧ G ≠ H

theorem isH_inj {A : Ab} (hA : Fit2 A) {H p k q l : Nat} (h1 : IsH A H p k) (h2 : IsH A H q l) : p = q ∧ k = l := by
  have e1 := (h1.parts hA).1
  have e2 := (h2.parts hA).1
  exact num_inj hA.toFit1 h1.hp h1.hk h2.hp h2.hk (by rw [← e1, e2])

theorem kin_taken (A : Ab) (c p k : Nat) : Kin A (A.taken c p k) := ⟨rfl, rfl, rfl, fun _ => rfl, Nat.le_refl _, fun _ _ => rfl⟩
theorem kin_owned (A : Ab) (c : Nat) : Kin A (A.owned c) := ⟨owned_n, owned_ps, owned_m, fun i => owned_sz i, by rw [owned_np]; omega, fun q hq => by rw [owned_own, if_neg (by omega)]⟩
theorem Kin.trans {A B C : Ab} (h : Kin A B) (g : Kin B C) : Kin A C :=
  ⟨g.n.trans h.n, g.ps.trans h.ps, g.m.trans h.m, fun i => (g.sz i).trans (h.sz i), Nat.le_trans h.np g.np, fun q hq => (g.own q (Nat.lt_of_lt_of_le hq h.np)).trans (h.own q hq)⟩
theorem taken_tkn (A : Ab) (c p k q l : Nat) : (A.taken c p k).tkn q l = upd2 A.tkn p k true q l := rfl
theorem taken_gen (A : Ab) (c p k q l : Nat) : (A.taken c p k).gen q l = A.gen q l := rfl
theorem taken_hdl (A : Ab) (c p k q l : Nat) : (A.taken c p k).hdl q l = A.hdl q l := rfl
theorem takes_of {A : Ab} (hA : Fit2 A) {c p k : Nat} (hp : p < A.np) (ho : A.own p = c) (hk : k < A.each c) (ht : A.tkn p k = false) : Takes A (A.taken c p k) c (A.hdl p k) p k := by
  have hgood : IsH (A.taken c p k) (A.hdl p k) p k := ⟨hp, by show k < A.each (A.own p); rw [ho]; exact hk, by rw [taken_tkn]; simp [upd2], (taken_hdl A c p k p k).symm⟩
  refine ⟨kin_taken A c p k, hgood, ho, fun G q l h => ⟨h.hp, h.hk, ?_, h.hH⟩, fun G q l h => ?_, fun q l h => ?_⟩
  · rw [taken_tkn]
    unfold upd2
    split
    · rfl
    · exact h.ht
  · by_cases e : q = p ∧ l = k
    · exact .inl e
    · refine .inr ⟨h.hp, h.hk, ?_, h.hH⟩
      have := h.ht
      rw [taken_tkn] at this
      simpa only [upd2, if_neg e] using this
  · have h1 := (h.parts hA).1
    have hk' : k < A.each (A.own p) := by rw [ho]; exact hk
    have h2 : A.hdl p k % 4294967296 = A.num p k := by
      have := (num_lt hA.toFit1 hp hk').1
      unfold Ab.hdl
      omega
    obtain ⟨rfl, rfl⟩ := num_inj hA.toFit1 h.hp h.hk hp hk' (by rw [← h1, h2])
    rw [h.ht] at ht
    cases ht
theorem isH_owned {A : Ab} {c G q l : Nat} (h : IsH (A.owned c) G q l) : IsH A G q l := by
  have hq : q ≠ A.np := fun e => by
    have := h.ht
    rw [owned_tkn, if_pos e] at this
    cases this
  have hqn : q < A.np := by have := h.hp; rw [owned_np] at this; omega
  have hk := h.hk
  rw [owned_each, owned_own, if_neg hq] at hk
  have ht := h.ht
  rw [owned_tkn, if_neg hq] at ht
  refine ⟨hqn, hk, ht, ?_⟩
  rw [h.hH]
  unfold Ab.hdl
  rw [owned_gen, if_neg hq, owned_num q l hqn]
theorem isH_own2 {A : Ab} {c G q l : Nat} (h : IsH A G q l) : IsH (A.owned c) G q l := by
  have hq : q ≠ A.np := by have := h.hp; omega
  refine ⟨by rw [owned_np]; have := h.hp; omega, by rw [owned_each, owned_own, if_neg hq]; exact h.hk, by rw [owned_tkn, if_neg hq]; exact h.ht, ?_⟩
  rw [h.hH]
  unfold Ab.hdl
  rw [owned_gen, if_neg hq, owned_num q l h.hp]
theorem Takes.page {A A' : Ab} {c H p k : Nat} (h : Takes (A.owned c) A' c H p k) : Takes A A' c H p k :=
  ⟨(kin_owned A c).trans h.kin, h.good, h.own, fun G q l g => h.old G q l (isH_own2 g), fun G q l g => (h.new G q l g).imp id isH_owned, fun q l g => h.not q l (isH_own2 g)⟩

/-- What both Sets answer to Take. -/
theorem take2_any {A : Ab} (hI : Inv A) (c : Nat) (hc : c < A.n) :
    ((∀ w sb F B b c' d e f g zs, IsS w sb F B b c' d e f g A zs → Calls Tryz.prog 69 #[.pointer (some ⟨sb, 0, none⟩), .int .i64 c] w fun y w' => y = .returned (.tuple #[.int .u64 0, .int .i64 21]) ∧ w.grownBy w' none) ∧
      (∀ w rb G Q c' d e R, IsR w rb G Q c' d e R → RFit R → Rep A R → Calls Tryz.prog 70 #[.pointer (some ⟨rb, 0, none⟩), .int .i64 c] w fun y w' => y = .returned (.tuple #[.int .u64 0, .int .i64 21]) ∧ w.grownBy w' none)) ∨
    ∃ A' H p k, Inv A' ∧ Takes A A' c H p k ∧
      (∀ w sb F B b c' d e f g zs, IsS w sb F B b c' d e f g A zs → Calls Tryz.prog 69 #[.pointer (some ⟨sb, 0, none⟩), .int .i64 c] w fun y w' => y = .returned (.tuple #[.int .u64 H, .int .i64 0]) ∧ Kp F w w' ∧ ∃ F' B', IsS w' sb F' B' b c' d e f g A' (headZ zs (A'.place p k) (A'.gen p k)) ∧ ∀ k, F' k → F k ∨ w.heap.size ≤ k) ∧
      (∀ w rb G Q c' d e R, IsR w rb G Q c' d e R → RFit R → Rep A R → Calls Tryz.prog 70 #[.pointer (some ⟨rb, 0, none⟩), .int .i64 c] w fun y w' => y = .returned (.tuple #[.int .u64 H, .int .i64 0]) ∧ Kp G w w' ∧ ∃ G' Q' R', IsR w' rb G' Q' c' d e R' ∧ RFit R' ∧ Rep A' R' ∧ ∀ k, G' k → G k ∨ w.heap.size ≤ k) := by
  have hfit := hI.fit
  by_cases hr : A.row c = []
  · by_cases hm : A.np = A.m
    · refine .inl ⟨fun w sb F B b c' d e f g zs h => take_room h hfit.toFit hc hr hm, fun w rb G Q c' d e R h hR hrep => ?_⟩
      have hrr : R.row c = [] := by
        have h1 := hrep.row c hc
        rw [hr] at h1
        exact List.map_eq_nil_iff.1 h1
      exact rtake_room h hR (i := c) (by rw [hrep.n]; exact hc) hrr (fun q hq => by rw [hrep.m] at hq; rw [hrep.ow q hq, if_pos (by omega)]; omega)
    · have hnp : A.np < A.m := by have := hI.nm; omega
      have he := (hI.toSzs.each hc).1
      have hIo := hI.own hc hnp
      have hrl : ((A.owned c).row c).getLast? = some ((A.owned c).num A.np 0) := by
        rw [owned_row, if_pos rfl, hr, List.nil_append, nums_last A c (by omega), owned_num2]
      have ho2 : (A.owned c).own A.np = c := by rw [owned_own, if_pos rfl]
      have ht2 : (A.owned c).tkn A.np 0 = false := by rw [owned_tkn, if_pos rfl]
      have hp2 : A.np < (A.owned c).np := by rw [owned_np]; omega
      have hk2 : 0 < (A.owned c).each c := by rw [owned_each]; omega
      have hIt := hIo.take (c := c) (p := A.np) (k := 0) (by rw [owned_n]; exact hc) hp2 ho2 hk2 ht2 hrl
      refine .inr ⟨_, _, _, _, hIt, (takes_of hIo.fit hp2 ho2 hk2 ht2).page, fun w sb F B b c' d e f g zs h => take_page h hI hc hr hnp, fun w rb G Q c' d e R h hR hrep => ?_⟩
      have hrr : R.row c = [] := by
        have h1 := hrep.row c hc
        rw [hr] at h1
        exact List.map_eq_nil_iff.1 h1
      have hee : R.ps / R.sz c = A.each c := by unfold Ab.each; rw [hrep.ps, hrep.sz]
      have hNb : R.N + R.ps / R.sz c ≤ 16777216 := by
        have h1 := hrep.nb
        have h2 : A.each c ≤ A.ps / 64 := by unfold Ab.each; exact Nat.div_le_div_left (hI.lo c hc) (by omega)
        have h3 : (A.np + 1) * (A.ps / 64) ≤ 1024 * 16384 := by
          refine Nat.mul_le_mul (by have := hI.mm; omega) ?_
          have := hR.ps
          rw [hrep.ps] at this
          omega
        rw [Nat.add_mul, Nat.one_mul] at h3
        rw [hee]; omega
      have h1 := hrep.paged hI hc hnp
      have hNlt : R.N < (R.page c A.np).N := by rw [(page_facts R c A.np).1, hee]; omega
      have hplR : (R.page c A.np).pl R.N = (A.owned c).place A.np 0 := by
        have := (page_new R c A.np 0 (by rw [hee]; omega)).1
        rw [Nat.add_zero] at this
        rw [this, hrep.ps, hrep.sz]
        unfold Ab.place
        rw [owned_ps, owned_sz, owned_own, if_pos rfl]
      have hof := h1.of hIo.fit.toFit1 hNlt (p := A.np) (k := 0) hp2 (by rw [ho2]; exact hk2) hplR
      have h2 := h1.took hIo.fit.toFit1 (c := c) (p := A.np) (k := 0) (by rw [owned_n]; exact hc) hp2 ho2 hk2 hNlt hplR
      have := rtake_page h hR (i := c) (p := A.np) (by rw [hrep.n]; exact hc) hrr (by rw [hrep.m]; exact hnp) (by rw [hrep.ow _ hnp, if_neg (by omega)]; decide) (fun q hq => by rw [hrep.ow q (by omega), if_pos hq]; omega) hNb (by rw [hee]; omega)
      rw [hof.2.2.2] at this
      refine this.mono ?_
      rintro y w' ⟨rfl, hK, F', Q', hS, hF'⟩
      exact ⟨rfl, hK, F', Q', _, hS, took_fit (page_fit hR (by rw [hrep.n]; exact hc) (by rw [hrep.m]; exact hnp) hNb (by rw [hrr]; simp; omega)) c R.N, h2, hF'⟩
  · obtain ⟨x, hx⟩ : ∃ x, (A.row c).getLast? = some x := by
      cases h : (A.row c).getLast? with
      | none => exact absurd (List.getLast?_eq_none_iff.1 h) hr
      | some x => exact ⟨x, rfl⟩
    obtain ⟨p, k, hp, ho, hk, rfl, ht⟩ := hI.rs c hc x (List.mem_of_getLast? hx)
    have hIt := hI.take hc hp ho hk ht hx
    refine .inr ⟨_, _, _, _, hIt, takes_of hfit hp ho hk ht, fun w sb F B b c' d e f g zs h => ?_, fun w rb G Q c' d e R h hR hrep => ?_⟩
    · refine (take_row h hfit hc hp ho hk ht hx).mono ?_
      rintro y w' ⟨rfl, ⟨B', _, hS⟩, hK⟩
      exact ⟨rfl, hK, F, B', hS, fun k hk => .inl hk⟩
    · obtain ⟨x, n1, hx2, hplx, hlen, hlast⟩ := hrep.last hfit.toFit1 hc hp ho hk hx
      have hof := hrep.of hfit.toFit1 hx2 hp (by rw [ho]; exact hk) hplx
      have h2 := hrep.took hfit.toFit1 hc hp ho hk hx2 hplx
      have := rtake_row h hR (i := c) (by rw [hrep.n]; exact hc) hlen hlast hx2
      rw [hof.2.2.2] at this
      refine this.mono ?_
      rintro y w' ⟨rfl, hK, Q', hS⟩
      exact ⟨rfl, hK, G, Q', _, hS, took_fit hR c x, h2, fun k hk => .inl hk⟩

theorem given_facts (A : Ab) (p k v : Nat) : (A.given p k v).np = A.np ∧ (A.given p k v).n = A.n ∧ (A.given p k v).ps = A.ps ∧ (A.given p k v).m = A.m ∧ (A.given p k v).sz = A.sz ∧ (A.given p k v).own = A.own ∧ (A.given p k v).tkn = upd2 A.tkn p k false ∧ (A.given p k v).gen = upd2 A.gen p k v ∧ (A.given p k v).row = upd A.row (A.own p) (A.row (A.own p) ++ [A.num p k]) := ⟨rfl, rfl, rfl, rfl, rfl, rfl, rfl, rfl, rfl⟩
theorem Rep.goodp {A : Ab} {R : Rb} (hr : Rep A R) (hA : Fit2 A) {H p k : Nat} (hH : IsH A H p k) : ∃ i, i < R.N ∧ R.tk i = true ∧ R.hdl i = H ∧ R.pl i = A.place p k ∧ R.cl i = A.own p ∧ ∀ j, j < i → R.tk j = true → R.hdl j ≠ H := by
  obtain ⟨i, a1, a2, a3, a4, a5⟩ := hr.good hA hH
  obtain ⟨q, l, hq, hl, e1, e2, e3, e4⟩ := hr.at' i a1
  have : IsH A H q l := ⟨hq, hl, by rw [← e4]; exact a2, by rw [← a3]; unfold Rb.hdl Ab.hdl Ab.num; rw [e3, e1]⟩
  obtain ⟨rfl, rfl⟩ := isH_inj hA this hH
  exact ⟨i, a1, a2, a3, e1, a4, a5⟩
theorem Rep.gave {A : Ab} {R : Rb} (h : Rep A R) (hA : Fit2 A) {p k i : Nat} (hp : p < A.np) (hk : k < A.each (A.own p)) (hi : i < R.N) (he : R.pl i = A.place p k) (v : Nat) (hv : v = (A.gen p k + 1) % 4294967296) : Rep (A.given p k v) (R.gave i) := by
  obtain ⟨f1, f2, f3, f4, f5, f6, f7, f8, f9⟩ := given_facts A p k v
  have hof := h.of hA.toFit1 hi hp hk he
  have hpl : ∀ q l, (A.given p k v).place q l = A.place q l := fun q l => by unfold Ab.place; rw [f3, f5, f6]
  have hea : ∀ c, (A.given p k v).each c = A.each c := fun c => by unfold Ab.each; rw [f3, f5]
  refine ⟨h.ps.trans f3.symm, h.m.trans f4.symm, h.n.trans f2.symm, h.sz.trans f5.symm, fun q hq => ?_, fun j hj => ?_, h.inj, fun q l hq hl => ?_, fun c2 hc2 j hj => ?_, fun c2 hc2 => ?_, ?_⟩
  · rw [f1, f6]; rw [f4] at hq; exact h.ow q hq
  · obtain ⟨q, l, hq, hl, e1, e2, e3, e4⟩ := h.at' j hj
    refine ⟨q, l, by rw [f1]; exact hq, by rw [hea, f6]; exact hl, by rw [hpl]; exact e1, by rw [f6]; exact e2, ?_, ?_⟩
    · show upd R.gn i ((R.gn i + 1) % 4294967296) j = _
      rw [f8]
      by_cases e : j = i
      · subst e
        obtain ⟨rfl, rfl⟩ := place_inj hA.toFit1 hq hl hp hk (by rw [← e1, he])
        rw [upd_same, e3]
        simp [upd2, hv]
      · have hne : ¬ (q = p ∧ l = k) := by
          rintro ⟨rfl, rfl⟩
          exact e (h.inj j i hj hi (by rw [e1, he]))
        rw [upd_other _ _ e, e3]
        simp only [upd2, if_neg hne]
    · show upd R.tk i false j = _
      rw [f7]
      by_cases e : j = i
      · subst e
        obtain ⟨rfl, rfl⟩ := place_inj hA.toFit1 hq hl hp hk (by rw [← e1, he])
        rw [upd_same]
        simp [upd2]
      · have hne : ¬ (q = p ∧ l = k) := by
          rintro ⟨rfl, rfl⟩
          exact e (h.inj j i hj hi (by rw [e1, he]))
        rw [upd_other _ _ e, e4]
        simp only [upd2, if_neg hne]
  · rw [f1] at hq
    rw [hea, f6] at hl
    obtain ⟨j, hj, e⟩ := h.sur q l hq hl
    exact ⟨j, hj, by rw [hpl]; exact e⟩
  · rw [f2] at hc2
    have hj2 : j ∈ upd R.row (R.cl i) (R.row (R.cl i) ++ [i]) c2 := hj
    by_cases e : c2 = R.cl i
    · subst e
      rw [upd_same] at hj2
      rcases List.mem_append.1 hj2 with h1 | h1
      · exact h.rlt _ hc2 j h1
      · simp at h1; subst h1; exact hi
    · rw [upd_other _ _ e] at hj2
      exact h.rlt c2 hc2 j hj2
  · rw [f2] at hc2
    rw [f9]
    show (upd R.row (R.cl i) (R.row (R.cl i) ++ [i]) c2).map (fun i => R.pl i / 8 + 1) = _
    rw [hof.1]
    by_cases e : c2 = A.own p
    · subst e
      rw [upd_same, upd_same, List.map_append, h.row _ hc2]
      simp only [List.map_cons, List.map_nil]
      rw [he]
      rfl
    · rw [upd_other _ _ e, upd_other _ _ e, h.row c2 hc2]
  · rw [f1, f3]; exact h.nb
theorem gave_fit {R : Rb} (hR : RFit R) (i : Nat) (hl : (R.row (R.cl i)).length < 16777216) : RFit (R.gave i) := by
  refine ⟨hR.n0, hR.n2, hR.m0, hR.m2, fun j => ?_, hR.pl, hR.N, hR.s0, hR.s1, hR.ps, fun j hj => ?_⟩
  · show upd R.gn i ((R.gn i + 1) % 4294967296) j < _
    by_cases e : j = i
    · subst e; rw [upd_same]; omega
    · rw [upd_other _ _ e]; exact hR.gn j
  · show (upd R.row (R.cl i) (R.row (R.cl i) ++ [i]) j).length ≤ _
    by_cases e : j = R.cl i
    · subst e; rw [upd_same, List.length_append]; simp; omega
    · rw [upd_other _ _ e]; exact hR.rl j hj
/-- Both Sets give a chunk back. -/
theorem give2_yes {A : Ab} (hI : Inv A) {H p k : Nat} (hH : IsH A H p k) (hr : ∀ c, c < A.n → (A.row c).length < 16777216) : ∃ A', Inv A' ∧ Gives A A' H p k ∧
      (∀ w sb F B b c' d e f g zs, IsS w sb F B b c' d e f g A zs → Calls Tryz.prog 122 #[.pointer (some ⟨sb, 0, none⟩), .int .u64 H] w fun y w' => y = .returned (.int .i64 0) ∧ Kp F w w' ∧ ∃ F' B', IsS w' sb F' B' b c' d e f g A' zs ∧ ∀ k, F' k → F k ∨ w.heap.size ≤ k) ∧
      (∀ w rb G Q c' d e R, IsR w rb G Q c' d e R → RFit R → Rep A R → Calls Tryz.prog 177 #[.pointer (some ⟨rb, 0, none⟩), .int .u64 H] w fun y w' => y = .returned (.int .i64 0) ∧ Kp G w w' ∧ ∃ G' Q' R', IsR w' rb G' Q' c' d e R' ∧ RFit R' ∧ Rep A' R' ∧ ∀ k, G' k → G k ∨ w.heap.size ≤ k) := by
  have hfit := hI.fit
  obtain ⟨v, hv⟩ : ∃ v, v = (A.gen p k + 1) % 4294967296 := ⟨_, rfl⟩
  have hv2 : v < 4294967296 := by omega
  obtain ⟨f1, f2, f3, f4, f5, f6, f7, f8, f9⟩ := given_facts A p k v
  refine ⟨A.given p k v, hI.give hv2 hH.hp hH.hk hH.ht, ⟨⟨f2, f3, f4, fun i => by rw [f5], by rw [f1]; exact Nat.le_refl _, fun q hq => by rw [f6]⟩, fun G q l => ⟨fun hG => ?_, fun hG => ?_⟩⟩, fun w sb F B b c' d e f g zs h => give_yes h hI hH v hv, fun w rb G Q c' d e R h hR hrep => ?_⟩
  · have ht := hG.ht
    rw [f7] at ht
    have hne : ¬ (q = p ∧ l = k) := by
      rintro ⟨rfl, rfl⟩
      simp [upd2] at ht
    simp only [upd2, if_neg hne] at ht
    have hhd : (A.given p k v).hdl q l = A.hdl q l := by
      unfold Ab.hdl Ab.num Ab.place
      rw [f3, f5, f6, f8]
      simp only [upd2, if_neg hne]
    have h1 : IsH A G q l := ⟨by have := hG.hp; rw [f1] at this; exact this, by have := hG.hk; unfold Ab.each at this ⊢; rw [f3, f5, f6] at this; exact this, ht, by rw [← hhd]; exact hG.hH⟩
    exact ⟨h1, fun e => hne (isH_inj hfit (e ▸ h1) hH)⟩
  · obtain ⟨hG, hne0⟩ := hG
    have hne : ¬ (q = p ∧ l = k) := by
      rintro ⟨rfl, rfl⟩
      exact hne0 (by rw [hG.hH, hH.hH])
    refine ⟨by rw [f1]; exact hG.hp, by unfold Ab.each; rw [f3, f5, f6]; exact hG.hk, by rw [f7]; simp only [upd2, if_neg hne]; exact hG.ht, ?_⟩
    rw [hG.hH]
    unfold Ab.hdl Ab.num Ab.place
    rw [f3, f5, f6, f8]
    simp only [upd2, if_neg hne]
  · obtain ⟨i, a1, a2, a3, a4, a5, a6⟩ := hrep.goodp hfit hH
    have hfd := rfind_yes h hR a1 a2 a3 a6
    have hc : R.cl i < R.n := by rw [a5, hrep.n]; exact hI.on p hH.hp
    have hl : (R.row (R.cl i)).length < 16777216 := by
      rw [a5]
      have h1 := congrArg List.length (hrep.row (A.own p) (hI.on p hH.hp))
      rw [List.length_map] at h1
      rw [h1]
      exact hr _ (hI.on p hH.hp)
    refine (rgive_yes h hR a1 hc hl hfd).mono ?_
    rintro y w' ⟨rfl, hK, F', Q', hS, hF⟩
    exact ⟨rfl, hK, F', Q', _, hS, gave_fit hR i hl, hrep.gave hfit hH.hp hH.hk a1 a4 v hv, hF⟩
end Go.Proofs.YtjkdflnnpdionaaGreat
