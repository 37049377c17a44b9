import Derived.Test.YtohneboimmcocaaGreatOb
/-
  The document's Set: no room; a chunk is given back.
-/
namespace Go.Proofs.YtohneboimmcocaaGreat
open Go.RowKit
set_option linter.unusedVariables false

section
variable {w : World} {rb : Nat} {F : Nat → Prop} {Q : Rl} {c d e : Int} {R : Rb}
set_option maxRecDepth 100000 in
theorem rpage_no (h : IsR w rb F Q c d e R) (hR : RFit R) {i : Nat} (hlo : ∀ q, q < R.m → 0 ≤ R.ow q) :
    Calls Tryz.prog 133 #[.pointer (some ⟨rb, 0, none⟩), .int .i64 i] w fun y w' => y = .returned (.bool false) ∧ w = w' := by
  obtain ⟨sb, sc, ob, oc, vb, vc, hsv, hov, hrv⟩ := h.shapes hR.n0 hR.m0
  have hm2 := hR.m2
  have c6 := h.sc 6
  simp [rset, hov] at c6
  have eo := fun k (hk : k < R.m) => h.ocell hov (i := k) hk
  clear h hR
  generalize R.ow = ow at *
  generalize R.m = m at *
  go_enter Tryz.func133, Tryz.ntmps133
  go_wp2
  go_loopw [5] (fun iv wr => ∃ (k : Nat), iv = .int .i64 k ∧ k ≤ m ∧ w = wr) (fun iv _ => m - (intOf iv).toNat)
  case atStart => exact ⟨0, rfl, by omega, rfl⟩
  case round =>
    obtain ⟨k, rfl, hk, rfl⟩ := hrel
    by_cases hkp : k = m
    · subst hkp
      have hkm : decide ((k : Int) < (k : Int)) = false := by simp
      clear eo hlo
      go_wp2
      go_ret
      exact ⟨rfl, rfl⟩
    · have hkz : (k : Int) < (m : Int) := by omega
      have hkm : decide ((k : Int) < (m : Int)) = true := decide_eq_true hkz
      have h0 := hlo k (by omega)
      have e0 := eo k (by omega)
      clear eo hlo
      generalize ow k = ok at *
      have hge : decide (ok ≥ 0) = true := by simp; omega
      have hge : decide (0 ≤ ok) = true := by simp; omega
      go_wp2
      go_roundw
      case rel => exact ⟨k + 1, by go_num, by omega, by first | trivial | rfl⟩
      case measure => simp [intOf]; omega
set_option maxRecDepth 100000 in
theorem rtake_room (h : IsR w rb F Q c d e R) (hR : RFit R) {i : Nat} (hi : i < R.n) (hr : R.row i = []) (hlo : ∀ q, q < R.m → 0 ≤ R.ow q) :
    Calls Tryz.prog 89 #[.pointer (some ⟨rb, 0, none⟩), .int .i64 i] w fun y w' => y = .returned (.tuple #[.int .u64 0, .int .i64 21]) ∧ w.grownBy w' none := by
  obtain ⟨sb, sc, ob, oc, vb, vc, hsv, hov, hrv⟩ := h.shapes hR.n0 hR.m0
  have his := (ris_yes h hi).mono (R' := fun y w2 => y = .returned (.bool true) ∧ w.grownBy w2 none ∧ w2.cell? ⟨rb, 8, none⟩ = some (.slice (some ⟨vb, 0, none⟩) R.n vc) ∧ (∃ ao cp, w2.cell? ⟨vb, i, none⟩ = some (.slice ao 0 cp)) ∧ Hid (IsR w2 rb F Q c d e R)) (by
    rintro y w2 ⟨rfl, hf⟩
    have h2 := h.kept0 hf
    have c8 := h2.sc 8
    simp [rset, hrv] at c8
    have cr := h2.rcell hrv hi
    obtain ⟨ao, cp, e1, _⟩ := row_shape (h2.rr i hi)
    rw [hr] at e1
    exact ⟨rfl, hf, c8, ⟨ao, cp, by rw [cr, e1]; rfl⟩, h2⟩)
  have hpg := fun W (hS : Hid (IsR W rb F Q c d e R)) => rpage_no hS.out hR (i := i) hlo
  have hiz : (i : Int) < (R.n : Int) := by omega
  have hn2 := hR.n2
  clear h hR hlo
  go_enter Tryz.func89, Tryz.ntmps89
  go_wp2_with (first | (go_at_call 132; go_must (refine his.mono ?_); rintro y w2 ⟨rfl, hf2, c8, ⟨ao, cp, cr⟩, hE⟩) | (go_at_call 133; go_must (refine (hpg _ hE).mono ?_); rintro y w3 ⟨rfl, rfl⟩) | fail)
  go_ret2
  exact ⟨rfl, hf2⟩

/-- A chunk is given back. -/
def Rb.gave (R : Rb) (i : Nat) : Rb := { R with tk := upd R.tk i false, gn := upd R.gn i ((R.gn i + 1) % 4294967296), row := upd R.row (R.cl i) (R.row (R.cl i) ++ [i]) }

theorem rgive_no {H : Nat} (hf : Calls Tryz.prog 85 #[.pointer (some ⟨rb, 0, none⟩), .int .u64 H] w fun y w' => y = .returned (.int .i64 (-1)) ∧ w.grownBy w' none) :
    Calls Tryz.prog 94 #[.pointer (some ⟨rb, 0, none⟩), .int .u64 H] w fun y w' => y = .returned (.int .i64 20) ∧ w.grownBy w' none := by
  go_enter Tryz.func94, Tryz.ntmps94
  go_wp2_with (first | (go_at_call 85; go_must (refine hf.mono ?_); rintro y w2 ⟨rfl, hf2⟩) | fail)
  go_ret
  exact ⟨rfl, hf2⟩

set_option maxRecDepth 100000 in
set_option maxHeartbeats 2000000 in
theorem rgive_yes (h : IsR w rb F Q c d e R) (hR : RFit R) {i H : Nat} (hi : i < R.N) (hc : R.cl i < R.n) (hl : (R.row (R.cl i)).length < 16777216)
    (hfd : Calls Tryz.prog 85 #[.pointer (some ⟨rb, 0, none⟩), .int .u64 H] w fun y w' => y = .returned (.int .i64 i) ∧ w.grownBy w' none) :
    Calls Tryz.prog 94 #[.pointer (some ⟨rb, 0, none⟩), .int .u64 H] w fun y w' => y = .returned (.int .i64 0) ∧ Kp F w w' ∧ ∃ F' Q', IsR w' rb F' Q' c d e (R.gave i) ∧ ∀ k, F' k → F k ∨ w.heap.size ≤ k := by
  obtain ⟨sb, sc, ob, oc, vb, vc, hsv, hov, hrv⟩ := h.shapes hR.n0 hR.m0
  obtain ⟨cb, cc, hcv⟩ := h.cshape (by omega)
  have hiz : (i : Int) < (R.N : Int) := by omega
  have hN := hR.N
  have hcz : (R.cl i : Int) < (R.n : Int) := by omega
  have hgn := hR.gn i
  have hn2 := hR.n2
  have hcbF : F cb := h.fc cb (by rw [hcv]; rfl)
  have hfd2 := hfd.mono (R' := fun y w1 => y = .returned (.int .i64 i) ∧ w1.cell? ⟨rb, 7, none⟩ = some (.slice (some ⟨cb, 0, none⟩) R.N cc) ∧ w1.cell? ⟨cb, i * 4 + 1, none⟩ = some (.int .i64 (R.cl i)) ∧ w1.cell? ⟨cb, i * 4 + 3, none⟩ = some (.bool (R.tk i)) ∧ w1.frozen? ⟨cb, i * 4 + 3, none⟩ = false ∧ Hid (Kp F w w1 ∧ IsR w1 rb F Q c d e R)) (by
    rintro y w1 ⟨rfl, hf⟩
    have h1 := h.kept0 hf
    have c7 := h1.sc 7
    simp [rset, hcv] at c7
    obtain ⟨cur, hcur⟩ := h1.blk_cb hcv
    exact ⟨rfl, c7, h1.ccell hcv hi (j := 1) (by omega), h1.ccell hcv hi (j := 3) (by omega), by simp [World.frozen?, hcur], Kp.of hf, h1⟩)
  have hs1 := fun W (hE : Hid (Kp F w W ∧ IsR W rb F Q c d e R)) => (show (W.setCell ⟨cb, i * 4 + 3, none⟩ (.bool false)).cell? ⟨rb, 7, none⟩ = some (.slice (some ⟨cb, 0, none⟩) R.N cc) ∧ (W.setCell ⟨cb, i * 4 + 3, none⟩ (.bool false)).cell? ⟨cb, i * 4 + 2, none⟩ = some (.int .u64 (R.gn i)) ∧ (W.setCell ⟨cb, i * 4 + 3, none⟩ (.bool false)).frozen? ⟨cb, i * 4 + 2, none⟩ = false ∧ Hid (Kp F w (W.setCell ⟨cb, i * 4 + 3, none⟩ (.bool false)) ∧ IsR (W.setCell ⟨cb, i * 4 + 3, none⟩ (.bool false)) rb F Q c d e { R with tk := upd R.tk i false }) by
    have h2 := hE.out.2.setTk hcv hi false
    have c7 := h2.sc 7
    simp [rset, hcv] at c7
    obtain ⟨cur, hcur⟩ := h2.blk_cb hcv
    exact ⟨c7, h2.ccell hcv hi (j := 2) (by omega), by simp [World.frozen?, hcur], hE.out.1.trans (hE.out.2.kp_set hcbF _) (fun _ h => h) (fun k hk => .inl hk), h2⟩)
  have hs2 := fun W (hE : Hid (Kp F w W ∧ IsR W rb F Q c d e { R with tk := upd R.tk i false })) (gv : Nat) => (show (W.setCell ⟨cb, i * 4 + 2, none⟩ (.int .u64 gv)).drew.cell? ⟨rb, 8, none⟩ = some (.slice (some ⟨vb, 0, none⟩) R.n vc) ∧ (W.setCell ⟨cb, i * 4 + 2, none⟩ (.int .u64 gv)).drew.cell? ⟨vb, R.cl i, none⟩ = some (Q.rr (R.cl i)) ∧ (W.setCell ⟨cb, i * 4 + 2, none⟩ (.int .u64 gv)).drew.frozen? ⟨vb, R.cl i, none⟩ = false ∧ Hid (Kp F w (W.setCell ⟨cb, i * 4 + 2, none⟩ (.int .u64 gv)).drew ∧ IsR (W.setCell ⟨cb, i * 4 + 2, none⟩ (.int .u64 gv)).drew rb F Q c d e { R with tk := upd R.tk i false, gn := upd R.gn i gv }) by
    have h2 := (hE.out.2.setGn hcv hi gv).kept0 (gb_drew (gb_refl _ none))
    have c8 := h2.sc 8
    simp [rset, hrv] at c8
    obtain ⟨cur, hcur⟩ := h2.blk_vb hrv
    exact ⟨c8, h2.rcell hrv hc, by simp [World.frozen?] at hcur ⊢; simp [hcur], (hE.out.1.trans (hE.out.2.kp_set hcbF _) (fun _ h => h) (fun k hk => .inl hk)).step (gb_drew (gb_refl _ none)) (by simp), h2⟩)
  clear hfd
  have HRG : Hid (∀ gv, (R.gn i + 1) % 4294967296 = gv → R.gave i = { R with tk := upd R.tk i false, gn := upd R.gn i gv, row := upd R.row (R.cl i) (R.row (R.cl i) ++ [i]) }) := fun gv hgv => by subst hgv; rfl
  generalize R.gn i = gn at *
  generalize R.cl i = ci at *
  go_enter Tryz.func94, Tryz.ntmps94
  go_wp2_with (first | (go_at_call 85; go_must (refine hfd2.mono ?_); rintro y w1 ⟨rfl, c7, c1, c3, z3, hE1⟩) | fail)
  obtain ⟨d7, d2, z2, hE2⟩ := hs1 _ hE1
  clear hs1 hE1 c7 c1 c3 z3
  generalize w1.setCell ⟨cb, i * 4 + 3, none⟩ (.bool false) = W2 at *
  obtain ⟨gv, hgv⟩ : ∃ gv, (gn + 1) % 4294967296 = gv := ⟨_, rfl⟩
  have hw1 : IntKind.u64.wrap (IntKind.u64.wrap ((gn : Int) + 1) % 4294967296) = gv := by
    have : IntKind.u64.wrap ((gn : Int) + 1) = (gn : Int) + 1 := by rw [IntKind.wrap_u64]; omega
    rw [this, IntKind.wrap_u64]; omega
  have hw2 : IntKind.u64.wrap ((gn : Int) + 1) = (gn : Int) + 1 := by rw [IntKind.wrap_u64]; omega
  have hw3 : ((gn : Int) + 1).tmod 4294967296 = gv := by rw [Int.tmod_eq_emod_of_nonneg (by omega)]; omega
  have hE3 := hs2 _ hE2 gv
  clear hs2 
  have HG : Hid ((gn + 1) % 4294967296 = gv) := hgv
  clear hgv
  obtain ⟨e8, er, zr, hE4⟩ := hE3
  have hrow := hE4.out.2.rr ci hc
  dsimp only at hrow
  have hbx := hE4.out.2.box
  obtain ⟨cur, hcur⟩ := row_block hE4.out.2.rs vb (by rw [hrv]; rfl)
  have hnk : (Q.rr ci).ownBlock = some vb → False := fun e => by
    obtain ⟨cur2, hc2⟩ := row_block hrow _ e
    exact ne_of_type hcur hc2 (by decide) rfl
  have hnb : (Q.rr ci).ownBlock = some rb → False := fun e => by
    obtain ⟨cur2, hc2⟩ := row_block hrow _ e
    exact ne_of_type hbx hc2 (by decide) rfl
  clear hbx
  have HQ : Hid (ci < R.n ∧ Q.rv = .slice (some ⟨vb, 0, none⟩) R.n vc ∧ (∀ k, (Q.rr ci).ownBlock = some k → F k)) := ⟨hc, hrv, fun k hk => h.fr ci k hc hk⟩
  obtain ⟨iu, hu0, hy0, hy1, hy2⟩ := info_parts Tryz.info3
  have hFin : Hid (∀ W7 g3 cap3, World.ownsRow W7 0 3 1 (.slice (some ⟨g3, 0, none⟩) ((R.row ci).length + 1) cap3) ((R.row ci).length + 1) (ixs (R.row ci) ++ [.int .i64 (i : Int)]) → (W2.setCell ⟨cb, i * 4 + 2, none⟩ (.int .u64 gv)).drew.grownBy W7 (Q.rr ci).ownBlock → ((Q.rr ci).ownBlock = some g3 ∨ (W2.setCell ⟨cb, i * 4 + 2, none⟩ (.int .u64 gv)).drew.heap.size ≤ g3) → Kp F w (W7.setCell ⟨vb, ci, none⟩ (.slice (some ⟨g3, 0, none⟩) ((R.row ci).length + 1) cap3)) ∧ ∃ F' Q', IsR (W7.setCell ⟨vb, ci, none⟩ (.slice (some ⟨g3, 0, none⟩) ((R.row ci).length + 1) cap3)) rb F' Q' c d e { R with tk := upd R.tk i false, gn := upd R.gn i gv, row := upd R.row ci (R.row ci ++ [i]) } ∧ ∀ k, F' k → F k ∨ w.heap.size ≤ k) := fun W7 g3 cap3 o1 o2 o3 => by
    have hS8 := hE4.out.2.pushR (i := ci) (x := i) HQ.out.1 HQ.out.2.1 (g2 := g3) (cap2 := cap3) o1 o2 o3
    refine ⟨hE4.out.1.trans hS8.2 (fun _ h => h) (fun k hk => .inl hk), _, _, hS8.1, ?_⟩
    rintro k (hk | rfl)
    · exact .inl hk
    · rcases o3 with o3 | o3
      · exact .inl (HQ.out.2.2 _ o3)
      · exact .inr (Nat.le_trans hE4.out.1.size o3)
  have hlb : (R.row ci).length ≤ 100000000 := by omega
  generalize (R.row ci).length = rl at *
  generalize ixs (R.row ci) = rx at *
  generalize Q.rr ci = rvv at *
  clear h hR hE2 hE4 hsv hov hrv hcv hcbF hl
  go_region_law (fail)
  all_goals
    generalize (W2.setCell ⟨cb, i * 4 + 2, none⟩ (.int .u64 gv)).drew = W3 at *
    have al : ∀ o a v, W3.cell? a = some v → (W3.alloc o).cell? a = some v := fun o a v h => gb_cellN (World.grownBy_alloc W3 o none) h
    have a8 := fun o => al o _ _ e8
    have ar := fun o => al o _ _ er
    clear al
    clear hfd2 d7 d2 z2
    go_wp2
    go_region_law ((refine step_append_lies _ (by rfl) _ _ _ (by rfl) 0 3 iu _ 1 8 Tryz.underlying64 hu0 hy0 hy1 hy2 rfl (by omega) rvv rl rx (by rfl) (World.ownsRow.alloc (w := W3) hrow _) ⟨W3.heap.size, 0, none⟩ 1 1 [.int .i64 (i : Int)] (by rfl) (by rfl) (World.news_of_block (cs := #[.int .i64 (i : Int)]) (t := 3) (fr := (0, 0)) (heap_alloc_new W3 _)) (by simp [Value.oneCell']) (by omega) (by unfold maxLen; omega) (by omega) (Nat.zero_le _) (W3.heap.size + 1) (by simp) ?_; intro g3 cap3 w7 hown7 hgrow7 hat7 hlt7; have hg7 : W3.grownBy w7 rvv.ownBlock := gb_trans (by first | exact gb_drew (gb_alloc (gb_refl _ _) _) | exact gb_alloc (gb_drew (gb_refl _ _)) _ | exact gb_alloc (gb_refl _ _) _) hgrow7; have hcur7 : w7.heap[vb]? = some (.cells cur 64 (0, 0)) := (by rw [hg7.block vb (lt_of_block hcur) (fun e => hnk e.symm)]; exact hcur); have b8 := gb_cell hg7 e8 (fun e => hnb e.symm); have b4 : w7.cell? ⟨vb, ci, none⟩ = some rvv := gb_cell hg7 er (fun e => hnk e.symm); have b5 : w7.frozen? ⟨vb, ci, none⟩ = false := (by simp [World.frozen?, hcur7])))
    all_goals
      have hEE : Hid _ := hFin.out w7 g3 cap3 hown7 hg7 (by rcases hat7 with h | h; exact .inl h; exact .inr (by omega))
      generalize w7.setCell ⟨vb, ci, none⟩ (.slice (some ⟨g3, 0, none⟩) (rl + 1) cap3) = W9 at *
      go_wp2
      go_ret
      refine ⟨rfl, hEE.out.1, ?_⟩
      rw [HRG.out gv HG.out]
      exact hEE.out.2
end
end Go.Proofs.YtohneboimmcocaaGreat
