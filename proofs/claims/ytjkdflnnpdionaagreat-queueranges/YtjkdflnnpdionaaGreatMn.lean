import Derived.Test.YtjkdflnnpdionaaGreatRc
import Derived.Deep.RegionHeld3
/-
  The document's Take, of a class whose row is empty.
-/
namespace Go.Proofs.YtjkdflnnpdionaaGreat
open Go.RowKit
set_option linter.unusedVariables false

theorem chs_new (R : Rb) (p c : Nat) : ∀ j k, k < j → (R.chs p c j).pl (R.N + k) = p * R.ps + k * R.sz c ∧ (R.chs p c j).cl (R.N + k) = c ∧ (R.chs p c j).gn (R.N + k) = 0 ∧ (R.chs p c j).tk (R.N + k) = false
  | 0, k, h => by omega
  | j + 1, k, h => by
    have hN := (chs_facts R p c j).1
    simp only [Rb.chs, Rb.pushC]
    rw [hN]
    by_cases e : k = j
    · subst e
      rw [upd_same, upd_same, upd_same, upd_same]
      exact ⟨rfl, rfl, rfl, rfl⟩
    · have hne : R.N + k ≠ R.N + j := by omega
      rw [upd_other _ _ hne, upd_other _ _ hne, upd_other _ _ hne, upd_other _ _ hne]
      exact chs_new R p c j k (by omega)
theorem chs_old (R : Rb) (p c : Nat) : ∀ j i, i < R.N → (R.chs p c j).pl i = R.pl i ∧ (R.chs p c j).cl i = R.cl i ∧ (R.chs p c j).gn i = R.gn i ∧ (R.chs p c j).tk i = R.tk i
  | 0, i, h => ⟨rfl, rfl, rfl, rfl⟩
  | j + 1, i, h => by
    have hN := (chs_facts R p c j).1
    simp only [Rb.chs, Rb.pushC]
    rw [hN]
    have hne : i ≠ R.N + j := by omega
    rw [upd_other _ _ hne, upd_other _ _ hne, upd_other _ _ hne, upd_other _ _ hne]
    exact chs_old R p c j i h
theorem chs_gn (R : Rb) (p c : Nat) (hg : ∀ i, R.gn i < 4294967296) : ∀ j i, (R.chs p c j).gn i < 4294967296
  | 0, i => hg i
  | j + 1, i => by
    simp only [Rb.chs, Rb.pushC, upd]
    split
    · omega
    · exact chs_gn R p c hg j i

/-- A chunk of a class is taken. -/
def Rb.took (R : Rb) (c i : Nat) : Rb := { R with row := upd R.row c (R.row c).dropLast, tk := upd R.tk i true }

theorem page_facts (R : Rb) (c p : Nat) : (R.page c p).N = R.N + R.ps / R.sz c ∧ (R.page c p).ps = R.ps ∧ (R.page c p).sz = R.sz ∧ (R.page c p).n = R.n ∧ (R.page c p).m = R.m ∧ (R.page c p).row = upd R.row c (R.row c ++ dwn R.N (R.ps / R.sz c) 0) ∧ (R.page c p).ow = upd R.ow p c := by
  obtain ⟨g1, g2, g3, g4, g5, g6, g7⟩ := chs_facts ({ R with ow := upd R.ow p c } : Rb) p c (R.ps / R.sz c)
  refine ⟨g1, g2, g3, g4, g5, ?_, g7⟩
  show upd (Rb.chs _ p c _).row c ((Rb.chs _ p c _).row c ++ _) = _
  rw [g6]
theorem page_new (R : Rb) (c p k : Nat) (hk : k < R.ps / R.sz c) : (R.page c p).pl (R.N + k) = p * R.ps + k * R.sz c ∧ (R.page c p).cl (R.N + k) = c ∧ (R.page c p).gn (R.N + k) = 0 ∧ (R.page c p).tk (R.N + k) = false :=
  chs_new ({ R with ow := upd R.ow p c } : Rb) p c _ k hk
theorem page_old (R : Rb) (c p i : Nat) (hi : i < R.N) : (R.page c p).pl i = R.pl i ∧ (R.page c p).cl i = R.cl i ∧ (R.page c p).gn i = R.gn i ∧ (R.page c p).tk i = R.tk i :=
  chs_old ({ R with ow := upd R.ow p c } : Rb) p c _ i hi
theorem page_fit {R : Rb} (hR : RFit R) {i p : Nat} (hi : i < R.n) (hp : p < R.m) (hN : R.N + R.ps / R.sz i ≤ 16777216) (hl : (R.row i).length + R.ps / R.sz i ≤ 16777216) : RFit (R.page i p) := by
  obtain ⟨g1, g2, g3, g4, g5, g6, g7⟩ := page_facts R i p
  refine ⟨by rw [g4]; exact hR.n0, by rw [g4]; exact hR.n2, by rw [g5]; exact hR.m0, by rw [g5]; exact hR.m2, ?_, ?_, by rw [g1]; exact hN, by rw [g3, g4]; exact hR.s0, by rw [g3, g4]; exact hR.s1, by rw [g2]; exact hR.ps, ?_⟩
  · exact chs_gn ({ R with ow := upd R.ow p i } : Rb) p i hR.gn _
  · intro j hj
    rw [g1] at hj
    by_cases h : j < R.N
    · rw [(page_old R i p j h).1]; exact hR.pl j h
    · obtain ⟨k, rfl⟩ : ∃ k, j = R.N + k := ⟨j - R.N, by omega⟩
      rw [(page_new R i p k (by omega)).1]
      have h1 : (k + 1) * R.sz i ≤ R.ps / R.sz i * R.sz i := Nat.mul_le_mul_right _ (by omega)
      rw [Nat.add_mul, Nat.one_mul] at h1
      have h2 := Nat.div_mul_le_self R.ps (R.sz i)
      have h3 : p * R.ps ≤ 1023 * 1048576 := Nat.mul_le_mul (by have := hR.m2; omega) hR.ps
      have := hR.ps
      omega
  · intro j hj
    rw [g4] at hj
    rw [g6]
    by_cases e : j = i
    · subst e
      rw [upd_same, List.length_append, dwn_len]
      omega
    · rw [upd_other _ _ e]; exact hR.rl j hj

section
variable {w w' : World} {rb : Nat} {F : Nat → Prop} {Q : Rl} {c d e : Int} {R : Rb}

theorem IsR.blk_cb (h : IsR w rb F Q c d e R) {cb cc : Nat} (hcv : Q.cv = .slice (some ⟨cb, 0, none⟩) R.N cc) : ∃ cur, w.heap[cb]? = some (.cells cur 214 (0, 0)) := row_block h.ck cb (by rw [hcv]; rfl)
theorem IsR.blk_vb (h : IsR w rb F Q c d e R) {vb vc : Nat} (hrv : Q.rv = .slice (some ⟨vb, 0, none⟩) R.n vc) : ∃ cur, w.heap[vb]? = some (.cells cur 55 (0, 0)) := row_block h.rs vb (by rw [hrv]; rfl)

/-- What a Take meets. -/
theorem take_cells (h : IsR w rb F Q c d e R) (hR : RFit R) {i n x : Nat} (hi : i < R.n) (hl : (R.row i).length = n + 1) (hx : (ixs (R.row i))[n]? = some (.int .i64 (x : Int))) (hxN : x < R.N) :
    ∃ vb vc gg cap cb cc, Q.rv = .slice (some ⟨vb, 0, none⟩) R.n vc ∧ Q.rr i = .slice (some ⟨gg, 0, none⟩) (R.row i).length cap ∧ Q.cv = .slice (some ⟨cb, 0, none⟩) R.N cc ∧ n + 1 ≤ cap ∧ cap ≤ maxLen ∧
      w.cell? ⟨rb, 8, none⟩ = some (.slice (some ⟨vb, 0, none⟩) R.n vc) ∧ w.cell? ⟨vb, i, none⟩ = some (.slice (some ⟨gg, 0, none⟩) (n + 1) cap) ∧ w.cell? ⟨gg, n, none⟩ = some (.int .i64 (x : Int)) ∧ w.frozen? ⟨vb, i, none⟩ = false ∧
      w.cell? ⟨rb, 7, none⟩ = some (.slice (some ⟨cb, 0, none⟩) R.N cc) ∧ w.cell? ⟨cb, x * 4 + 3, none⟩ = some (.bool (R.tk x)) ∧ (∀ v, (w.setCell ⟨vb, i, none⟩ v).frozen? ⟨cb, x * 4 + 3, none⟩ = false) ∧ (∀ v, (w.setCell ⟨vb, i, none⟩ v).cell? ⟨rb, 7, none⟩ = some (.slice (some ⟨cb, 0, none⟩) R.N cc)) ∧ (∀ v, (w.setCell ⟨vb, i, none⟩ v).cell? ⟨cb, x * 4 + 3, none⟩ = some (.bool (R.tk x))) := by
  obtain ⟨sb, sc, ob, oc, vb, vc, hsv, hov, hrv⟩ := h.shapes hR.n0 hR.m0
  obtain ⟨cb, cc, hcv⟩ := h.cshape (by omega)
  have hrow := h.rr i hi
  obtain ⟨ao, cap, hrr, _, k2, k3, k4⟩ := row_shape hrow
  obtain ⟨gg, rfl⟩ := k4 (by omega)
  have c8 := h.sc 8
  have c7 := h.sc 7
  simp [rset, hrv] at c8
  simp [rset, hcv] at c7
  have r8 := h.rcell hrv hi
  rw [hrr, hl] at r8
  have hrow2 := hrow
  rw [hrr] at hrow2
  have rl := row_cell hrow2 _ _ hx
  obtain ⟨vcur, hvc⟩ := h.blk_vb hrv
  obtain ⟨ccur, hcc⟩ := h.blk_cb hcv
  have e3 := h.ccell hcv hxN (j := 3) (by omega)
  simp [rckC] at e3
  have n1 := ne_of_type hcc hvc (by decide)
  have n2 := ne_of_type h.box hvc (by decide)
  refine ⟨vb, vc, gg, cap, cb, cc, hrv, hrr, hcv, by omega, k3, c8, r8, rl, by simp [World.frozen?, hvc], c7, e3, fun v => ?_, fun v => ?_, fun v => ?_⟩
  · simp [World.frozen?, show (w.setCell ⟨vb, i, none⟩ v).heap[cb]? = w.heap[cb]? from heap_setCell_other _ _ _ _ n1, hcc]
  · exact gb_cell (gb_setCell (gb_refl w (some vb)) v) c7 (by simpa using n2)
  · exact gb_cell (gb_setCell (gb_refl w (some vb)) v) e3 (by simpa using n1)
theorem IsR.took (h : IsR w rb F Q c d e R) {i n x vb vc gg cap cb cc : Nat} (hi : i < R.n) (hl : (R.row i).length = n + 1) (hxN : x < R.N) (hrv : Q.rv = .slice (some ⟨vb, 0, none⟩) R.n vc) (hrr : Q.rr i = .slice (some ⟨gg, 0, none⟩) (R.row i).length cap) (hcv : Q.cv = .slice (some ⟨cb, 0, none⟩) R.N cc) :
    (∃ Q', IsR ((w.setCell ⟨vb, i, none⟩ (.slice (some ⟨gg, 0, none⟩) n cap)).setCell ⟨cb, x * 4 + 3, none⟩ (.bool true)) rb F Q' c d e (R.took i x)) ∧ Kp F w ((w.setCell ⟨vb, i, none⟩ (.slice (some ⟨gg, 0, none⟩) n cap)).setCell ⟨cb, x * 4 + 3, none⟩ (.bool true)) := by
  have h1 := h.popR hi hrv hrr hl
  have h2 := h1.setTk (cb := cb) (cc := cc) (i := x) hcv hxN true
  exact ⟨⟨_, h2⟩, (h.kp_set (h.fv vb (by rw [hrv]; rfl)) _).trans (h1.kp_set (h.fc cb (by rw [hcv]; rfl)) _) (fun _ h => h) (fun _ h => .inl h)⟩
theorem took_fit {R : Rb} (hR : RFit R) (i x : Nat) : RFit (R.took i x) :=
  ⟨hR.n0, hR.n2, hR.m0, hR.m2, hR.gn, hR.pl, hR.N, hR.s0, hR.s1, hR.ps, fun j hj => by
    show (upd R.row i (R.row i).dropLast j).length ≤ _
    have := hR.rl j hj
    by_cases e : j = i
    · subst e; rw [upd_same]; simp; omega
    · rw [upd_other _ _ e]; exact this⟩

set_option maxRecDepth 100000 in
set_option maxHeartbeats 2000000 in
theorem rtake_page (h : IsR w rb F Q c d e R) (hR : RFit R) {i p : Nat} (hi : i < R.n) (hr : R.row i = []) (hp : p < R.m) (hpo : R.ow p < 0) (hlo : ∀ q, q < p → 0 ≤ R.ow q) (hN : R.N + R.ps / R.sz i ≤ 16777216) (he : 0 < R.ps / R.sz i) :
    Calls Tryz.prog 70 #[.pointer (some ⟨rb, 0, none⟩), .int .i64 i] w fun y w' => y = .returned (.tuple #[.int .u64 ((R.page i p).hdl R.N), .int .i64 0]) ∧ Kp F w w' ∧ ∃ F' Q', IsR w' rb F' Q' c d e ((R.page i p).took i R.N) ∧ ∀ k, F' k → F k ∨ w.heap.size ≤ k := by
  obtain ⟨g1, g2, g3, g4, g5, g6, g7⟩ := page_facts R i p
  have hfit := page_fit hR hi hp hN (by rw [hr]; simp; omega)
  have hro : (R.page i p).row i = dwn R.N (R.ps / R.sz i) 0 := by rw [g6, upd_same, hr]; simp
  have hrl : ((R.page i p).row i).length = R.ps / R.sz i := by rw [hro, dwn_len]; omega
  have hlast : (ixs ((R.page i p).row i))[R.ps / R.sz i - 1]? = some (.int .i64 (R.N : Int)) := by
    rw [hro, ← dwn_step R.N _ 0 he]
    simp [ixs, dwn_len]
  have his := fun W (hf : w.grownBy W none) => ris_yes (h.kept0 hf) hi
  have hpg := fun W (hf : w.grownBy W none) => rpage_yes (h.kept0 hf) hR hi hp hpo hlo hN
  obtain ⟨sb, sc, ob, oc, vb, vc, hsv, hov, hrv⟩ := h.shapes hR.n0 hR.m0
  have hiz : (i : Int) < (R.n : Int) := by omega
  have hrow0 := h.rr i hi
  rw [hr] at hrow0
  obtain ⟨ao, cap0, hrr0, _, _, _, _⟩ := row_shape hrow0
  have c8 := h.sc 8
  simp [rset, hrv] at c8
  have r8 := h.rcell hrv hi
  rw [hrr0] at r8
  simp at r8
  have hpg2 := fun W (hf : w.grownBy W none) => (hpg W hf).mono (R' := fun y w' => ∃ F2 Q2, y = .returned (.bool true) ∧ Hid (Kp F w w' ∧ IsR w' rb F2 Q2 c d e (R.page i p) ∧ ∀ k, F2 k → F k ∨ w.heap.size ≤ k)) (by
    rintro y w' ⟨rfl, h1, F2, Q2, h2, h3⟩
    exact ⟨F2, Q2, rfl, (Kp.of hf).trans h1 (fun _ h => h) (fun k hk => .inl hk), h2, fun k hk => (h3 k hk).elim .inl (fun h => .inr (Nat.le_trans hf.size h))⟩)
  have hNN : R.N < (R.page i p).N := by rw [g1]; omega
  obtain ⟨n1, hn1⟩ : ∃ n1, R.ps / R.sz i = n1 + 1 := ⟨R.ps / R.sz i - 1, by omega⟩
  rw [hn1] at hrl hlast hN g1
  have hpg3 := fun W (hf : w.grownBy W none) => (hpg2 W hf).mono (R' := fun y w2 => ∃ (F2 : Nat → Prop) (vb vc gg cap cb cc : Nat), y = .returned (.bool true) ∧ n1 + 1 ≤ cap ∧ cap ≤ maxLen ∧
      w2.cell? ⟨rb, 8, none⟩ = some (.slice (some ⟨vb, 0, none⟩) R.n vc) ∧ w2.cell? ⟨vb, i, none⟩ = some (.slice (some ⟨gg, 0, none⟩) (n1 + 1) cap) ∧ w2.cell? ⟨gg, n1, none⟩ = some (.int .i64 (R.N : Int)) ∧ w2.drew.frozen? ⟨vb, i, none⟩ = false ∧
      (∀ v, (w2.drew.setCell ⟨vb, i, none⟩ v).frozen? ⟨cb, R.N * 4 + 3, none⟩ = false) ∧ (∀ v, (w2.drew.setCell ⟨vb, i, none⟩ v).cell? ⟨rb, 7, none⟩ = some (.slice (some ⟨cb, 0, none⟩) (R.N + (n1 + 1)) cc)) ∧ (∃ tt, ∀ v, (w2.drew.setCell ⟨vb, i, none⟩ v).cell? ⟨cb, R.N * 4 + 3, none⟩ = some (.bool tt)) ∧
      Hid (Kp F w w2 ∧ (∀ k, F2 k → F k ∨ w.heap.size ≤ k) ∧ (∃ Q', IsR ((w2.drew.setCell ⟨vb, i, none⟩ (.slice (some ⟨gg, 0, none⟩) n1 cap)).setCell ⟨cb, R.N * 4 + 3, none⟩ (.bool true)) rb F2 Q' c d e ((R.page i p).took i R.N)) ∧ Kp F2 w2.drew ((w2.drew.setCell ⟨vb, i, none⟩ (.slice (some ⟨gg, 0, none⟩) n1 cap)).setCell ⟨cb, R.N * 4 + 3, none⟩ (.bool true)))) (by
    rintro y w2 ⟨F2, Q2, rfl, hE⟩
    obtain ⟨hK, hS0, hF2⟩ := hE.out
    have hS := hS0.kept0 (gb_drew (gb_refl w2 none))
    obtain ⟨vb2, vc2, gg, cap, cb, cc, a1, a2, a3, k1, k2, b1, b2, b3, b4, b5, b6, b7, b8, b9⟩ := take_cells hS hfit (i := i) (n := n1) (x := R.N) (by rw [g4]; exact hi) hrl hlast hNN
    have hT2 := hS.took (i := i) (n := n1) (x := R.N) (by rw [g4]; exact hi) hrl hNN a1 a2 a3
    rw [g4] at b1
    rw [g1] at b8
    exact ⟨F2, vb2, vc2, gg, cap, cb, cc, rfl, k1, k2, b1, b2, b3, b4, b7, b8, ⟨_, b9⟩, hK, hF2, hT2.1, hT2.2⟩)
  have hhd := fun W F2 Q2 (hS : IsR W rb F2 Q2 c d e ((R.page i p).took i R.N)) => rhandle_any hS (took_fit hfit i R.N) (i := R.N) hNN
  have hhe : ((R.page i p).took i R.N).hdl R.N = (R.page i p).hdl R.N := rfl
  rw [hhe] at hhd
  generalize (R.page i p).hdl R.N = H at *
  clear h hpg hpg2 hlo hrow0 hsv hov hrv hrr0 hro hlast g2 g3 g4 g5 g6 g7 hfit hpo hhe
  go_enter Tryz.func70, Tryz.ntmps70
  go_wp2_with (first | (go_at_call 138; go_must (refine (his _ (gb_refl _ _)).mono ?_); rintro y w1 ⟨rfl, hf1⟩; (have c81 := gb_cellN hf1 c8); (have r81 := gb_cellN hf1 r8)) | (go_at_call 139; go_must (refine (hpg3 _ hf1).mono ?_); rintro y w2 ⟨F2, vb2, vc2, gg, cap, cb, cc, rfl, k1, k2, b1, b2, b3, b4, b7, b8, ⟨tt, b9⟩, hE⟩) | fail)
  have hnc : n1 ≤ cap := by omega
  have d7 := b7 (.slice (some ⟨gg, 0, none⟩) n1 cap)
  have d8 := b8 (.slice (some ⟨gg, 0, none⟩) n1 cap)
  have d9 := b9 (.slice (some ⟨gg, 0, none⟩) n1 cap)
  have hNz : (R.N : Int) < (R.N : Int) + ((n1 : Int) + 1) := by omega
  have hNz2 : R.N < R.N + (n1 + 1) := by omega
  clear b7 b8 b9
  go_region_law (fail)
  all_goals
    have hcm : (w2.setCell ⟨vb2, i, none⟩ (.slice (some ⟨gg, 0, none⟩) n1 cap)).drew = w2.drew.setCell ⟨vb2, i, none⟩ (.slice (some ⟨gg, 0, none⟩) n1 cap) := by first | rfl | simp
    rw [hcm]
    clear hcm
    generalize w2.drew.setCell ⟨vb2, i, none⟩ (.slice (some ⟨gg, 0, none⟩) n1 cap) = W3 at *
    go_wp2_with (first | (go_at_call 140; go_must (refine (hhd _ F2 hE.out.2.2.1.choose hE.out.2.2.1.choose_spec).mono ?_); rintro y w5 ⟨rfl, hf5⟩) | fail)
    go_ret2
    obtain ⟨hK, hF2, ⟨Q', hS'⟩, hK2⟩ := hE.out
    refine ⟨rfl, ?_, F2, Q', hS'.kept0 hf5, hF2⟩
    exact (((hK.step (gb_drew (gb_refl _ none)) (by simp)).trans hK2 (fun _ h => h) (fun k hk => hF2 k hk)).step hf5 (by simp))
end
end Go.Proofs.YtjkdflnnpdionaaGreat
/-
  The document's items: New, Take of a new page.
-/
namespace Go.Proofs.YtjkdflnnpdionaaGreat
open Go.RowKit
set_option linter.unusedVariables false

/-- The document's Set, just made. -/
def R0 (ps m n : Nat) (sz : Nat → Nat) : Rb := { n := n, m := m, ps := ps, sz := sz, ow := fun _ => -1, N := 0, pl := fun _ => 0, cl := fun _ => 0, gn := fun _ => 0, tk := fun _ => false, row := fun _ => [] }
theorem rng_one (n : Nat) (f : Nat → Value) : rng n (fun i => [f i]) = (List.range n).map f := by
  induction n with
  | zero => rfl
  | succ n ih => rw [rng_succ, ih, List.range_succ, List.map_append]; rfl
theorem rnew_is {w' : World} {W : Nat} {rb ps m F s0 il n : Nat} {sv ov rv : Value} (hlo : W ≤ rb) (hbx : Box w' 196 rb (rset ps m F s0 il sv ov (.slice none 0 0) rv)) (hs : w'.ownsRow W 3 1 sv n (ints (szL F (limOf il) s0 n))) (ho : w'.ownsRow W 3 1 ov m (List.replicate m (.int .i64 (-1)))) (hr : w'.ownsRow W 55 1 rv n (List.replicate n (.slice none 0 0))) (hne : sv.ownBlock ≠ ov.ownBlock) :
    IsR w' rb (fun k => W ≤ k ∧ k < w'.heap.size) ⟨sv, ov, .slice none 0 0, rv, fun _ => .slice none 0 0⟩ F s0 il (R0 ps m n (chain F (limOf il) s0)) := by
  refine ⟨hbx, ?_, ?_, World.ownsRow_nil _ _ _ _, ?_, fun i hi => World.ownsRow_nil _ _ _ _, ⟨hlo, hbx.lt⟩, fun k hk => hs.lt k hk, fun k hk => ho.lt k hk, fun k hk => by simp [Value.ownBlock] at hk, fun k hk => hr.lt k hk, fun i k hi hk => by simp [Value.ownBlock] at hk, fun k hk => hk.2, fun k hk e => hne (by rw [hk, e]), fun i k hi hk => by simp [Value.ownBlock] at hk, fun i j k hi hj hk => by simp [Value.ownBlock] at hk⟩
  · have e : rng n (ivs fun i => (chain F (limOf il) s0 i : Int)) = ints (szL F (limOf il) s0 n) := by
      show rng n (fun i => [Value.int .i64 (chain F (limOf il) s0 i : Int)]) = _
      rw [rng_one]; simp [ints, szL]
    show World.ownsRow _ 0 3 1 sv n (rng n (ivs fun i => (chain F (limOf il) s0 i : Int)))
    rw [e]; exact row_base hs (Nat.zero_le _)
  · have e : rng m (ivs fun _ => (-1 : Int)) = List.replicate m (.int .i64 (-1)) := by
      show rng m (fun i => [Value.int .i64 (-1)]) = _
      rw [rng_one]; simp [List.map_const']
    show World.ownsRow _ 0 3 1 ov m (rng m (ivs fun _ => (-1 : Int)))
    rw [e]; exact row_base ho (Nat.zero_le _)
  · have e : rng n (one fun _ => Value.slice none 0 0) = List.replicate n (.slice none 0 0) := by
      show rng n (fun i => [Value.slice none 0 0]) = _
      rw [rng_one]; simp [List.map_const']
    show World.ownsRow _ 0 55 1 rv n (rng n (one fun _ => Value.slice none 0 0))
    rw [e]; exact row_base hr (Nat.zero_le _)

/-- An item that is none. -/
def it0 : List Value := [.bool false, .slice none 0 0, .slice none 0 0, .int .u64 0, .int .i64 0, .int .i64 0, .int .u64 0, .int .i64 0, .int .i64 0, .int .u64 0, .int .u64 0, .int .u64 0]
section
variable {w : World} {ops : Array Oper} {rest : List Oper} {o : Oper} {a : Act} {Q : Exit → Act → World → Prop}
end

theorem row_set_same {w : World} {B : Nat} {e : TypeId} {s g n c : Nat} {xs : List Value} (h : w.ownsRow B e s (.slice (some ⟨g, 0, none⟩) n c) n xs) (i : Nat) (v : Value) (hx : xs[i]? = some v) : (w.setCell ⟨g, i, none⟩ v).ownsRow B e s (.slice (some ⟨g, 0, none⟩) n c) n xs := by
  have h1 := row_set h i v
  have e : xs.set i v = xs := by
    apply List.ext_getElem?
    intro j
    by_cases e : j = i
    · subst e
      have hlt := (List.getElem?_eq_some_iff.1 hx).1
      rw [List.getElem?_set_self hlt, hx]
    · rw [List.getElem?_set_ne (fun h => e h.symm)]
  rwa [e] at h1

/-- Twelve cells are laid. -/
def st12 (w : World) (g x : Nat) (v0 v1 v2 v3 v4 v5 v6 v7 v8 v9 v10 v11 : Value) : World := ((((((((((((w.setCell ⟨g, x, none⟩ (v0)).setCell ⟨g, x + 1, none⟩ (v1)).setCell ⟨g, x + 2, none⟩ (v2)).setCell ⟨g, x + 3, none⟩ (v3)).setCell ⟨g, x + 4, none⟩ (v4)).setCell ⟨g, x + 5, none⟩ (v5)).setCell ⟨g, x + 6, none⟩ (v6)).setCell ⟨g, x + 7, none⟩ (v7)).setCell ⟨g, x + 8, none⟩ (v8)).setCell ⟨g, x + 9, none⟩ (v9)).setCell ⟨g, x + 10, none⟩ (v10)).setCell ⟨g, x + 11, none⟩ (v11))
theorem rng_upd {n i s j : Nat} {f : Nat → List Value} (hl : ∀ k, (f k).length = s) (hj : j < s) (hi : i < n) (v : Value) : (rng n f).set (i * s + j) v = rng n (upd f i ((f i).set j v)) :=
  rng_set hl hj v (fun k hk => upd_other _ _ hk) (upd_same _ _ _) hi
theorem upd_len {s i : Nat} {f : Nat → List Value} {us : List Value} (hl : ∀ k, (f k).length = s) (hu : us.length = s) : ∀ k, (upd f i us k).length = s := fun k => by
  by_cases e : k = i
  · subst e; rw [upd_same]; exact hu
  · rw [upd_other _ _ e]; exact hl k
theorem upd_upd {α : Type} (f : Nat → α) (i : Nat) (u v : α) : upd (upd f i u) i v = upd f i v := by
  funext k
  by_cases e : k = i
  · subst e; rw [upd_same, upd_same]
  · rw [upd_other _ _ e, upd_other _ _ e, upd_other _ _ e]
theorem rng_set12 {n i : Nat} {f : Nat → List Value} (hl : ∀ k, (f k).length = 12) (hi : i < n) (v0 v1 v2 v3 v4 v5 v6 v7 v8 v9 v10 v11 : Value) :
    ((((((((((((rng n f).set (i * 12) v0).set (i * 12 + 1) v1).set (i * 12 + 2) v2).set (i * 12 + 3) v3).set (i * 12 + 4) v4).set (i * 12 + 5) v5).set (i * 12 + 6) v6).set (i * 12 + 7) v7).set (i * 12 + 8) v8).set (i * 12 + 9) v9).set (i * 12 + 10) v10).set (i * 12 + 11) v11 = rng n (upd f i [v0, v1, v2, v3, v4, v5, v6, v7, v8, v9, v10, v11]) := by
  rw [show i * 12 = i * 12 + 0 from rfl]
  rw [rng_upd (i := i) (j := 0) (s := 12) hl (by omega) hi v0]
  rw [rng_upd (i := i) (j := 1) (s := 12) (by intro k; simp [upd]; split <;> simp [hl]) (by omega) hi v1]
  rw [rng_upd (i := i) (j := 2) (s := 12) (by intro k; simp [upd]; split <;> simp [hl]) (by omega) hi v2]
  rw [rng_upd (i := i) (j := 3) (s := 12) (by intro k; simp [upd]; split <;> simp [hl]) (by omega) hi v3]
  rw [rng_upd (i := i) (j := 4) (s := 12) (by intro k; simp [upd]; split <;> simp [hl]) (by omega) hi v4]
  rw [rng_upd (i := i) (j := 5) (s := 12) (by intro k; simp [upd]; split <;> simp [hl]) (by omega) hi v5]
  rw [rng_upd (i := i) (j := 6) (s := 12) (by intro k; simp [upd]; split <;> simp [hl]) (by omega) hi v6]
  rw [rng_upd (i := i) (j := 7) (s := 12) (by intro k; simp [upd]; split <;> simp [hl]) (by omega) hi v7]
  rw [rng_upd (i := i) (j := 8) (s := 12) (by intro k; simp [upd]; split <;> simp [hl]) (by omega) hi v8]
  rw [rng_upd (i := i) (j := 9) (s := 12) (by intro k; simp [upd]; split <;> simp [hl]) (by omega) hi v9]
  rw [rng_upd (i := i) (j := 10) (s := 12) (by intro k; simp [upd]; split <;> simp [hl]) (by omega) hi v10]
  rw [rng_upd (i := i) (j := 11) (s := 12) (by intro k; simp [upd]; split <;> simp [hl]) (by omega) hi v11]
  congr 1
  have h12 := hl i
  obtain ⟨a0, a1, a2, a3, a4, a5, a6, a7, a8, a9, a10, a11, h⟩ : ∃ a0 a1 a2 a3 a4 a5 a6 a7 a8 a9 a10 a11, f i = [a0, a1, a2, a3, a4, a5, a6, a7, a8, a9, a10, a11] := by
    match f i, h12 with
    | [a0, a1, a2, a3, a4, a5, a6, a7, a8, a9, a10, a11], _ => exact ⟨a0, a1, a2, a3, a4, a5, a6, a7, a8, a9, a10, a11, rfl⟩
  simp only [upd_upd, upd_same, h]
  rfl
theorem st12_gb (w : World) (g x : Nat) (v0 v1 v2 v3 v4 v5 v6 v7 v8 v9 v10 v11 : Value) : w.grownBy (st12 w g x v0 v1 v2 v3 v4 v5 v6 v7 v8 v9 v10 v11) (some g) := by
  unfold st12
  exact (gb_setCell (gb_setCell (gb_setCell (gb_setCell (gb_setCell (gb_setCell (gb_setCell (gb_setCell (gb_setCell (gb_setCell (gb_setCell (gb_setCell (gb_refl _ _) _) _) _) _) _) _) _) _) _) _) _) _)

section
variable {w w' : World} {rb qb : Nat} {F : Nat → Prop} {Q : Rl} {c d e : Int} {R : Rb}

end
end Go.Proofs.YtjkdflnnpdionaaGreat
