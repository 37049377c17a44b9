import Derived.Test.YtjkdflnnpdionaaGreatMm
/-
  The document's page.
-/
namespace Go.Proofs.YtjkdflnnpdionaaGreat
open Go.RowKit
set_option linter.unusedVariables false

theorem Tryz.info214 : (Tryz.prog.info? 214).map (fun i => (i.zero, i.size, i.bytes)) = some (some (.agg #[.int .i64 0, .int .i64 0, .int .u64 0, .bool false]), 4, 32) := by kernel_rfl
section
variable {w : World} {ops : Array Oper} {rest : List Oper} {o : Oper} {a : Act} {Q : Exit → Act → World → Prop}
theorem push176 (hgd : o.guard = none) (s x : Operand) (ho : o.op = .call { callee := .builtin .append, args := #[s, x], argTypes := #[193, 193] })
    (B : Nat) (v : Value) (n : Nat) (xs : List Value) (hs : a.eval s = v) (hown : w.ownsRow B 214 4 v n xs) (p y : Int) (hx : a.eval x = .slice (some ⟨w.heap.size, 0, none⟩) 1 1) (hn : n ≤ 100000000000) (hB : B ≤ w.heap.size)
    (h : ∀ g cap w', w'.ownsRow B 214 4 (.slice (some ⟨g, 0, none⟩) (n + 1) cap) (n + 1) (xs ++ [.int .i64 p, .int .i64 y, .int .u64 0, .bool false]) → w.grownBy w' v.ownBlock → (v.ownBlock = some g ∨ w.heap.size ≤ g) → wpList Tryz.prog ops Q rest (a.put o.dst (.slice (some ⟨g, 0, none⟩) (n + 1) cap)) w') : wpList Tryz.prog ops Q (o :: rest) a (w.alloc (.cells #[.int .i64 p, .int .i64 y, .int .u64 0, .bool false] 214)) := by
  obtain ⟨i0, hi, hz0, hz1, hz2⟩ := info_parts Tryz.info214
  exact wpList_pushN hgd s x 193 ho 214 i0 _ 4 32 Tryz.underlying193 hi hz0 hz1 hz2 rfl (by omega) (by omega) B v n xs hs hown [.int .i64 p, .int .i64 y, .int .u64 0, .bool false] rfl (by simp [Value.oneCell']) hx hn hB h
end

/-- Chunks of a new page. -/
def Rb.chs (R : Rb) (p c : Nat) : Nat → Rb
  | 0 => R
  | j + 1 => (R.chs p c j).pushC (p * R.ps + j * R.sz c) c
theorem chs_facts (R : Rb) (p c : Nat) : ∀ j, (R.chs p c j).N = R.N + j ∧ (R.chs p c j).ps = R.ps ∧ (R.chs p c j).sz = R.sz ∧ (R.chs p c j).n = R.n ∧ (R.chs p c j).m = R.m ∧ (R.chs p c j).row = R.row ∧ (R.chs p c j).ow = R.ow
  | 0 => ⟨rfl, rfl, rfl, rfl, rfl, rfl, rfl⟩
  | j + 1 => by
    obtain ⟨h1, h2, h3, h4, h5, h6, h7⟩ := chs_facts R p c j
    simp only [Rb.chs, Rb.pushC]
    exact ⟨by omega, h2, h3, h4, h5, h6, h7⟩
def Rb.rws (R : Rb) (c : Nat) (xs : List Nat) : Rb := { R with row := upd R.row c (R.row c ++ xs) }
theorem rws_nil (R : Rb) (c : Nat) : R.rws c [] = R := by
  have : upd R.row c (R.row c ++ []) = R.row := by
    funext j
    by_cases e : j = c
    · subst e; rw [upd_same]; simp
    · rw [upd_other _ _ e]
  unfold Rb.rws
  rw [this]
theorem rws_push (R : Rb) (c x : Nat) (xs : List Nat) : { R.rws c xs with row := upd (R.rws c xs).row c ((R.rws c xs).row c ++ [x]) } = R.rws c (xs ++ [x]) := by
  have : upd (upd R.row c (R.row c ++ xs)) c (upd R.row c (R.row c ++ xs) c ++ [x]) = upd R.row c (R.row c ++ (xs ++ [x])) := by
    funext j
    by_cases e : j = c
    · subst e; rw [upd_same, upd_same, upd_same]; simp
    · rw [upd_other _ _ e, upd_other _ _ e, upd_other _ _ e]
  unfold Rb.rws
  rw [this]
/-- first + n - 1 down to first + j. -/
def dwn (f n j : Nat) : List Nat := ((List.range n).drop j).reverse.map fun k => f + k
theorem dwn_step (f n j : Nat) (h : j < n) : dwn f n (j + 1) ++ [f + j] = dwn f n j := by
  unfold dwn
  rw [List.drop_eq_getElem_cons (i := j) (by simpa using h)]
  simp
theorem dwn_end (f n : Nat) : dwn f n n = [] := by simp [dwn]
theorem dwn_len (f n j : Nat) : (dwn f n j).length = n - j := by simp [dwn]
/-- A page more. -/
def Rb.page (R : Rb) (c p : Nat) : Rb := (({ R with ow := upd R.ow p c } : Rb).chs p c (R.ps / R.sz c)).rws c (dwn R.N (R.ps / R.sz c) 0)

section
variable {w w' : World} {rb : Nat} {F : Nat → Prop} {Q : Rl} {c d e : Int} {R : Rb}

set_option maxRecDepth 100000 in
set_option maxHeartbeats 8000000 in
theorem rpage_yes (h : IsR w rb F Q c d e R) (hR : RFit R) {i p : Nat} (hi : i < R.n) (hp : p < R.m) (hpo : R.ow p < 0) (hlo : ∀ q, q < p → 0 ≤ R.ow q) (hN : R.N + R.ps / R.sz i ≤ 16777216) :
    Calls Tryz.prog 139 #[.pointer (some ⟨rb, 0, none⟩), .int .i64 i] w fun y w' => y = .returned (.bool true) ∧ Kp F w w' ∧ ∃ F' Q', IsR w' rb F' Q' c d e (R.page i p) ∧ ∀ k, F' k → F k ∨ w.heap.size ≤ k := by
  obtain ⟨sb, sc, ob, oc, vb, vc, hsv, hov, hrv⟩ := h.shapes hR.n0 hR.m0
  have hm2 := hR.m2
  have hs0 := hR.s0 i hi
  have hs1 := hR.s1 i hi
  have hps := hR.ps
  have hn2 := hR.n2
  have hobF : F ob := h.fo ob (by rw [hov]; rfl)
  go_enter Tryz.func139, Tryz.ntmps139
  go_wp2
  go_loopw [5] (fun iv wr => ∃ (k : Nat), iv = .int .i64 k ∧ k ≤ p ∧ w = wr) (fun iv _ => p - (intOf iv).toNat)
  case atStart => exact ⟨0, rfl, by omega, rfl⟩
  case round =>
    obtain ⟨k, rfl, hk, rfl⟩ := hrel
    have c6 := h.sc 6
    simp [rset, hov] at c6
    have hkm : decide ((k : Int) < (R.m : Int)) = true := by simp; omega
    have hkz : (k : Int) < (R.m : Int) := by omega
    have eo := h.ocell hov (i := k) (by omega)
    by_cases hkp : k = p
    · subst hkp
      have c0 := h.sc 0
      have c5 := h.sc 5
      simp [rset, hsv] at c0 c5
      have es := h.scell hsv hi
      have hiz : (i : Int) < (R.n : Int) := by omega
      have hge : decide (R.ow k ≥ 0) = false := by simp; omega
      have c7 := h.sc 7
      obtain ⟨ao, cc, hcv, _, _, _, hao⟩ := row_shape h.ck
      simp [rset, hcv] at c7
      obtain ⟨ocur, hoc⟩ := row_block h.ow ob (by rw [hov]; rfl)
      have oz : w.frozen? ⟨ob, k, none⟩ = false := by simp [World.frozen?, hoc]
      have h1 := h.setOw hov hp (i : Int)
      have hK1 : Kp F w (w.setCell ⟨ob, k, none⟩ (.int .i64 (i : Int))) := h.kp_set hobF _
      have e0 := h1.sc 0
      have e5 := h1.sc 5
      have e7 := h1.sc 7
      simp [rset, hsv, hcv] at e0 e5 e7
      have es1 := h1.scell hsv hi
      have hss : decide (R.sz i = 0) = false := by simp; omega
      obtain ⟨R1, hR1⟩ : ∃ R1 : Rb, R1 = { R with ow := upd R.ow k i } := ⟨_, rfl⟩
      have f1 : R1.ps = R.ps := by rw [hR1]
      have f2 : R1.sz = R.sz := by rw [hR1]
      have f3 : R1.n = R.n := by rw [hR1]
      have f4 : R1.m = R.m := by rw [hR1]
      have f5 : R1.N = R.N := by rw [hR1]
      have f6 : R1.row = R.row := by rw [hR1]
      have HPG : Hid (R.page i k = (R1.chs k i (R.ps / R.sz i)).rws i (dwn R.N (R.ps / R.sz i) 0)) := by show _ = _; rw [hR1]; rfl
      have hrl := hR.rl i hi
      rw [← hR1] at h1
      clear hR1
      have hsp : (R.ps / R.sz i) * R.sz i ≤ R.ps := Nat.div_mul_le_self _ _
      have hquo : (R.ps : Int).tdiv (R.sz i) = ((R.ps / R.sz i : Nat) : Int) := by rw [Int.tdiv_eq_ediv_of_nonneg (by omega)]; simp
      have hquo2 : (R.ps : Int) / (R.sz i) = ((R.ps / R.sz i : Nat) : Int) := by simp
      have hkps : k * R.ps ≤ 1024 * 1048576 := Nat.mul_le_mul (by omega) hps
      generalize R.ps / R.sz i = ea at *
      have H1 : Hid (IsR (w.setCell ⟨ob, k, none⟩ (.int .i64 (i : Int))) rb F Q c d e R1 ∧ Kp F w (w.setCell ⟨ob, k, none⟩ (.int .i64 (i : Int)))) := ⟨h1, hK1⟩
      clear h h1 hK1 hlo
      go_wp2
      generalize w.setCell ⟨ob, k, none⟩ (.int .i64 (i : Int)) = W1 at *
      go_quiet (fail)
      have H2 : Hid (IsR (W1.drewN nq) rb F Q c d e R1 ∧ Kp F w (W1.drewN nq)) := ⟨H1.out.1.kept0 (gb_drewN (gb_refl _ _) _), H1.out.2.step (row := none) (gb_drewN (gb_refl _ _) _) (by simp)⟩
      have e7' : (W1.drewN nq).cell? ⟨rb, 7, none⟩ = some (.slice ao R.N cc) := gb_cellN (gb_drewN (gb_refl _ none) _) e7
      clear H1 e0 e5 e7 es1
      generalize W1.drewN nq = W2 at *
      go_wp2
      go_loopw [8] (fun iv wr => ∃ (j : Nat) (Fr : Nat → Prop) (Qr : Rl), iv = .int .i64 j ∧ j ≤ ea ∧ IsR wr rb Fr Qr c d e (R1.chs k i j) ∧ Kp F w wr ∧ (∀ l, Fr l → F l ∨ w.heap.size ≤ l)) (fun iv _ => ea - (intOf iv).toNat)
      case atStart => exact ⟨0, F, Q, rfl, by omega, H2.out.1, H2.out.2, fun l hl => .inl hl⟩
      case round =>
        obtain ⟨j, Fr, Qr, rfl, hj, hSr, hKr, hFr⟩ := hrel
        obtain ⟨g1, g2, g3, g4, g5, g6, g7⟩ := chs_facts R1 k i j
        rw [f5] at g1
        rw [f1] at g2
        rw [f2] at g3
        rw [f3] at g4
        rw [f4] at g5
        by_cases hlt : j < ea
        · obtain ⟨sb', sc', ob', oc', vb', vc', hsv', hov', hrv'⟩ := hSr.shapes (by omega) (by omega)
          have r0 := hSr.sc 0
          have r5 := hSr.sc 5
          have r7 := hSr.sc 7
          simp [rset, hsv'] at r0 r5 r7
          have rs := hSr.scell hsv' (i := i) (by omega)
          have hrow := hSr.ck
          rw [g3] at rs
          rw [g2] at r0
          rw [g4] at r5
          rw [g1] at hrow
          have hiz : (i : Int) < (R.n : Int) := by omega
          have hjs : (j + 1) * R.sz i ≤ ea * R.sz i := Nat.mul_le_mul_right _ hlt
          rw [Nat.add_mul, Nat.one_mul] at hjs
          obtain ⟨pr, hpr⟩ : ∃ pr, pr = j * R.sz i := ⟨_, rfl⟩
          have hpi : (j : Int) * R.sz i = pr := by rw [hpr]; simp
          have hpb : pr ≤ 1048576 := by rw [hpr]; omega
          obtain ⟨pk, hpk⟩ : ∃ pk, pk = k * R.ps := ⟨_, rfl⟩
          have hki : (k : Int) * R.ps = pk := by rw [hpk]; simp
          have hkb : pk ≤ 1073741824 := by rw [hpk]; omega
          have hwp : IntKind.i64.wrap (pr : Int) = pr := by rw [IntKind.wrap_i64]; omega
          have hwk : IntKind.i64.wrap (pk : Int) = pk := by rw [IntKind.wrap_i64]; omega
          have hwx : IntKind.i64.wrap ((pk : Int) + pr) = pk + pr := by rw [IntKind.wrap_i64]; omega
          have HX : Hid (pk + pr = k * R.ps + j * R.sz i) := by show _ = _; rw [hpr, hpk]
          have HSr : Hid (IsR wr rb Fr Qr c d e (R1.chs k i j)) := hSr
          have HKr : Hid (Kp F w wr ∧ (∀ l, Fr l → F l ∨ w.heap.size ≤ l)) := ⟨hKr, hFr⟩
          have HG : Hid ((R1.chs k i j).N = R.N + j ∧ (R1.chs k i j).ps = R.ps ∧ (R1.chs k i j).sz = R.sz ∧ R1.ps = R.ps ∧ R1.sz = R.sz) := ⟨g1, g2, g3, f1, f2⟩
          have hrn : Qr.cv.ownBlock = some rb → False := fun e => by
            obtain ⟨cur2, hc2⟩ := row_block hrow _ e
            exact ne_of_type hSr.box hc2 (by decide) rfl
          obtain ⟨iu, hu0, hy0, hy1, hy2⟩ := info_parts Tryz.info214
          have hbx := hSr.box
          generalize hcvv : Qr.cv = cvv at *
          have hNb : R.N + j ≤ 16777216 := by omega
          have hd : decide ((j : Int) < (ea : Int)) = true := by simpa using hlt
          generalize hrn' : R.N + j = rl at *
          generalize hrx : rng rl (rckC (R1.chs k i j)) = rx at *
          have al : ∀ o a v, wr.cell? a = some v → (wr.alloc o).cell? a = some v := fun o a v h => gb_cellN (World.grownBy_alloc wr o none) h
          have a0 := fun o => al o _ _ r0
          have a5 := fun o => al o _ _ r5
          have a7 := fun o => al o _ _ r7
          have asz := fun o => al o _ _ rs
          clear hpr hpk hSr hKr hFr hsv' hov' hrv' g1 g2 g3 g4 g5 g6 g7 f1 f2 f3 f4 f5 f6 al H2
          go_wp2
          first | (go_region_law ((refine step_append_lies _ (by rfl) _ _ _ (by rfl) 0 214 iu _ 4 32 Tryz.underlying193 hu0 hy0 hy1 hy2 rfl (by omega) cvv rl rx (by rfl) (World.ownsRow.alloc (w := wr) hrow _) ⟨wr.heap.size, 0, none⟩ 1 1 [.int .i64 ((pk : Int) + pr), .int .i64 (i : Int), .int .u64 0, .bool false] (by rfl) (by rfl) (World.news_of_block (cs := #[.int .i64 ((pk : Int) + pr), .int .i64 (i : Int), .int .u64 0, .bool false]) (t := 214) (fr := (0, 0)) (heap_alloc_new wr _)) (by simp [Value.oneCell']) (by omega) (by unfold maxLen; omega) (by omega) (Nat.zero_le _) (wr.heap.size + 1) (by simp) ?_; intro g3 cap3 w7 hown7 hgrow7 hat7 hlt7; have hg7 : wr.grownBy w7 cvv.ownBlock := gb_trans (by first | exact gb_drew (gb_alloc (gb_refl _ _) _) | exact gb_alloc (gb_drew (gb_refl _ _)) _ | exact gb_alloc (gb_refl _ _) _) hgrow7; have b3 := hbx.kept hg7 (fun e => hrn e.symm); have b4 : w7.cell? ⟨rb, 7, none⟩ = some cvv := (by rw [b3.cell 7]; rfl); have b5 : w7.frozen? ⟨rb, 7, none⟩ = false := b3.fz 7))) | fail
          all_goals
            obtain ⟨q1, q2, q3, q4, q5⟩ := HG.out
            have hS8 := HSr.out.pushC (x := pk + pr) (y := i) (g2 := g3) (cap2 := cap3) (by rw [q1, hrx]; simpa using hown7) (by rw [hcvv]; exact hg7) (by rw [hcvv]; rcases hat7 with h | h; exact .inl h; exact .inr (by omega))
            rw [q1, HX.out, ← q4, ← q5] at hS8
            obtain ⟨hS8, hK8⟩ := hS8
            have HF9 : Hid (∀ l, (Fr l ∨ l = g3) → F l ∨ w.heap.size ≤ l) := by
              rintro l (hl | hl)
              · exact HKr.out.2 l hl
              · subst hl
                rcases hat7 with h | h
                · exact HKr.out.2 _ (HSr.out.fc _ (by rw [hcvv]; exact h))
                · have := HKr.out.1.size; exact .inr (by omega)
            have HE : Hid (∃ (Fr' : Nat → Prop) (Qr' : Rl), IsR (w7.setCell ⟨rb, 7, none⟩ (.slice (some ⟨g3, 0, none⟩) (rl + 1) cap3)) rb Fr' Qr' c d e (R1.chs k i (j + 1)) ∧ Kp F w (w7.setCell ⟨rb, 7, none⟩ (.slice (some ⟨g3, 0, none⟩) (rl + 1) cap3)) ∧ ∀ l, Fr' l → F l ∨ w.heap.size ≤ l) :=
              ⟨_, _, hS8, HKr.out.1.trans hK8 (fun _ h => h) (fun l hl => HKr.out.2 l hl), HF9.out⟩
            generalize w7.setCell ⟨rb, 7, none⟩ (.slice (some ⟨g3, 0, none⟩) (rl + 1) cap3) = W9 at *
            clear hS8 hK8 b3 b4 b5 hg7 hown7 hgrow7 hat7 hlt7 hrow r0 r5 r7 rs a0 a5 a7 asz hu0 hy0 hy1 hy2 hrx hcvv hbx
            go_wp2
            go_roundw
            case rel =>
              obtain ⟨Fr', Qr', q1, q2, q3⟩ := HE.out
              exact ⟨j + 1, Fr', Qr', by go_num, by omega, q1, q2, q3⟩
            case measure => simp [intOf]; omega
        · obtain rfl : j = ea := by omega
          have hd : decide ((j : Int) < (j : Int)) = false := by simp
          have H3 : Hid (IsR wr rb Fr Qr c d e (R1.chs k i j) ∧ Kp F w wr ∧ (∀ l, Fr l → F l ∨ w.heap.size ≤ l)) := ⟨hSr, hKr, hFr⟩
          clear hSr hKr hFr H2
          obtain ⟨W3, rfl⟩ : ∃ W3, W3 = wr := ⟨wr, rfl⟩
          rw [f6] at g6
          have hjn : (0 : Int) < (j : Int) + 1 := by omega
          go_wp2
          go_loopw [9] (fun iv wr => ∃ (l : Nat) (Fr : Nat → Prop) (Qr : Rl), iv = .int .i64 ((l : Int) - 1) ∧ l ≤ j ∧ IsR wr rb Fr Qr c d e ((R1.chs k i j).rws i (dwn R.N j l)) ∧ Kp F w wr ∧ (∀ l, Fr l → F l ∨ w.heap.size ≤ l)) (fun iv _ => ((intOf iv) + 1).toNat)
          case atStart => exact ⟨j, Fr, Qr, rfl, Nat.le_refl _, by rw [dwn_end, rws_nil]; exact H3.out.1, H3.out.2.1, H3.out.2.2⟩
          case round =>
            obtain ⟨l, Fr2, Qr2, rfl, hl, hSr, hKr, hFr⟩ := hrel
            by_cases hl0 : 0 < l
            · obtain ⟨l, rfl⟩ : ∃ m, l = m + 1 := ⟨l - 1, by omega⟩
              obtain ⟨sb', sc', ob', oc', vb', vc', hsv', hov', hrv'⟩ := hSr.shapes (by show 0 < (R1.chs k i j).n; omega) (by show 0 < (R1.chs k i j).m; omega)
              have hrn2 : ((R1.chs k i j).rws i (dwn R.N j (l + 1))).n = R.n := g4
              rw [hrn2] at hrv'
              have hii : i < ((R1.chs k i j).rws i (dwn R.N j (l + 1))).n := by omega
              have r8 := hSr.sc 8
              simp [rset, hrv'] at r8
              have rr := hSr.rcell (by rw [hrn2]; exact hrv') hii
              have hrow := hSr.rr i hii
              obtain ⟨cur, hcur⟩ := row_block hSr.rs vb' (by rw [hrv']; rfl)
              have rz : wr.frozen? ⟨vb', i, none⟩ = false := by simp [World.frozen?, hcur]
              have hiz : (i : Int) < (R.n : Int) := by omega
              have hlen : (((R1.chs k i j).rws i (dwn R.N j (l + 1))).row i).length ≤ 100000000 := by
                show (upd (R1.chs k i j).row i ((R1.chs k i j).row i ++ dwn R.N j (l + 1)) i).length ≤ _
                rw [upd_same, List.length_append, dwn_len, g6]
                omega
              have hnk : (Qr2.rr i).ownBlock = some vb' → False := fun e => by
                obtain ⟨cur2, hc2⟩ := row_block hrow _ e
                exact ne_of_type hcur hc2 (by decide) rfl
              have hbx := hSr.box
              have hnb : (Qr2.rr i).ownBlock = some rb → False := fun e => by
                obtain ⟨cur2, hc2⟩ := row_block hrow _ e
                exact ne_of_type hbx hc2 (by decide) rfl
              clear hbx
              have HSr : Hid (IsR wr rb Fr2 Qr2 c d e ((R1.chs k i j).rws i (dwn R.N j (l + 1))) ∧ i < ((R1.chs k i j).rws i (dwn R.N j (l + 1))).n ∧ Qr2.rv = .slice (some ⟨vb', 0, none⟩) ((R1.chs k i j).rws i (dwn R.N j (l + 1))).n vc') := ⟨hSr, hii, by rw [hrn2]; exact hrv'⟩
              have HKr : Hid (Kp F w wr ∧ (∀ l, Fr2 l → F l ∨ w.heap.size ≤ l)) := ⟨hKr, hFr⟩
              obtain ⟨iu, hu0, hy0, hy1, hy2⟩ := info_parts Tryz.info3
              obtain ⟨x, hx⟩ : ∃ x, x = R.N + l := ⟨_, rfl⟩
              have hxi : (R.N : Int) + (l : Int) = (x : Int) := by omega
              have hxb : x ≤ 16777216 := by omega
              have HXN : Hid (x = R.N + l) := hx
              have hwx : IntKind.i64.wrap (x : Int) = x := by rw [IntKind.wrap_i64]; omega
              have hl1 : ((l + 1 : Nat) : Int) - 1 = l := by omega
              rw [hl1]
              have hge : decide ((l : Int) ≥ 0) = true := by simp
              generalize hrl2 : (((R1.chs k i j).rws i (dwn R.N j (l + 1))).row i).length = rl at *
              generalize hrx : ixs (((R1.chs k i j).rws i (dwn R.N j (l + 1))).row i) = rx at *
              generalize hrvv : Qr2.rr i = rvv at *
              have al : ∀ o a v, wr.cell? a = some v → (wr.alloc o).cell? a = some v := fun o a v h => gb_cellN (World.grownBy_alloc wr o none) h
              have a8 := fun o => al o _ _ r8
              have ar := fun o => al o _ _ rr
              clear hx hSr hKr hFr hsv' hov' hrv' hrn2 hii al g1 g2 g3 g4 g5 g6 g7 f1 f2 f3 f4 f5 f6
              go_wp2
              first | (go_region_law ((refine step_append_lies _ (by rfl) _ _ _ (by rfl) 0 3 iu _ 1 8 Tryz.underlying55 hu0 hy0 hy1 hy2 rfl (by omega) rvv rl rx (by rfl) (World.ownsRow.alloc (w := wr) hrow _) ⟨wr.heap.size, 0, none⟩ 1 1 [.int .i64 (x : Int)] (by rfl) (by rfl) (World.news_of_block (cs := #[.int .i64 (x : Int)]) (t := 3) (fr := (0, 0)) (heap_alloc_new wr _)) (by simp [Value.oneCell']) (by omega) (by unfold maxLen; omega) (by omega) (Nat.zero_le _) (wr.heap.size + 1) (by simp) ?_; intro g3 cap3 w7 hown7 hgrow7 hat7 hlt7; have hg7 : wr.grownBy w7 rvv.ownBlock := gb_trans (by first | exact gb_drew (gb_alloc (gb_refl _ _) _) | exact gb_alloc (gb_drew (gb_refl _ _)) _ | exact gb_alloc (gb_refl _ _) _) hgrow7; have hcur7 : w7.heap[vb']? = some (.cells cur 55 (0, 0)) := (by rw [hg7.block vb' (lt_of_block hcur) (fun e => hnk e.symm)]; exact hcur); have b8 := gb_cell hg7 r8 (fun e => hnb e.symm); have b4 : w7.cell? ⟨vb', i, none⟩ = some rvv := gb_cell hg7 rr (fun e => hnk e.symm); have b5 : w7.frozen? ⟨vb', i, none⟩ = false := (by simp [World.frozen?, hcur7])))) | fail
              all_goals
                have hS8 := HSr.out.1.pushR (i := i) (x := x) HSr.out.2.1 HSr.out.2.2 (g2 := g3) (cap2 := cap3) (by rw [hrl2, hrx]; exact hown7) (by rw [hrvv]; exact hg7) (by rw [hrvv]; rcases hat7 with h | h; exact .inl h; exact .inr (by omega))
                rw [hrl2, rws_push, HXN.out, dwn_step R.N j l (by omega)] at hS8
                obtain ⟨hS8, hK8⟩ := hS8
                have HF9 : Hid (∀ l, (Fr2 l ∨ l = g3) → F l ∨ w.heap.size ≤ l) := by
                  rintro l (hl | hl)
                  · exact HKr.out.2 l hl
                  · subst hl
                    rcases hat7 with h | h
                    · exact HKr.out.2 _ (HSr.out.1.fr i _ HSr.out.2.1 (by rw [hrvv]; exact h))
                    · have := HKr.out.1.size; exact .inr (by omega)
                have HE : Hid (∃ (Fr' : Nat → Prop) (Qr' : Rl), IsR (w7.setCell ⟨vb', i, none⟩ (.slice (some ⟨g3, 0, none⟩) (rl + 1) cap3)) rb Fr' Qr' c d e ((R1.chs k i j).rws i (dwn R.N j l)) ∧ Kp F w (w7.setCell ⟨vb', i, none⟩ (.slice (some ⟨g3, 0, none⟩) (rl + 1) cap3)) ∧ ∀ l, Fr' l → F l ∨ w.heap.size ≤ l) :=
                  ⟨_, _, hS8, HKr.out.1.trans hK8 (fun _ h => h) (fun l hl => HKr.out.2 l hl), HF9.out⟩
                generalize w7.setCell ⟨vb', i, none⟩ (.slice (some ⟨g3, 0, none⟩) (rl + 1) cap3) = W9 at *
                clear hS8 hK8 b4 b5 b8 hcur7 hg7 hown7 hgrow7 hat7 hlt7 hrow hcur r8 rr rz a8 ar hu0 hy0 hy1 hy2 hrl2 hrx hrvv
                go_wp2
                go_roundw
                case rel =>
                  obtain ⟨Fr', Qr', q1, q2, q3⟩ := HE.out
                  exact ⟨l, Fr', Qr', rfl, by omega, q1, q2, q3⟩
                case measure => simp [intOf]; try omega
            · obtain rfl : l = 0 := by omega
              have HH : Hid (IsR wr rb Fr2 Qr2 c d e ((R1.chs k i j).rws i (dwn R.N j 0)) ∧ Kp F w wr ∧ (∀ l, Fr2 l → F l ∨ w.heap.size ≤ l)) := ⟨hSr, hKr, hFr⟩
              clear hSr hKr hFr
              go_wp2
              go_ret
              exact ⟨rfl, HH.out.2.1, Fr2, Qr2, by rw [HPG.out]; exact HH.out.1, HH.out.2.2⟩
    · have hkp2 : k < p := by omega
      have h0 := hlo k hkp2
      have hge : decide (R.ow k ≥ 0) = true := by simp; omega
      have hge : decide (0 ≤ R.ow k) = true := by simp; omega
      generalize R.ow k = ok at *
      clear hlo
      go_wp2
      go_roundw
      case rel => exact ⟨k + 1, by go_num, by omega, by first | trivial | rfl⟩
      case measure => simp [intOf]; omega
end
end Go.Proofs.YtjkdflnnpdionaaGreat
