import Derived.Test.YtohneboimmcocaaGreatMf
import Derived.Test.YtohneboimmcocaaGreatOg
/-
  makes.
-/
namespace Go.Proofs.YtohneboimmcocaaGreat
open Go.RowKit
set_option linter.unusedVariables false

theorem marks_44 (n : Nat) (h : n ≤ 1000) (w : World) : Calls Tryz.prog 44 #[.int .i64 n] w fun y w' => y = .returned (.int .i64 ((n * 7 % 16 : Nat) : Int)) ∧ w = w' := by
  have e1 : IntKind.i64.wrap ((n : Int) * 7) = ((n * 7 : Nat) : Int) := by rw [IntKind.wrap_i64]; omega
  have e2 : ((n * 7 : Nat) : Int).tmod 16 = ((n * 7 % 16 : Nat) : Int) := by rw [Int.tmod_eq_emod_of_nonneg (by omega)]; omega
  have e3 : IntKind.i64.wrap ((n * 7 % 16 : Nat) : Int) = ((n * 7 % 16 : Nat) : Int) := by rw [IntKind.wrap_i64]; omega
  generalize n * 7 = m at *
  go_enter Tryz.func44, Tryz.ntmps44
  go_wp2
  go_ret
  exact ⟨by simp, rfl⟩
/-- The literals of makes. -/
def lits8 (w : World) (m : Nat) (i : Nat) : World := (w.alloc (.cells #[.int .u8 (97 + ((i : Int) + 1) % 26), .int .u8 (97 + ((i : Int) + 1) / 26 % 26)] 5)).alloc (.cells #[.slice (some ⟨m, 0, none⟩) 2 2, .slice none 0 0, .int .u64 0, .int .i64 0, .int .i64 0, .int .u64 0, .int .i64 4, .int .i64 ((mrk i : Nat) : Int)] 137)
theorem lits8_facts (w : World) (m i : Nat) (hm : w.heap.size = m) : w.grownBy (lits8 w m i) none ∧ Box (lits8 w m i) 137 (m + 1) #[.slice (some ⟨m, 0, none⟩) 2 2, .slice none 0 0, .int .u64 0, .int .i64 0, .int .i64 0, .int .u64 0, .int .i64 4, .int .i64 ((mrk i : Nat) : Int)] ∧ Has (lits8 w m i) (some ⟨m, 0, none⟩) 2 (keyB i) := by
  unfold lits8
  have f1 := World.grownBy_alloc w (.cells #[.int .u8 (97 + ((i : Int) + 1) % 26), .int .u8 (97 + ((i : Int) + 1) / 26 % 26)] 5) none
  have b1 := Box.new w 5 #[.int .u8 (97 + ((i : Int) + 1) % 26), .int .u8 (97 + ((i : Int) + 1) / 26 % 26)]
  have s1 : (w.alloc (.cells #[.int .u8 (97 + ((i : Int) + 1) % 26), .int .u8 (97 + ((i : Int) + 1) / 26 % 26)] 5)).heap.size = m + 1 := by simp [hm]
  rw [hm] at b1
  generalize w.alloc (.cells #[.int .u8 (97 + ((i : Int) + 1) % 26), .int .u8 (97 + ((i : Int) + 1) / 26 % 26)] 5) = W1 at *
  have f3 := World.grownBy_alloc W1 (.cells #[.slice (some ⟨m, 0, none⟩) 2 2, .slice none 0 0, .int .u64 0, .int .i64 0, .int .i64 0, .int .u64 0, .int .i64 4, .int .i64 ((mrk i : Nat) : Int)] 137) none
  have b3 := Box.new W1 137 #[.slice (some ⟨m, 0, none⟩) 2 2, .slice none 0 0, .int .u64 0, .int .i64 0, .int .i64 0, .int .u64 0, .int .i64 4, .int .i64 ((mrk i : Nat) : Int)]
  rw [s1] at b3
  have k1 := b1.kept f3 (by simp)
  exact ⟨gb_trans f1 f3, b3, has_two (k1.cell 0) (k1.cell 1)⟩

def opZ : Value := .agg #[.int .i64 0, .int .i64 0, .int .i64 0, .int .i64 0, .int .u64 0, .bool false]

set_option maxRecDepth 100000 in
set_option maxHeartbeats 4000000 in
theorem makes_49 {w : World} {P : Nat → Prop} {wb xb : Nat} {tv : Value} {i : Nat} {S : Lm} {hot warm : Nat} (h : WW8 w P wb xb tv i S hot warm) (hi : i < 64) (hP : ∀ k, w.heap.size ≤ k → P k) :
    Calls Tryz.prog 49 #[.pointer (some ⟨wb, 0, none⟩), opZ] w fun y w' => y = .returned (.bool true) ∧ Kp P w w' ∧ ∃ tv', WW8 w' P wb xb tv' (i + 1) ⟨S.X, upf S.ma (8 * i + 1) (mrk i)⟩ hot warm := by
  have h64 := h.i64
  have hPw : ∀ W : World, w.heap.size ≤ W.heap.size → ∀ k, W.heap.size ≤ k → P k := fun W hW k hk => hP k (Nat.le_trans hW hk)
  obtain ⟨D, bs, p, n, s, fr, hM, hxb, htvE, hx⟩ := h.ex
  obtain ⟨A1, fr1, hF1, hTS, hTR⟩ := fil_take2 hx.fil (by rw [hx.fil.n]; decide) (by rw [hx.fil.m, hx.fil.each, q_each]; show i < 4 * 64; omega)
  rw [q_hN (by omega)] at hTS hTR
  rw [q_plN (by omega)] at hTS
  obtain ⟨H, hH⟩ : ∃ H, 8 * i + 1 = H := ⟨_, rfl⟩
  rw [hH] at hTS hTR
  simp only [show ((0 : Nat) : Int) = 0 from rfl] at hTS hTR
  have hal := World.grownBy_alloc w (.cells #[.int .i64 0, .int .i64 0, .int .i64 0, .int .i64 0, .int .u64 0, .bool false] 29) none
  have hb0 := Box.new w 29 #[.int .i64 0, .int .i64 0, .int .i64 0, .int .i64 0, .int .u64 0, .bool false]
  have hM0 := hM.kept0 hal
  have c0 := hM0.box.cell 0
  simp at c0
  have hFl := hM.iss.lt
  have hGl := hM.isr.lt
  have htrow := hM.trow
  rw [hx.xt, hs_len] at htrow
  obtain ⟨at0, ct0, htv, _, ht2, ht3, _⟩ := row_shape htrow
  have h88 := (hTS _ D.sb D.F D.B 4 200 64 256 0 0 D.zs hM0.iss).mono (R' := fun y w1 => y = .returned (.tuple #[.int .u64 H, .int .i64 0]) ∧ w1.cell? ⟨wb, 3, none⟩ = some (.pointer (some ⟨D.rb, 0, none⟩)) ∧ Box w1 29 w.heap.size #[.int .i64 0, .int .i64 0, .int .i64 0, .int .i64 0, .int .u64 0, .bool false] ∧ ∃ F1 B1, Hid (Kp P w w1 ∧ MS8 w1 P wb { D with F := F1, B := B1, A := A1, zs := headZ D.zs (64 * i) 0 } hot warm)) (by
    rintro y w1 ⟨rfl, hK, F1, B1, hS, hF'⟩
    have hM1 := hM0.stepS (hPw _ hal.size) hK hS hF'
    refine ⟨rfl, hM1.box.cell 3, hK.box hb0 (fun hF => by have := hFl _ hF; omega), F1, B1, ?_, hM1⟩
    exact (Kp.of hal).trans (hK.mono (fun k hk => .inl (hM0.sep.inP (j := 1) hk))) (fun _ h => h) (fun k hk => .inl hk))
  have h89 := fun w1 F1 B1 (hE : Hid (Kp P w w1 ∧ MS8 w1 P wb { D with F := F1, B := B1, A := A1, zs := headZ D.zs (64 * i) 0 } hot warm)) (hb1 : Box w1 29 w.heap.size #[.int .i64 0, .int .i64 0, .int .i64 0, .int .i64 0, .int .u64 0, .bool false]) => (hTR w1 D.rb D.G D.Q 200 64 256 D.R hE.out.2.isr hx.rf hx.rep).mono (R' := fun y w2 => y = .returned (.tuple #[.int .u64 H, .int .i64 0]) ∧ w2.cell? ⟨wb, 6, none⟩ = some (.slice at0 i ct0) ∧ Box w2 29 w.heap.size #[.int .i64 0, .int .i64 0, .int .i64 0, .int .i64 0, .int .u64 0, .bool false] ∧ ∃ G2 Q2 R2, RFit R2 ∧ Rep A1 R2 ∧ Hid (Kp P w w2 ∧ MS8 w2 P wb { D with F := F1, B := B1, A := A1, zs := headZ D.zs (64 * i) 0, G := G2, Q := Q2, R := R2 } hot warm)) (by
    rintro y w2 ⟨rfl, hK, G2, Q2, R2, hS, hR2, hrep2, hG'⟩
    have hM2 := hE.out.2.stepR (hPw _ hE.out.1.size) hK hS hG'
    refine ⟨rfl, htv ▸ hM2.box.cell 6, hK.box hb1 (fun hF => by have := hGl _ hF; omega), G2, Q2, R2, hR2, hrep2, ?_, hM2⟩
    exact hE.out.1.trans (hK.mono (fun k hk => .inl (hE.out.2.sep.inP (j := 2) hk))) (fun _ h => h) (fun k hk => .inl hk))
  have hwi := fun W => within_any 0 3 (by omega) (by omega) W
  simp only [show (0 : Int) % 3 = 0 from rfl] at hwi
  have hi2 : (i : Int) < 64 := by omega
  have hwl := hM.box.lt
  have htl := row_lt hM.trow
  have hmk := fun W => marks_44 (i + 1) (by omega) W
  rw [show (i + 1) * 7 % 16 = mrk i from rfl] at hmk
  simp only [show ((i + 1 : Nat) : Int) = (i : Int) + 1 from rfl] at hmk
  have hmr : mrk i < 16 := Nat.mod_lt _ (by decide)
  have hTold := fun w2 F1 B1 G2 Q2 R2 (hE : Hid (Kp P w w2 ∧ MS8 w2 P wb { D with F := F1, B := B1, A := A1, zs := headZ D.zs (64 * i) 0, G := G2, Q := Q2, R := R2 } hot warm)) (hb2 : Box w2 29 w.heap.size #[.int .i64 0, .int .i64 0, .int .i64 0, .int .i64 0, .int .u64 0, .bool false]) g1 cap1 w4 (ho4 : World.ownsRow w4 0 27 1 (.slice (some ⟨g1, 0, none⟩) (i + 1) cap1) (i + 1) (uvs (hs i) ++ [.int .u64 (H : Int)])) (hg4 : w2.grownBy w4 (Value.slice at0 i ct0).ownBlock) (hat4 : (Value.slice at0 i ct0).ownBlock = some g1 ∨ w2.heap.size ≤ g1) => (show w4.cell? ⟨wb, 6, none⟩ = some (.slice at0 i ct0) ∧ w4.frozen? ⟨wb, 6, none⟩ = false ∧ Box (w4.setCell ⟨wb, 6, none⟩ (.slice (some ⟨g1, 0, none⟩) (i + 1) cap1)) 29 w.heap.size #[.int .i64 0, .int .i64 0, .int .i64 0, .int .i64 0, .int .u64 0, .bool false] ∧ Hid (Kp P w (w4.setCell ⟨wb, 6, none⟩ (.slice (some ⟨g1, 0, none⟩) (i + 1) cap1)) ∧ MS8 (w4.setCell ⟨wb, 6, none⟩ (.slice (some ⟨g1, 0, none⟩) (i + 1) cap1)) P wb { D with F := F1, B := B1, A := A1, zs := headZ D.zs (64 * i) 0, G := G2, Q := Q2, R := R2, tv := .slice (some ⟨g1, 0, none⟩) (i + 1) cap1, xt := hs (i + 1) } hot warm) by
    rw [← htv] at hg4 hat4
    have hT := hE.out.2.stepT (hPw _ hE.out.1.size) hg4 (tv' := .slice (some ⟨g1, 0, none⟩) (i + 1) cap1) (xt' := hs (i + 1)) (by rw [hs_len, hs_succ, uvs_app, hH]; exact ho4) (fun k hk => by simp [Value.ownBlock] at hk; subst hk; exact hat4)
    obtain ⟨hT1, hT2, hT3, hT4⟩ := hT
    refine ⟨htv ▸ hT2.cell 6, hT2.fz 6, hT4.box hb2 ?_, hE.out.1.trans hT3 (fun _ h => h) (fun k hk => .inl hk), hT1⟩
    rintro (e | e)
    · omega
    · have := htl _ e; omega)
  have h90 := fun (w5 : World) (m : Nat) (hm : w5.heap.size = m) F1 B1 G2 Q2 R2 tv2 (hE : Hid (Kp P w w5 ∧ MS8 w5 P wb { D with F := F1, B := B1, A := A1, zs := headZ D.zs (64 * i) 0, G := G2, Q := Q2, R := R2, tv := tv2, xt := hs (i + 1) } hot warm)) => (show Calls Tryz.prog 90 #[.pointer (some ⟨D.lb, 0, none⟩), .int .u64 H] (lits8 w5 m i) (fun y w7 => y = .returned (.tuple #[]) ∧ w7.cell? ⟨wb, 5, none⟩ = some (.pointer (some ⟨D.mb, 0, none⟩)) ∧ Box w7 137 (m + 1) #[.slice (some ⟨m, 0, none⟩) 2 2, .slice none 0 0, .int .u64 0, .int .i64 0, .int .i64 0, .int .u64 0, .int .i64 4, .int .i64 ((mrk i : Nat) : Int)] ∧ Hid (Kp P w w7 ∧ (∀ k, F1 k → k < m) ∧ D.mb < m ∧ Has w7 (some ⟨m, 0, none⟩) 2 (keyB i) ∧ ∃ lv2, MS8 w7 P wb { { D with F := F1, B := B1, A := A1, zs := headZ D.zs (64 * i) 0, G := G2, Q := Q2, R := R2, tv := tv2, xt := hs (i + 1) } with lv := lv2, xl := hs (i + 1) } hot warm)) by
    obtain ⟨hK5, hM5⟩ := hE.out
    obtain ⟨f1, f2, f3⟩ := lits8_facts w5 m i hm
    have hM6 := hM5.kept0 f1
    have l1 := row_lt hM5.lrow
    have l2 := hM5.lbx.lt
    have hnb : ∀ k, m ≤ k → ¬ (k = D.lb ∨ D.lv.ownBlock = some k) := fun k hk => by
      rintro (rfl | e)
      · exact absurd l2 (by show ¬ D.lb < _; omega)
      · have := l1 k e; omega
    have hlr := hM6.lrow
    dsimp only at hlr
    refine (rlay_new hM6.lbx hlr (by rw [hx.xl, hs_len]; omega) (H := H) (fun hm2 => by rw [hx.xl] at hm2; obtain ⟨l, hl, e⟩ := hs_mem.1 hm2; omega)).mono ?_
    rintro y w7 ⟨rfl, hK7, lv2, g1, g2, g3⟩
    have g2' : w7.ownsRow 0 27 1 lv2 (hs (i + 1)).length (uvs (hs (i + 1))) := by rw [hs_len, hs_succ, hH]; rw [hx.xl, hs_len] at g2; exact g2
    obtain ⟨hM7, hK8⟩ := hM6.stepL (hPw _ (Nat.le_trans hK5.size f1.size)) hK7 g1 g2' g3
    exact ⟨rfl, hM7.box.cell 5, hK7.box f2 (hnb _ (by omega)), (hK5.step f1 (by simp)).trans hK8 (fun _ h => h) (fun k hk => .inl hk), fun k hk => by rw [← hm]; exact hM5.iss.lt k hk, by rw [← hm]; exact hM5.mbx.lt, f3.keptP hK7 (fun k hk => hnb k (by simp at hk; omega)), lv2, hM7⟩)
  have h65 := fun (on : Bool) (W7 w7 : World) (hfW : W7.grownBy w7 none) (m : Nat) F1 B1 G2 Q2 R2 tv2 (hbX : Box W7 137 (m + 1) #[.slice (some ⟨m, 0, none⟩) 2 2, .slice none 0 0, .int .u64 0, .int .i64 0, .int .i64 0, .int .u64 0, .int .i64 4, .int .i64 ((mrk i : Nat) : Int)]) (hE : Hid (Kp P w W7 ∧ (∀ k, F1 k → k < m) ∧ D.mb < m ∧ Has W7 (some ⟨m, 0, none⟩) 2 (keyB i) ∧ ∃ lv2, MS8 W7 P wb { { D with F := F1, B := B1, A := A1, zs := headZ D.zs (64 * i) 0, G := G2, Q := Q2, R := R2, tv := tv2, xt := hs (i + 1) } with lv := lv2, xl := hs (i + 1) } hot warm)) => (show Calls Tryz.prog 65 #[.pointer (some ⟨D.mb, 0, none⟩), .int .u64 H, .bool on] w7 (fun y w8 => y = .returned (.tuple #[]) ∧ w8.cell? ⟨wb, 5, none⟩ = some (.pointer (some ⟨D.mb, 0, none⟩)) ∧ w8.cell? ⟨wb, 0, none⟩ = some (.pointer (some ⟨D.sb, 0, none⟩)) ∧ Box w8 137 (m + 1) #[.slice (some ⟨m, 0, none⟩) 2 2, .slice none 0 0, .int .u64 0, .int .i64 0, .int .i64 0, .int .u64 0, .int .i64 4, .int .i64 ((mrk i : Nat) : Int)] ∧ Hid (Kp P w w8 ∧ (∀ k, F1 k → k < m) ∧ Has w8 (some ⟨m, 0, none⟩) 2 (keyB i) ∧ ∃ lv2 av2 xa2, xa2.length ≤ i + 1 ∧ MS8 w8 P wb { { { D with F := F1, B := B1, A := A1, zs := headZ D.zs (64 * i) 0, G := G2, Q := Q2, R := R2, tv := tv2, xt := hs (i + 1) } with lv := lv2, xl := hs (i + 1) } with av := av2, xa := xa2 } hot warm)) by
    obtain ⟨hK70, hFm, hmm, hHas0, lv2, hM70⟩ := hE.out
    have hK7 := hK70.step hfW (by simp)
    have hHas := hHas0.keptP (F := fun _ => False) (Kp.of hfW) (fun _ _ h => h)
    have hM7 := hM70.kept0 hfW
    refine (mset_65 hM7.mbx hM7.arow (by have := hx.xa; show D.xa.length ≤ _; omega) H on).mono ?_
    rintro y w8 ⟨rfl, hK8, av2, g1, g2, g3⟩
    obtain ⟨hM8, hK9⟩ := hM7.stepM (hPw _ hK7.size) hK8 g1 g2 g3
    refine ⟨rfl, hM8.box.cell 5, hM8.box.cell 0, hK8.box (hbX.kept hfW (by simp)) (by show ¬ m + 1 = D.mb; omega), hK7.trans hK9 (fun _ h => h) (fun k hk => .inl hk), hFm, hHas.keptP hK8 (fun k hk e => ?_), lv2, av2, _, ?_, hM8⟩
    · simp at hk
      have e2 : k = D.mb := e
      omega
    · have h1 : (nox H D.xa).length ≤ D.xa.length := List.length_filter_le _ _
      have h2 := hx.xa
      show (nox H D.xa ++ _).length ≤ _
      rw [List.length_append]
      split <;> simp <;> omega)
  have h91 := fun W8 w8 (hfW : W8.grownBy w8 none) m F1 B1 G2 Q2 R2 tv2 (hR2 : RFit R2) (hrep2 : Rep A1 R2) (hbX : Box W8 137 (m + 1) #[.slice (some ⟨m, 0, none⟩) 2 2, .slice none 0 0, .int .u64 0, .int .i64 0, .int .i64 0, .int .u64 0, .int .i64 4, .int .i64 ((mrk i : Nat) : Int)]) (hE : Hid (Kp P w W8 ∧ (∀ k, F1 k → k < m) ∧ Has W8 (some ⟨m, 0, none⟩) 2 (keyB i) ∧ ∃ lv2 av2 xa2, xa2.length ≤ i + 1 ∧ MS8 W8 P wb { { { D with F := F1, B := B1, A := A1, zs := headZ D.zs (64 * i) 0, G := G2, Q := Q2, R := R2, tv := tv2, xt := hs (i + 1) } with lv := lv2, xl := hs (i + 1) } with av := av2, xa := xa2 } hot warm)) => (show Calls Tryz.prog 91 #[.pointer (some ⟨D.sb, 0, none⟩), .int .u64 H, .agg #[.slice (some ⟨m, 0, none⟩) 2 2, .slice none 0 0, .int .u64 0, .int .i64 0, .int .i64 0, .int .u64 0, .int .i64 4, .int .i64 ((mrk i : Nat) : Int)]] w8 (fun y w9 => y = .returned (.int .i64 0) ∧ w9.cell? ⟨wb, 0, none⟩ = some (.pointer (some ⟨D.sb, 0, none⟩)) ∧ Box w9 137 (m + 1) #[.slice (some ⟨m, 0, none⟩) 2 2, .slice none 0 0, .int .u64 0, .int .i64 0, .int .i64 0, .int .u64 0, .int .i64 4, .int .i64 ((mrk i : Nat) : Int)] ∧ Hid (Kp P w w9 ∧ ∃ tv', WW8 w9 P wb xb tv' (i + 1) ⟨S.X, upf S.ma (8 * i + 1) (mrk i)⟩ hot warm)) by
    obtain ⟨hK80, hFm, f30, lv2, av2, xa2, hxa2, hM80⟩ := hE.out
    have hK8 := hK80.step hfW (by simp)
    have f3 := f30.keptP (F := fun _ => False) (Kp.of hfW) (fun _ _ h => h)
    have hM8 := hM80.kept0 hfW
    have hbX8 := hbX.kept hfW (by simp)
    obtain ⟨x, k, x1, x2, x3, x4⟩ := fil_h hF1 (by omega) (l := i) (by omega)
    have hag := hFm _ hM8.iss.fa.2
    dsimp only at hag
    have hly := lay_yes hM8.iss hF1.inv.fit x1 (some ⟨m, 0, none⟩) 2 2 none 0 0 0 0 0 0 4 ((mrk i : Nat) : Int) (keyB i) [] f3 ⟨rfl, fun h => absurd h (by omega)⟩ (keyB_ok i).1 (by intro z hz; simp at hz) (by intro x hx; simp at hx; show x ≠ B1.ag; omega) (by intro x hx; simp at hx) (keyB_ok i).2 (by show _ ≤ A1.sz (A1.own x); rw [x4]; omega) ⟨by omega, by omega, by omega, by omega, by omega⟩ (by omega) 0 (by rw [x2]; exact lies_gen (headZ_lies D.zs (64 * i) 0 (by have := hx.zl; omega)))
    rw [x2, x3, hH] at hly
    refine hly.mono ?_
    rintro y w9 ⟨rfl, hS9, hf9⟩
    have hK9 : Kp F1 w8 w9 := (Kp.refl _ _).step hf9 (fun j hj => .inl (by simp at hj; exact hj ▸ hM8.iss.fa.2))
    have hM9 := hM8.stepS (hPw _ hK8.size) hK9 hS9 (fun k hk => .inl hk)
    have hTl : (newT8 i).L.flatten.length = 60 := by rw [It.len]; rfl
    have hl1 : (headZ D.zs (64 * i) 0).length = 16384 := by rw [headZ_lay D.zs (64 * i) 0 (by have := hx.zl; omega), length_lay (by rw [hd0_len]; have := hx.zl; omega), hx.zl]
    refine ⟨rfl, hM9.box.cell 0, hK9.box hbX8 (fun hh => by have := hFm _ hh; omega), hK8.trans (hK9.mono (fun k hk => .inl (hM8.sep.inP (j := 1) hk))) (fun _ h => h) (fun k hk => .inl hk), tv2, by omega, h.tn, _, bsN8 bs i, upf p (8 * i + 1) 0, upf n (8 * i + 1) 0, upf s (8 * i + 1) 4, fr1, hM9, hxb, rfl, rfl, rfl, ?_, hF1, hR2, hrep2, ?_, lkd_new hx.lk, ?_, mks_new hx.mks, hxa2⟩
    · show (lay (headZ D.zs (64 * i) 0) (64 * i) (newT8 i).L.flatten).length = _
      rw [length_lay (by rw [hTl, hl1]; omega), hl1]
    · exact itl_new8 hx.itl hi hx.zl
    · rw [hs_succ]
      exact hx.li.add (fun hm2 => by obtain ⟨l, hl, e⟩ := hs_mem.1 hm2; omega) (by omega))
  have hod : IntKind.i64.wrap (((mrk i : Nat) : Int).tmod 2) = ((mrk i % 2 : Nat) : Int) := by rw [Int.tmod_eq_emod_of_nonneg (by omega), IntKind.wrap_i64]; omega
  unfold opZ
  clear hTS hTR
  go_enter Tryz.func49, Tryz.ntmps49
  go_wp2_with (first | (go_at_call 28; go_must (refine (hwi _).mono ?_); rintro y w' ⟨rfl, rfl⟩) | (go_at_call 26; go_must (refine (num_any _ _).mono ?_); rintro y w' ⟨rfl, rfl⟩) | (go_at_call 88; go_must (refine h88.mono ?_); rintro y w1 ⟨rfl, c2, hb1, F1, B1, hE1⟩) | (go_at_call 89; go_must (with_reducible refine (h89 _ _ _ hE1 hb1).mono ?_); rintro y w2 ⟨rfl, c4, hb2, G2, Q2, R2, hR2, hrep2, hE2⟩; (have hrow := hE2.out.2.trow); (dsimp only at hrow); rw [hx.xt, hs_len, htv] at hrow; (have ca : ∀ o, (w2.alloc o).cell? ⟨wb, 6, none⟩ = some (.slice at0 i ct0) := fun o => gb_cellN (World.grownBy_alloc w2 o none) c4)) | (at_builtin; go_must (refine push26 rfl _ _ rfl 0 (.slice at0 i ct0) i (uvs (hs i)) (by rfl) hrow (H : Int) (by rfl) (by omega) (Nat.zero_le _) ?_); intro g1 cap1 w4 ho4 hg4 hat4; obtain ⟨e4, z4, hb5, hE5⟩ := hTold _ _ _ _ _ _ hE2 hb2 _ _ _ ho4 hg4 hat4; (have d0 := hb5.cell 0); simp at d0; (have u0 := hE5.out.2.box.cell 0); (have u4 := hE5.out.2.box.cell 4); (have u5 := hE5.out.2.box.cell 5); (have u6 := hE5.out.2.box.cell 6); simp at u0 u4 u5 u6; (have hsz : (w4.setCell ⟨wb, 6, none⟩ (.slice (some ⟨g1, 0, none⟩) (i + 1) cap1)).heap.size = w4.heap.size := by simp); (have hMl := (hE5.out.2.kept0 (lits8_facts _ _ i hsz).1).box.cell 4); simp [lits8] at hMl; (have h90' := h90 _ _ hsz _ _ _ _ _ _ hE5); unfold lits8 at h90') | (go_at_call 90; go_must (with_reducible refine h90'.mono ?_); rintro y w7 ⟨rfl, v5, hb7, hE7⟩) | (go_at_call 44; go_must (refine (hmk _).mono ?_); rintro y w' ⟨rfl, rfl⟩) | fail)
  have h7d : w7.grownBy w7.drew none := gb_drew (gb_refl _ _)
  have c7 := gb_cellN h7d v5
  have h65' := fun on => h65 on _ _ h7d _ _ _ _ _ _ _ hb7 hE7
  clear h88 h89 h90 hTold h65 hMl h90'
  go_region_held3 (fun W => W.cell? ⟨wb, 5, none⟩ = some (.pointer (some ⟨D.mb, 0, none⟩))) ((first | with_reducible exact v8 | with_reducible exact c7 | go_keep)) ((first | (go_at_call 44; with_reducible refine (hmk _).mono ?_; rintro y w' ⟨rfl, rfl⟩) | (go_at_call 65; with_reducible refine (h65' _).mono ?_; rintro y w8 ⟨rfl, v8, v0, hb8, hE8⟩)))
  have hCC : ∀ W, W.cell? ⟨wb, 0, none⟩ = some (.pointer (some ⟨D.sb, 0, none⟩)) → Box W 137 (w4.heap.size + 1) #[.slice (some ⟨w4.heap.size, 0, none⟩) 2 2, .slice none 0 0, .int .u64 0, .int .i64 0, .int .i64 0, .int .u64 0, .int .i64 4, .int .i64 ((mrk i : Nat) : Int)] → (W.cell? ⟨wb, 0, none⟩ = some (.pointer (some ⟨D.sb, 0, none⟩)) ∧ W.cell? ⟨w4.heap.size + 1, 0, none⟩ = some (.slice (some ⟨w4.heap.size, 0, none⟩) 2 2) ∧ W.cell? ⟨w4.heap.size + 1, 1, none⟩ = some (.slice none 0 0) ∧ W.cell? ⟨w4.heap.size + 1, 2, none⟩ = some (.int .u64 0) ∧ W.cell? ⟨w4.heap.size + 1, 3, none⟩ = some (.int .i64 0) ∧ W.cell? ⟨w4.heap.size + 1, 4, none⟩ = some (.int .i64 0) ∧ W.cell? ⟨w4.heap.size + 1, 5, none⟩ = some (.int .u64 0) ∧ W.cell? ⟨w4.heap.size + 1, 6, none⟩ = some (.int .i64 4) ∧ W.cell? ⟨w4.heap.size + 1, 7, none⟩ = some (.int .i64 ((mrk i : Nat) : Int))) := fun W h0 hb => ⟨h0, hb.cell 0, hb.cell 1, hb.cell 2, hb.cell 3, hb.cell 4, hb.cell 5, hb.cell 6, hb.cell 7⟩
  have h8d : w8.grownBy w8.drew none := gb_drew (gb_refl _ _)
  have hC8 := hCC w8.drew (gb_cellN h8d v0) (hb8.kept h8d (by simp))
  have h91' := h91 _ _ h8d _ _ _ _ _ _ _ hR2 hrep2 hb8 hE8
  clear h91 h65' hmk
  go_wp2
  go_region_held3 (fun W => W.cell? ⟨wb, 0, none⟩ = some (.pointer (some ⟨D.sb, 0, none⟩)) ∧ W.cell? ⟨w4.heap.size + 1, 0, none⟩ = some (.slice (some ⟨w4.heap.size, 0, none⟩) 2 2) ∧ W.cell? ⟨w4.heap.size + 1, 1, none⟩ = some (.slice none 0 0) ∧ W.cell? ⟨w4.heap.size + 1, 2, none⟩ = some (.int .u64 0) ∧ W.cell? ⟨w4.heap.size + 1, 3, none⟩ = some (.int .i64 0) ∧ W.cell? ⟨w4.heap.size + 1, 4, none⟩ = some (.int .i64 0) ∧ W.cell? ⟨w4.heap.size + 1, 5, none⟩ = some (.int .u64 0) ∧ W.cell? ⟨w4.heap.size + 1, 6, none⟩ = some (.int .i64 4) ∧ W.cell? ⟨w4.heap.size + 1, 7, none⟩ = some (.int .i64 ((mrk i : Nat) : Int))) ((first | with_reducible exact hCC _ v9 hb9 | with_reducible exact hC8 | go_keep)) ((first | (go_at_call 91; with_reducible refine h91'.mono ?_; rintro y w9 ⟨rfl, v9, hb9, hE9⟩) | (go_at_call 26; with_reducible refine (num_any _ _).mono ?_; rintro y w' ⟨rfl, rfl⟩)))
  go_wp2
  go_ret
  exact ⟨rfl, hE9.out⟩
end Go.Proofs.YtohneboimmcocaaGreat
/-
  makes, of any class.
-/
namespace Go.Proofs.YtohneboimmcocaaGreat
open Go.RowKit
set_option linter.unusedVariables false

/-- A call of a script. -/
structure Opv where
  d : Int
  a : Int
  b : Int
  c : Int
  h : Nat
  r : Bool
def Opv.cs (o : Opv) : Array Value := #[.int .i64 o.d, .int .i64 o.a, .int .i64 o.b, .int .i64 o.c, .int .u64 o.h, .bool o.r]
structure Opv.Ok (o : Opv) : Prop where
  h : o.h < 18446744073709551616
  b : o.b < 9223372036854775808
section
variable {w : World} {P : Nat → Prop} {wb N : Nat} {D : Wd} {hot warm lsb : Nat} {vs : Nat → Value} {Y : Nat → List Nat} {cl : Nat → Nat} {S : Lm} {D0 : Wd}
theorem MS9.stepM {w' : World} (h : MS9 w P wb D hot warm lsb vs Y) (hP : ∀ k, w.heap.size ≤ k → P k) (hK : Kp (fun k => k = D.mb) w w') {av' : Value} {xa' : List Nat} (hb : Box w' 104 D.mb #[.pointer (some ⟨D.lb, 0, none⟩), .int .i64 hot, .int .i64 warm, av']) (hr : w'.ownsRow 0 27 1 av' xa'.length (uvs xa')) (hl : ∀ k, av'.ownBlock = some k → w.heap.size ≤ k) : MS9 w' P wb { D with av := av', xa := xa' } hot warm lsb vs Y ∧ Kp P w w' := by
  obtain ⟨h1, h2⟩ := h.ms.stepM (h.hP hP) hK hb hr hl
  exact h.step h1 h2 rfl

set_option maxRecDepth 100000 in
set_option maxHeartbeats 4000000 in
theorem makes_any (hG : GS w P wb N hot warm D0) (hP : ∀ k, w.heap.size ≤ k → P k) (hN : N < 300) (o : Opv) (ho : o.Ok) :
    Calls Tryz.prog 49 #[.pointer (some ⟨wb, 0, none⟩), .agg o.cs] w fun y w' => y = .returned (.bool true) ∧ Kp P w w' ∧ GS w' P wb (N + 1) hot warm D0 := by
  have hPw : ∀ W : World, w.heap.size ≤ W.heap.size → ∀ k, W.heap.size ≤ k → P k := fun W hW k hk => hP k (Nat.le_trans hW hk)
  obtain ⟨D, lsb, vs, Y, S, cl, hs, hW⟩ := hG
  obtain ⟨bs, p, n, s, hX⟩ := hW.gx
  have hM := hW.ms
  have hN1 := hW.nN
  obtain ⟨ci, hci⟩ : ∃ ci : Nat, o.b % 3 = (ci : Int) := ⟨(o.b % 3).toNat, by omega⟩
  have hc3 : ci < 3 := by omega
  have hal := World.grownBy_alloc w (.cells o.cs 29) none
  have hb0 := Box.new w 29 o.cs
  have hM0 := hM.kept0 hal
  have hwi := fun W => within_any o.b 3 (by omega) (by omega) W
  rw [hci] at hwi
  unfold Opv.cs at *
  obtain ⟨d0, a0, b0, c0v, h0v, r0⟩ := o
  dsimp only at *
  rcases take2_any hX.inv ci (by rw [hX.n3]; exact hc3) with ⟨hTS, hTR⟩ | ⟨A1, H, x, k, hI1, hT, hTS, hTR⟩
  · -- no room
    have h88 := (hTS _ D.sb D.F D.B 4 200 64 256 0 0 D.zs hM0.ms.iss).mono (R' := fun y w1 => y = .returned (.tuple #[.int .u64 0, .int .i64 21]) ∧ w1.cell? ⟨wb, 3, none⟩ = some (.pointer (some ⟨D.rb, 0, none⟩)) ∧ w.grownBy w1 none) (by
      rintro y w1 ⟨rfl, hf⟩
      exact ⟨rfl, (hM0.kept0 hf).ms.box.cell 3, gb_trans hal hf⟩)
    have h89 := fun W (hf : w.grownBy W none) => (hTR W D.rb D.G D.Q 200 64 256 D.R (hM.kept0 hf).ms.isr hX.rf hX.rep)
    have u0 := hM0.ms.box.cell 0
    have u2 := hb0.cell 2
    simp at u0 u2
    have hfin := fun W (hf : w.grownBy W none) => Hlf.still hW hs hN hf
    clear hTS hTR hM hW hX hM0 hb0 hs
    go_enter Tryz.func49, Tryz.ntmps49
    go_wp2_with (first | (go_at_call 28; go_must (refine (hwi _).mono ?_); rintro y w' ⟨rfl, rfl⟩) | (go_at_call 26; go_must (refine (num_any _ _).mono ?_); rintro y w' ⟨rfl, rfl⟩) | (go_at_call 88; go_must (refine h88.mono ?_); rintro y w1 ⟨rfl, c3, hf1⟩) | (go_at_call 89; go_must (refine (h89 _ hf1).mono ?_); rintro y w2 ⟨rfl, hf2⟩) | fail)
    go_ret
    exact ⟨rfl, hfin _ (gb_trans hf1 hf2)⟩
  · -- a chunk is taken
    obtain ⟨i, hi⟩ : ∃ i, D.xt.length = i := ⟨_, rfl⟩
    have hi3 : i < 300 := by omega
    have hkin := hT.kin
    have hpl := pl_of hM.ms.iss
    have hH0 : ¬ H = 0 := fun e => by
      have h1 := (hT.good.parts hI1.fit).1
      have h2 := (num_lt hI1.fit.toFit1 hT.good.hp hT.good.hk).2.1
      rw [e] at h1
      omega
    have hHn : H ∉ D.xl := fun hm => by
      obtain ⟨y, l, hY, _⟩ := hX.its H hm
      exact hT.not y l hY
    have hTb : ∀ G, G ∈ D.xt ++ [H] → G < 18446744073709551616 := fun G hG => by
      rcases List.mem_append.1 hG with h1 | h1
      · exact hW.tb G h1
      · simp at h1
        rw [h1]
        exact (hT.good.parts hI1.fit).2.2
    have hFl := hM.ms.iss.lt
    have hGl := hM.ms.isr.lt
    have hwl := hM.ms.box.lt
    have htl := row_lt hM.ms.trow
    have htrow := hM.ms.trow
    rw [hi] at htrow
    obtain ⟨at0, ct0, htv, _, ht2, ht3, _⟩ := row_shape htrow
    -- room for the chunk
    have hroom : A1.place x k + 64 ≤ D.zs.length := by
      obtain ⟨p1, p2, p3⟩ := place_div hI1.fit.toFit1 hT.good.hp hT.good.hk
      have h1 := hI1.lo _ (hI1.on x hT.good.hp)
      have h2 := hI1.nm
      have h3 := hT.good.hp
      have h4 : (x + 1) * A1.ps ≤ 4 * 4096 := Nat.mul_le_mul (by rw [hkin.m, hX.m] at h2; omega) (by rw [hkin.ps, hX.ps]; omega)
      have h5 := hW.zl
      omega
    have hzl1 : (headZ D.zs (A1.place x k) (A1.gen x k)).length = D.zs.length := by rw [headZ_lay _ _ _ (by omega), length_lay (by rw [hd0_len]; omega)]
    have h88 := (hTS _ D.sb D.F D.B 4 200 64 256 0 0 D.zs hM0.ms.iss).mono (R' := fun y w1 => y = .returned (.tuple #[.int .u64 H, .int .i64 0]) ∧ w1.cell? ⟨wb, 3, none⟩ = some (.pointer (some ⟨D.rb, 0, none⟩)) ∧ Box w1 29 w.heap.size #[.int .i64 d0, .int .i64 a0, .int .i64 b0, .int .i64 c0v, .int .u64 h0v, .bool r0] ∧ ∃ F1 B1, Hid (Kp P w w1 ∧ MS9 w1 P wb { D with F := F1, B := B1, A := A1, zs := headZ D.zs (A1.place x k) (A1.gen x k) } hot warm lsb vs Y)) (by
      rintro y w1 ⟨rfl, hK, F1, B1, hS, hF'⟩
      obtain ⟨hM1, hK1⟩ := hM0.stepS (hPw _ hal.size) hK hS hF'
      refine ⟨rfl, hM1.ms.box.cell 3, hK.box hb0 (fun hF => by have := hFl _ hF; omega), F1, B1, (Kp.of hal).trans hK1 (fun _ h => h) (fun k hk => .inl hk), hM1⟩)
    have h89 := fun (w1 : World) (F1 : Nat → Prop) (B1 : Bl) (hE : Hid (Kp P w w1 ∧ MS9 w1 P wb { D with F := F1, B := B1, A := A1, zs := headZ D.zs (A1.place x k) (A1.gen x k) } hot warm lsb vs Y)) (hb1 : Box w1 29 w.heap.size #[.int .i64 d0, .int .i64 a0, .int .i64 b0, .int .i64 c0v, .int .u64 h0v, .bool r0]) => (hTR w1 D.rb D.G D.Q 200 64 256 D.R hE.out.2.ms.isr hX.rf hX.rep).mono (R' := fun y w2 => y = .returned (.tuple #[.int .u64 H, .int .i64 0]) ∧ w2.cell? ⟨wb, 6, none⟩ = some (.slice at0 i ct0) ∧ Box w2 29 w.heap.size #[.int .i64 d0, .int .i64 a0, .int .i64 b0, .int .i64 c0v, .int .u64 h0v, .bool r0] ∧ ∃ G2 Q2 R2, Hid (RFit R2 ∧ Rep A1 R2 ∧ Kp P w w2 ∧ MS9 w2 P wb { D with F := F1, B := B1, A := A1, zs := headZ D.zs (A1.place x k) (A1.gen x k), G := G2, Q := Q2, R := R2 } hot warm lsb vs Y)) (by
      rintro y w2 ⟨rfl, hK, G2, Q2, R2, hS, hR2, hrep2, hG'⟩
      obtain ⟨hM2, hK2⟩ := hE.out.2.stepR (hPw _ hE.out.1.size) hK hS hG'
      refine ⟨rfl, htv ▸ hM2.ms.box.cell 6, hK.box hb1 (fun hF => by have := hGl _ hF; omega), G2, Q2, R2, hR2, hrep2, hE.out.1.trans hK2 (fun _ h => h) (fun k hk => .inl hk), hM2⟩)
    have hmk := fun W => marks_44 (i + 1) (by omega) W
    rw [show (i + 1) * 7 % 16 = mrk i from rfl] at hmk
    simp only [show ((i + 1 : Nat) : Int) = (i : Int) + 1 from rfl] at hmk
    have hmr : mrk i < 16 := Nat.mod_lt _ (by decide)
    have hTold := fun (w2 : World) (F1 : Nat → Prop) (B1 : Bl) (G2 : Nat → Prop) (Q2 : Rl) (R2 : Rb) (hE : Hid (RFit R2 ∧ Rep A1 R2 ∧ Kp P w w2 ∧ MS9 w2 P wb { D with F := F1, B := B1, A := A1, zs := headZ D.zs (A1.place x k) (A1.gen x k), G := G2, Q := Q2, R := R2 } hot warm lsb vs Y)) (hb2 : Box w2 29 w.heap.size #[.int .i64 d0, .int .i64 a0, .int .i64 b0, .int .i64 c0v, .int .u64 h0v, .bool r0]) (g1 cap1 : Nat) (w4 : World) (ho4 : World.ownsRow w4 0 27 1 (.slice (some ⟨g1, 0, none⟩) (i + 1) cap1) (i + 1) (uvs D.xt ++ [.int .u64 (H : Int)])) (hg4 : w2.grownBy w4 (Value.slice at0 i ct0).ownBlock) (hat4 : (Value.slice at0 i ct0).ownBlock = some g1 ∨ w2.heap.size ≤ g1) => (show w4.cell? ⟨wb, 6, none⟩ = some (.slice at0 i ct0) ∧ w4.frozen? ⟨wb, 6, none⟩ = false ∧ Box (w4.setCell ⟨wb, 6, none⟩ (.slice (some ⟨g1, 0, none⟩) (i + 1) cap1)) 29 w.heap.size #[.int .i64 d0, .int .i64 a0, .int .i64 b0, .int .i64 c0v, .int .u64 h0v, .bool r0] ∧ Hid (RFit R2 ∧ Rep A1 R2 ∧ Kp P w (w4.setCell ⟨wb, 6, none⟩ (.slice (some ⟨g1, 0, none⟩) (i + 1) cap1)) ∧ MS9 (w4.setCell ⟨wb, 6, none⟩ (.slice (some ⟨g1, 0, none⟩) (i + 1) cap1)) P wb { D with F := F1, B := B1, A := A1, zs := headZ D.zs (A1.place x k) (A1.gen x k), G := G2, Q := Q2, R := R2, tv := .slice (some ⟨g1, 0, none⟩) (i + 1) cap1, xt := D.xt ++ [H] } hot warm lsb vs Y) by
      rw [← htv] at hg4 hat4
      have hT := hE.out.2.2.2.stepT (hPw _ hE.out.2.2.1.size) hg4 (tv' := .slice (some ⟨g1, 0, none⟩) (i + 1) cap1) (xt' := D.xt ++ [H]) (by rw [List.length_append, hi, uvs_app]; exact ho4) (fun k hk => by simp [Value.ownBlock] at hk; subst hk; exact hat4)
      obtain ⟨hT1, hT2, hT3, hT4⟩ := hT
      refine ⟨htv ▸ hT2.cell 6, hT2.fz 6, hT4.box hb2 ?_, hE.out.1, hE.out.2.1, hE.out.2.2.1.trans hT3 (fun _ h => h) (fun k hk => .inl hk), hT1⟩
      rintro (e | e)
      · omega
      · have := htl _ e; omega)
    -- the bare chunk
    have hBare := fun (w5 : World) (F1 : Nat → Prop) (B1 : Bl) (G2 : Nat → Prop) (Q2 : Rl) (R2 : Rb) (tv2 : Value) (hE : Hid (RFit R2 ∧ Rep A1 R2 ∧ Kp P w w5 ∧ MS9 w5 P wb { D with F := F1, B := B1, A := A1, zs := headZ D.zs (A1.place x k) (A1.gen x k), G := G2, Q := Q2, R := R2, tv := tv2, xt := D.xt ++ [H] } hot warm lsb vs Y)) => (show Kp P w w5 ∧ GS w5 P wb (N + 1) hot warm D0 by
      obtain ⟨r1, r2, k5, m5⟩ := hE.out
      refine ⟨k5, { D with F := F1, B := B1, A := A1, zs := headZ D.zs (A1.place x k) (A1.gen x k), G := G2, Q := Q2, R := R2, tv := tv2, xt := D.xt ++ [H] }, lsb, vs, Y, S, cl, hs, m5, ⟨bs, p, n, s, hX.takes hI1 hT r1 r2 (by omega)⟩, hW.dm, ⟨by omega, ?_, ?_, ?_⟩, fun G hG => List.mem_append_left _ (hW.sub G hG), fun G hG => ?_, hzl1.trans hW.zl, hW.nd, hTb⟩
      · show (D.xt ++ [H]).length ≤ _; rw [List.length_append]; simp; omega
      · show D.xl.length ≤ _; omega
      · show D.xa.length ≤ _; omega
      · show _ = mrk (lst (D.xt ++ [H]) G 0) / 2
        rw [lst_other _ _ _ _ (fun (e : G = H) => hHn (e ▸ hG)) (hW.sub G hG)]
        exact hW.hdr G hG)
    have h90 := fun (w5 : World) (m : Nat) (hm : w5.heap.size = m) (F1 : Nat → Prop) (B1 : Bl) (G2 : Nat → Prop) (Q2 : Rl) (R2 : Rb) (tv2 : Value) (hE : Hid (RFit R2 ∧ Rep A1 R2 ∧ Kp P w w5 ∧ MS9 w5 P wb { D with F := F1, B := B1, A := A1, zs := headZ D.zs (A1.place x k) (A1.gen x k), G := G2, Q := Q2, R := R2, tv := tv2, xt := D.xt ++ [H] } hot warm lsb vs Y)) => (show Calls Tryz.prog 90 #[.pointer (some ⟨D.lb, 0, none⟩), .int .u64 H] (lits8 w5 m i) (fun y w7 => y = .returned (.tuple #[]) ∧ w7.cell? ⟨wb, 5, none⟩ = some (.pointer (some ⟨D.mb, 0, none⟩)) ∧ Box w7 137 (m + 1) #[.slice (some ⟨m, 0, none⟩) 2 2, .slice none 0 0, .int .u64 0, .int .i64 0, .int .i64 0, .int .u64 0, .int .i64 4, .int .i64 ((mrk i : Nat) : Int)] ∧ Hid (RFit R2 ∧ Rep A1 R2 ∧ Kp P w w7 ∧ (∀ k, F1 k → k < m) ∧ D.mb < m ∧ Has w7 (some ⟨m, 0, none⟩) 2 (keyB i) ∧ ∃ lv2, MS9 w7 P wb { D with F := F1, B := B1, A := A1, zs := headZ D.zs (A1.place x k) (A1.gen x k), G := G2, Q := Q2, R := R2, tv := tv2, xt := D.xt ++ [H], lv := lv2, xl := D.xl ++ [H] } hot warm lsb vs Y)) by
      obtain ⟨r1, r2, hK5, hM5⟩ := hE.out
      obtain ⟨f1, f2, f3⟩ := lits8_facts w5 m i hm
      have hM6 := hM5.kept0 f1
      have l1 := row_lt hM5.ms.lrow
      have l2 := hM5.ms.lbx.lt
      have hnb : ∀ k, m ≤ k → ¬ (k = D.lb ∨ D.lv.ownBlock = some k) := fun k hk => by
        rintro (rfl | e)
        · exact absurd l2 (by show ¬ D.lb < _; omega)
        · have := l1 k e; omega
      have hlr := hM6.ms.lrow
      dsimp only at hlr
      refine (rlay_new hM6.ms.lbx hlr (by omega) (H := H) hHn).mono ?_
      rintro y w7 ⟨rfl, hK7, lv2, g1, g2, g3⟩
      have g2' : w7.ownsRow 0 27 1 lv2 (D.xl ++ [H]).length (uvs (D.xl ++ [H])) := by rw [List.length_append]; exact g2
      obtain ⟨hM7, hK8⟩ := hM6.stepL (hPw _ (Nat.le_trans hK5.size f1.size)) hK7 g1 g2' g3
      exact ⟨rfl, hM7.ms.box.cell 5, hK7.box f2 (hnb _ (by omega)), r1, r2, (hK5.step f1 (by simp)).trans hK8 (fun _ h => h) (fun k hk => .inl hk), fun k hk => by rw [← hm]; exact hM5.ms.iss.lt k hk, by rw [← hm]; exact hM5.ms.mbx.lt, f3.keptP hK7 (fun k hk => hnb k (by simp at hk; omega)), lv2, hM7⟩)
    have h65 := fun (on : Bool) (W7 w7 : World) (hfW : W7.grownBy w7 none) (m : Nat) (F1 : Nat → Prop) (B1 : Bl) (G2 : Nat → Prop) (Q2 : Rl) (R2 : Rb) (tv2 : Value) (hbX : Box W7 137 (m + 1) #[.slice (some ⟨m, 0, none⟩) 2 2, .slice none 0 0, .int .u64 0, .int .i64 0, .int .i64 0, .int .u64 0, .int .i64 4, .int .i64 ((mrk i : Nat) : Int)]) (hE : Hid (RFit R2 ∧ Rep A1 R2 ∧ Kp P w W7 ∧ (∀ k, F1 k → k < m) ∧ D.mb < m ∧ Has W7 (some ⟨m, 0, none⟩) 2 (keyB i) ∧ ∃ lv2, MS9 W7 P wb { D with F := F1, B := B1, A := A1, zs := headZ D.zs (A1.place x k) (A1.gen x k), G := G2, Q := Q2, R := R2, tv := tv2, xt := D.xt ++ [H], lv := lv2, xl := D.xl ++ [H] } hot warm lsb vs Y)) => (show Calls Tryz.prog 65 #[.pointer (some ⟨D.mb, 0, none⟩), .int .u64 H, .bool on] w7 (fun y w8 => y = .returned (.tuple #[]) ∧ w8.cell? ⟨wb, 5, none⟩ = some (.pointer (some ⟨D.mb, 0, none⟩)) ∧ w8.cell? ⟨wb, 0, none⟩ = some (.pointer (some ⟨D.sb, 0, none⟩)) ∧ Box w8 137 (m + 1) #[.slice (some ⟨m, 0, none⟩) 2 2, .slice none 0 0, .int .u64 0, .int .i64 0, .int .i64 0, .int .u64 0, .int .i64 4, .int .i64 ((mrk i : Nat) : Int)] ∧ Hid (RFit R2 ∧ Rep A1 R2 ∧ Kp P w w8 ∧ (∀ k, F1 k → k < m) ∧ Has w8 (some ⟨m, 0, none⟩) 2 (keyB i) ∧ ∃ lv2 av2 xa2, xa2 = (nox H D.xa ++ if on then [H] else []) ∧ MS9 w8 P wb { D with F := F1, B := B1, A := A1, zs := headZ D.zs (A1.place x k) (A1.gen x k), G := G2, Q := Q2, R := R2, tv := tv2, xt := D.xt ++ [H], lv := lv2, xl := D.xl ++ [H], av := av2, xa := xa2 } hot warm lsb vs Y)) by
      obtain ⟨r1, r2, hK70, hFm, hmm, hHas0, lv2, hM70⟩ := hE.out
      have hK7 := hK70.step hfW (by simp)
      have hHas := hHas0.keptP (F := fun _ => False) (Kp.of hfW) (fun _ _ h => h)
      have hM7 := hM70.kept0 hfW
      refine (mset_65 hM7.ms.mbx hM7.ms.arow (by show D.xa.length ≤ _; omega) H on).mono ?_
      rintro y w8 ⟨rfl, hK8, av2, g1, g2, g3⟩
      obtain ⟨hM8, hK9⟩ := hM7.stepM (hPw _ hK7.size) hK8 g1 g2 g3
      refine ⟨rfl, hM8.ms.box.cell 5, hM8.ms.box.cell 0, hK8.box (hbX.kept hfW (by simp)) (by show ¬ m + 1 = D.mb; omega), r1, r2, hK7.trans hK9 (fun _ h => h) (fun k hk => .inl hk), hFm, hHas.keptP hK8 (fun k hk e => ?_), lv2, av2, _, rfl, hM8⟩
      simp at hk
      have e2 : k = D.mb := e
      omega)
    have h91 := fun (on : Bool) (hon : on = decide (mrk i % 2 = 1)) (W8 w8 : World) (hfW : W8.grownBy w8 none) (m : Nat) (F1 : Nat → Prop) (B1 : Bl) (G2 : Nat → Prop) (Q2 : Rl) (R2 : Rb) (tv2 : Value) (hbX : Box W8 137 (m + 1) #[.slice (some ⟨m, 0, none⟩) 2 2, .slice none 0 0, .int .u64 0, .int .i64 0, .int .i64 0, .int .u64 0, .int .i64 4, .int .i64 ((mrk i : Nat) : Int)]) (hE : Hid (RFit R2 ∧ Rep A1 R2 ∧ Kp P w W8 ∧ (∀ k, F1 k → k < m) ∧ Has W8 (some ⟨m, 0, none⟩) 2 (keyB i) ∧ ∃ lv2 av2 xa2, xa2 = (nox H D.xa ++ if on then [H] else []) ∧ MS9 W8 P wb { D with F := F1, B := B1, A := A1, zs := headZ D.zs (A1.place x k) (A1.gen x k), G := G2, Q := Q2, R := R2, tv := tv2, xt := D.xt ++ [H], lv := lv2, xl := D.xl ++ [H], av := av2, xa := xa2 } hot warm lsb vs Y)) => (show Calls Tryz.prog 91 #[.pointer (some ⟨D.sb, 0, none⟩), .int .u64 H, .agg #[.slice (some ⟨m, 0, none⟩) 2 2, .slice none 0 0, .int .u64 0, .int .i64 0, .int .i64 0, .int .u64 0, .int .i64 4, .int .i64 ((mrk i : Nat) : Int)]] w8 (fun y w9 => y = .returned (.int .i64 0) ∧ w9.cell? ⟨wb, 0, none⟩ = some (.pointer (some ⟨D.sb, 0, none⟩)) ∧ Box w9 137 (m + 1) #[.slice (some ⟨m, 0, none⟩) 2 2, .slice none 0 0, .int .u64 0, .int .i64 0, .int .i64 0, .int .u64 0, .int .i64 4, .int .i64 ((mrk i : Nat) : Int)] ∧ Hid (Kp P w w9 ∧ GS w9 P wb (N + 1) hot warm D0)) by
      obtain ⟨r1, r2, hK80, hFm, f30, lv2, av2, xa2, hxa2, hM80⟩ := hE.out
      have hK8 := hK80.step hfW (by simp)
      have f3 := f30.keptP (F := fun _ => False) (Kp.of hfW) (fun _ _ h => h)
      have hM8 := hM80.kept0 hfW
      have hbX8 := hbX.kept hfW (by simp)
      have hag := hFm _ hM8.ms.iss.fa.2
      dsimp only at hag
      have hlo := hI1.lo _ (hI1.on x hT.good.hp)
      have hly := lay_yes hM8.ms.iss hI1.fit hT.good (some ⟨m, 0, none⟩) 2 2 none 0 0 0 0 0 0 4 ((mrk i : Nat) : Int) (keyB i) [] f3 ⟨rfl, fun h => absurd h (by omega)⟩ (keyB_ok i).1 (by intro z hz; simp at hz) (by intro x hx; simp at hx; show x ≠ B1.ag; omega) (by intro x hx; simp at hx) (keyB_ok i).2 (by show _ ≤ A1.sz (A1.own x); omega) ⟨by omega, by omega, by omega, by omega, by omega⟩ (by omega) ((A1.gen x k : Nat) : Int) (lies_gen (headZ_lies D.zs (A1.place x k) (A1.gen x k) (by omega)))
      refine hly.mono ?_
      rintro y w9 ⟨rfl, hS9, hf9⟩
      have hK9 : Kp F1 w8 w9 := (Kp.refl _ _).step hf9 (fun j hj => .inl (by simp at hj; exact hj ▸ hM8.ms.iss.fa.2))
      obtain ⟨hM9, hK10⟩ := hM8.stepS (hPw _ hK8.size) hK9 hS9 (fun k hk => .inl hk)
      have hTl : (newTg i (A1.gen x k) (A1.own x)).L.flatten.length = 60 := by rw [It.len]; rfl
      have hXt := hX.takes (F' := F1) (G' := G2) (B' := B1) (Q' := Q2) (tv' := tv2) (xt' := D.xt ++ [H]) hI1 hT r1 r2 (by omega)
      have hXl := hXt.lays (lv' := lv2) (av' := av2) (xa' := xa2) (i := i) (H := H) (x := x) (k := k) hT.good hHn hH0 (by show A1.place x k + 60 ≤ (headZ D.zs (A1.place x k) (A1.gen x k)).length; rw [hzl1]; omega)
      refine ⟨rfl, hM9.ms.box.cell 0, hK9.box hbX8 (fun hh => by have := hFm _ hh; omega), hK8.trans hK10 (fun _ h => h) (fun k hk => .inl hk), { D with F := F1, B := B1, A := A1, zs := lay (headZ D.zs (A1.place x k) (A1.gen x k)) (A1.place x k) (newTg i (A1.gen x k) (A1.own x)).L.flatten, G := G2, Q := Q2, R := R2, tv := tv2, xt := D.xt ++ [H], lv := lv2, xl := D.xl ++ [H], av := av2, xa := xa2 }, lsb, vs, Y, ⟨S.X, upf S.ma H (mrk i)⟩, _, hs, hM9, ⟨_, _, _, _, hXl⟩, ⟨hW.dm.ys, fun G hG => ?_⟩, ⟨by omega, ?_, ?_, ?_⟩, fun G hG => ?_, fun G hG => ?_, ?_, ?_, hTb⟩
      · show G ∈ xa2 ↔ upf S.ma H (mrk i) G % 2 = 1
        have hG2 : G ∈ D.xl ++ [H] := hG
        rw [hxa2, nox_mem]
        by_cases e : G = H
        · subst e
          rw [if_pos rfl, upf_same, hon]
          simp
        · rw [if_neg e, upf_ne _ _ e]
          exact hW.dm.ac G (by simpa [e] using hG2)
      · show (D.xt ++ [H]).length ≤ _; rw [List.length_append]; simp; omega
      · show (D.xl ++ [H]).length ≤ _; rw [List.length_append]; simp; omega
      · show xa2.length ≤ _
        have := nox_len (H := H) (xa := D.xa) (on := on)
        rw [hxa2]
        omega
      · have hG2 : G ∈ D.xl ++ [H] := hG
        show G ∈ D.xt ++ [H]
        rcases List.mem_append.1 hG2 with h1 | h1
        · exact List.mem_append_left _ (hW.sub G h1)
        · exact List.mem_append_right _ h1
      · have hG2 : G ∈ D.xl ++ [H] := hG
        show upf S.ma H (mrk i) G / 2 = mrk (lst (D.xt ++ [H]) G 0) / 2
        by_cases e : G = H
        · subst e
          rw [upf_same, lst_snoc, Nat.zero_add, hi]
        · have hG3 : G ∈ D.xl := by simpa [e] using hG2
          rw [upf_ne _ _ e, lst_other _ _ _ _ e (hW.sub G hG3)]
          exact hW.hdr G hG3
      · show (lay (headZ D.zs (A1.place x k) (A1.gen x k)) (A1.place x k) (newTg i (A1.gen x k) (A1.own x)).L.flatten).length = _
        rw [length_lay (by rw [hTl, hzl1]; omega), hzl1]
        exact hW.zl
      · exact List.nodup_append.2 ⟨hW.nd, by simp, fun a ha b hb => by
          simp at hb
          subst hb
          exact fun e => hHn (e ▸ ha)⟩)
    have u0 := hM0.ms.box.cell 0
    have u2 := hb0.cell 2
    simp at u0 u2
    clear hTS hTR hpl
    have hod : IntKind.i64.wrap (((mrk i : Nat) : Int).tmod 2) = ((mrk i % 2 : Nat) : Int) := by rw [Int.tmod_eq_emod_of_nonneg (by omega), IntKind.wrap_i64]; omega
    have hi2 : (i : Int) < 300 := by omega
    have HXX : Hid (i = D.xt.length ∧ D.tv = .slice at0 i ct0) := ⟨hi.symm, htv⟩
    by_cases hd : d0 = 2
    · -- bare
      subst hd
      clear h90 h65 h91 hmk hM hW hX hM0 hI1 hT hkin hs hzl1 hroom hHn hTb hFl hGl htl htv hi
      go_enter Tryz.func49, Tryz.ntmps49
      go_wp2_with (first | (go_at_call 28; go_must (refine (hwi _).mono ?_); rintro y w' ⟨rfl, rfl⟩) | (go_at_call 26; go_must (refine (num_any _ _).mono ?_); rintro y w' ⟨rfl, rfl⟩) | (go_at_call 88; go_must (refine h88.mono ?_); rintro y w1 ⟨rfl, c2, hb1, F1, B1, hE1⟩) | (go_at_call 89; go_must (with_reducible refine (h89 _ _ _ hE1 hb1).mono ?_); rintro y w2 ⟨rfl, c4, hb2, G2, Q2, R2, hE2⟩; (have hrow := hE2.out.2.2.2.ms.trow); (dsimp only at hrow); rw [← HXX.out.1, HXX.out.2] at hrow; (have ca : ∀ o, (w2.alloc o).cell? ⟨wb, 6, none⟩ = some (.slice at0 i ct0) := fun o => gb_cellN (World.grownBy_alloc w2 o none) c4)) | (at_builtin; go_must (refine push26 rfl _ _ rfl 0 (.slice at0 i ct0) i (uvs D.xt) (by rfl) hrow (H : Int) (by rfl) (by omega) (Nat.zero_le _) ?_); intro g1 cap1 w4 ho4 hg4 hat4; obtain ⟨e4, z4, hb5, hE5⟩ := hTold _ _ _ _ _ _ hE2 hb2 _ _ _ ho4 hg4 hat4; (have q0 := hb5.cell 0); simp at q0) | fail)
      go_ret
      exact ⟨rfl, hBare _ _ _ _ _ _ _ hE5⟩
    · have hd2 : (d0 == 2) = false := by simpa using hd
      clear hBare hM hW hX hM0 hI1 hT hkin hs hzl1 hroom hHn hTb hFl hGl htl htv hi
      go_enter Tryz.func49, Tryz.ntmps49
      go_wp2_with (first | (go_at_call 28; go_must (refine (hwi _).mono ?_); rintro y w' ⟨rfl, rfl⟩) | (go_at_call 26; go_must (refine (num_any _ _).mono ?_); rintro y w' ⟨rfl, rfl⟩) | (go_at_call 88; go_must (refine h88.mono ?_); rintro y w1 ⟨rfl, c2, hb1, F1, B1, hE1⟩) | (go_at_call 89; go_must (with_reducible refine (h89 _ _ _ hE1 hb1).mono ?_); rintro y w2 ⟨rfl, c4, hb2, G2, Q2, R2, hE2⟩; (have hrow := hE2.out.2.2.2.ms.trow); (dsimp only at hrow); rw [← HXX.out.1, HXX.out.2] at hrow; (have ca : ∀ o, (w2.alloc o).cell? ⟨wb, 6, none⟩ = some (.slice at0 i ct0) := fun o => gb_cellN (World.grownBy_alloc w2 o none) c4)) | (at_builtin; go_must (refine push26 rfl _ _ rfl 0 (.slice at0 i ct0) i (uvs D.xt) (by rfl) hrow (H : Int) (by rfl) (by omega) (Nat.zero_le _) ?_); intro g1 cap1 w4 ho4 hg4 hat4; obtain ⟨e4, z4, hb5, hE5⟩ := hTold _ _ _ _ _ _ hE2 hb2 _ _ _ ho4 hg4 hat4; (have q0 := hb5.cell 0); simp at q0; (have u0 := hE5.out.2.2.2.ms.box.cell 0); (have u4 := hE5.out.2.2.2.ms.box.cell 4); (have u5 := hE5.out.2.2.2.ms.box.cell 5); (have u6 := hE5.out.2.2.2.ms.box.cell 6); simp at u0 u4 u5 u6; (have hsz : (w4.setCell ⟨wb, 6, none⟩ (.slice (some ⟨g1, 0, none⟩) (i + 1) cap1)).heap.size = w4.heap.size := by simp); (have hMl := (hE5.out.2.2.2.kept0 (lits8_facts _ _ i hsz).1).ms.box.cell 4); simp [lits8] at hMl; (have h90' := h90 _ _ hsz _ _ _ _ _ _ hE5); unfold lits8 at h90') | (go_at_call 90; go_must (with_reducible refine h90'.mono ?_); rintro y w7 ⟨rfl, v5, hb7, hE7⟩) | (go_at_call 44; go_must (refine (hmk _).mono ?_); rintro y w' ⟨rfl, rfl⟩) | fail)
      have h7d : w7.grownBy w7.drew none := gb_drew (gb_refl _ _)
      have c7 := gb_cellN h7d v5
      have h65' := fun on => h65 on _ _ h7d _ _ _ _ _ _ _ hb7 hE7
      clear h88 h89 h90 hTold h65 hMl h90'
      go_region_held3 (fun W => W.cell? ⟨wb, 5, none⟩ = some (.pointer (some ⟨D.mb, 0, none⟩))) ((first | with_reducible exact v8 | with_reducible exact c7 | go_keep)) ((first | (go_at_call 44; with_reducible refine (hmk _).mono ?_; rintro y w' ⟨rfl, rfl⟩) | (go_at_call 65; with_reducible refine (h65' _).mono ?_; rintro y w8 ⟨rfl, v8, v0, hb8, hE8⟩)))
      have hCC : ∀ W, W.cell? ⟨wb, 0, none⟩ = some (.pointer (some ⟨D.sb, 0, none⟩)) → Box W 137 (w4.heap.size + 1) #[.slice (some ⟨w4.heap.size, 0, none⟩) 2 2, .slice none 0 0, .int .u64 0, .int .i64 0, .int .i64 0, .int .u64 0, .int .i64 4, .int .i64 ((mrk i : Nat) : Int)] → (W.cell? ⟨wb, 0, none⟩ = some (.pointer (some ⟨D.sb, 0, none⟩)) ∧ W.cell? ⟨w4.heap.size + 1, 0, none⟩ = some (.slice (some ⟨w4.heap.size, 0, none⟩) 2 2) ∧ W.cell? ⟨w4.heap.size + 1, 1, none⟩ = some (.slice none 0 0) ∧ W.cell? ⟨w4.heap.size + 1, 2, none⟩ = some (.int .u64 0) ∧ W.cell? ⟨w4.heap.size + 1, 3, none⟩ = some (.int .i64 0) ∧ W.cell? ⟨w4.heap.size + 1, 4, none⟩ = some (.int .i64 0) ∧ W.cell? ⟨w4.heap.size + 1, 5, none⟩ = some (.int .u64 0) ∧ W.cell? ⟨w4.heap.size + 1, 6, none⟩ = some (.int .i64 4) ∧ W.cell? ⟨w4.heap.size + 1, 7, none⟩ = some (.int .i64 ((mrk i : Nat) : Int))) := fun W h0 hb => ⟨h0, hb.cell 0, hb.cell 1, hb.cell 2, hb.cell 3, hb.cell 4, hb.cell 5, hb.cell 6, hb.cell 7⟩
      have h8d : w8.grownBy w8.drew none := gb_drew (gb_refl _ _)
      have hC8 := hCC w8.drew (gb_cellN h8d v0) (hb8.kept h8d (by simp))
      have h91' := fun hon => h91 _ hon _ _ h8d _ _ _ _ _ _ _ hb8 hE8
      have h91' := h91' (by rw [Int.tmod_eq_emod_of_nonneg (by omega), Bool.eq_iff_iff, beq_iff_eq, decide_eq_true_iff]; omega)
      clear h91 h65' hmk
      go_wp2
      go_region_held3 (fun W => W.cell? ⟨wb, 0, none⟩ = some (.pointer (some ⟨D.sb, 0, none⟩)) ∧ W.cell? ⟨w4.heap.size + 1, 0, none⟩ = some (.slice (some ⟨w4.heap.size, 0, none⟩) 2 2) ∧ W.cell? ⟨w4.heap.size + 1, 1, none⟩ = some (.slice none 0 0) ∧ W.cell? ⟨w4.heap.size + 1, 2, none⟩ = some (.int .u64 0) ∧ W.cell? ⟨w4.heap.size + 1, 3, none⟩ = some (.int .i64 0) ∧ W.cell? ⟨w4.heap.size + 1, 4, none⟩ = some (.int .i64 0) ∧ W.cell? ⟨w4.heap.size + 1, 5, none⟩ = some (.int .u64 0) ∧ W.cell? ⟨w4.heap.size + 1, 6, none⟩ = some (.int .i64 4) ∧ W.cell? ⟨w4.heap.size + 1, 7, none⟩ = some (.int .i64 ((mrk i : Nat) : Int))) ((first | with_reducible exact hCC _ v9 hb9 | with_reducible exact hC8 | go_keep)) ((first | (go_at_call 91; with_reducible refine h91'.mono ?_; rintro y w9 ⟨rfl, v9, hb9, hE9⟩) | (go_at_call 26; with_reducible refine (num_any _ _).mono ?_; rintro y w' ⟨rfl, rfl⟩)))
      go_wp2
      go_ret
      exact ⟨rfl, hE9.out⟩
end
end Go.Proofs.YtohneboimmcocaaGreat
