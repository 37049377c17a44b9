import Derived.Test.YtohneboimmcocaaGreatGc
import Derived.Test.YtohneboimmcocaaGreatOf
/-
  A pair of Balances, the program's told.
-/
namespace Go.Proofs.YtohneboimmcocaaGreat
open Go.RowKit
set_option linter.unusedVariables false

theorem mvs_le (ci hot warm : Nat) : ∀ k (S : Lm), (mvs ci hot warm k S).length ≤ k
  | 0, S => Nat.le_refl _
  | k + 1, S => by
    cases h : nxt8 S ci hot warm with
    | none => rw [mvs, h]; exact Nat.zero_le _
    | some S' => rw [mvs, h]; exact Nat.succ_le_succ (mvs_le ci hot warm k S')
theorem mvs_pot (ci hot warm : Nat) : ∀ n (S : Lm), Dj S.X ci → pot S ci ≤ n → mvs ci hot warm n S = mvs ci hot warm (pot S ci) S
  | 0, S, _, h => by rw [Nat.le_zero.1 h]
  | n + 1, S, hd, h => by
    cases hn : nxt8 S ci hot warm with
    | none =>
      have e1 : mvs ci hot warm (n + 1) S = [] := by rw [mvs, hn]
      rw [e1]
      cases hp : pot S ci with
      | zero => rfl
      | succ k => rw [mvs, hn]
    | some S' =>
      obtain ⟨hd', hp'⟩ := nxt8_pot hd hn
      rw [← hp', mvs, mvs, hn]
      simp only []
      rw [mvs_pot ci hot warm n S' hd' (by omega)]
theorem mvs_min {ci hot warm lb2 lk : Nat} {S : Lm} (hd : Dj S.X ci) (h : (lk = lb2 ∧ lb2 ≤ 2000) ∨ (lk = 2000 ∧ 2000 ≤ lb2)) (ht : 2 * tot S.X ci ≤ 2000) : mvs ci hot warm (min lb2 (2 * tot S.X ci)) S = mvs ci hot warm lk S := by
  have hp := pot_le S ci
  by_cases e : lb2 ≤ 2 * tot S.X ci
  · rw [Nat.min_eq_left e]
    rcases h with ⟨rfl, _⟩ | ⟨rfl, h2⟩
    · rfl
    · rw [mvs_pot ci hot warm lb2 S hd (by omega), mvs_pot ci hot warm 2000 S hd (by omega)]
  · rw [Nat.min_eq_right (by omega), mvs_pot ci hot warm _ S hd hp, mvs_pot ci hot warm lk S hd (by omega)]

section
variable {w : World} {P : Nat → Prop} {wb N : Nat} {hot warm : Nat} {D0 : Wd}
theorem MS9.bw {D : Wd} {lsb : Nat} {vs : Nat → Value} {Y : Nat → List Nat} (h : MS9 w P wb D hot warm lsb vs Y) : ∃ v0 v2 v3 v4 v5 v6, Box w 46 wb #[v0, .pointer (some ⟨D.qb, 0, none⟩), v2, v3, v4, v5, v6] := ⟨_, _, _, _, _, _, h.ms.box⟩
/-- Where the law's own memory lies. -/
theorem GW.js {D : Wd} {lsb : Nat} {vs : Nat → Value} {Y : Nat → List Nat} {S : Lm} {cl : Nat → Nat} (hW : GW w P wb N hot warm D lsb vs Y S cl) {t1 t2 t3 t4 : Nat} (g1 : w.heap.size ≤ t1) (g3 : w.heap.size ≤ t3) (g4 : w.heap.size ≤ t4) (n13 : t1 ≠ t3) (n14 : t1 ≠ t4) (n34 : t3 ≠ t4) (l2 : t2 < w.heap.size) (h2 : ¬ P t2) : JS w.heap.size t1 t2 t3 t4 wb D.xb D.qb D.gl D.F := by
  have hM := hW.ms
  refine ⟨g1, g3, g4, n13, n14, n34, l2, hM.ms.box.lt, hM.ms.iss.lt, hM.ms.gll, hM.ms.xbx.lt, hM.ms.qbx.lt, ?_, ?_⟩
  · rintro (hh | hh)
    · exact h2 (hM.ms.sep.inP (j := 1) hh).1
    · exact h2 (hM.ms.sep.inP (j := 8) hh).1
  · rintro (hh | hh)
    · have := hM.ms.sep.ne (i := 1) (j := 5) (k := wb) hh rfl; omega
    · have := hM.ms.sep.ne (i := 8) (j := 5) (k := wb) hh rfl; omega
set_option maxHeartbeats 1000000 in
theorem pair_balanceL (hG : GS w P wb N hot warm D0) (hP : ∀ k, w.heap.size ≤ k → P k) (hN : N < 300) (hsh : hot ≤ 100) (hsw : warm ≤ 100) (c b : Int) (hb : b < 9223372036854775808) {t1 t2 t3 t4 : Nat} {d0 a0 b0 h0 r0 : Value} {wB : World} (hf : w.grownBy wB none) (g1 : w.heap.size ≤ t1) (g3 : w.heap.size ≤ t3) (g4 : w.heap.size ≤ t4) (n13 : t1 ≠ t3) (n14 : t1 ≠ t4) (n34 : t3 ≠ t4) (l2 : t2 < w.heap.size) (h2 : ¬ P t2)
    (b1 : Box wB 38 t1 #[.slice none 0 0]) (b2 : Box w 25 t2 #[.pointer (some ⟨wb, 0, none⟩)]) (b3 : Box wB 29 t3 #[d0, a0, b0, .int .i64 c, h0, r0]) (b4 : Box wB 4 t4 #[.bool true]) :
    ∃ (xs : List Nat) (B1 : World → Prop), xs.length ≤ 5000 ∧ Calls Tryz.prog 18 #[.pointer (some ⟨D0.xb, 0, none⟩), .int .i64 c, .int .i64 b, .func (.func 19) #[] #[.pointer (some ⟨t1, 0, none⟩), .pointer (some ⟨t2, 0, none⟩), .pointer (some ⟨t3, 0, none⟩), .pointer (some ⟨t4, 0, none⟩)]] wB (fun y w1 => y = .returned (.int .i64 xs.length) ∧ (∃ qb, JB w.heap.size t1 t2 t3 t4 wb qb d0 a0 b0 (.int .i64 c) h0 r0 w1 xs) ∧ B1 w1) ∧
      ∀ w1 w2, B1 w1 → w1.grownBy w2 none → Cells w2 wb D0 ∧ Calls Tryz.prog 21 #[.pointer (some ⟨D0.mb, 0, none⟩), .int .i64 c, .int .i64 (if b > 2000 then 2000 else b)] w2 (fun y w3 => ∃ v, y = .returned v ∧ w3.ownsRow w2.heap.size 27 1 v xs.length (uvs xs) ∧ Kp (fun k => k < w.heap.size) w2 w3 ∧ Kp P w w3 ∧ GS w3 P wb (N + 1) hot warm D0) := by
  obtain ⟨D, lsb, vs, Y, S, cl, hs, hW⟩ := hG
  obtain ⟨bs, p, n, s, hX⟩ := hW.gx
  have hM := hW.ms
  have hN1 := hW.nN
  have hl : D.xl.length ≤ 300 := by omega
  have hlt := hX.lt hl
  have hMB := hM.kept0 hf
  have hx := hMB.ms.xbx
  rw [← hs.2.2.1, ← hs.2.2.2.2.2]
  have dq := fun (W : World) (hf : w.grownBy W none) => (Hlf.refl hW).kept0 hf |>.fin hW hs hP hN (fun _ _ => rfl)
  have hJ0 : ∀ W, wB.grownBy W none → JB w.heap.size t1 t2 t3 t4 wb D.qb d0 a0 b0 (.int .i64 c) h0 r0 W [] := fun W hg => by
    obtain ⟨v0, v2, v3, v4, v5, v6, hw⟩ := (hMB.kept0 hg).bw
    exact ⟨⟨_, b1.kept hg (by simp), World.ownsRow_nil _ _ _ _, fun k hk => by simp [Value.ownBlock] at hk⟩, (b2.kept hf (by simp)).kept hg (by simp), b3.kept hg (by simp), b4.kept hg (by simp), ⟨v0, v2, v3, v4, v5, v6, hw⟩, Nat.le_trans hf.size hg.size⟩
  have hjs := hW.js g1 g3 g4 n13 n14 n34 l2 h2
  have hlsl := hM.rl.blk.lt
  have hmbl := hM.ms.mbx.lt
  by_cases hc : 0 ≤ c ∧ c < 3
  · obtain ⟨ci, rfl⟩ : ∃ ci : Nat, c = (ci : Int) := ⟨c.toNat, by omega⟩
    have hci : ci < 3 := by omega
    have hcn : ci < D.A.n := by rw [hX.n3]; exact hci
    have htot := hlt.ln ci
    obtain ⟨lk, hlk⟩ : ∃ lk : Nat, lk = (min b 2000).toNat := ⟨_, rfl⟩
    have hlk2 : ∀ n : Nat, (n : Int) < (if b > 2000 then 2000 else b) ↔ n < lk := fun n => by split <;> omega
    have hb0 : b < 1 → lk = 0 := fun _ => by omega
    have hml := fun k => mvs_le ci hot warm k S
    refine ⟨mvs ci hot warm lk S, Hlf w P wb D hot warm lsb vs Y cl (bal ci hot warm lk S).2, by have := hml lk; omega, ?_, fun w1 w2 hB hf2 => ?_⟩
    · by_cases hb1 : b < 1
      · rw [hb0 hb1]
        refine (balance_none (all_59 (hX.lq hMB hl) hcn) (by omega) (.inl hb1) _).mono ?_
        rintro y w1 ⟨rfl, hf1⟩
        exact ⟨rfl, ⟨D.qb, hJ0 _ hf1⟩, (Hlf.refl hW).kept0 (gb_trans hf hf1)⟩
      · obtain ⟨lb2, rfl⟩ : ∃ lb2 : Nat, b = (lb2 : Int) := ⟨b.toNat, by omega⟩
        have hbal : bal ci hot warm (min lb2 (2 * tot S.X ci)) S = bal ci hot warm lk S := by
          rw [bal_min ci hot warm (hlt.dj ci) (by omega)]
          congr 1
          omega
        have hmvs : mvs ci hot warm (min lb2 (2 * tot S.X ci)) S = mvs ci hot warm lk S := mvs_min (hlt.dj ci) (by omega) (by omega)
        have hLE : LE wB D.xb D.sb D.qb D.gl D.gc D.F D.B 4 200 64 256 0 0 D.A D.zs D.xl cl S hot warm := ⟨bs, hX.lq hMB hl⟩
        have := balance_18L hLE (hJ0 wB (gb_refl _ _)) (fun k hk => by have := hml k; simp; omega) (lf_ok hcn hjs) hcn hsh hsw (by omega) (links := lb2) (by omega)
        rw [hbal, hmvs] at this
        refine this.mono ?_
        rintro y w1 ⟨rfl, hK, hL, hJ⟩
        obtain ⟨bs2, hQ⟩ := hL.ex
        have hK0 : Kp (fun k => D.F k ∨ k = D.gl) w w1 := (Kp.of hf).trans hK (fun _ h => h) (fun k hk => hk)
        refine ⟨by rw [mvs_len], ⟨D.qb, by simpa using hJ⟩, Hlf.of hW hX hQ hK0⟩
    · have hmd : ∀ G, G ∈ D.xl → (bal ci hot warm lk S).2.ma G / 2 = S.ma G / 2 := fun G _ => bal_ma ci hot warm lk S G
      obtain ⟨hce, ⟨pl, hAt⟩, hIs, hlt2, szb, szc, hD, hfin⟩ := (hB.kept0 hf2).fin hW hs hP hN hmd
      refine ⟨hce, (d_balance hD hW.dm hlt (nx := N) (by omega) (by omega) hci hsh hsw hlk2 (by omega) (cl := cl) (fun k G hG => (hX.li.sub _ _ _ hG).2.2) (pl := pl) hAt).mono ?_⟩
      rintro y w3 ⟨v, rfl, hBs⟩
      obtain ⟨vs3, Y3, av3, xa3, a1, a2, a3, a4, a5, a6⟩ := hBs.ex
      obtain ⟨f1, f2⟩ := hfin w3 vs3 Y3 av3 xa3 hBs.kp a1 a3 a4 a2 (by omega)
      exact ⟨v, rfl, hBs.row, hBs.kp.mono (fun k hk => .inl (by rcases hk with rfl | rfl <;> assumption)), f1, f2⟩
  · refine ⟨[], fun w1 => w.grownBy w1 none, by simp, ?_, fun w1 w2 hB hf2 => ?_⟩
    · refine (balance_none (all_59No (n := 3) hMB.ms.qbx hx (by omega) hc) (by omega) (.inr rfl) _).mono ?_
      rintro y w1 ⟨rfl, hf1⟩
      exact ⟨rfl, ⟨D.qb, hJ0 _ hf1⟩, gb_trans hf hf1⟩
    · obtain ⟨hce, hAt, hIs, hlt2, szb, szc, hD, hfin⟩ := dq w2 (gb_trans hB hf2)
      refine ⟨hce, (d_balanceNo hD hc _).mono ?_⟩
      rintro y w3 ⟨rfl, hf3⟩
      obtain ⟨f1, f2⟩ := Hlf.still (D0 := D0) hW hs hN (gb_trans (gb_trans hB hf2) hf3)
      exact ⟨_, rfl, World.ownsRow_nil _ _ _ _, Kp.of hf3, f1, f2⟩
end
end Go.Proofs.YtohneboimmcocaaGreat
