import Derived.Test.YtjkdflnnpdionaaGreatNf
import Derived.Deep.RegionHeld3
/-
  makes, of any class.
-/
namespace Go.Proofs.YtjkdflnnpdionaaGreat
open Go.RowKit
set_option linter.unusedVariables false

/-- A call of a script. -/
structure Opv where
  d : Int
  a : Int
  b : Int
  c : Int
  h : Nat
  r : Bool
def Opv.cs (o : Opv) : Array Value := #[.int .i64 o.d, .int .i64 o.a, .int .i64 o.b, .int .i64 o.c, .int .u64 o.h, .bool o.r]
/-- What makes has turned. -/
structure Mk (D D' : Wd) : Prop where
  same : SameP D D'
  ex : (D'.xt = D.xt ∧ D'.xl = D.xl ∧ D'.A = D.A) ∨ ∃ H c x k, D'.xt = D.xt ++ [H] ∧ Takes D.A D'.A c H x k ∧ (D'.xl = D.xl ∨ D'.xl = D.xl ++ [H])
section
variable {w : World} {P : Nat → Prop} {wb N : Nat} {D : Wd} {lsb : Nat} {vs : Nat → Value} {Y : Nat → List Nat} {cl : Nat → Nat} {S : Lm}
set_option maxRecDepth 100000 in
set_option maxHeartbeats 4000000 in
theorem makes_22 (hW : GW w P wb N D lsb vs Y S cl) (hP : ∀ k, w.heap.size ≤ k → P k) (hN : N < 255) (o : Opv) :
    Calls Tryz.prog 22 #[.pointer (some ⟨wb, 0, none⟩), .agg o.cs] w fun y w' => y = .returned (.bool true) ∧ Kp P w w' ∧ ∃ D' cl', Mk D D' ∧ GW w' P wb (N + 1) D' lsb vs Y S cl' := by
  have hPw : ∀ W : World, w.heap.size ≤ W.heap.size → ∀ k, W.heap.size ≤ k → P k := fun W hW k hk => hP k (Nat.le_trans hW hk)
  obtain ⟨bs, p, n, s, hX⟩ := hW.gx
  have hM := hW.ms
  have hN1 := hW.nN
  obtain ⟨ci, hci⟩ : ∃ ci : Nat, o.b % 3 = (ci : Int) := ⟨(o.b % 3).toNat, by omega⟩
  have hc3 : ci < 3 := by omega
  have hal := World.grownBy_alloc w (.cells o.cs 28) none
  have hb0 := Box.new w 28 o.cs
  have hM0 := hM.kept0 hal
  have hwi := fun W => within_any o.b 3 (by omega) (by omega) W
  rw [hci] at hwi
  unfold Opv.cs at *
  obtain ⟨d0, a0, b0, c0v, h0v, r0⟩ := o
  dsimp only at *
  rcases take2_any hX.inv ci (by rw [hX.n3]; exact hc3) with ⟨hTS, hTR⟩ | ⟨A1, H, x, k, hI1, hT, hTS, hTR⟩
  · -- no room
    have h69 := (hTS _ D.sb D.F D.B 4 200 64 256 0 0 D.zs hM0.ms.iss).mono (R' := fun y w1 => y = .returned (.tuple #[.int .u64 0, .int .i64 21]) ∧ w1.cell? ⟨wb, 2, none⟩ = some (.pointer (some ⟨D.rb, 0, none⟩)) ∧ w.grownBy w1 none) (by
      rintro y w1 ⟨rfl, hf⟩
      exact ⟨rfl, (hM0.kept0 hf).ms.box.cell 2, gb_trans hal hf⟩)
    have h70 := fun W (hf : w.grownBy W none) => (hTR W D.rb D.G D.Q 200 64 256 D.R (hM.kept0 hf).ms.isr hX.rf hX.rep)
    have u0 := hM0.ms.box.cell 0
    have u2 := hb0.cell 2
    simp at u0 u2
    have hfin := fun W (hf : w.grownBy W none) => (show Kp P w W ∧ ∃ D' cl', Mk D D' ∧ GW W P wb (N + 1) D' lsb vs Y S cl' from ⟨Kp.of hf, D, cl, ⟨same_refl D, .inl ⟨rfl, rfl, rfl⟩⟩, (hW.kept0 hf).more (by omega) (by omega)⟩)
    clear hTS hTR hM hW hX hM0 hb0
    go_enter Tryz.func22, Tryz.ntmps22
    go_wp2_with (first | (go_at_call 18; go_must (refine (hwi _).mono ?_); rintro y w' ⟨rfl, rfl⟩) | (go_at_call 16; go_must (refine (num_any _ _).mono ?_); rintro y w' ⟨rfl, rfl⟩) | (go_at_call 69; go_must (refine h69.mono ?_); rintro y w1 ⟨rfl, c3, hf1⟩) | (go_at_call 70; go_must (refine (h70 _ hf1).mono ?_); rintro y w2 ⟨rfl, hf2⟩) | fail)
    go_ret
    exact ⟨rfl, hfin _ (gb_trans hf1 hf2)⟩
  · -- a chunk is taken
    obtain ⟨i, hi⟩ : ∃ i, D.xt.length = i := ⟨_, rfl⟩
    have hi3 : i < 255 := by omega
    have hkin := hT.kin
    have hH0 : ¬ H = 0 := fun e => by
      have h1 := (hT.good.parts hI1.fit).1
      have h2 := (num_lt hI1.fit.toFit1 hT.good.hp hT.good.hk).2.1
      rw [e] at h1
      omega
    have hHn : H ∉ D.xl := fun hm => by
      obtain ⟨y, l, hY, _⟩ := hX.its H hm
      exact hT.not y l hY
    have hTb : ∀ G, G ∈ D.xt ++ [H] → G < 18446744073709551616 := fun G hG => by
      rcases List.mem_append.1 hG with h1 | h1
      · exact hW.tb G h1
      · simp at h1
        rw [h1]
        exact (hT.good.parts hI1.fit).2.2
    have hFl := hM.ms.iss.lt
    have hGl := hM.ms.isr.lt
    have hwl := hM.ms.box.lt
    have htl := row_lt hM.ms.trow
    have htrow := hM.ms.trow
    rw [hi] at htrow
    obtain ⟨at0, ct0, htv, _, ht2, ht3, _⟩ := row_shape htrow
    have hroom : A1.place x k + 64 ≤ D.zs.length := by
      obtain ⟨p1, p2, p3⟩ := place_div hI1.fit.toFit1 hT.good.hp hT.good.hk
      have h1 := hI1.lo _ (hI1.on x hT.good.hp)
      have h2 := hI1.nm
      have h3 := hT.good.hp
      have h4 : (x + 1) * A1.ps ≤ 4 * 4096 := Nat.mul_le_mul (by rw [hkin.m, hX.m] at h2; omega) (by rw [hkin.ps, hX.ps]; omega)
      have h5 := hW.zl
      omega
    have hzl1 : (headZ D.zs (A1.place x k) (A1.gen x k)).length = D.zs.length := by rw [headZ_lay _ _ _ (by omega), length_lay (by rw [hd0_len]; omega)]
    have h69 := (hTS _ D.sb D.F D.B 4 200 64 256 0 0 D.zs hM0.ms.iss).mono (R' := fun y w1 => y = .returned (.tuple #[.int .u64 H, .int .i64 0]) ∧ w1.cell? ⟨wb, 2, none⟩ = some (.pointer (some ⟨D.rb, 0, none⟩)) ∧ Box w1 28 w.heap.size #[.int .i64 d0, .int .i64 a0, .int .i64 b0, .int .i64 c0v, .int .u64 h0v, .bool r0] ∧ ∃ F1 B1, Hid (Kp P w w1 ∧ MS9 w1 P wb { D with F := F1, B := B1, A := A1, zs := headZ D.zs (A1.place x k) (A1.gen x k) } lsb vs Y)) (by
      rintro y w1 ⟨rfl, hK, F1, B1, hS, hF'⟩
      obtain ⟨hM1, hK1⟩ := hM0.stepS (hPw _ hal.size) hK hS hF'
      refine ⟨rfl, hM1.ms.box.cell 2, hK.box hb0 (fun hF => by have := hFl _ hF; omega), F1, B1, (Kp.of hal).trans hK1 (fun _ h => h) (fun k hk => .inl hk), hM1⟩)
    have h70 := fun (w1 : World) (F1 : Nat → Prop) (B1 : Bl) (hE : Hid (Kp P w w1 ∧ MS9 w1 P wb { D with F := F1, B := B1, A := A1, zs := headZ D.zs (A1.place x k) (A1.gen x k) } lsb vs Y)) (hb1 : Box w1 28 w.heap.size #[.int .i64 d0, .int .i64 a0, .int .i64 b0, .int .i64 c0v, .int .u64 h0v, .bool r0]) => (hTR w1 D.rb D.G D.Q 200 64 256 D.R hE.out.2.ms.isr hX.rf hX.rep).mono (R' := fun y w2 => y = .returned (.tuple #[.int .u64 H, .int .i64 0]) ∧ w2.cell? ⟨wb, 4, none⟩ = some (.slice at0 i ct0) ∧ Box w2 28 w.heap.size #[.int .i64 d0, .int .i64 a0, .int .i64 b0, .int .i64 c0v, .int .u64 h0v, .bool r0] ∧ ∃ G2 Q2 R2, Hid (RFit R2 ∧ Rep A1 R2 ∧ Kp P w w2 ∧ MS9 w2 P wb { D with F := F1, B := B1, A := A1, zs := headZ D.zs (A1.place x k) (A1.gen x k), G := G2, Q := Q2, R := R2 } lsb vs Y)) (by
      rintro y w2 ⟨rfl, hK, G2, Q2, R2, hS, hR2, hrep2, hG'⟩
      obtain ⟨hM2, hK2⟩ := hE.out.2.stepR (hPw _ hE.out.1.size) hK hS hG'
      refine ⟨rfl, htv ▸ hM2.ms.box.cell 4, hK.box hb1 (fun hF => by have := hGl _ hF; omega), G2, Q2, R2, hR2, hrep2, hE.out.1.trans hK2 (fun _ h => h) (fun k hk => .inl hk), hM2⟩)
    have hTold := fun (w2 : World) (F1 : Nat → Prop) (B1 : Bl) (G2 : Nat → Prop) (Q2 : Rl) (R2 : Rb) (hE : Hid (RFit R2 ∧ Rep A1 R2 ∧ Kp P w w2 ∧ MS9 w2 P wb { D with F := F1, B := B1, A := A1, zs := headZ D.zs (A1.place x k) (A1.gen x k), G := G2, Q := Q2, R := R2 } lsb vs Y)) (hb2 : Box w2 28 w.heap.size #[.int .i64 d0, .int .i64 a0, .int .i64 b0, .int .i64 c0v, .int .u64 h0v, .bool r0]) (g1 cap1 : Nat) (w4 : World) (ho4 : World.ownsRow w4 0 26 1 (.slice (some ⟨g1, 0, none⟩) (i + 1) cap1) (i + 1) (uvs D.xt ++ [.int .u64 (H : Int)])) (hg4 : w2.grownBy w4 (Value.slice at0 i ct0).ownBlock) (hat4 : (Value.slice at0 i ct0).ownBlock = some g1 ∨ w2.heap.size ≤ g1) => (show w4.cell? ⟨wb, 4, none⟩ = some (.slice at0 i ct0) ∧ w4.frozen? ⟨wb, 4, none⟩ = false ∧ Box (w4.setCell ⟨wb, 4, none⟩ (.slice (some ⟨g1, 0, none⟩) (i + 1) cap1)) 28 w.heap.size #[.int .i64 d0, .int .i64 a0, .int .i64 b0, .int .i64 c0v, .int .u64 h0v, .bool r0] ∧ Hid (RFit R2 ∧ Rep A1 R2 ∧ Kp P w (w4.setCell ⟨wb, 4, none⟩ (.slice (some ⟨g1, 0, none⟩) (i + 1) cap1)) ∧ MS9 (w4.setCell ⟨wb, 4, none⟩ (.slice (some ⟨g1, 0, none⟩) (i + 1) cap1)) P wb { D with F := F1, B := B1, A := A1, zs := headZ D.zs (A1.place x k) (A1.gen x k), G := G2, Q := Q2, R := R2, tv := .slice (some ⟨g1, 0, none⟩) (i + 1) cap1, xt := D.xt ++ [H] } lsb vs Y) by
      rw [← htv] at hg4 hat4
      have hT := hE.out.2.2.2.stepT (hPw _ hE.out.2.2.1.size) hg4 (tv' := .slice (some ⟨g1, 0, none⟩) (i + 1) cap1) (xt' := D.xt ++ [H]) (by rw [List.length_append, hi, uvs_app]; exact ho4) (fun k hk => by simp [Value.ownBlock] at hk; subst hk; exact hat4)
      obtain ⟨hT1, hT2, hT3, hT4⟩ := hT
      refine ⟨htv ▸ hT2.cell 4, hT2.fz 4, hT4.box hb2 ?_, hE.out.1, hE.out.2.1, hE.out.2.2.1.trans hT3 (fun _ h => h) (fun k hk => .inl hk), hT1⟩
      rintro (e | e)
      · omega
      · have := htl _ e; omega)
    have hBare := fun (w5 : World) (F1 : Nat → Prop) (B1 : Bl) (G2 : Nat → Prop) (Q2 : Rl) (R2 : Rb) (tv2 : Value) (hE : Hid (RFit R2 ∧ Rep A1 R2 ∧ Kp P w w5 ∧ MS9 w5 P wb { D with F := F1, B := B1, A := A1, zs := headZ D.zs (A1.place x k) (A1.gen x k), G := G2, Q := Q2, R := R2, tv := tv2, xt := D.xt ++ [H] } lsb vs Y)) => (show Kp P w w5 ∧ ∃ D' cl', Mk D D' ∧ GW w5 P wb (N + 1) D' lsb vs Y S cl' by
      obtain ⟨r1, r2, k5, m5⟩ := hE.out
      refine ⟨k5, { D with F := F1, B := B1, A := A1, zs := headZ D.zs (A1.place x k) (A1.gen x k), G := G2, Q := Q2, R := R2, tv := tv2, xt := D.xt ++ [H] }, cl, ⟨same_refl D, .inr ⟨H, ci, x, k, rfl, hT, .inl rfl⟩⟩, m5, ⟨bs, p, n, s, hX.takes hI1 hT r1 r2 (by omega)⟩, ⟨by omega, ?_, ?_⟩, fun G hG => List.mem_append_left _ (hW.sub G hG), hzl1.trans hW.zl, hW.nd, hTb⟩
      · show (D.xt ++ [H]).length ≤ _; rw [List.length_append]; simp; omega
      · show D.xl.length ≤ _; omega)
    have h71 := fun (w5 : World) (m : Nat) (hm : w5.heap.size = m) (F1 : Nat → Prop) (B1 : Bl) (G2 : Nat → Prop) (Q2 : Rl) (R2 : Rb) (tv2 : Value) (hE : Hid (RFit R2 ∧ Rep A1 R2 ∧ Kp P w w5 ∧ MS9 w5 P wb { D with F := F1, B := B1, A := A1, zs := headZ D.zs (A1.place x k) (A1.gen x k), G := G2, Q := Q2, R := R2, tv := tv2, xt := D.xt ++ [H] } lsb vs Y)) => (show Calls Tryz.prog 71 #[.pointer (some ⟨D.lb, 0, none⟩), .int .u64 H] (lits w5 m i) (fun y W7 => y = .returned (.tuple #[]) ∧ W7.cell? ⟨wb, 0, none⟩ = some (.pointer (some ⟨D.sb, 0, none⟩)) ∧ Box W7 129 (m + 1 + 1) #[.slice (some ⟨m, 0, none⟩) 2 2, .slice (some ⟨m + 1, 0, none⟩) 1 1, .int .u64 ((i : Int) + 1), .int .i64 ((i : Int) + 1), .int .i64 0, .int .u64 ((i : Int) + 1), .int .i64 4, .int .i64 (((i : Int) + 1) % 16)] ∧ Hid (RFit R2 ∧ Rep A1 R2 ∧ Kp P w W7 ∧ (∀ k, F1 k → k < m) ∧ Has W7 (some ⟨m, 0, none⟩) 2 (keyB i) ∧ Has W7 (some ⟨m + 1, 0, none⟩) 1 [(i : Int) + 1] ∧ ∃ lv2, MS9 W7 P wb { D with F := F1, B := B1, A := A1, zs := headZ D.zs (A1.place x k) (A1.gen x k), G := G2, Q := Q2, R := R2, tv := tv2, xt := D.xt ++ [H], lv := lv2, xl := D.xl ++ [H] } lsb vs Y)) by
      obtain ⟨r1, r2, hK5, hM5⟩ := hE.out
      obtain ⟨f1, f2, f3, f4⟩ := lits_facts w5 m i hm
      have hM6 := hM5.kept0 f1
      have l1 := row_lt hM5.ms.lrow
      have l2 := hM5.ms.lbx.lt
      have hnb : ∀ k, m ≤ k → ¬ (k = D.lb ∨ D.lv.ownBlock = some k) := fun k hk => by
        rintro (rfl | e)
        · exact absurd l2 (by show ¬ D.lb < _; omega)
        · have := l1 k e; omega
      have hlr := hM6.ms.lrow
      dsimp only at hlr
      refine (rlay_new hM6.ms.lbx hlr (by omega) (H := H) hHn).mono ?_
      rintro y w7 ⟨rfl, hK7, lv2, g1, g2, g3⟩
      have g2' : w7.ownsRow 0 26 1 lv2 (D.xl ++ [H]).length (uvs (D.xl ++ [H])) := by rw [List.length_append]; exact g2
      obtain ⟨hM7, hK8⟩ := hM6.stepL (hPw _ (Nat.le_trans hK5.size f1.size)) hK7 g1 g2' g3
      exact ⟨rfl, hM7.ms.box.cell 0, hK7.box f2 (hnb _ (by omega)), r1, r2, (hK5.step f1 (by simp)).trans hK8 (fun _ h => h) (fun k hk => .inl hk), fun k hk => by rw [← hm]; exact hM5.ms.iss.lt k hk, f3.keptP hK7 (fun k hk => hnb k (by simp at hk; omega)), f4.keptP hK7 (fun k hk => hnb k (by simp at hk; omega)), lv2, hM7⟩)
    have h72 := fun (W7 w8 : World) (hfW : W7.grownBy w8 none) (m : Nat) (F1 : Nat → Prop) (B1 : Bl) (G2 : Nat → Prop) (Q2 : Rl) (R2 : Rb) (tv2 : Value) (hbX : Box W7 129 (m + 1 + 1) #[.slice (some ⟨m, 0, none⟩) 2 2, .slice (some ⟨m + 1, 0, none⟩) 1 1, .int .u64 ((i : Int) + 1), .int .i64 ((i : Int) + 1), .int .i64 0, .int .u64 ((i : Int) + 1), .int .i64 4, .int .i64 (((i : Int) + 1) % 16)]) (hE : Hid (RFit R2 ∧ Rep A1 R2 ∧ Kp P w W7 ∧ (∀ k, F1 k → k < m) ∧ Has W7 (some ⟨m, 0, none⟩) 2 (keyB i) ∧ Has W7 (some ⟨m + 1, 0, none⟩) 1 [(i : Int) + 1] ∧ ∃ lv2, MS9 W7 P wb { D with F := F1, B := B1, A := A1, zs := headZ D.zs (A1.place x k) (A1.gen x k), G := G2, Q := Q2, R := R2, tv := tv2, xt := D.xt ++ [H], lv := lv2, xl := D.xl ++ [H] } lsb vs Y)) => (show Calls Tryz.prog 72 #[.pointer (some ⟨D.sb, 0, none⟩), .int .u64 H, .agg #[.slice (some ⟨m, 0, none⟩) 2 2, .slice (some ⟨m + 1, 0, none⟩) 1 1, .int .u64 ((i : Int) + 1), .int .i64 ((i : Int) + 1), .int .i64 0, .int .u64 ((i : Int) + 1), .int .i64 4, .int .i64 (((i : Int) + 1) % 16)]] w8 (fun y w9 => y = .returned (.int .i64 0) ∧ w9.cell? ⟨wb, 0, none⟩ = some (.pointer (some ⟨D.sb, 0, none⟩)) ∧ Box w9 129 (m + 1 + 1) #[.slice (some ⟨m, 0, none⟩) 2 2, .slice (some ⟨m + 1, 0, none⟩) 1 1, .int .u64 ((i : Int) + 1), .int .i64 ((i : Int) + 1), .int .i64 0, .int .u64 ((i : Int) + 1), .int .i64 4, .int .i64 (((i : Int) + 1) % 16)] ∧ Hid (Kp P w w9 ∧ ∃ D' cl', Mk D D' ∧ GW w9 P wb (N + 1) D' lsb vs Y S cl')) by
      obtain ⟨r1, r2, hK80, hFm, f30, f40, lv2, hM80⟩ := hE.out
      have hK8 := hK80.step hfW (by simp)
      have f3 := f30.keptP (F := fun _ => False) (Kp.of hfW) (fun _ _ h => h)
      have f4 := f40.keptP (F := fun _ => False) (Kp.of hfW) (fun _ _ h => h)
      have hM8 := hM80.kept0 hfW
      have hbX8 := hbX.kept hfW (by simp)
      have hag := hFm _ hM8.ms.iss.fa.2
      dsimp only at hag
      have hlo := hI1.lo _ (hI1.on x hT.good.hp)
      have hly := lay_yes hM8.ms.iss hI1.fit hT.good (some ⟨m, 0, none⟩) 2 2 (some ⟨m + 1, 0, none⟩) 1 1 ((i : Int) + 1) ((i : Int) + 1) 0 ((i : Int) + 1) 4 (((i : Int) + 1) % 16) (keyB i) [(i : Int) + 1] f3 f4 (keyB_ok i).1 (by intro z hz; simp at hz; omega) (by intro x hx; simp at hx; show x ≠ B1.ag; omega) (by intro x hx; simp at hx; show x ≠ B1.ag; omega) (keyB_ok i).2 (by show _ ≤ A1.sz (A1.own x); omega) ⟨by omega, by omega, by omega, by omega, by omega⟩ (by omega) ((A1.gen x k : Nat) : Int) (lies_gen (headZ_lies D.zs (A1.place x k) (A1.gen x k) (by omega)))
      refine hly.mono ?_
      rintro y w9 ⟨rfl, hS9, hf9⟩
      have hK9 : Kp F1 w8 w9 := (Kp.refl _ _).step hf9 (fun j hj => .inl (by simp at hj; exact hj ▸ hM8.ms.iss.fa.2))
      obtain ⟨hM9, hK10⟩ := hM8.stepS (hPw _ hK8.size) hK9 hS9 (fun k hk => .inl hk)
      have hTl : (newTg i (A1.gen x k) (A1.own x)).L.flatten.length = 61 := by rw [It.len]; rfl
      have hXt := hX.takes (F' := F1) (G' := G2) (B' := B1) (Q' := Q2) (tv' := tv2) (xt' := D.xt ++ [H]) hI1 hT r1 r2 (by omega)
      have hXl := hXt.lays (lv' := lv2) (i := i) (H := H) (x := x) (k := k) hi3 hT.good hHn hH0 (by show A1.place x k + 61 ≤ (headZ D.zs (A1.place x k) (A1.gen x k)).length; rw [hzl1]; omega)
      refine ⟨rfl, hM9.ms.box.cell 0, hK9.box hbX8 (fun hh => by have := hFm _ hh; omega), hK8.trans hK10 (fun _ h => h) (fun k hk => .inl hk), { D with F := F1, B := B1, A := A1, zs := lay (headZ D.zs (A1.place x k) (A1.gen x k)) (A1.place x k) (newTg i (A1.gen x k) (A1.own x)).L.flatten, G := G2, Q := Q2, R := R2, tv := tv2, xt := D.xt ++ [H], lv := lv2, xl := D.xl ++ [H] }, _, ⟨same_refl D, .inr ⟨H, ci, x, k, rfl, hT, .inr rfl⟩⟩, hM9, ⟨_, _, _, _, hXl⟩, ⟨by omega, ?_, ?_⟩, fun G hG => ?_, ?_, ?_, hTb⟩
      · show (D.xt ++ [H]).length ≤ _; rw [List.length_append]; simp; omega
      · show (D.xl ++ [H]).length ≤ _; rw [List.length_append]; simp; omega
      · have hG2 : G ∈ D.xl ++ [H] := hG
        show G ∈ D.xt ++ [H]
        rcases List.mem_append.1 hG2 with h1 | h1
        · exact List.mem_append_left _ (hW.sub G h1)
        · exact List.mem_append_right _ h1
      · show (lay (headZ D.zs (A1.place x k) (A1.gen x k)) (A1.place x k) (newTg i (A1.gen x k) (A1.own x)).L.flatten).length = _
        rw [length_lay (by rw [hTl, hzl1]; omega), hzl1]
        exact hW.zl
      · exact List.nodup_append.2 ⟨hW.nd, by simp, fun a ha b hb => by
          simp at hb
          subst hb
          exact fun e => hHn (e ▸ ha)⟩)
    have u0 := hM0.ms.box.cell 0
    have u2 := hb0.cell 2
    simp at u0 u2
    clear hTS hTR
    have hi2 : (i : Int) < 255 := by omega
    have HXX : Hid (i = D.xt.length ∧ D.tv = .slice at0 i ct0) := ⟨hi.symm, htv⟩
    by_cases hd : d0 = 2
    · -- bare
      subst hd
      clear h71 h72 hM hW hX hM0 hI1 hT hkin hzl1 hroom hHn hTb hFl hGl htl htv hi
      go_enter Tryz.func22, Tryz.ntmps22
      go_wp2_with (first | (go_at_call 18; go_must (refine (hwi _).mono ?_); rintro y w' ⟨rfl, rfl⟩) | (go_at_call 16; go_must (refine (num_any _ _).mono ?_); rintro y w' ⟨rfl, rfl⟩) | (go_at_call 69; go_must (refine h69.mono ?_); rintro y w1 ⟨rfl, c2, hb1, F1, B1, hE1⟩) | (go_at_call 70; go_must (with_reducible refine (h70 _ _ _ hE1 hb1).mono ?_); rintro y w2 ⟨rfl, c4, hb2, G2, Q2, R2, hE2⟩; (have hrow := hE2.out.2.2.2.ms.trow); (dsimp only at hrow); rw [← HXX.out.1, HXX.out.2] at hrow; (have ca : ∀ o, (w2.alloc o).cell? ⟨wb, 4, none⟩ = some (.slice at0 i ct0) := fun o => gb_cellN (World.grownBy_alloc w2 o none) c4)) | (at_builtin; go_must (refine push26 rfl _ _ rfl 0 (.slice at0 i ct0) i (uvs D.xt) (by rfl) hrow (H : Int) (by rfl) (by omega) (Nat.zero_le _) ?_); intro g1 cap1 w4 ho4 hg4 hat4; obtain ⟨e4, z4, hb5, hE5⟩ := hTold _ _ _ _ _ _ hE2 hb2 _ _ _ ho4 hg4 hat4; (have q0 := hb5.cell 0); simp at q0) | fail)
      go_ret
      exact ⟨rfl, hBare _ _ _ _ _ _ _ hE5⟩
    · have hd2 : (d0 == 2) = false := by simpa using hd
      clear hBare hM hW hX hM0 hI1 hT hkin hzl1 hroom hHn hTb hFl hGl htl htv hi
      go_enter Tryz.func22, Tryz.ntmps22
      go_wp2_with (first | (go_at_call 18; go_must (refine (hwi _).mono ?_); rintro y w' ⟨rfl, rfl⟩) | (go_at_call 16; go_must (refine (num_any _ _).mono ?_); rintro y w' ⟨rfl, rfl⟩) | (go_at_call 69; go_must (refine h69.mono ?_); rintro y w1 ⟨rfl, c2, hb1, F1, B1, hE1⟩) | (go_at_call 70; go_must (with_reducible refine (h70 _ _ _ hE1 hb1).mono ?_); rintro y w2 ⟨rfl, c4, hb2, G2, Q2, R2, hE2⟩; (have hrow := hE2.out.2.2.2.ms.trow); (dsimp only at hrow); rw [← HXX.out.1, HXX.out.2] at hrow; (have ca : ∀ o, (w2.alloc o).cell? ⟨wb, 4, none⟩ = some (.slice at0 i ct0) := fun o => gb_cellN (World.grownBy_alloc w2 o none) c4)) | (at_builtin; go_must (refine push26 rfl _ _ rfl 0 (.slice at0 i ct0) i (uvs D.xt) (by rfl) hrow (H : Int) (by rfl) (by omega) (Nat.zero_le _) ?_); intro g1 cap1 w4 ho4 hg4 hat4; obtain ⟨e4, z4, hb5, hE5⟩ := hTold _ _ _ _ _ _ hE2 hb2 _ _ _ ho4 hg4 hat4; (have q0 := hb5.cell 0); simp at q0; (have u0 := hE5.out.2.2.2.ms.box.cell 0); (have u3 := hE5.out.2.2.2.ms.box.cell 3); (have u4 := hE5.out.2.2.2.ms.box.cell 4); simp at u0 u3 u4; (have hsz : (w4.setCell ⟨wb, 4, none⟩ (.slice (some ⟨g1, 0, none⟩) (i + 1) cap1)).heap.size = w4.heap.size := by simp); (have hMl := (hE5.out.2.2.2.kept0 (lits_facts _ _ i hsz).1).ms.box.cell 3); simp [lits] at hMl; (have h71' := h71 _ _ hsz _ _ _ _ _ _ hE5); unfold lits at h71') | (go_at_call 71; go_must (with_reducible refine h71'.mono ?_); rintro y w7 ⟨rfl, v0, hb7, hE7⟩) | fail)
      have hCC : ∀ W, W.cell? ⟨wb, 0, none⟩ = some (.pointer (some ⟨D.sb, 0, none⟩)) → Box W 129 (w4.heap.size + 1 + 1) #[.slice (some ⟨w4.heap.size, 0, none⟩) 2 2, .slice (some ⟨w4.heap.size + 1, 0, none⟩) 1 1, .int .u64 ((i : Int) + 1), .int .i64 ((i : Int) + 1), .int .i64 0, .int .u64 ((i : Int) + 1), .int .i64 4, .int .i64 (((i : Int) + 1) % 16)] → (W.cell? ⟨wb, 0, none⟩ = some (.pointer (some ⟨D.sb, 0, none⟩)) ∧ W.cell? ⟨w4.heap.size + 1 + 1, 0, none⟩ = some (.slice (some ⟨w4.heap.size, 0, none⟩) 2 2) ∧ W.cell? ⟨w4.heap.size + 1 + 1, 1, none⟩ = some (.slice (some ⟨w4.heap.size + 1, 0, none⟩) 1 1) ∧ W.cell? ⟨w4.heap.size + 1 + 1, 2, none⟩ = some (.int .u64 ((i : Int) + 1)) ∧ W.cell? ⟨w4.heap.size + 1 + 1, 3, none⟩ = some (.int .i64 ((i : Int) + 1)) ∧ W.cell? ⟨w4.heap.size + 1 + 1, 4, none⟩ = some (.int .i64 0) ∧ W.cell? ⟨w4.heap.size + 1 + 1, 5, none⟩ = some (.int .u64 ((i : Int) + 1)) ∧ W.cell? ⟨w4.heap.size + 1 + 1, 6, none⟩ = some (.int .i64 4) ∧ W.cell? ⟨w4.heap.size + 1 + 1, 7, none⟩ = some (.int .i64 (((i : Int) + 1) % 16))) := fun W h0 hb => ⟨h0, hb.cell 0, hb.cell 1, hb.cell 2, hb.cell 3, hb.cell 4, hb.cell 5, hb.cell 6, hb.cell 7⟩
      have h7d : w7.grownBy w7.drew none := gb_drew (gb_refl _ _)
      have hC7 := hCC w7.drew (gb_cellN h7d v0) (hb7.kept h7d (by simp))
      have h72' := h72 _ _ h7d _ _ _ _ _ _ _ hb7 hE7
      clear h69 h70 h71 h72 hTold h71' hMl
      go_region_held3 (fun W => W.cell? ⟨wb, 0, none⟩ = some (.pointer (some ⟨D.sb, 0, none⟩)) ∧ W.cell? ⟨w4.heap.size + 1 + 1, 0, none⟩ = some (.slice (some ⟨w4.heap.size, 0, none⟩) 2 2) ∧ W.cell? ⟨w4.heap.size + 1 + 1, 1, none⟩ = some (.slice (some ⟨w4.heap.size + 1, 0, none⟩) 1 1) ∧ W.cell? ⟨w4.heap.size + 1 + 1, 2, none⟩ = some (.int .u64 ((i : Int) + 1)) ∧ W.cell? ⟨w4.heap.size + 1 + 1, 3, none⟩ = some (.int .i64 ((i : Int) + 1)) ∧ W.cell? ⟨w4.heap.size + 1 + 1, 4, none⟩ = some (.int .i64 0) ∧ W.cell? ⟨w4.heap.size + 1 + 1, 5, none⟩ = some (.int .u64 ((i : Int) + 1)) ∧ W.cell? ⟨w4.heap.size + 1 + 1, 6, none⟩ = some (.int .i64 4) ∧ W.cell? ⟨w4.heap.size + 1 + 1, 7, none⟩ = some (.int .i64 (((i : Int) + 1) % 16))) ((first | with_reducible exact hCC _ v8 hb8 | with_reducible exact hC7 | go_keep)) ((first | (go_at_call 72; with_reducible refine h72'.mono ?_; rintro y w8 ⟨rfl, v8, hb8, hE8⟩) | (go_at_call 16; with_reducible refine (num_any _ _).mono ?_; rintro y w' ⟨rfl, rfl⟩)))
      go_wp2
      go_ret
      exact ⟨rfl, hE8.out⟩
end
end Go.Proofs.YtjkdflnnpdionaaGreat
