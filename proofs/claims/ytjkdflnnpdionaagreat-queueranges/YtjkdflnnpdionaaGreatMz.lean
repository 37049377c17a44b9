import Derived.Test.YtjkdflnnpdionaaGreatNo
import Derived.Test.YtjkdflnnpdionaaGreatMx
import Derived.Test.YtjkdflnnpdionaaGreatNh
import Derived.Test.YtjkdflnnpdionaaGreatMw
import Derived.ProofKit
import Derived.OpenShut
import Derived.Below
import Derived.Deep.Slices
import Derived.Deep.MidRow
/-
  The World at a script's start; does.
-/
namespace Go.Proofs.YtjkdflnnpdionaaGreat
open Go.RowKit
set_option linter.unusedVariables false

theorem isH_none {H x k : Nat} : ¬ IsH qA H x k := fun h => absurd h.hp (Nat.not_lt_zero _)
theorem gx0 {D : Wd} (hA : D.A = qA) (hR : D.R = qR) (hl : D.xl = []) (hL : D.L = L0) : GX D (fun _ => 0) X0 (fun _ => newT 0) (fun _ => 0) (fun _ => 0) (fun _ => 0) := by
  refine ⟨by rw [hA]; exact q_invA, by rw [hA]; rfl, by rw [hA]; rfl, by rw [hA]; rfl, by rw [hR]; exact qR_fit, by rw [hA, hR]; exact q_rep, fun H hH => by rw [hl] at hH; simp at hH, fun H hH => by rw [hl] at hH; simp at hH, fun H x k h => by rw [hA] at h; exact absurd h isH_none, by rw [hl, hL]; exact li0, fun H hH => by rw [hl] at hH; simp at hH⟩
theorem rl0 {w : World} {lsb : Nat} (h : Box w 45 lsb nil9) : RL w lsb (fun _ => .slice none 0 0) (fun _ => []) :=
  ⟨h, fun j hj => World.ownsRow_nil _ _ _ _, fun j hj => by simp⟩
def D00 (sb qb gl gc : Nat) (F : Nat → Prop) (B : Bl) (zs : List Int) (rb : Nat) (G : Nat → Prop) (Q : Rl) (lb : Nat) (lsv : Value) : Wd :=
  ⟨sb, qb, gl, gc, rb, lb, F, G, B, qA, zs, Q, qR, .slice none 0 0, lsv, .slice none 0 0, [], [], L0⟩
/-- begun. -/
theorem begun_gw (w : World) : Calls Tryz.prog 12 #[] w fun y w' => ∃ wb D lsb, y = .returned (.pointer (some ⟨wb, 0, none⟩)) ∧ w.grownBy w' none ∧ D.xt = [] ∧ D.xl = [] ∧ D.A = qA ∧ GW w' (fun k => w.heap.size ≤ k) wb 0 D lsb (fun _ => .slice none 0 0) (fun _ => []) X0 (fun _ => 0) ∧ Dm (fun _ => []) X0 := by
  refine (begun_any w).mono ?_
  rintro y w' ⟨wb, sb, qb, gl, gc, F, B, zs, rb, G, Q, lb, lsv, rfl, hf, hz, hM, lsb, rfl, hls, hbl, hnl⟩
  refine ⟨wb, D00 sb qb gl gc F B zs rb G Q lb (.slice (some ⟨lsb, 0, none⟩) 9 9), lsb, rfl, hf, rfl, rfl, rfl, ⟨⟨?_, rfl, rl0 hbl, ?_⟩, ⟨_, _, _, _, gx0 rfl rfl rfl rfl⟩, ⟨by omega, by simp [D00], by simp [D00]⟩, fun H hH => by simp [D00] at hH, hz, by simp [D00], fun H hH => by simp [D00] at hH⟩, ⟨fun c k hc hk => rfl⟩⟩
  · obtain ⟨c, h1, h2, h3, h4, h5, h6, h7, h8⟩ := hM.sep.ex
    refine ⟨hM.box, hM.iss, hM.qbx, hM.qrow, hM.isr, hM.lbx, hM.lrow, hM.trow, ⟨c, fun j k hj => ?_⟩⟩
    have hno : (F k ∨ G k ∨ k = wb ∨ k = lb ∨ k = qb ∨ k = gl) → ¬ Rk lsb (fun _ => Value.slice none 0 0) k := by
      rintro hk (rfl | ⟨i, hi, hk2⟩)
      · exact hnl hk
      · simp [Value.ownBlock] at hk2
    match j, hj with
    | 1, hj => exact ⟨(h1 k hj).1, (h1 k hj).2, hno (.inl hj)⟩
    | 2, hj => exact ⟨(h2 k hj).1, (h2 k hj).2, hno (.inr (.inl hj))⟩
    | 3, hj => exact absurd (show (Value.slice none 0 0).ownBlock = some k from hj) (by simp [Value.ownBlock])
    | 4, hj => exact absurd (show (Value.slice none 0 0).ownBlock = some k from hj) (by simp [Value.ownBlock])
    | 5, hj => obtain rfl : k = wb := hj; exact ⟨h5.1, h5.2, hno (.inr (.inr (.inl rfl)))⟩
    | 6, hj => obtain rfl : k = lb := hj; exact ⟨h6.1, h6.2, hno (.inr (.inr (.inr (.inl rfl))))⟩
    | 7, hj => obtain rfl : k = qb := hj; exact ⟨h7.1, h7.2, hno (.inr (.inr (.inr (.inr (.inl rfl)))))⟩
    | 8, hj => obtain rfl : k = gl := hj; exact ⟨h8.1, h8.2, hno (.inr (.inr (.inr (.inr (.inr rfl)))))⟩
    | 0, hj => exact hj.elim
    | j + 9, hj => exact hj.elim
  · rintro k (rfl | ⟨j, hj, hk⟩)
    · exact hls
    · simp [Value.ownBlock] at hk
theorem begun_gs (w : World) : Calls Tryz.prog 12 #[] w fun y w' => ∃ wb E, y = .returned (.pointer (some ⟨wb, 0, none⟩)) ∧ w.grownBy w' none ∧ GS w' (fun k => w.heap.size ≤ k) wb 0 E := by
  refine (begun_gw w).mono ?_
  rintro y w' ⟨wb, D, lsb, rfl, hf, _, _, _, hW, hd⟩
  exact ⟨wb, D, rfl, hf, D, lsb, _, _, _, _, same_refl _, hW, hd⟩

section
variable {w : World} {P : Nat → Prop} {wb N : Nat} {D0 : Wd}
theorem gt_gs {D : Wd} {w' : World} (hs : SameP D0 D) (h : GT w' P wb N D) : GS w' P wb N D0 := h.gs.more hs
theorem GS.up {M : Nat} (h : GS w P wb N D0) (h1 : N ≤ M) (h2 : M ≤ 300) : GS w P wb M D0 := by
  obtain ⟨D, lsb, vs, Y, S, cl, hs, hW, hd⟩ := h
  exact ⟨D, lsb, vs, Y, S, cl, hs, hW.more h1 h2, hd⟩
set_option maxRecDepth 100000 in
set_option maxHeartbeats 4000000 in
theorem does_13 (hG : GS w P wb N D0) (hP : ∀ k, w.heap.size ≤ k → P k) (hN : N < 255) (o : Opv) (hh : o.h < 18446744073709551616) :
    Calls Tryz.prog 13 #[.pointer (some ⟨wb, 0, none⟩), .agg o.cs] w fun y w' => y = .returned (.bool true) ∧ Kp P w w' ∧ GS w' P wb (N + 1) D0 := by
  have hal := World.grownBy_alloc w (.cells o.cs 28) none
  obtain ⟨D, hs, hT⟩ := hG.gt
  have hPw : ∀ W : World, w.heap.size ≤ W.heap.size → ∀ k, W.heap.size ≤ k → P k := fun W hW k hk => hP k (Nat.le_trans hW hk)
  have hkp : ∀ W w', w.grownBy W none → Kp P W w' → Kp P w w' := fun W w' hf hK => (Kp.of hf).trans hK (fun _ h => h) (fun k hk => .inl hk)
  have h22 : ∀ W, w.grownBy W none → Calls Tryz.prog 22 #[.pointer (some ⟨wb, 0, none⟩), .agg o.cs] W fun y w' => y = .returned (.bool true) ∧ Hid (Kp P w w' ∧ GS w' P wb (N + 1) D0) := fun W hf => by
    obtain ⟨lsb, vs, Y, S, cl, hW, hd⟩ := hT.kept0 hf
    refine (makes_22 hW (hPw W hf.size) hN o).mono ?_
    rintro y w' ⟨rfl, hK, D', cl', hm, hW'⟩
    exact ⟨rfl, hkp _ _ hf hK, D', lsb, vs, Y, S, cl', hs.trans hm.same, hW', hd⟩
  have h59 : ∀ W, w.grownBy W none → Calls Tryz.prog 59 #[.pointer (some ⟨wb, 0, none⟩), .agg o.cs] W fun y w' => y = .returned (.bool true) ∧ Hid (Kp P w w' ∧ GS w' P wb (N + 1) D0) := fun W hf => by
    refine (gives_59 (hT.kept0 hf) (hPw W hf.size) (by omega) o hh).mono ?_
    rintro y w' ⟨rfl, hK, hG'⟩
    exact ⟨rfl, hkp _ _ hf hK, hG'.more hs⟩
  have h60 : ∀ W, w.grownBy W none → Calls Tryz.prog 60 #[.pointer (some ⟨wb, 0, none⟩), .agg o.cs] W fun y w' => y = .returned (.bool true) ∧ Hid (Kp P w w' ∧ GS w' P wb (N + 1) D0) := fun W hf => by
    refine (moves_60 (hT.kept0 hf) (hPw W hf.size) (by omega) o hh).mono ?_
    rintro y w' ⟨rfl, hK, er, D', hm, hG'⟩
    exact ⟨rfl, hkp _ _ hf hK, gt_gs (hs.trans hm.same) hG'⟩
  have hfin : ∀ W, w.grownBy W none → Kp P w W ∧ GS W P wb (N + 1) D0 := fun W hf => ⟨Kp.of hf, (hG.kept0 hf).up (by omega) (by omega)⟩
  have h34 : ∀ W, w.grownBy W none → Calls Tryz.prog 34 #[.pointer (some ⟨wb, 0, none⟩), .int .i64 o.a, .int .i64 o.b] W fun y w' => y = .returned (.bool true) ∧ Hid (Kp P w w' ∧ GS w' P wb (N + 1) D0) := fun W hf => by
    refine (looks_34 (hT.kept0 hf) _ _).mono ?_
    rintro y w' ⟨rfl, hf'⟩
    exact ⟨rfl, hfin _ (gb_trans hf hf')⟩
  have h36 : ∀ W, w.grownBy W none → Calls Tryz.prog 36 #[.pointer (some ⟨wb, 0, none⟩), .int .i64 o.a, .int .i64 o.b] W fun y w' => y = .returned (.bool true) ∧ Hid (Kp P w w' ∧ GS w' P wb (N + 1) D0) := fun W hf => by
    refine (all_36 (hT.kept0 hf) _ _).mono ?_
    rintro y w' ⟨rfl, hf'⟩
    exact ⟨rfl, hfin _ (gb_trans hf hf')⟩
  have h30 : ∀ W, w.grownBy W none → Calls Tryz.prog 30 #[.pointer (some ⟨wb, 0, none⟩), .agg o.cs] W fun y w' => ∃ H : Nat, H < 18446744073709551616 ∧ y = .returned (.int .u64 H) ∧ w.grownBy w' none := fun W hf => by
    obtain ⟨H, h64, h⟩ := (hT.kept0 hf).handle o hh
    refine h.mono ?_
    rintro y w' ⟨rfl, hf'⟩
    exact ⟨H, h64, rfl, gb_trans hf hf'⟩
  have h35 : ∀ W (H : Nat), H < 18446744073709551616 → w.grownBy W none → Calls Tryz.prog 35 #[.pointer (some ⟨wb, 0, none⟩), .int .u64 H] W fun y w' => y = .returned (.bool true) ∧ Hid (Kp P w w' ∧ GS w' P wb (N + 1) D0) := fun W H h64 hf => by
    refine (next_35 (hT.kept0 hf) h64).mono ?_
    rintro y w' ⟨rfl, hf'⟩
    exact ⟨rfl, hfin _ (gb_trans hf hf')⟩
  have h61 : ∀ W (H : Nat), H < 18446744073709551616 → w.grownBy W none → Calls Tryz.prog 61 #[.pointer (some ⟨wb, 0, none⟩), .int .u64 H] W fun y w' => y = .returned (.bool true) ∧ Hid (Kp P w w' ∧ GS w' P wb (N + 1) D0) := fun W H h64 hf => by
    refine (header_61 (hT.kept0 hf) h64).mono ?_
    rintro y w' ⟨rfl, hf'⟩
    exact ⟨rfl, hfin _ (gb_trans hf hf')⟩
  clear hG hT hkp hPw
  unfold Opv.cs at *
  obtain ⟨d0, a0, b0, c0v, h0v, r0⟩ := o
  dsimp only at *
  by_cases e1 : d0 = 1
  · subst e1
    clear h59 h60 h34 h36 h30 h35 h61 hfin
    go_enter Tryz.func13, Tryz.ntmps13
    go_wp2_with (first | (go_at_call 22; go_must (refine (h22 _ hal).mono ?_); rintro y w1 ⟨rfl, hE⟩) | fail)
    go_ret
    exact ⟨rfl, hE.out⟩
  by_cases e2 : d0 = 2
  · subst e2
    clear h59 h60 h34 h36 h30 h35 h61 hfin
    go_enter Tryz.func13, Tryz.ntmps13
    go_wp2_with (first | (go_at_call 22; go_must (refine (h22 _ hal).mono ?_); rintro y w1 ⟨rfl, hE⟩) | fail)
    go_ret
    exact ⟨rfl, hE.out⟩
  by_cases e3 : d0 = 3
  · subst e3
    clear h22 h60 h34 h36 h30 h35 h61 hfin
    go_enter Tryz.func13, Tryz.ntmps13
    go_wp2_with (first | (go_at_call 59; go_must (refine (h59 _ hal).mono ?_); rintro y w1 ⟨rfl, hE⟩) | fail)
    go_ret
    exact ⟨rfl, hE.out⟩
  by_cases e4 : d0 = 4 ∨ d0 = 5 ∨ d0 = 6 ∨ d0 = 7
  · clear h22 h59 h34 h36 h30 h35 h61 hfin
    rcases e4 with rfl | rfl | rfl | rfl <;>
    · go_enter Tryz.func13, Tryz.ntmps13
      go_wp2_with (first | (go_at_call 60; go_must (refine (h60 _ hal).mono ?_); rintro y w1 ⟨rfl, hE⟩) | fail)
      go_ret
      exact ⟨rfl, hE.out⟩
  obtain ⟨e4, e5, e6, e7⟩ : ¬ d0 = 4 ∧ ¬ d0 = 5 ∧ ¬ d0 = 6 ∧ ¬ d0 = 7 := by omega
  by_cases e8 : d0 = 8
  · subst e8
    clear h22 h59 h60 h36 h30 h35 h61 hfin
    go_enter Tryz.func13, Tryz.ntmps13
    go_wp2_with (first | (go_at_call 34; go_must (refine (h34 _ hal).mono ?_); rintro y w1 ⟨rfl, hE⟩) | fail)
    go_ret
    exact ⟨rfl, hE.out⟩
  by_cases e9 : d0 = 9
  · subst e9
    clear h22 h59 h60 h34 h36 h61 hfin
    go_enter Tryz.func13, Tryz.ntmps13
    go_wp2_with (first | (go_at_call 30; go_must (refine (h30 _ hal).mono ?_); rintro y w1 ⟨H, h64, rfl, hf1⟩) | (go_at_call 35; go_must (refine (h35 _ _ h64 hf1).mono ?_); rintro y w2 ⟨rfl, hE⟩) | fail)
    go_ret
    exact ⟨rfl, hE.out⟩
  by_cases e10 : d0 = 10
  · subst e10
    clear h22 h59 h60 h34 h30 h35 h61 hfin
    go_enter Tryz.func13, Tryz.ntmps13
    go_wp2_with (first | (go_at_call 36; go_must (refine (h36 _ hal).mono ?_); rintro y w1 ⟨rfl, hE⟩) | fail)
    go_ret
    exact ⟨rfl, hE.out⟩
  by_cases e11 : d0 = 11
  · subst e11
    clear h22 h59 h60 h34 h36 h35 hfin
    go_enter Tryz.func13, Tryz.ntmps13
    go_wp2_with (first | (go_at_call 30; go_must (refine (h30 _ hal).mono ?_); rintro y w1 ⟨H, h64, rfl, hf1⟩) | (go_at_call 61; go_must (refine (h61 _ _ h64 hf1).mono ?_); rintro y w2 ⟨rfl, hE⟩) | fail)
    go_ret
    exact ⟨rfl, hE.out⟩
  have hE := hfin _ hal
  clear h22 h59 h60 h34 h36 h30 h35 h61 hfin
  go_enter Tryz.func13, Tryz.ntmps13
  go_wp2
  go_ret
  exact ⟨rfl, hE⟩
end
end Go.Proofs.YtjkdflnnpdionaaGreat
/-
  ends: all the law looks at behind a script.
-/
namespace Go.Proofs.YtjkdflnnpdionaaGreat
open Go.RowKit
set_option linter.unusedVariables false

section
variable {w : World} {P : Nat → Prop} {wb N : Nat} {D0 : Wd}
theorem told_row {g cc : Nat} {xt : List Nat} (h : w.ownsRow 0 26 1 (.slice (some ⟨g, 0, none⟩) xt.length cc) xt.length (uvs xt)) {i H : Nat} (hi : xt[i]? = some H) : w.cell? ⟨g, i, none⟩ = some (.int .u64 H) := row_cell h i (.int .u64 (H : Nat)) (uvs_get hi)
set_option maxRecDepth 100000 in
set_option maxHeartbeats 4000000 in
theorem ends_15 (hG : GS w P wb N D0) :
    Calls Tryz.prog 15 #[.pointer (some ⟨wb, 0, none⟩)] w fun y w' => y = .returned (.bool true) ∧ w.grownBy w' none := by
  obtain ⟨D, hs, hT⟩ := hG.gt
  have h34 : ∀ W (c k : Int), w.grownBy W none → Calls Tryz.prog 34 #[.pointer (some ⟨wb, 0, none⟩), .int .i64 c, .int .i64 k] W fun y w' => y = .returned (.bool true) ∧ w.grownBy w' none := fun W c k hf => by
    refine (looks_34 (hT.kept0 hf) _ _).mono ?_
    rintro y w' ⟨rfl, hf'⟩
    exact ⟨rfl, gb_trans hf hf'⟩
  have h36 : ∀ W (c k : Int), w.grownBy W none → Calls Tryz.prog 36 #[.pointer (some ⟨wb, 0, none⟩), .int .i64 c, .int .i64 k] W fun y w' => y = .returned (.bool true) ∧ w.grownBy w' none := fun W c k hf => by
    refine (all_36 (hT.kept0 hf) _ _).mono ?_
    rintro y w' ⟨rfl, hf'⟩
    exact ⟨rfl, gb_trans hf hf'⟩
  have h35 : ∀ W (H : Nat), H < 18446744073709551616 → w.grownBy W none → Calls Tryz.prog 35 #[.pointer (some ⟨wb, 0, none⟩), .int .u64 H] W fun y w' => y = .returned (.bool true) ∧ w.grownBy w' none := fun W H h64 hf => by
    refine (next_35 (hT.kept0 hf) h64).mono ?_
    rintro y w' ⟨rfl, hf'⟩
    exact ⟨rfl, gb_trans hf hf'⟩
  have h61 : ∀ W (H : Nat), H < 18446744073709551616 → w.grownBy W none → Calls Tryz.prog 61 #[.pointer (some ⟨wb, 0, none⟩), .int .u64 H] W fun y w' => y = .returned (.bool true) ∧ w.grownBy w' none := fun W H h64 hf => by
    refine (header_61 (hT.kept0 hf) h64).mono ?_
    rintro y w' ⟨rfl, hf'⟩
    exact ⟨rfl, gb_trans hf hf'⟩
  obtain ⟨lsb, vs, Y, S, cl, hW, hd⟩ := hT
  obtain ⟨ao, cc, htv, _, _, _, hao⟩ := row_shape hW.ms.ms.trow
  have c4 : ∀ W, w.grownBy W none → W.cell? ⟨wb, 4, none⟩ = some (.slice ao D.xt.length cc) := fun W hf => by
    have := (hW.ms.ms.box.kept hf (by simp)).cell 4
    rw [htv] at this
    exact this
  have hrow : ∀ W, w.grownBy W none → W.ownsRow 0 26 1 (.slice ao D.xt.length cc) D.xt.length (uvs D.xt) := fun W hf => by
    have := (hW.ms.kept0 hf).ms.trow
    rw [htv] at this
    exact this
  have hx64 := hW.tb
  have hx3 := hW.nN
  generalize D.xt = xt at *
  have hxl : xt.length ≤ 300 := by omega
  clear hW hd htv hx3 hG hs
  go_enter Tryz.func15, Tryz.ntmps15
  go_wp2
  go_loopw [3] (fun cv wr => ∃ c : Int, -1 ≤ c ∧ c ≤ 4 ∧ cv = .int .i64 c ∧ w.grownBy wr none) (fun cv _ => (4 - intOf cv).toNat)
  case atStart => exact ⟨-1, by omega, by omega, rfl, gb_refl _ _⟩
  case round =>
    obtain ⟨c, hc1, hc2, rfl, hg⟩ := hrel
    by_cases hc : c ≤ 3
    · have e1 : decide (c ≤ 3) = true := decide_eq_true hc
      have e2 : IntKind.i64.wrap (c + 1) = c + 1 := by rw [IntKind.wrap_i64]; omega
      go_wp2
      go_loopw [4] (fun kv wq => ∃ k : Int, 0 ≤ k ∧ k ≤ 5 ∧ kv = .int .i64 k ∧ w.grownBy wq none) (fun kv _ => (5 - intOf kv).toNat)
      case atStart => exact ⟨0, by omega, by omega, rfl, hg⟩
      case round =>
        obtain ⟨k, hk1, hk2, rfl, hgk⟩ := hrel
        by_cases hk : k ≤ 4
        · have e3 : decide (k ≤ 4) = true := decide_eq_true hk
          have e4 : IntKind.i64.wrap (k + 1) = k + 1 := by rw [IntKind.wrap_i64]; omega
          go_wp2_with (first | (go_at_call 34; go_must (refine (h34 _ _ _ hgk).mono ?_); rintro y w1 ⟨rfl, hf1⟩) | (go_at_call 36; go_must (refine (h36 _ _ _ hf1).mono ?_); rintro y w2 ⟨rfl, hf2⟩) | fail)
          exact ⟨⟨k + 1, by omega, by omega, rfl, hf2⟩, by simp [intOf]; omega⟩
        · have e3 : decide (k ≤ 4) = false := decide_eq_false hk
          go_wp2
          exact ⟨⟨c + 1, by omega, by omega, rfl, hgk⟩, by simp [intOf]; omega⟩
    · have e1 : decide (c ≤ 3) = false := decide_eq_false hc
      go_wp2
      go_loopw [5] (fun iv wq => ∃ i : Nat, i ≤ xt.length ∧ iv = .int .i64 i ∧ w.grownBy wq none) (fun iv _ => xt.length - (intOf iv).toNat)
      case atStart => exact ⟨0, by omega, rfl, hg⟩
      case round =>
        obtain ⟨i, hi, rfl, hgi⟩ := hrel
        have k4 := c4 _ hgi
        by_cases hlt : i < xt.length
        · obtain ⟨H, hH⟩ : ∃ H, xt[i] = H := ⟨_, rfl⟩
          have hget : xt[i]? = some H := by rw [List.getElem?_eq_getElem hlt, hH]
          have h64 := hx64 H (by rw [← hH]; exact List.getElem_mem hlt)
          obtain ⟨g, rfl⟩ := hao (by omega)
          have e5 : decide ((i : Int) < xt.length) = true := decide_eq_true (by omega)
          have e6 : (i : Int) < xt.length := by omega
          have e7 : ¬ (i : Int) < 0 := by omega
          have e8 : IntKind.i64.wrap ((i : Int) + 1) = (i : Int) + 1 := by rw [IntKind.wrap_i64]; omega
          have t4 := told_row (hrow _ hgi) hget
          go_wp2_with (first | (go_at_call 35; go_must (refine (h35 _ _ h64 hgi).mono ?_); rintro y w1 ⟨rfl, hf1⟩; (have k5 := c4 _ hf1); (have t5 := told_row (hrow _ hf1) hget)) | (go_at_call 61; go_must (refine (h61 _ _ h64 hf1).mono ?_); rintro y w2 ⟨rfl, hf2⟩) | fail)
          exact ⟨⟨i + 1, by omega, by go_num, hf2⟩, by simp [intOf]; omega⟩
        · have e5 : decide ((i : Int) < xt.length) = false := decide_eq_false (by omega)
          have e6 : ¬ (i : Int) < xt.length := by omega
          go_wp2
          go_ret
          exact ⟨rfl, hgi⟩
end
end Go.Proofs.YtjkdflnnpdionaaGreat
/-
  Scripts that came in; QueueExact.
-/
namespace Go.Proofs.YtjkdflnnpdionaaGreat
open Go.ChangeShapes Go.WideShapes Go.ChangeAt Go.RowKit
set_option linter.unusedVariables false

def isI (n : Int) : Prop := -9223372036854775808 ≤ n ∧ n < 9223372036854775808
section
variable {H : Type} {enc : TypeId × Value → H} {P : Program} {w : World} {base : Nat} {spare : Nat → Bool} {held : Bool}

theorem one_of {cs : List Value} {o : Nat} {v : Value} (h : (cs.drop o).take 1 = [v]) : cs[o]? = some v := by
  have : ((cs.drop o).take 1)[0]? = some v := by rw [h]; rfl
  simpa using this

theorem field_int {fs : Array Field} {f : Field} {k : IntKind} {t : TypeId} {fuel : Nat} {cs : List Value} {x : DataW H × List MemPlace} (i : Nat) (ht : P.underlying t = some (.struct fs)) (h : DataW.trod enc P w base spare held fuel t cs = some x)
    (hf : fs[i]? = some f) (hk : P.underlying f.type = some (.int k)) (hc : P.cellsOf f.type = 1) : ∃ n, cs[f.offset]? = some (.int k n) ∧ (Lit.int k n).wf = true := by
  obtain ⟨xs, n, _, rfl, hl, hlen, hff⟩ := DataW.trod_struct ht h
  have := hff i f hf
  have hi : i < xs.length := by rw [hlen]; exact (Array.getElem?_eq_some_iff.1 hf).1
  rw [List.getElem?_eq_getElem hi] at this
  obtain ⟨m, h1, _, h3⟩ := DataW.trod_int hk this
  rw [hc] at h1
  exact ⟨m, one_of h1, h3⟩

theorem field_bool {fs : Array Field} {f : Field} {t : TypeId} {fuel : Nat} {cs : List Value} {x : DataW H × List MemPlace} (i : Nat) (ht : P.underlying t = some (.struct fs)) (h : DataW.trod enc P w base spare held fuel t cs = some x)
    (hf : fs[i]? = some f) (hk : P.underlying f.type = some .bool) (hc : P.cellsOf f.type = 1) : ∃ b, cs[f.offset]? = some (.bool b) := by
  obtain ⟨xs, n, _, rfl, hl, hlen, hff⟩ := DataW.trod_struct ht h
  have := hff i f hf
  have hi : i < xs.length := by rw [hlen]; exact (Array.getElem?_eq_some_iff.1 hf).1
  rw [List.getElem?_eq_getElem hi] at this
  obtain ⟨m, h1, _⟩ := DataW.trod_bool hk this
  rw [hc] at h1
  exact ⟨m, one_of h1⟩
end


theorem bounds_i64 {n : Int} (h : (Lit.int .i64 n).wf = true) : isI n := by
  simp [Lit.wf, IntKind.min, IntKind.max, IntKind.bits, IntKind.signed] at h
  unfold isI; omega
theorem plain_of {a : Addr} {w : World} {v : Value} (h : w.cell? (a.add 0) = some v) : ∃ b o, a = ⟨b, o, none⟩ := by
  have := World.cell?_spot h
  obtain ⟨b, o, s⟩ := a
  refine ⟨b, o, ?_⟩
  simp [Addr.add] at this
  rw [this]

def isU (n : Int) : Prop := 0 ≤ n ∧ n < 18446744073709551616
theorem bounds_u64 {n : Int} (h : (Lit.int .u64 n).wf = true) : isU n := by
  simp [Lit.wf, IntKind.min, IntKind.max, IntKind.bits, IntKind.signed] at h
  unfold isU; omega
/-- A slice of Ops0 that came in. -/
def Ops0In (w : World) (a : Option Addr) (n : Nat) : Prop :=
  ∀ i, i < n → ∃ b o, a = some ⟨b, o, none⟩ ∧ ∃ (x0 : Int) (x1 : Int) (x2 : Int) (x3 : Int) (x4 : Int) (x5 : Bool), w.cell? ⟨b, o + i * 6, none⟩ = some (.int .i64 x0) ∧ w.cell? ⟨b, o + i * 6 + 1, none⟩ = some (.int .i64 x1) ∧ w.cell? ⟨b, o + i * 6 + 2, none⟩ = some (.int .i64 x2) ∧ w.cell? ⟨b, o + i * 6 + 3, none⟩ = some (.int .i64 x3) ∧ w.cell? ⟨b, o + i * 6 + 4, none⟩ = some (.int .u64 x4) ∧ w.cell? ⟨b, o + i * 6 + 5, none⟩ = some (.bool x5) ∧ isI x0 ∧ isI x1 ∧ isI x2 ∧ isI x3 ∧ isU x4
theorem cells_28 : Tryz.prog.cellsOf 28 = 6 := by kernel_rfl

set_option maxRecDepth 100000 in
theorem open_Ops0 {H : Type} {enc : TypeId × Value → H} {w : World} {base : Nat} {spare : Nat → Bool} {held : Bool} {r : Reach} {b0 : Nat} {v : Value} {d : DataW H} {p : List MemPlace}
    (hv : Value.okWide Tryz.prog w r b0 22 v) (h : DataW.Trod enc Tryz.prog w base spare held 22 v d p) :
    ∃ a n c, v = .slice a n c ∧ n ≤ maxLen ∧ Ops0In w a n := by
  obtain ⟨a, n, c, rfl⟩ := okWide_slice Tryz.underlying22 hv
  obtain ⟨fuel, hf⟩ := h
  have hf' : DataW.trod enc Tryz.prog w base spare held fuel 22 [.slice a n c] = some (d, p) := by simpa [Value.cells] using hf
  refine ⟨a, n, c, rfl, ?_⟩
  rcases Deep.open_slice Tryz.underlying22 hf' with ⟨hcs, _⟩ | ⟨a', len, cap, m, k, D, Pl, hcs, hb, hl, hm, hmm, _, hel⟩
  · simp only [List.cons.injEq, Value.slice.injEq, and_true] at hcs
    obtain ⟨rfl, rfl, rfl⟩ := hcs
    exact ⟨by unfold maxLen; omega, fun i hi => by omega⟩
  · simp only [List.cons.injEq, Value.slice.injEq, and_true] at hcs
    obtain ⟨rfl, rfl, rfl⟩ := hcs
    have all : ∀ i, i < n → ∃ (x0 : Int) (x1 : Int) (x2 : Int) (x3 : Int) (x4 : Int) (x5 : Bool), w.cell? ((a'.add (i * 6)).add 0) = some (.int .i64 x0) ∧ w.cell? ((a'.add (i * 6)).add 1) = some (.int .i64 x1) ∧ w.cell? ((a'.add (i * 6)).add 2) = some (.int .i64 x2) ∧ w.cell? ((a'.add (i * 6)).add 3) = some (.int .i64 x3) ∧ w.cell? ((a'.add (i * 6)).add 4) = some (.int .u64 x4) ∧ w.cell? ((a'.add (i * 6)).add 5) = some (.bool x5) ∧ isI x0 ∧ isI x1 ∧ isI x2 ∧ isI x3 ∧ isU x4 := by
      intro i hi
      obtain ⟨cs', hc, ht⟩ := hel i (by rw [hmm]; split <;> omega)
      rw [cells_28] at hc
      obtain ⟨x0, e0, w0⟩ := field_int 0 Tryz.underlying28 ht rfl Tryz.underlying3 (by kernel_rfl)
      obtain ⟨x1, e1, w1⟩ := field_int 1 Tryz.underlying28 ht rfl Tryz.underlying3 (by kernel_rfl)
      obtain ⟨x2, e2, w2⟩ := field_int 2 Tryz.underlying28 ht rfl Tryz.underlying3 (by kernel_rfl)
      obtain ⟨x3, e3, w3⟩ := field_int 3 Tryz.underlying28 ht rfl Tryz.underlying3 (by kernel_rfl)
      obtain ⟨x4, e4, w4⟩ := field_int 4 Tryz.underlying28 ht rfl Tryz.underlying26 (by kernel_rfl)
      obtain ⟨x5, e5⟩ := field_bool 5 Tryz.underlying28 ht rfl Tryz.underlying4 (by kernel_rfl)
      have hcell := World.cells?_some hc
      have g0 := hcell.2.2 0 (by omega)
      have g1 := hcell.2.2 1 (by omega)
      have g2 := hcell.2.2 2 (by omega)
      have g3 := hcell.2.2 3 (by omega)
      have g4 := hcell.2.2 4 (by omega)
      have g5 := hcell.2.2 5 (by omega)
      exact ⟨x0, x1, x2, x3, x4, x5, g0.trans e0, g1.trans e1, g2.trans e2, g3.trans e3, g4.trans e4, g5.trans e5, bounds_i64 w0, bounds_i64 w1, bounds_i64 w2, bounds_i64 w3, bounds_u64 w4⟩
    refine ⟨by omega, fun i hi => ?_⟩
    obtain ⟨b, o, rfl⟩ : ∃ b o, a' = ⟨b, o, none⟩ := by
      obtain ⟨_, _, _, _, _, _, g0, _⟩ := all 0 (by omega)
      rw [Deep.add_add, Nat.zero_mul] at g0
      exact plain_of g0
    obtain ⟨x0, x1, x2, x3, x4, x5, g0, g1, g2, g3, g4, g5, hbb⟩ := all i hi
    simp only [Addr.add_mid] at g0 g1 g2 g3 g4 g5
    refine ⟨b, o, rfl, x0, x1, x2, x3, x4, x5, ?_, ?_, ?_, ?_, ?_, ?_, hbb⟩
    · simpa using g0
    · simpa [Nat.add_assoc] using g1
    · simpa [Nat.add_assoc] using g2
    · simpa [Nat.add_assoc] using g3
    · simpa [Nat.add_assoc] using g4
    · simpa [Nat.add_assoc] using g5

/-- A script in memory. -/
def OpsIn (w : World) (a : Option Addr) (n : Nat) : Prop :=
  ∀ i, i < n → ∃ b o, a = some ⟨b, o, none⟩ ∧ ∃ v : Opv, v.h < 18446744073709551616 ∧ w.cell? ⟨b, o + i * 6, none⟩ = some (.int .i64 v.d) ∧ w.cell? ⟨b, o + i * 6 + 1, none⟩ = some (.int .i64 v.a) ∧ w.cell? ⟨b, o + i * 6 + 2, none⟩ = some (.int .i64 v.b) ∧ w.cell? ⟨b, o + i * 6 + 3, none⟩ = some (.int .i64 v.c) ∧ w.cell? ⟨b, o + i * 6 + 4, none⟩ = some (.int .u64 v.h) ∧ w.cell? ⟨b, o + i * 6 + 5, none⟩ = some (.bool v.r)
theorem ops_in {w : World} {a : Option Addr} {n : Nat} (h : Ops0In w a n) : OpsIn w a n := fun i hi => by
  obtain ⟨b, o, ha, x0, x1, x2, x3, x4, x5, g0, g1, g2, g3, g4, g5, b0, b1, b2, b3, b4⟩ := h i hi
  obtain ⟨h4, rfl⟩ : ∃ h4 : Nat, x4 = (h4 : Int) := ⟨x4.toNat, by unfold isU at b4; omega⟩
  exact ⟨b, o, ha, ⟨x0, x1, x2, x3, h4, x5⟩, show h4 < _ by unfold isU at b4; omega, g0, g1, g2, g3, g4, g5⟩
theorem OpsIn.kept0 {w w' : World} {a : Option Addr} {n : Nat} (h : OpsIn w a n) (hf : w.grownBy w' none) : OpsIn w' a n := fun i hi => by
  obtain ⟨b, o, ha, v, hv, g0, g1, g2, g3, g4, g5⟩ := h i hi
  exact ⟨b, o, ha, v, hv, gb_cellN hf g0, gb_cellN hf g1, gb_cellN hf g2, gb_cellN hf g3, gb_cellN hf g4, gb_cellN hf g5⟩


set_option maxRecDepth 100000 in
set_option maxHeartbeats 4000000 in
theorem queueExact_any {w : World} {a : Option Addr} {n c : Nat} (hO : OpsIn w a n) (hn : n ≤ maxLen) :
    Calls Tryz.prog 3 #[.slice a n c] w fun y w' => y = .returned (.bool true) ∧ w.grownBy w' none := by
  have hbg := (begun_gs w).mono (R' := fun y w1 => ∃ wb E, y = .returned (.pointer (some ⟨wb, 0, none⟩)) ∧ Hid (w.grownBy w1 none ∧ GS w1 (fun k => w.heap.size ≤ k) wb 0 E)) (by
    rintro y w1 ⟨wb, E, rfl, hf, hG⟩
    exact ⟨wb, E, rfl, hf, hG⟩)
  have hml : (n : Int) ≤ 9223372036854775807 := by unfold maxLen at hn; omega
  clear hn
  go_enter Tryz.func3, Tryz.ntmps3
  go_wp2_with (first | (go_at_call 12; go_must (refine hbg.mono ?_); rintro y w1 ⟨wb, E, rfl, hE⟩) | fail)
  go_loopw [4] (fun iv wr => ∃ j : Nat, j ≤ 250 ∧ iv = .int .i64 j ∧ Hid (w.grownBy wr none ∧ GS wr (fun k => w.heap.size ≤ k) wb j E)) (fun iv _ => 250 - (intOf iv).toNat)
  case atStart => exact ⟨0, by omega, rfl, hE⟩
  case round =>
    obtain ⟨j, hj, rfl, hEj⟩ := hrel
    by_cases hlt : j < n ∧ j < 250
    · obtain ⟨b, o, ha, v, hv, g0, g1, g2, g3, g4, g5⟩ := (hO.kept0 hEj.out.1) j hlt.1
      subst ha
      have hd1 : decide ((j : Int) < n) = true := decide_eq_true (by omega)
      have hd2 : decide ((j : Int) < 250) = true := decide_eq_true (by omega)
      have hl1 : (j : Int) < n := by omega
      have hl2 : (j : Int) < 250 := by omega
      have h13 := (does_13 hEj.out.2 (fun k hk => Nat.le_trans hEj.out.1.size hk) (by omega) v hv).mono (R' := fun y w2 => y = .returned (.bool true) ∧ Hid (w.grownBy w2 none ∧ GS w2 (fun k => w.heap.size ≤ k) wb (j + 1) E)) (by
        rintro y w2 ⟨rfl, hK, hG⟩
        exact ⟨rfl, kp_grown hEj.out.1 hK, hG⟩)
      unfold Opv.cs at h13
      obtain ⟨d0, a0, b0, c0v, h0v, r0⟩ := v
      dsimp only at *
      clear hO hEj hE hbg
      go_wp2_with (first | (go_at_call 13; go_must (refine h13.mono ?_); rintro y w2 ⟨rfl, hE2⟩) | fail)
      exact ⟨⟨j + 1, by omega, by go_num, hE2⟩, by simp [intOf]; omega⟩
    · have h15 := ends_15 hEj.out.2
      have hgr : Hid (w.grownBy wr none) := hEj.out.1
      have hwk := fun W => wakes_any W
      clear hO hEj hE hbg
      by_cases h1 : j < n
      · have hj2 : j = 250 := by omega
        subst hj2
        have hd1 : decide (((250 : Nat) : Int) < n) = true := decide_eq_true (by omega)
        have hl1 : (250 : Int) < n := by omega
        go_wp2_with (first | (go_at_call 14; go_must (refine (qnew_nil _).mono ?_); rintro y w3 ⟨rfl, rfl⟩) | (go_at_call 15; go_must (refine h15.mono ?_); rintro y w4 ⟨rfl, hf4⟩) | (go_at_call 16; go_must (refine (num_any _ _).mono ?_); rintro y w' ⟨rfl, rfl⟩) | (go_at_call 17; go_must (refine (hwk _).mono ?_); rintro y w5 ⟨rfl, hf5⟩) | fail)
        go_ret
        exact ⟨rfl, gb_trans hgr.out (gb_trans hf4 hf5)⟩
      · have hd1 : decide ((j : Int) < n) = false := decide_eq_false (by omega)
        have hl1 : ¬ (j : Int) < n := by omega
        go_wp2_with (first | (go_at_call 14; go_must (refine (qnew_nil _).mono ?_); rintro y w3 ⟨rfl, rfl⟩) | (go_at_call 15; go_must (refine h15.mono ?_); rintro y w4 ⟨rfl, hf4⟩) | (go_at_call 16; go_must (refine (num_any _ _).mono ?_); rintro y w' ⟨rfl, rfl⟩) | (go_at_call 17; go_must (refine (hwk _).mono ?_); rintro y w5 ⟨rfl, hf5⟩) | fail)
        go_ret
        exact ⟨rfl, gb_trans hgr.out (gb_trans hf4 hf5)⟩
end Go.Proofs.YtjkdflnnpdionaaGreat
