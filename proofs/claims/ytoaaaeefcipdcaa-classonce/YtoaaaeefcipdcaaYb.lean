import Derived.Test.YtoaaaeefcipdcaaYa
import Derived.Deep.RegionHeld3
import Derived.Deep.CutRange
import Derived.Deep.CutBlock
/-
  ClassOnce: fits.
-/
namespace Go.Proofs.Ytoaaaeefcipdcaa
open Go.RowKit
set_option linter.unusedVariables false

/-- Where fits stands. -/
structure FtS (w : World) (pb H pl : Nat) (te : Int) (W : World) : Prop where
  gr : w.grownBy W none
  b0 : Box W 63 w.heap.size #[.int .u64 0, .int .i64 0, .int .i64 0]
  b1 : Box W 63 pb #[.int .u64 (H : Nat), .int .i64 (pl : Nat), .int .i64 te]
theorem FtS.step {w W W' : World} {pb H pl : Nat} {te : Int} (h : FtS w pb H pl te W) (hf : W.grownBy W' none) : FtS w pb H pl te W' := ⟨gb_trans h.gr hf, h.b0.kept hf (by simp), h.b1.kept hf (by simp)⟩
theorem FtS.drew {w W : World} {pb H pl : Nat} {te : Int} (h : FtS w pb H pl te W) : FtS w pb H pl te W.drew := h.step (gb_drew (gb_refl _ _))

theorem FtS.cc {w W : World} {pb H pl : Nat} {te : Int} (h : FtS w pb H pl te W) : W.cell? ⟨pb, 2, none⟩ = some (.int .i64 te) := h.b1.cell 2

theorem hmod_cond {H pl : Int} (h0 : 0 ≤ H) (h1 : 0 ≤ pl ∧ pl ≤ 1073741824) (h : H % 4294967296 = pl / 8 + 1) : (H.tmod 4294967296 != IntKind.u64.wrap (IntKind.i64.wrap (IntKind.i64.wrap (pl / 8) + 1))) = false := by
  have e1 : IntKind.i64.wrap (pl / 8) = pl / 8 := by rw [IntKind.wrap_i64]; omega
  have e2 : IntKind.i64.wrap (pl / 8 + 1) = pl / 8 + 1 := by rw [IntKind.wrap_i64]; omega
  have e3 : IntKind.u64.wrap (pl / 8 + 1) = pl / 8 + 1 := by rw [IntKind.wrap_u64]; omega
  rw [e1, e2, e3, Int.tmod_eq_emod_of_nonneg h0, h]
  exact bne_self_eq_false _

set_option maxRecDepth 100000 in
set_option maxHeartbeats 8000000 in
theorem fits_24 {w : World} {sb : Nat} {F : Nat → Prop} {B : Bl} {b c d e f g : Int} {A : Ab} {zs : List Int} (h : IsS w sb F B b c d e f g A zs) (hA : Fit2 A) {H p k : Nat} (hH : IsH A H p k)
    {tv ov : Value} {T : List (Nat × Nat × Nat)} {O : List Nat} {B1 B2 : Nat} (hT : w.ownsRow B1 63 3 tv T.length (pcL T)) (hTo : PcOk T) (hTn : ∀ t, t ∈ T → t.1 ≠ H ∧ (t.2.2 ≤ A.place p k ∨ A.place p k + A.sz (A.own p) ≤ t.2.1))
    (hO : w.ownsRow B2 59 1 ov O.length (hdls O)) (hOl : O.length ≤ 1000) (hOn : ∀ x, x ∈ O → x ≠ H) :
    Calls Try.prog 24 #[.pointer (some ⟨sb, 0, none⟩), .int .i64 (A.own p : Nat), .int .u64 (H : Nat), tv, ov] w fun y w' => y = .returned (.tuple #[.agg #[.int .u64 (H : Nat), .int .i64 (A.place p k : Nat), .int .i64 (A.place p k + A.sz (A.own p) : Nat)], .bool true]) ∧ w.grownBy w' none := by
  have hat := fun W (hf : w.grownBy W none) => at_yes (h.kept0 hf) hA hH
  have har := fun W (hf : w.grownBy W none) => arena_39 (h.kept0 hf)
  have hpg := fun W (hf : w.grownBy W none) => pageSize_any B.ab A.ps W (h.kept0 hf).ar.c0
  have how := fun W (hf : w.grownBy W none) => owner_yes (h.kept0 hf) hA.toFit p hH.hp
  have hch := fun W (hf : w.grownBy W none) => chunk_yes (h.kept0 hf) hA.toSzs (A.own p) (hA.on p hH.hp)
  have hof := fun W (hf : w.grownBy W none) => of_yes (h.kept0 hf) hA (x := A.place p k) ⟨hH.hp, hH.hk, rfl⟩ hH.ht
  rw [← hH.hH] at hof
  obtain ⟨hq1, hq2, hq3⟩ := place_div hA.toFit1 hH.hp hH.hk
  obtain ⟨hn1, hn2, hn3⟩ := num_lt hA.toFit1 hH.hp hH.hk
  obtain ⟨hh1, hh2, hh3⟩ := hH.parts hA
  obtain ⟨hl1, hl2⟩ := place_le hA.toFit1 hH.hp hH.hk
  have hs1 := hA.lo _ (hA.on p hH.hp)
  have hs2 := hA.hi _ (hA.on p hH.hp)
  have hps : 4096 ≤ A.ps ∧ A.ps ≤ 1048576 := by
    obtain ⟨j, e1, e2, e3⟩ := hA.pp
    have h1 : (2 : Nat) ^ 12 ≤ 2 ^ j := Nat.pow_le_pow_right (by omega) e2
    have h2 : (2 : Nat) ^ j ≤ 2 ^ 20 := Nat.pow_le_pow_right (by omega) e3
    omega
  have hnm : A.num p k = A.place p k / 8 + 1 := by omega
  have hH0 : 1 ≤ H := by omega
  obtain ⟨a1, c1, rfl, _, _, _, g1⟩ := row_shape hT
  obtain ⟨a2, c2, rfl, _, _, _, g2⟩ := row_shape hO
  have hT' := fun W (hf : w.grownBy W none) (bb : Nat) (e : a1 = some ⟨bb, 0, none⟩) i hi => row3 (w := W) (T := T) (by rw [← e]; exact row_kept hT hf (by simp)) (i := i) hi
  have hO' := fun W (hf : w.grownBy W none) (bb : Nat) (e : a2 = some ⟨bb, 0, none⟩) i (hi : i < O.length) => row_cell (w := W) (B := B2) (e := 59) (s := 1) (g := bb) (n := O.length) (c := c2) (xs := hdls O) (by rw [← e]; exact row_kept hO hf (by simp)) i (.int .u64 ((O.getD i 0 : Nat) : Int)) (by simp [hdls, List.getD_eq_getElem?_getD, List.getElem?_eq_getElem hi])
  have hTi : ∀ i, i < T.length → (T.getD i (0, 0, 0)).1 ≠ H ∧ ((T.getD i (0, 0, 0)).2.2 ≤ A.place p k ∨ A.place p k + A.sz (A.own p) ≤ (T.getD i (0, 0, 0)).2.1) := fun i hi => by
    rw [List.getD_eq_getElem?_getD, List.getElem?_eq_getElem hi]
    exact hTn _ (List.getElem_mem hi)
  have hOi : ∀ i, i < O.length → O.getD i 0 ≠ H := fun i hi => by
    rw [List.getD_eq_getElem?_getD, List.getElem?_eq_getElem hi]
    exact hOn _ (List.getElem_mem hi)
  have hTb := fun i hi => hTo.get (i := i) hi
  have hTl := hTo.1
  clear hTn hOn hT hO hTo hH h hA
  generalize A.num p k = nm at *
  generalize A.gen p k = gn at *
  generalize A.place p k = pl at *
  generalize A.sz (A.own p) = s at *
  generalize A.own p = o at *
  generalize A.ps = ps at *
  generalize B.ab = ab at *
  generalize T.length = nT at *
  generalize O.length = nO at *
  have hal := World.grownBy_alloc w (.cells #[.int .u64 0, .int .i64 0, .int .i64 0] 63) none
  have hb0 := Box.new w 63 #[.int .u64 0, .int .i64 0, .int .i64 0]
  have hal2 := World.grownBy_alloc (w.alloc (.cells #[.int .u64 0, .int .i64 0, .int .i64 0] 63)) (.cells #[.int .u64 0, .int .i64 0, .int .i64 0] 63) none
  have hF0 := gb_trans hal hal2
  have hb0' := hb0.kept hal2 (by simp)
  have hqn : (pl : Int) / (ps : Int) = (p : Int) := by rw [← hq1]; simp
  have hpb : p ≤ 1073741824 := by rw [← hq1]; exact Nat.le_trans (Nat.div_le_self _ _) hl1
  have hwp : wrap64 (p : Int) = (p : Int) := by unfold wrap64; omega
  have hHz : ((H : Int) == 0) = false := by simp; omega
  have hplz : decide ((pl : Int) < 0) = false := by simp
  have hps0 : (ps : Int) ≠ 0 := by omega
  have hrem : Hid ((pl : Int) % (ps : Int) % (s : Int) = 0) := by
    show (pl : Int) % (ps : Int) % (s : Int) = 0
    rw [show (pl : Int) % (ps : Int) = ((pl % ps : Nat) : Int) by simp, hq2]
    simp
  have hto : Hid (((pl : Int) + s - 1) / (ps : Int) = (p : Int)) := by
    have e1 : (pl + s - 1) / ps = p := by
      rw [Nat.add_mul, Nat.one_mul] at hq3
      have h1 : p * ps ≤ pl := by rw [← hq1]; exact Nat.div_mul_le_self _ _
      rw [Nat.div_eq_iff (by omega)]
      constructor <;> omega
    show ((pl : Int) + s - 1) / (ps : Int) = (p : Int)
    rw [show (pl : Int) + s - 1 = ((pl + s - 1 : Nat) : Int) by omega, ← e1]; simp
  have hhm : Hid ((H : Int) % 4294967296 = (pl : Int) / 8 + 1) := by
    show (H : Int) % 4294967296 = (pl : Int) / 8 + 1
    omega
  clear hq1 hq2 hq3 hn1 hn2 hn3 hh1 hh2 hnm
  have hqi : Hid (wrap64 ((pl : Int) / (ps : Int)) = (p : Int)) := by
    show wrap64 ((pl : Int) / (ps : Int)) = (p : Int)
    rw [hqn, hwp]
  have HQ : Hid ((pl : Int) / (ps : Int) = (p : Int)) := hqn
  clear hqn hwp
  go_enter Try.func24, Try.ntmps24
  go_wp2_with fail
  with_reducible refine (hat _ hF0).mono ?_
  rintro y w1 ⟨rfl, hf1⟩
  have hF1 := gb_trans hF0 hf1
  have hb1 := hb0'.kept hf1 (by simp)
  go_wp2_with (first | (go_at_call 13; go_must (refine (num_any2 _ _).mono ?_); rintro y w' ⟨rfl, rfl⟩) | fail)
  with_reducible refine (har _ hF1).mono ?_
  rintro y w' ⟨rfl, rfl⟩
  go_wp2_with fail
  with_reducible refine (hpg _ hF1).mono ?_
  rintro y w' ⟨rfl, rfl⟩
  go_wp2_with fail
  rw [hqi.out]
  with_reducible refine (how _ hF1).mono ?_
  rintro y w' ⟨rfl, rfl⟩
  go_wp2_with fail
  with_reducible refine (hch _ hF1).mono ?_
  rintro y w2 ⟨rfl, hf2⟩
  have hF2 := gb_trans hF1 hf2
  have hb2 := hb1.kept hf2 (by simp)
  go_wp2_with fail
  have hS3 : FtS w w2.heap.size H pl (pl + s) (w2.alloc (.cells #[.int .u64 (H : Nat), .int .i64 (pl : Nat), .int .i64 ((pl : Int) + s)] 63)) := ⟨gb_alloc hF2 _, hb2.kept (World.grownBy_alloc _ _ none) (by simp), Box.new _ _ _⟩
  have hpb2 : w.heap.size + 1 < w2.heap.size := by
    have h1 := hf2.size
    have h2 := hf1.size
    simp at h2
    omega
  generalize w2.alloc (.cells #[.int .u64 (H : Nat), .int .i64 (pl : Nat), .int .i64 ((pl : Int) + s)] 63) = w3 at *
  generalize w2.heap.size = pb at *
  clear hb2 hF2 hf2 hb1 hF1 hf1 hb0' hb0 hal hal2 hF0 how hat
  with_reducible refine (har _ hS3.gr).mono ?_
  rintro y w' ⟨rfl, rfl⟩
  go_wp2_with fail
  with_reducible refine (hpg _ hS3.gr).mono ?_
  rintro y w' ⟨rfl, rfl⟩
  go_wp2
  have hr1 := hrem.out
  have hr2 := hto.out
  have hr3 := hhm.out
  have hr4 := HQ.out
  have hz1 : ((ps : Int) == 0) = false := by simp; omega
  have hz2 : ((s : Int) == 0) = false := by simp; omega
  have hz3 : (s : Int) ≠ 0 := by omega
  have hz4 : ¬ ps = 0 := by omega
  have hx3 : (0 : Int) ≤ (pl : Int) + s - 1 := by omega
  have hx2 : Int.tdiv ((pl : Int) + s - 1) (ps : Int) = (p : Int) := by rw [Int.tdiv_eq_ediv_of_nonneg hx3]; exact hr2
  have hx4 : Int.tdiv (pl : Int) (ps : Int) = (p : Int) := by rw [Int.tdiv_eq_ediv_of_nonneg (by omega)]; exact hr4
  have hx5 : wrap64 ((pl : Int) + s - 1) = (pl : Int) + s - 1 := by unfold wrap64; omega
  have hx6 : IntKind.i64.wrap ((pl : Int) + s - 1) = (pl : Int) + s - 1 := by rw [IntKind.wrap_i64]; omega
  have hx7 : IntKind.i64.wrap (p : Int) = (p : Int) := by rw [IntKind.wrap_i64]; omega
  have hz5 : ¬ s = 0 := by omega
  have hwp : wrap64 (p : Int) = (p : Int) := by unfold wrap64; omega
  have hw1 : IntKind.i64.wrap ((pl : Int) % (ps : Int)) = (pl : Int) % (ps : Int) := by
    have h1 := Int.emod_nonneg (pl : Int) hps0
    have h2 := Int.emod_lt_of_pos (pl : Int) (show (0 : Int) < ps by omega)
    rw [IntKind.wrap_i64]; omega
  have hw2 : wrap64 ((pl : Int) % (ps : Int)) = (pl : Int) % (ps : Int) := by
    have h1 := Int.emod_nonneg (pl : Int) hps0
    have h2 := Int.emod_lt_of_pos (pl : Int) (show (0 : Int) < ps by omega)
    unfold wrap64; omega
  have hs0 : 0 ≤ (pl : Int) := by omega
  have hm0 : 0 ≤ (pl : Int) % (ps : Int) := Int.emod_nonneg _ hps0
  have ht1 : Int.tmod (pl : Int) (ps : Int) = (pl : Int) % (ps : Int) := Int.tmod_eq_emod_of_nonneg hs0
  have ht2 : Int.tmod ((pl : Int) % (ps : Int)) (s : Int) = 0 := by rw [Int.tmod_eq_emod_of_nonneg hm0]; exact hr1
  have HCO : Hid (((H : Int).tmod 4294967296 != IntKind.u64.wrap (IntKind.i64.wrap (IntKind.i64.wrap ((pl : Int) / 8) + 1))) = false) := hmod_cond (by omega) ⟨by omega, by omega⟩ hr3
  go_upto_region 7 with fail
  have hS3d := hS3.drew
  have e2 := hS3.b1.cell 2
  simp at e2
  go_cut [95] from 68 to 95 (fun x W => x = .bool false ∧ FtS w pb H pl ((pl : Int) + s) W)
  case first =>
    go_region_held3 (fun w' => w'.cell? ⟨pb, 2, none⟩ = some (.int .i64 ((pl : Int) + s))) ((first | with_reducible exact hS4.cc | with_reducible exact hS3d.cc | go_keep)) ((first | (go_at_call 19; with_reducible refine (hch _ hS3d.gr).mono ?_; rintro y w4 ⟨rfl, hf4⟩; (have hS4 := hS3d.step hf4))))
    all_goals
      clear hz1 hz2 hz3 hz4 hz5 hx2 hx3 hx4 hx5 hx6 hx7 hw1 hw2 hs0 hm0 ht1 ht2 hr1 hr2 hr4 hwp hS3d hf4 e2 hS3 hrem hto hhm HQ hqi hpg har hch hr3
      go_wp2_with fail
      go_meet
      exact ⟨by rw [HCO.out], hS4⟩
  case rest =>
  obtain ⟨rfl, hS4⟩ := hcut
  clear hz1 hz2 hz3 hz4 hz5 hx2 hx3 hx4 hx5 hx6 hx7 hw1 hw2 hs0 hm0 ht1 ht2 hr1 hr2 hr4 hwp hS3d e2 hS3 hrem hto hhm HQ hqi hpg har hch hr3 HCO
  go_wp2
  go_loopw [18] (fun x wr => ∃ (i : Nat), i ≤ nT ∧ x = .int .i64 i ∧ FtS w pb H pl ((pl : Int) + s) wr) (fun x _ => nT - (intOf x).toNat)
  case atStart => exact ⟨0, by omega, rfl, hS4⟩
  case round =>
    clear hS4
    obtain ⟨i, hi, rfl, hS⟩ := hrel
    by_cases hlt : i < nT
    · obtain ⟨b1, rfl⟩ := g1 (by omega)
      obtain ⟨k0, k1, k2⟩ := hT' _ hS.gr b1 rfl i hlt
      obtain ⟨z1, z2⟩ := hTi i hlt
      obtain ⟨z3, z4⟩ := hTb i hlt
      generalize (T.getD i (0, 0, 0)).1 = tH at *
      generalize (T.getD i (0, 0, 0)).2.1 = tf at *
      generalize (T.getD i (0, 0, 0)).2.2 = tt at *
      have v1 := hS.b1.cell 1
      have v2 := hS.b1.cell 2
      simp at v1 v2
      have hd : decide ((i : Int) < nT) = true := by simp; omega
      have hdh : ((tH : Int) == (H : Int)) = false := by simp; omega
      have hdh2 : ¬ tH = H := z1
      have hdh3 : ¬ (tH : Int) = (H : Int) := by omega
      have hd3 : decide (i < nT) = true := by simp; omega
      have HE : Hid (∀ W, World.grownBy _ W none → FtS w pb H pl ((pl : Int) + s) W) := fun W hf => hS.step hf
      clear hS hT' hTi hTb g1 hO' hOi hof g2
      rcases z2 with z2 | z2
      · have c1 : decide ((pl : Int) < (tt : Int)) = false := by simp; omega
        have c1n : decide (pl < tt) = false := by simp; omega
        have c1p : ¬ pl < tt := by omega
        go_wp2
        go_quiet (fail)
        go_wp2
        go_roundw
        case rel => exact ⟨i + 1, by omega, by go_num, HE.out _ (gb_drewN (gb_refl _ _) _)⟩
        case measure => simp [intOf]; omega
      · have c1 : decide ((pl : Int) < (tt : Int)) = true := by simp; omega
        have c1n : decide (pl < tt) = true := by simp; omega
        have c1p : pl < tt := by omega
        have c2n : ¬ (tf : Int) < (pl : Int) + s := by omega
        have c2 : decide ((tf : Int) < (pl : Int) + s) = false := by simp; omega
        go_wp2
        go_quiet (fail)
        go_wp2
        go_roundw
        case rel => exact ⟨i + 1, by omega, by go_num, HE.out _ (gb_drewN (gb_refl _ _) _)⟩
        case measure => simp [intOf]; omega
    · clear hT' hTi hTb g1
      have hd : decide ((i : Int) < nT) = false := by simp; omega
      go_wp2
      go_loopw [19] (fun x wq => ∃ (j : Nat), j ≤ nO ∧ x = .int .i64 j ∧ FtS w pb H pl ((pl : Int) + s) wq) (fun x _ => nO - (intOf x).toNat)
      case atStart => exact ⟨0, by omega, rfl, hS⟩
      case round =>
        clear hS
        obtain ⟨j, hj, rfl, hS⟩ := hrel
        by_cases hlt2 : j < nO
        · obtain ⟨b2, rfl⟩ := g2 (by omega)
          have k0 := hO' _ hS.gr b2 rfl j hlt2
          have z1 := hOi j hlt2
          generalize O.getD j 0 = oh at *
          have hdh : ((oh : Int) == (H : Int)) = false := by simp; omega
          have hd2 : decide ((j : Int) < nO) = true := by simp; omega
          have HE : Hid (FtS w pb H pl ((pl : Int) + s) _) := hS
          clear hS hO' hOi hof g2
          go_wp2
          go_roundw
          case rel => exact ⟨j + 1, by omega, by go_num, HE.out⟩
          case measure => simp [intOf]; omega
        · have hd2 : decide ((j : Int) < nO) = false := by simp; omega
          clear hO' hOi g2
          have hQ := hof _ hS.gr
          clear hof
          go_wp2_with fail
          with_reducible refine hQ.mono ?_
          rintro y w5 ⟨rfl, hf5⟩
          have hS5 := hS.step hf5
          have q0 := hS5.b0.cell 0
          have q1 := hS5.b0.cell 1
          have q2 := hS5.b0.cell 2
          have p0 := hS5.b1.cell 0
          have p1 := hS5.b1.cell 1
          have p2 := hS5.b1.cell 2
          simp at q0 q1 q2 p0 p1 p2
          have f0 := hS5.b0.fz 0
          have f1 := hS5.b0.fz 1
          have f2 := hS5.b0.fz 2
          have hHH : ((H : Int) == (H : Int)) = true := by simp
          have HS5 : Hid (FtS w pb H pl ((pl : Int) + s) w5) := hS5
          clear hS hS5 hQ
          go_wp2
          have hb3 := ((HS5.out.b0.set 0 (.int .u64 (H : Nat))).set 1 (.int .i64 (pl : Nat))).set 2 (.int .i64 ((pl : Int) + s))
          have hF : w.grownBy (((w5.setCell ⟨w.heap.size, 0, none⟩ (.int .u64 (H : Nat))).setCell ⟨w.heap.size, 1, none⟩ (.int .i64 (pl : Nat))).setCell ⟨w.heap.size, 2, none⟩ (.int .i64 ((pl : Int) + s))) none := gb_mine HS5.out.gr (gb_setCell (gb_setCell (gb_setCell (gb_refl _ _) _) _) _) (Nat.le_refl _)
          generalize (((w5.setCell ⟨w.heap.size, 0, none⟩ (.int .u64 (H : Nat))).setCell ⟨w.heap.size, 1, none⟩ (.int .i64 (pl : Nat))).setCell ⟨w.heap.size, 2, none⟩ (.int .i64 ((pl : Int) + s))) = V at *
          have x0 := hb3.cell 0
          have x1 := hb3.cell 1
          have x2 := hb3.cell 2
          simp at x0 x1 x2
          exact bodyPost_ret (v := .tuple #[.agg #[.int .u64 (H : Nat), .int .i64 (pl : Nat), .int .i64 ((pl : Int) + s)], .bool true]) (by simp [results, Try.results24, go_sem, x0, x1, x2]) rfl ⟨by simp, hF⟩

end Go.Proofs.Ytoaaaeefcipdcaa
