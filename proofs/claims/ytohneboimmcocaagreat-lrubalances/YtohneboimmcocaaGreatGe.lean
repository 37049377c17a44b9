import Derived.Test.YtohneboimmcocaaGreatGd
import Derived.Test.YtohneboimmcocaaGreatOk
import Derived.Test.YtohneboimmcocaaGreatYa
import Derived.Test.YtohneboimmcocaaGreatOm
/-
  LruBalances' walk.
-/
namespace Go.Proofs.YtohneboimmcocaaGreat
open Go.RowKit
set_option linter.unusedVariables false

/-- What the law holds at a round's start. -/
structure BH (w wr : World) (wb hot warm t2 N : Nat) (E : Wd) : Prop where
  gr : w.grownBy wr none
  gs : GS wr (fun k => w.heap.size ≤ k ∧ k ≠ t2) wb N hot warm E
  b2 : Box wr 25 t2 #[.pointer (some ⟨wb, 0, none⟩)]
theorem BH.kept0 {w wr w' : World} {wb hot warm t2 N : Nat} {E : Wd} (h : BH w wr wb hot warm t2 N E) (hf : wr.grownBy w' none) : BH w w' wb hot warm t2 N E := ⟨gb_trans h.gr hf, h.gs.kept0 hf, h.b2.kept hf (by simp)⟩
theorem BH.step {w wr w' : World} {wb hot warm t2 N M : Nat} {E : Wd} (h : BH w wr wb hot warm t2 N E) (hK : Kp (fun k => w.heap.size ≤ k ∧ k ≠ t2) wr w') (hG : GS w' (fun k => w.heap.size ≤ k ∧ k ≠ t2) wb M hot warm E) : BH w w' wb hot warm t2 M E := ⟨kp_grown2 h.gr (fun k hk => hk.1) hK, hG, hK.box h.b2 (fun hh => hh.2 rfl)⟩
theorem BH.hP {w wr : World} {wb hot warm t2 N : Nat} {E : Wd} (h : BH w wr wb hot warm t2 N E) : ∀ k, wr.heap.size ≤ k → w.heap.size ≤ k ∧ k ≠ t2 := fun k hk => ⟨Nat.le_trans h.gr.size hk, by have := h.b2.lt; omega⟩
theorem GS.more {w : World} {P : Nat → Prop} {wb N M hot warm : Nat} {E : Wd} (h : GS w P wb N hot warm E) (h1 : N ≤ M) (h2 : M ≤ 300) : GS w P wb M hot warm E := by
  obtain ⟨D, lsb, vs, Y, S, cl, hs, hW⟩ := h
  exact ⟨D, lsb, vs, Y, S, cl, hs, hW.more h1 h2⟩

theorem JB.kept0 {N1 t1 t2 t3 t4 wb qb : Nat} {d0 a0 b0 c0 h0 r0 : Value} {W W' : World} {xs : List Nat} (h : JB N1 t1 t2 t3 t4 wb qb d0 a0 b0 c0 h0 r0 W xs) (hf : W.grownBy W' none) : JB N1 t1 t2 t3 t4 wb qb d0 a0 b0 c0 h0 r0 W' xs := by
  obtain ⟨tv, h1, h2, h3⟩ := h.b1
  obtain ⟨v0, v2, v3, v4, v5, v6, hw⟩ := h.bw
  exact ⟨⟨tv, h1.kept hf (by simp), row_kept h2 hf (by simp), h3⟩, h.b2.kept hf (by simp), h.b3.kept hf (by simp), h.b4.kept hf (by simp), ⟨v0, v2, v3, v4, v5, v6, hw.kept hf (by simp)⟩, Nat.le_trans h.sz hf.size⟩
/-- Two rows that read the same. -/
structure TwoR (W : World) (am at' : Option Addr) (xs : List Nat) (cm ct : Nat) : Prop where
  r1 : W.ownsRow 0 27 1 (.slice am xs.length cm) xs.length (uvs xs)
  r2 : W.ownsRow 0 27 1 (.slice at' xs.length ct) xs.length (uvs xs)
theorem TwoR.cells {W : World} {am at' : Option Addr} {xs : List Nat} {cm ct : Nat} (h : TwoR W am at' xs cm ct) {k : Nat} (hk : k < xs.length) : ∃ g1 g2 v : Nat, am = some ⟨g1, 0, none⟩ ∧ at' = some ⟨g2, 0, none⟩ ∧ W.cell? ⟨g1, k, none⟩ = some (.int .u64 v) ∧ W.cell? ⟨g2, k, none⟩ = some (.int .u64 v) := by
  obtain ⟨ao, cc, e1, _, _, _, h1⟩ := row_shape h.r1
  obtain ⟨ap, cd, e2, _, _, _, h2⟩ := row_shape h.r2
  simp at e1 e2
  obtain ⟨rfl, rfl⟩ := e1
  obtain ⟨rfl, rfl⟩ := e2
  obtain ⟨g1, rfl⟩ := h1 (by omega)
  obtain ⟨g2, rfl⟩ := h2 (by omega)
  exact ⟨g1, g2, xs[k], rfl, rfl, row_cell h.r1 k _ (uvs_get (List.getElem?_eq_getElem hk)), row_cell h.r2 k _ (uvs_get (List.getElem?_eq_getElem hk))⟩

set_option maxRecDepth 100000 in
set_option maxHeartbeats 4000000 in
theorem lruBalances_any (x0 x1 : Int) {w : World} {a : Option Addr} {n c : Nat} (hO : OpsIn w a n) (hn : n ≤ maxLen) :
    Calls Tryz.prog 4 #[.agg #[.int .i64 x0, .int .i64 x1], .slice a n c] w fun y w' => y = .returned (.bool true) ∧ w.grownBy w' none := by
  obtain ⟨hot, hh⟩ : ∃ hot : Nat, (hot : Int) = 1 + x0 % 89 := ⟨(1 + x0 % 89).toNat, by omega⟩
  have hx1 : 0 ≤ x1 % (90 - (1 + x0 % 89)) ∧ x1 % (90 - (1 + x0 % 89)) < 90 - (1 + x0 % 89) := ⟨Int.emod_nonneg _ (by omega), Int.emod_lt_of_pos _ (by omega)⟩
  obtain ⟨warm, hw⟩ : ∃ warm : Nat, (warm : Int) = 1 + x1 % (90 - (1 + x0 % 89)) := ⟨(1 + x1 % (90 - (1 + x0 % 89))).toNat, by omega⟩
  have hsh : hot ≤ 100 ∧ warm ≤ 100 := by omega
  have hal := World.grownBy_alloc w (.cells #[.int .i64 x0, .int .i64 x1] 23) none
  have hb0 := Box.new w 23 #[.int .i64 x0, .int .i64 x1]
  have hbg := (begun_gs x0 x1 hh hw (w.alloc (.cells #[.int .i64 x0, .int .i64 x1] 23))).mono (R' := fun y w1 => ∃ wb E, y = .returned (.pointer (some ⟨wb, 0, none⟩)) ∧ Hid (w.grownBy w1 none ∧ GS w1 (fun k => w.heap.size ≤ k) wb 0 hot warm E)) (by
    rintro y w1 ⟨wb, E, rfl, hf, hG⟩
    exact ⟨wb, E, rfl, gb_trans hal hf, hG.less (fun k _ hk => Nat.le_trans hal.size hk)⟩)
  have u0 := hb0.cell 0
  have u1 := hb0.cell 1
  simp at u0 u1
  have hml : (n : Int) ≤ 9223372036854775807 := by unfold maxLen at hn; omega
  clear hh hw hb0 hn hx1
  go_enter Tryz.func4, Tryz.ntmps4
  go_wp2_with (first | (go_at_call 10; go_must (refine hbg.mono ?_); rintro y w1 ⟨wb, E, rfl, hE⟩) | fail)
  have hBH : Hid (BH w (w1.alloc (.cells #[.pointer (some ⟨wb, 0, none⟩)] 25)) wb hot warm w1.heap.size 0 E) := by
    obtain ⟨hg, hG⟩ := hE.out
    have hal1 := World.grownBy_alloc w1 (.cells #[.pointer (some ⟨wb, 0, none⟩)] 25) none
    exact ⟨gb_trans hg hal1, (hG.less (P' := fun k => w.heap.size ≤ k ∧ k ≠ w1.heap.size) (fun k hk hp => ⟨hp, by omega⟩)).kept0 hal1, Box.new w1 25 _⟩
  clear hE hbg u0 u1
  generalize w1.alloc (.cells #[.pointer (some ⟨wb, 0, none⟩)] 25) = W1 at *
  generalize w1.heap.size = t2 at *
  go_loopw [6] (fun iv wr => ∃ j : Nat, j ≤ 250 ∧ iv = .int .i64 j ∧ Hid (BH w wr wb hot warm t2 j E)) (fun iv _ => 250 - (intOf iv).toNat)
  case atStart => exact ⟨0, by omega, rfl, hBH⟩
  case round =>
    obtain ⟨j, hj, rfl, hB⟩ := hrel
    by_cases hlt : j < n ∧ j < 250
    · obtain ⟨b, o, ha, v, hv, g0, g1, g2, g3, g4, g5⟩ := (hO.kept0 hB.out.gr) j hlt.1
      subst ha
      have hd1 : decide ((j : Int) < n) = true := decide_eq_true (by omega)
      have hd2 : decide ((j : Int) < 250) = true := decide_eq_true (by omega)
      have hl1 : (j : Int) < n := by omega
      have hl2 : (j : Int) < 250 := by omega
      have halo := World.grownBy_alloc wr (.cells v.cs 29) none
      have hb3 := Box.new wr 29 v.cs
      have hB3 : Hid _ := hB.out.kept0 halo
      have c2 := hB3.out.b2.cell 0
      by_cases h7 : v.d = 7
      · have hB0 := hB.out
        obtain ⟨d0, a0, b0, c0v, h0v, r0⟩ := v
        unfold Opv.cs at *
        dsimp only at *
        subst h7
        have hbb := hv.b
        dsimp only at hbb
        obtain ⟨N1, hN1⟩ : ∃ N1, wr.heap.size = N1 := ⟨_, rfl⟩
        have s3 : (wr.alloc (.cells #[.int .i64 7, .int .i64 a0, .int .i64 b0, .int .i64 c0v, .int .u64 h0v, .bool r0] 29)).heap.size = N1 + 1 := by simp [hN1]
        obtain ⟨V3, hV3⟩ : ∃ V3, wr.alloc (.cells #[.int .i64 7, .int .i64 a0, .int .i64 b0, .int .i64 c0v, .int .u64 h0v, .bool r0] 29) = V3 := ⟨_, rfl⟩
        rw [hV3] at s3 hb3 halo hB3 c2
        rw [hN1] at hb3
        have hal1 := World.grownBy_alloc V3 (.cells #[.slice none 0 0] 38) none
        have hb1 := Box.new V3 38 #[.slice none 0 0]
        have s1 : (V3.alloc (.cells #[.slice none 0 0] 38)).heap.size = N1 + 1 + 1 := by simp [s3]
        rw [s3] at hb1
        obtain ⟨V1, hV1⟩ : ∃ V1, V3.alloc (.cells #[.slice none 0 0] 38) = V1 := ⟨_, rfl⟩
        rw [hV1] at s1 hb1 hal1
        have hal4 := World.grownBy_alloc V1 (.cells #[.bool true] 4) none
        have hb4 := Box.new V1 4 #[.bool true]
        rw [s1] at hb4
        obtain ⟨V4, hV4⟩ : ∃ V4, V1.alloc (.cells #[.bool true] 4) = V4 := ⟨_, rfl⟩
        rw [hV4] at hb4 hal4
        have hdr : V4.grownBy V4.drew none := gb_drew (gb_refl _ _)
        have hf4 : wr.grownBy V4.drew none := gb_trans halo (gb_trans hal1 (gb_trans hal4 hdr))
        have hb3d := ((hb3.kept hal1 (by simp)).kept hal4 (by simp)).kept hdr (by simp)
        have l2 := hB0.b2.lt
        obtain ⟨xs, B1, hxl, hc1, hc2⟩ := pair_balanceL hB0.gs hB0.hP (by omega) hsh.1 hsh.2 c0v b0 hbb (t1 := N1 + 1) (t2 := t2) (t3 := N1) (t4 := N1 + 1 + 1) hf4 (by omega) (by omega) (by omega) (by omega) (by omega) (by omega) l2 (fun hh => hh.2 rfl) ((hb1.kept hal4 (by simp)).kept hdr (by simp)) hB0.b2 hb3d (hb4.kept hdr (by simp))
        rw [hN1] at hc1 hc2
        have k0 := hb3.cell 0
        simp at k0
        have hCC := fun W qb (hce : Cells W wb E) (hJ : JB N1 (N1 + 1) t2 N1 (N1 + 1 + 1) wb qb (.int .i64 7) (.int .i64 a0) (.int .i64 b0) (.int .i64 c0v) (.int .u64 h0v) (.bool r0) W xs) => (show W.cell? ⟨t2, 0, none⟩ = some (.pointer (some ⟨wb, 0, none⟩)) ∧ W.cell? ⟨wb, 2, none⟩ = some (.pointer (some ⟨E.xb, 0, none⟩)) ∧ W.cell? ⟨N1, 3, none⟩ = some (.int .i64 c0v) ∧ W.cell? ⟨N1, 2, none⟩ = some (.int .i64 b0) from ⟨hJ.b2.cell 0, hce.2.2.1, hJ.b3.cell 3, hJ.b3.cell 2⟩)
        have hk0 : V4.drew.cell? ⟨t2, 0, none⟩ = some (.pointer (some ⟨wb, 0, none⟩)) ∧ V4.drew.cell? ⟨wb, 2, none⟩ = some (.pointer (some ⟨E.xb, 0, none⟩)) ∧ V4.drew.cell? ⟨N1, 3, none⟩ = some (.int .i64 c0v) ∧ V4.drew.cell? ⟨N1, 2, none⟩ = some (.int .i64 b0) := ⟨(hB0.b2.kept hf4 (by simp)).cell 0, (hB0.gs.kept0 hf4).cells.2.2.1, hb3d.cell 3, hb3d.cell 2⟩
        have hbd := fun W => bounded_22 b0 W
        generalize (if b0 > 2000 then 2000 else b0) = b2 at *
        have HB : Hid _ := hB0
        clear hO hB hBH hB0 hB3 hb1 hb4 hal1 hal4 halo c2 hb3d
        go_wp2_with fail
        clear hb3 s3 s1 hV1 hV3 hV4 k0
        go_region_held3 (fun W => W.cell? ⟨t2, 0, none⟩ = some (.pointer (some ⟨wb, 0, none⟩)) ∧ W.cell? ⟨wb, 2, none⟩ = some (.pointer (some ⟨E.xb, 0, none⟩)) ∧ W.cell? ⟨N1, 3, none⟩ = some (.int .i64 c0v) ∧ W.cell? ⟨N1, 2, none⟩ = some (.int .i64 b0)) ((first | with_reducible exact hk1 | with_reducible exact hk0 | go_keep)) ((go_at_call 18; with_reducible refine hc1.mono ?_; rintro y w5 ⟨rfl, ⟨qb, hJ5⟩, hB5⟩; (obtain ⟨hce5, _⟩ := hc2 _ _ hB5 (gb_refl _ _)); (have hk1 := hCC _ _ hce5 hJ5)))
        have hd5 : w5.grownBy w5.drew none := gb_drew (gb_refl _ _)
        obtain ⟨hce6, h21⟩ := hc2 _ _ hB5 hd5
        have hJ6 := hJ5.kept0 hd5
        have h21' := h21.mono (R' := fun y w7 => ∃ am cm at' ct, y = .returned (.slice am xs.length cm) ∧ (w7.cell? ⟨t2, 0, none⟩ = some (.pointer (some ⟨wb, 0, none⟩)) ∧ w7.cell? ⟨wb, 5, none⟩ = some (.pointer (some ⟨E.mb, 0, none⟩)) ∧ w7.cell? ⟨N1, 3, none⟩ = some (.int .i64 c0v) ∧ w7.cell? ⟨N1, 2, none⟩ = some (.int .i64 b0)) ∧ w7.cell? ⟨N1 + 1, 0, none⟩ = some (.slice at' xs.length ct) ∧ w7.cell? ⟨N1 + 1 + 1, 0, none⟩ = some (.bool true) ∧ Hid (TwoR w7 am at' xs cm ct) ∧ Hid (BH w w7 wb hot warm t2 (j + 1) E)) (by
          rintro y w7 ⟨v, rfl, hr7, hK7, hKP, hG7⟩
          have hBH7 := HB.out.step hKP hG7
          obtain ⟨tv, q1, q2, q3⟩ := hJ6.b1
          have p1 := hK7.box q1 (by omega)
          have p3 := hK7.box hJ6.b3 (by omega)
          have p4 := hK7.box hJ6.b4 (by omega)
          have p2 := row_same q2 (fun k hk => hK7.block k (q2.lt k hk).2 (by have := (q2.lt k hk).1; omega))
          obtain ⟨am, cm, rfl, _⟩ := row_shape hr7
          obtain ⟨at', ct, rfl, _⟩ := row_shape p2
          exact ⟨am, cm, at', ct, rfl, ⟨hBH7.b2.cell 0, hG7.cells.2.2.2.2.2, p3.cell 3, p3.cell 2⟩, p1.cell 0, p4.cell 0, ⟨row_base hr7 (Nat.zero_le _), row_base p2 (Nat.zero_le _)⟩, hBH7⟩)
        have hm0 : w5.drew.cell? ⟨t2, 0, none⟩ = some (.pointer (some ⟨wb, 0, none⟩)) ∧ w5.drew.cell? ⟨wb, 5, none⟩ = some (.pointer (some ⟨E.mb, 0, none⟩)) ∧ w5.drew.cell? ⟨N1, 3, none⟩ = some (.int .i64 c0v) ∧ w5.drew.cell? ⟨N1, 2, none⟩ = some (.int .i64 b0) := ⟨hJ6.b2.cell 0, hce6.2.2.2.2.2, hJ6.b3.cell 3, hJ6.b3.cell 2⟩
        clear hk0 hk1 hCC hc1 hc2 h21 hJ5 hJ6 hce5 hce6 HB
        go_wp2
        go_region_held3 (fun W => W.cell? ⟨t2, 0, none⟩ = some (.pointer (some ⟨wb, 0, none⟩)) ∧ W.cell? ⟨wb, 5, none⟩ = some (.pointer (some ⟨E.mb, 0, none⟩)) ∧ W.cell? ⟨N1, 3, none⟩ = some (.int .i64 c0v) ∧ W.cell? ⟨N1, 2, none⟩ = some (.int .i64 b0)) ((first | with_reducible exact hm1 | with_reducible exact hm0 | go_keep)) ((first | (go_at_call 22; with_reducible refine (hbd _).mono ?_; rintro y w' ⟨rfl, rfl⟩) | (go_at_call 21; with_reducible refine h21'.mono ?_; rintro y w7 ⟨am, cm, at', ct, rfl, hm1, ct1, ct4, hTR, hBH7⟩)))
        clear hm0 hm1 h21' hbd
        generalize hln : xs.length = ln at *
        go_wp2_with fail
        have hkc := fun W (hf : w7.grownBy W none) => gb_cellN hf ct1
        have hkb := fun W (hf : w7.grownBy W none) => (show Hid (BH w W wb hot warm t2 (j + 1) E) from hBH7.out.kept0 hf)
        have hkt := fun W (hf : w7.grownBy W none) k (hk : k < ln) => (show ∃ g1 g2 v : Nat, am = some ⟨g1, 0, none⟩ ∧ at' = some ⟨g2, 0, none⟩ ∧ W.cell? ⟨g1, k, none⟩ = some (.int .u64 v) ∧ W.cell? ⟨g2, k, none⟩ = some (.int .u64 v) by
          obtain ⟨g1, g2, v, e1, e2, e3, e4⟩ := hTR.out.cells (k := k) (by omega)
          exact ⟨g1, g2, v, e1, e2, gb_cellN hf e3, gb_cellN hf e4⟩)
        clear hln hTR hBH7 ct1 ct4
        go_loopw [12] (fun kv wz => ∃ k : Nat, k ≤ ln ∧ kv = .int .i64 k ∧ w7.grownBy wz none) (fun kv _ => ln - (intOf kv).toNat)
        case atStart => exact ⟨0, by omega, rfl, by first | exact gb_refl _ _ | exact gb_drew (gb_refl _ _) | exact gb_drewN (gb_refl _ _) _⟩
        case round =>
          obtain ⟨k, hk, rfl, hgz⟩ := hrel
          have ck := hkc _ hgz
          by_cases hkl : k < ln
          · have e1 : decide ((k : Int) < ln) = true := decide_eq_true (by omega)
            have e2 : (k : Int) < ln := by omega
            obtain ⟨g1', g2', v, rfl, rfl, q1, q2⟩ := hkt _ hgz k hkl
            clear hkc hkb hkt
            go_wp2_with fail
            go_quiet (fail)
            go_wp2_with fail
            exact ⟨⟨k + 1, by omega, by go_num, gb_trans hgz (gb_drewN (gb_refl _ _) _)⟩, by simp [intOf]; omega⟩
          · obtain rfl : k = ln := by omega
            have e1 : decide ((k : Int) < k) = false := decide_eq_false (by omega)
            have hfin := hkb _ hgz
            clear hkc hkb hkt
            go_wp2_with fail
            exact ⟨⟨j + 1, by omega, by go_num, hfin⟩, by simp [intOf]; omega⟩
      · have h15 := (moves_15 hB3.out.gs hB3.out.hP (by omega) hsh.1 hsh.2 v hv).mono (R' := fun y w2 => y = .returned (.bool true) ∧ Hid (BH w w2 wb hot warm t2 (j + 1) E)) (by
          rintro y w2 ⟨rfl, hK, hG⟩
          exact ⟨rfl, hB3.out.step hK hG⟩)
        have hmore : Hid (BH w (wr.alloc (.cells v.cs 29)) wb hot warm t2 (j + 1) E) := ⟨hB3.out.gr, hB3.out.gs.more (by omega) (by omega), hB3.out.b2⟩
        unfold Opv.cs at h15 hb3 halo hmore c2
        clear hB3
        obtain ⟨d0, a0, b0, c0v, h0v, r0⟩ := v
        dsimp only at *
        have k0 := hb3.cell 0
        have k1 := hb3.cell 1
        have k2 := hb3.cell 2
        have k3 := hb3.cell 3
        have k4 := hb3.cell 4
        have k5 := hb3.cell 5
        simp at k0 k1 k2 k3 k4 k5 c2
        clear hO hB hBH hb3
        by_cases h8 : d0 = 8
        · subst h8
          go_wp2
          exact ⟨⟨j + 1, by omega, by go_num, hmore⟩, by simp [intOf]; omega⟩
        · go_wp2_with (first | (go_at_call 15; go_must (refine h15.mono ?_); rintro y w2 ⟨rfl, hE2⟩) | fail)
          exact ⟨⟨j + 1, by omega, by go_num, hE2⟩, by simp [intOf]; omega⟩
    · have hen := ends_16 hB.out.gs
      have hg : Hid _ := hB.out.gr
      have c2 := hB.out.b2.cell 0
      simp at c2
      clear hO hB hBH
      by_cases h1 : j < n
      · have hj2 : j = 250 := by omega
        subst hj2
        have hd1 : decide (((250 : Nat) : Int) < n) = true := decide_eq_true (by omega)
        have hl1 : (250 : Int) < n := by omega
        go_wp2_with (first | (go_at_call 16; go_must (refine hen.mono ?_); rintro y w3 ⟨rfl, hf3⟩) | (go_at_call 17; go_must (refine (wakes_17 _).mono ?_); rintro y w4 ⟨rfl, hf4⟩) | fail)
        go_ret
        exact ⟨rfl, gb_trans hg.out (gb_trans hf3 hf4)⟩
      · have hd1 : decide ((j : Int) < n) = false := decide_eq_false (by omega)
        have hl1 : ¬ (j : Int) < n := by omega
        go_wp2_with (first | (go_at_call 16; go_must (refine hen.mono ?_); rintro y w3 ⟨rfl, hf3⟩) | (go_at_call 17; go_must (refine (wakes_17 _).mono ?_); rintro y w4 ⟨rfl, hf4⟩) | fail)
        go_ret
        exact ⟨rfl, gb_trans hg.out (gb_trans hf3 hf4)⟩
end Go.Proofs.YtohneboimmcocaaGreat
