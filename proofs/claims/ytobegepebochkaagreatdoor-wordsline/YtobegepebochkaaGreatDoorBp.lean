import Derived.Test.YtobegepebochkaaGreatDoorZe
import Derived.Test.YtobegepebochkaaGreatDoorSf
/-
  WordsLine's walk.
-/
namespace Go.Proofs.YtobegepebochkaaGreatDoor
open Go.RowKit Go.Maps
set_option linter.unusedVariables false
set_option linter.unusedSimpArgs false

theorem zz_new (w : World) : Box ((w.alloc (.cells Z41 41)).alloc (.cells Z43 43)) 41 w.heap.size Z41 ∧ Box ((w.alloc (.cells Z41 41)).alloc (.cells Z43 43)) 43 (w.heap.size + 1) Z43 ∧ w.grownBy ((w.alloc (.cells Z41 41)).alloc (.cells Z43 43)) none := by
  have g1 := gb_alloc (gb_refl (w.alloc (.cells Z41 41)) none) (.cells Z43 43)
  refine ⟨(Box.new w 41 Z41).kept g1 (by simp), ?_, gb_trans (gb_alloc (gb_refl w none) _) g1⟩
  have := Box.new (w.alloc (.cells Z41 41)) 43 Z43
  simp only [World.size_alloc] at this
  exact this
set_option maxRecDepth 100000 in
set_option maxHeartbeats 16000000 in
theorem words_3 {w : World} (hE : Er w) {la : Option Addr} {lc : Nat} {ls : List Bs} (hr : Rb w la ls) (hlen : ls.length ≤ 9223372036854775807) :
    Calls Tryz.prog 3 #[.slice la ls.length lc] w fun e w' => e = .returned (.bool true) ∧ w.grownBy w' none := by
  have hb0 : Box (w.alloc (.cells (bkA nilS nilS nilS nilS nilS nilS nilS nilS nilS nilS nilS 0) 31)) 31 w.heap.size (bkA nilS nilS nilS nilS nilS nilS nilS nilS nilS nilS nilS 0) := Box.new _ _ _
  have hf0 := Box.new (w.alloc (.cells (bkA nilS nilS nilS nilS nilS nilS nilS nilS nilS nilS nilS 0) 31)) 35 #[.slice none 0 0]
  have hs0 : (w.alloc (.cells (bkA nilS nilS nilS nilS nilS nilS nilS nilS nilS nilS nilS 0) 31)).heap.size = w.heap.size + 1 := by simp
  have hW : Wl w ((w.alloc (.cells (bkA nilS nilS nilS nilS nilS nilS nilS nilS nilS nilS nilS 0) 31)).alloc (.cells #[.slice none 0 0] 35)) w.heap.size (w.heap.size + 1) (fun _ => False) 0 := by
    have g1 := gb_alloc (gb_refl (w.alloc (.cells (bkA nilS nilS nilS nilS nilS nilS nilS nilS nilS nilS nilS 0) 31)) none) (.cells #[.slice none 0 0] 35)
    rw [hs0] at hf0
    refine ⟨_, _, Bok.new (hb0.kept g1 (by simp)), Fok.new hf0, fun k h1 h2 => by omega, fun k hk => ⟨by omega, fun h => h⟩, gb_trans (gb_alloc (gb_refl w none) _) g1⟩
  have HW : Hid _ := hW
  clear hb0 hf0 hs0 hW
  generalize hn : ls.length = n at *
  go_enter Tryz.func3, Tryz.ntmps3
  go_wp2
  go_loopw [5] (fun v wr => ∃ i K : Nat, i ≤ n ∧ i ≤ 300 ∧ K ≤ 4 * i ∧ v = .int .i64 i ∧ Wl w wr w.heap.size (w.heap.size + 1) (fun _ => False) K) (fun v _ => n - (intOf v).toNat)
  case atStart => exact ⟨0, 0, by omega, by omega, by omega, rfl, HW.out⟩
  case round =>
    obtain ⟨i, K, hi, hi3, hK, rfl, hW⟩ := hrel
    clear HW
    by_cases hlt : i < n ∧ i < 300
    · obtain ⟨l, hl⟩ : ∃ l, ls[i]? = some l := ⟨_, List.getElem?_eq_getElem (by omega)⟩
      obtain ⟨g, o, rfl, hel⟩ := hr (by omega)
      obtain ⟨u, hu, hbw, hll⟩ := hel i l hl
      obtain ⟨ua, un, uc, rfl, rfl⟩ := hbw.slice
      have ha := an_len l
      have L13 := fun (W : World) (v : Value) (h : Bw W v l) => (rlineW v l h (by omega)).mono (fun _ _ h => LnU.of h)
      have L15 := fun (W : World) (hE : Er W) (v : Value) (h : Bw W v l) => (lineW hE v l h (by omega)).mono (fun _ _ h => LnU.of h)
      simp only [LnU] at L13 L15
      generalize an l = A at *
      obtain ⟨c, nn, wk, wt, wp⟩ := A
      simp only at ha L13 L15
      have d1 : decide ((i : Int) < (n : Int)) = true := by simp; omega
      have d2 : decide ((i : Int) < 300) = true := by simp; omega
      have hib : (i : Int) < (n : Int) := by omega
      have hib3 : (i : Int) < 300 := by omega
      have e0 := gb_cellN hW.gb hu
      have L13' := L13 wr _ (hbw.kept hW.gb)
      have HL15 : Hid _ := L15
      have HW : Hid (Wl w wr w.heap.size (w.heap.size + 1) (fun _ => False) K) := hW
      have HU : Hid (w.cell? ⟨g, o + i, none⟩ = some (.slice ua l.length uc)) := hu
      have HBW : Hid (Bw w (.slice ua l.length uc) l) := hbw
      have HR : Hid (∃ R, R = wr.heap.size) := ⟨_, rfl⟩
      obtain ⟨R, hR⟩ := HR.out
      have HRR : Hid (R = wr.heap.size) := hR
      clear hel hl L13 L15 hW hu hbw HR hR
      go_wp2_with (first
        | (go_at_call 13; go_must ((with_reducible refine L13'.mono ?_); rintro e w1 ⟨ka, kc, ma, mc, rfl, hk1, hm1, hg1⟩; obtain ⟨z1, z2, z3⟩ := zz_new w1))
        | (refine atS 41 w1.heap.size 0 rfl rfl ?_; go_must (refine storeT 41 11 size41 rfl _ _ rfl 41 w1.heap.size 0 _ z1 (by simp) rfl _ rfl rfl (by simp [Value.oneCell']) ?_); intro X6 b6 g6; (have k6 := Box.kept z2 g6 (by simp)))
        | (refine atS 43 (w1.heap.size + 1) 0 rfl rfl ?_; go_must (refine storeT 43 3 size43 rfl _ _ rfl 43 (w1.heap.size + 1) 0 _ k6 (by simp) rfl _ rfl rfl (by simp [Value.oneCell']) ?_); intro X7 k7 g7; (have b7 := Box.kept b6 g7 (by simp))))
      rw [show sets Z41 0 (#[.int .i64 c.verb, .slice ka c.keys.length kc, .int .u64 c.flags, .int .i64 c.exp, .int .u64 c.tok, .int .u64 c.del, .slice none 0 0, .bool c.nr, .bool false, .slice ma c.mt.length mc, sv c.what] : Array Value).toList = #[.int .i64 c.verb, .slice ka c.keys.length kc, .int .u64 c.flags, .int .i64 c.exp, .int .u64 c.tok, .int .u64 c.del, .slice none 0 0, .bool c.nr, .bool false, .slice ma c.mt.length mc, sv c.what] from sets_41 _ _ _ _ _ _ _ _ _ _ _ _ _ _ _ _ _ _ _ _ _ _] at b7
      rw [show sets Z43 0 (#[.int .i64 wk, sv wt, .int .i64 wp] : Array Value).toList = #[.int .i64 wk, sv wt, .int .i64 wp] from sets_43 _ _ _ _ _ _] at k7
      have hk7 := row_kept (row_kept (row_kept hk1 z3 (by simp)) g6 (fun k hk e => by have := (row_ge hk1 hk).2; have := Option.some.inj e; omega)) g7 (fun k hk e => by have := (row_ge hk1 hk).2; have := Option.some.inj e; omega)
      have hm7 := row_kept (row_kept (row_kept hm1 z3 (by simp)) g6 (fun k hk e => by have := (row_ge hm1 hk).2; have := Option.some.inj e; omega)) g7 (fun k hk e => by have := (row_ge hm1 hk).2; have := Option.some.inj e; omega)
      have hRw := HRR.out
      have hs1 := hg1.size
      have hws := HW.out.gb.size
      have HW7 : Hid (Wl w X7 w.heap.size (w.heap.size + 1) (fun k => R ≤ k ∧ k < X7.heap.size) K) := by
        show Wl _ _ _ _ _ _
        have h1 := (Wl.new HW.out).grow (gb_trans hg1 z3)
        have h2 := h1.writes g6 (by omega) (.inr (by omega))
        have h3 := h2.writes g7 (by omega) (.inr (by omega))
        exact h3.less (fun k hk => .inr (by omega))
      have hb7 := b7.lt
      have hb8 := k7.lt
      have hrk : ∀ k, (Value.slice ka c.keys.length kc).ownBlock = some k → R ≤ k ∧ k < X7.heap.size := fun k hk => ⟨by have := (row_ge hk1 hk).1; omega, (row_ge hk7 hk).2⟩
      have hrm : ∀ k, (Value.slice ma c.mt.length mc).ownBlock = some k → R ≤ k ∧ k < X7.heap.size := fun k hk => ⟨by have := (row_ge hm1 hk).1; omega, (row_ge hm7 hk).2⟩
      have hk8 := row_base hk7 (Nat.zero_le _)
      have hm8 := row_base hm7 (Nat.zero_le _)
      have hRb : R ≤ w1.heap.size := by omega
      have hRw2 : w.heap.size ≤ R := by omega
      obtain ⟨wb, hwb⟩ : ∃ wb, wb = w1.heap.size := ⟨_, rfl⟩
      rw [← hwb] at b7 k7 hb7 hb8 hRb ⊢
      obtain ⟨ZZ, hZZ⟩ : ∃ ZZ, ZZ = X7.heap.size := ⟨_, rfl⟩
      rw [← hZZ] at hb7 hb8 hrk hrm HW7
      have HA : Hid (Wl w X7 w.heap.size (w.heap.size + 1) (fun k => R ≤ k ∧ k < ZZ) K ∧ Box X7 41 wb #[.int .i64 c.verb, .slice ka c.keys.length kc, .int .u64 c.flags, .int .i64 c.exp, .int .u64 c.tok, .int .u64 c.del, .slice none 0 0, .bool c.nr, .bool false, .slice ma c.mt.length mc, sv c.what] ∧ Box X7 43 (wb + 1) #[.int .i64 wk, sv wt, .int .i64 wp] ∧ X7.ownsRow 0 9 1 (.slice ka c.keys.length kc) c.keys.length (c.keys.map sv) ∧ X7.ownsRow 0 79 3 (.slice ma c.mt.length mc) c.mt.length (fcs c.mt)) := ⟨HW7.out, b7, k7, hk8, hm8⟩
      have HZ : Hid (ZZ ≤ X7.heap.size) := Nat.le_of_eq hZZ
      clear hk1 hm1 hg1 z1 z2 z3 b6 g6 k6 k7 g7 b7 hk7 hm7 hk8 hm8 hRw hs1 hws HW7 HW HRR e0 hwb hZZ L13'
      go_loopw [9] (fun v wq => ∃ k K' : Nat, k ≤ 2 ∧ K' ≤ K + 2 * k ∧ v = .int .i64 k ∧ ZZ ≤ wq.heap.size ∧ Wl w wq w.heap.size (w.heap.size + 1) (fun k => R ≤ k ∧ k < ZZ) K' ∧ Box wq 41 wb #[.int .i64 c.verb, .slice ka c.keys.length kc, .int .u64 c.flags, .int .i64 c.exp, .int .u64 c.tok, .int .u64 c.del, .slice none 0 0, .bool c.nr, .bool false, .slice ma c.mt.length mc, sv c.what] ∧ Box wq 43 (wb + 1) #[.int .i64 wk, sv wt, .int .i64 wp] ∧ wq.ownsRow 0 9 1 (.slice ka c.keys.length kc) c.keys.length (c.keys.map sv) ∧ wq.ownsRow 0 79 3 (.slice ma c.mt.length mc) c.mt.length (fcs c.mt)) (fun v _ => 2 - (intOf v).toNat)
      case atStart => exact ⟨0, K, by omega, by omega, rfl, HZ.out, HA.out⟩
      case round =>
        obtain ⟨k, K', hk, hK', rfl, hZs, hW, hbA, hbB, hkr, hmr⟩ := hrel
        clear HA HZ
        by_cases hk2 : k < 2
        · have hkb : (k : Int) < 2 := by omega
          have e0 := gb_cellN hW.gb HU.out
          have hbw := Bw.kept HBW.out hW.gb
          have hE1 := hE.kept hW.gb
          have hs0 := hW.gb.size
          have h14 := lendW hbw (by omega)
          have HS : Hid _ := And.intro hW (And.intro hbA (And.intro hbB (And.intro hkr hmr)))
          clear hbA hbB hkr hmr
          go_wp2_with fail
          refine h14.mono ?_
          rintro e w1 ⟨gi, ic, rfl, hin, hg1⟩
          clear h14
          have hin5 : Ck w1 (fun _ => False) (.slice (some ⟨gi, 0, none⟩) l.length ic) l := lent_ck (m := mks 70) (by rw [mks_length]; exact hin) _ (fun h => h)
          have h15 := HL15.out w1 (hE1.kept hg1) _ (.inl hin5)
          have hgi := row_ge hin (j := gi) rfl
          obtain ⟨hW, hbA, hbB, hkr, hmr⟩ := HS.out
          clear HS
          go_wp2_with fail
          refine h15.mono ?_
          rintro e w2 ⟨qka, qkc, qma, qmc, rfl, hk2r, hm2r, hg2⟩
          obtain ⟨z1, z2, z3⟩ := zz_new w2
          clear h15
          have hgs2 := hg2.size
          have hgs1 := hg1.size
          go_upto_region 12 with (first
            | (refine atS 41 w2.heap.size 0 rfl rfl ?_; go_must (refine storeT 41 11 size41 rfl _ _ rfl 41 w2.heap.size 0 _ z1 (by simp) rfl _ rfl rfl (by simp [Value.oneCell']) ?_); intro X6 b6 g6; (have k6 := Box.kept z2 g6 (by simp)))
            | (refine atS 43 (w2.heap.size + 1) 0 rfl rfl ?_; go_must (refine storeT 43 3 size43 rfl _ _ rfl 43 (w2.heap.size + 1) 0 _ k6 (by simp) rfl _ rfl rfl (by simp [Value.oneCell']) ?_); intro X7 k7 g7; (have b7 := Box.kept b6 g7 (by simp))))
          rw [show sets Z41 0 (#[.int .i64 c.verb, .slice qka c.keys.length qkc, .int .u64 c.flags, .int .i64 c.exp, .int .u64 c.tok, .int .u64 c.del, .slice none 0 0, .bool c.nr, .bool false, .slice qma c.mt.length qmc, sv c.what] : Array Value).toList = #[.int .i64 c.verb, .slice qka c.keys.length qkc, .int .u64 c.flags, .int .i64 c.exp, .int .u64 c.tok, .int .u64 c.del, .slice none 0 0, .bool c.nr, .bool false, .slice qma c.mt.length qmc, sv c.what] from sets_41 _ _ _ _ _ _ _ _ _ _ _ _ _ _ _ _ _ _ _ _ _ _] at b7
          rw [show sets Z43 0 (#[.int .i64 wk, sv wt, .int .i64 wp] : Array Value).toList = #[.int .i64 wk, sv wt, .int .i64 wp] from sets_43 _ _ _ _ _ _] at k7
          have hZi : ∀ {e : TypeId} {s : Nat} {v : Value} {m : Nat} {ys : List Value}, w2.ownsRow w1.heap.size e s v m ys → X7.ownsRow w1.heap.size e s v m ys := fun hr => row_kept (row_kept (row_kept hr z3 (by simp)) g6 (fun k hk e => by have := (row_ge hr hk).2; have := Option.some.inj e; omega)) g7 (fun k hk e => by have := (row_ge hr hk).2; have := Option.some.inj e; omega)
          have hq1 := hZi hk2r
          have hq2 := hZi hm2r
          have hgA : wr.grownBy X7 none := gb_mine (gb_mine (gb_trans hg1 (gb_trans hg2 z3)) g6 (by omega)) g7 (by omega)
          have hgB : w1.grownBy X7 none := gb_mine (gb_mine (gb_trans hg2 z3) g6 (by omega)) g7 (by omega)
          have hin7 := row_kept hin hgB (by simp)
          have hbA7 := hbA.kept hgA (by simp)
          have hbB7 := hbB.kept hgA (by simp)
          have hkr7 := row_kept hkr hgA (by simp)
          have hmr7 := row_kept hmr hgA (by simp)
          have hbw7 := hbw.kept hgA
          have HW7 : Hid (Wl w X7 w.heap.size (w.heap.size + 1) (fun k => (R ≤ k ∧ k < ZZ) ∨ wr.heap.size ≤ k) K') := (Wl.new hW).grow hgA
          obtain ⟨cb, hcb⟩ : ∃ cb, cb = w2.heap.size := ⟨_, rfl⟩
          rw [← hcb] at b7 k7 ⊢
          have hcbR : wr.heap.size ≤ cb := by omega
          have hgiR : wr.heap.size ≤ gi := hgi.1
          have hq1R : ∀ g, (Value.slice qka c.keys.length qkc).ownBlock = some g → wr.heap.size ≤ g := fun g hg => by have := (row_ge hq1 hg).1; omega
          have hq2R : ∀ g, (Value.slice qma c.mt.length qmc).ownBlock = some g → wr.heap.size ≤ g := fun g hg => by have := (row_ge hq2 hg).1; omega
          have hq1b := row_base hq1 (Nat.zero_le _)
          have hq2b := row_base hq2 (Nat.zero_le _)
          have HSZ0 : Hid (wr.heap.size ≤ X7.heap.size) := hgA.size
          clear hZi hq1 hq2 hgB hg1 hg2 z1 z2 z3 g6 g7 b6 k6 hbA hbB hkr hmr hin hin5 hW hbw hk2r hm2r hcb hgs1 hgs2 hgi
          have e7 := gb_cellN hgA e0
          have h16 := same_16 (w := X7) c [] false (.slice qka c.keys.length qkc) (.slice ka c.keys.length kc) (.slice none 0 0) (.slice none 0 0) (.slice qma c.mt.length qmc) (.slice ma c.mt.length mc) (ws_row hq1b rfl) (ws_row hkr7 rfl) (by omega) (fs_row hq2b) (fs_row hmr7) (by omega) (.inl ⟨rfl, _, _, rfl⟩) (.inl ⟨rfl, _, _, rfl⟩)
          have p0 : X7.cell? ⟨cb, 0, none⟩ = some (.int .i64 c.verb) := b7.cell 0
          have p1 : X7.cell? ⟨cb, 1, none⟩ = some (.slice qka c.keys.length qkc) := b7.cell 1
          have p2 : X7.cell? ⟨cb, 2, none⟩ = some (.int .u64 c.flags) := b7.cell 2
          have p3 : X7.cell? ⟨cb, 3, none⟩ = some (.int .i64 c.exp) := b7.cell 3
          have p4 : X7.cell? ⟨cb, 4, none⟩ = some (.int .u64 c.tok) := b7.cell 4
          have p5 : X7.cell? ⟨cb, 5, none⟩ = some (.int .u64 c.del) := b7.cell 5
          have p6 : X7.cell? ⟨cb, 6, none⟩ = some (.slice none 0 0) := b7.cell 6
          have p7 : X7.cell? ⟨cb, 7, none⟩ = some (.bool c.nr) := b7.cell 7
          have p8 : X7.cell? ⟨cb, 8, none⟩ = some (.bool false) := b7.cell 8
          have p9 : X7.cell? ⟨cb, 9, none⟩ = some (.slice qma c.mt.length qmc) := b7.cell 9
          have p10 : X7.cell? ⟨cb, 10, none⟩ = some (sv c.what) := b7.cell 10
          have r0 : X7.cell? ⟨wb, 0, none⟩ = some (.int .i64 c.verb) := hbA7.cell 0
          have r1 : X7.cell? ⟨wb, 1, none⟩ = some (.slice ka c.keys.length kc) := hbA7.cell 1
          have r2 : X7.cell? ⟨wb, 2, none⟩ = some (.int .u64 c.flags) := hbA7.cell 2
          have r3 : X7.cell? ⟨wb, 3, none⟩ = some (.int .i64 c.exp) := hbA7.cell 3
          have r4 : X7.cell? ⟨wb, 4, none⟩ = some (.int .u64 c.tok) := hbA7.cell 4
          have r5 : X7.cell? ⟨wb, 5, none⟩ = some (.int .u64 c.del) := hbA7.cell 5
          have r6 : X7.cell? ⟨wb, 6, none⟩ = some (.slice none 0 0) := hbA7.cell 6
          have r7 : X7.cell? ⟨wb, 7, none⟩ = some (.bool c.nr) := hbA7.cell 7
          have r8 : X7.cell? ⟨wb, 8, none⟩ = some (.bool false) := hbA7.cell 8
          have r9 : X7.cell? ⟨wb, 9, none⟩ = some (.slice ma c.mt.length mc) := hbA7.cell 9
          have r10 : X7.cell? ⟨wb, 10, none⟩ = some (sv c.what) := hbA7.cell 10
          go_wp2_with fail
          refine h16.mono ?_
          rintro e w3 ⟨rfl, hg3⟩
          clear p0 p1 p2 p3 p4 p5 p6 p7 p8 p9 p10
          clear r0 r1 r2 r3 r4 r5 r6 r7 r8 r9 r10
          clear h16
          have kA3 := hbA7.kept hg3 (by simp)
          have kB3 := hbB7.kept hg3 (by simp)
          have kb3 := b7.kept hg3 (by simp)
          have kk3 := k7.kept hg3 (by simp)
          have hin3 := row_kept hin7 hg3 (by simp)
          have e3 := gb_cellN hg3 e7
          have h17 := intactW hin3 (hbw7.kept hg3) (by omega)
          have p0 : w3.cell? ⟨(cb + 1), 0, none⟩ = some (.int .i64 wk) := kk3.cell 0
          have p1 : w3.cell? ⟨(cb + 1), 1, none⟩ = some (sv wt) := kk3.cell 1
          have p2 : w3.cell? ⟨(cb + 1), 2, none⟩ = some (.int .i64 wp) := kk3.cell 2
          have r0 : w3.cell? ⟨(wb + 1), 0, none⟩ = some (.int .i64 wk) := kB3.cell 0
          have r1 : w3.cell? ⟨(wb + 1), 1, none⟩ = some (sv wt) := kB3.cell 1
          have r2 : w3.cell? ⟨(wb + 1), 2, none⟩ = some (.int .i64 wp) := kB3.cell 2
          go_wp2_with fail
          refine h17.mono ?_
          rintro e w4 ⟨rfl, hg4⟩
          clear p0 p1 p2
          clear r0 r1 r2
          clear h17
          have hin4 := row_kept hin3 hg4 (by simp)
          have h18 := lentover_18 (n := l.length) (xs := l ++ mks 70) hin4 (by omega) (by rw [List.length_append, mks_length]) (by omega)
          go_wp2_with fail
          refine h18.mono ?_
          rintro e w5 ⟨rfl, hg5⟩
          clear h18
          have hgi5 : gi < w4.heap.size := (row_ge hin4 (j := gi) rfl).2
          obtain ⟨cu, hcu⟩ := row_block hin4 gi rfl
          have h34 := gb_trans hg3 hg4
          have HSZ : Hid (wr.heap.size ≤ w5.heap.size) := Nat.le_trans HSZ0.out (Nat.le_trans h34.size hg5.size)
          have ne5 : ∀ {t : TypeId} {b : Nat} {vs : Array Value}, Box w4 t b vs → t ≠ 5 → some b ≠ some gi := fun hb ht e => ne_of_type hb hcu ht (Option.some.inj e)
          have row5 : ∀ {e : TypeId} {s : Nat} {v : Value} {m : Nat} {ys : List Value}, X7.ownsRow 0 e s v m ys → e ≠ 5 → w5.ownsRow 0 e s v m ys := fun hr he => row_kept (row_kept hr h34 (by simp)) hg5 (fun k hk e2 => by obtain ⟨c2, h2⟩ := row_block (row_kept hr h34 (by simp)) k hk; exact ne_of_type h2 hcu he (Option.some.inj e2))
          have kA5 := (hbA7.kept h34 (by simp)).kept hg5 (ne5 (hbA7.kept h34 (by simp)) (by decide))
          have kB5 := (hbB7.kept h34 (by simp)).kept hg5 (ne5 (hbB7.kept h34 (by simp)) (by decide))
          have kb5 := (b7.kept h34 (by simp)).kept hg5 (ne5 (b7.kept h34 (by simp)) (by decide))
          have hq15 := row5 hq1b (by decide)
          have hq25 := row5 hq2b (by decide)
          have hkr5 := row5 hkr7 (by decide)
          have hmr5 := row5 hmr7 (by decide)
          have HW5 : Hid (Wl w w5 w.heap.size (w.heap.size + 1) (fun k => (R ≤ k ∧ k < ZZ) ∨ wr.heap.size ≤ k) K') := (Wl.grow HW7.out h34).writes hg5 (by omega) (.inr hgiR)
          have h16 := same_16 (w := w5) c [] false (.slice qka c.keys.length qkc) (.slice ka c.keys.length kc) (.slice none 0 0) (.slice none 0 0) (.slice qma c.mt.length qmc) (.slice ma c.mt.length mc) (ws_row hq15 rfl) (ws_row hkr5 rfl) (by omega) (fs_row hq25) (fs_row hmr5) (by omega) (.inl ⟨rfl, _, _, rfl⟩) (.inl ⟨rfl, _, _, rfl⟩)
          clear ne5 row5 hin4 hin3 hin7 hcu kA3 kB3 kb3 kk3 hbA7 hbB7 b7 k7 hkr7 hmr7 hbw7 e3 e7 HW7 hq1b hq2b h34 hg3 hg4 hg5
          have p0 : w5.cell? ⟨cb, 0, none⟩ = some (.int .i64 c.verb) := kb5.cell 0
          have p1 : w5.cell? ⟨cb, 1, none⟩ = some (.slice qka c.keys.length qkc) := kb5.cell 1
          have p2 : w5.cell? ⟨cb, 2, none⟩ = some (.int .u64 c.flags) := kb5.cell 2
          have p3 : w5.cell? ⟨cb, 3, none⟩ = some (.int .i64 c.exp) := kb5.cell 3
          have p4 : w5.cell? ⟨cb, 4, none⟩ = some (.int .u64 c.tok) := kb5.cell 4
          have p5 : w5.cell? ⟨cb, 5, none⟩ = some (.int .u64 c.del) := kb5.cell 5
          have p6 : w5.cell? ⟨cb, 6, none⟩ = some (.slice none 0 0) := kb5.cell 6
          have p7 : w5.cell? ⟨cb, 7, none⟩ = some (.bool c.nr) := kb5.cell 7
          have p8 : w5.cell? ⟨cb, 8, none⟩ = some (.bool false) := kb5.cell 8
          have p9 : w5.cell? ⟨cb, 9, none⟩ = some (.slice qma c.mt.length qmc) := kb5.cell 9
          have p10 : w5.cell? ⟨cb, 10, none⟩ = some (sv c.what) := kb5.cell 10
          have r0 : w5.cell? ⟨wb, 0, none⟩ = some (.int .i64 c.verb) := kA5.cell 0
          have r1 : w5.cell? ⟨wb, 1, none⟩ = some (.slice ka c.keys.length kc) := kA5.cell 1
          have r2 : w5.cell? ⟨wb, 2, none⟩ = some (.int .u64 c.flags) := kA5.cell 2
          have r3 : w5.cell? ⟨wb, 3, none⟩ = some (.int .i64 c.exp) := kA5.cell 3
          have r4 : w5.cell? ⟨wb, 4, none⟩ = some (.int .u64 c.tok) := kA5.cell 4
          have r5 : w5.cell? ⟨wb, 5, none⟩ = some (.int .u64 c.del) := kA5.cell 5
          have r6 : w5.cell? ⟨wb, 6, none⟩ = some (.slice none 0 0) := kA5.cell 6
          have r7 : w5.cell? ⟨wb, 7, none⟩ = some (.bool c.nr) := kA5.cell 7
          have r8 : w5.cell? ⟨wb, 8, none⟩ = some (.bool false) := kA5.cell 8
          have r9 : w5.cell? ⟨wb, 9, none⟩ = some (.slice ma c.mt.length mc) := kA5.cell 9
          have r10 : w5.cell? ⟨wb, 10, none⟩ = some (sv c.what) := kA5.cell 10
          go_wp2_with fail
          refine h16.mono ?_
          rintro e w6 ⟨rfl, hg6⟩
          clear p0 p1 p2 p3 p4 p5 p6 p7 p8 p9 p10
          clear r0 r1 r2 r3 r4 r5 r6 r7 r8 r9 r10
          clear h16
          have HW6 := Wl.grow HW5.out hg6
          have kA6 := kA5.kept hg6 (by simp)
          have kB6 := kB5.kept hg6 (by simp)
          have kb6 := kb5.kept hg6 (by simp)
          have hq16 := row_kept hq15 hg6 (by simp)
          have hq26 := row_kept hq25 hg6 (by simp)
          have hkr6 := row_kept hkr5 hg6 (by simp)
          have hmr6 := row_kept hmr5 hg6 (by simp)
          have h19 := HW6.texts (by omega) hq16 (by omega) (fun g hg => ⟨.inr (hq1R g hg), by have := hq1R g hg; omega⟩)
          have hg6s := hg6.size
          clear kA5 kB5 kb5 hq15 hq25 hkr5 hmr5 HW5 hg6
          have p1 : w6.cell? ⟨cb, 1, none⟩ = some (.slice qka c.keys.length qkc) := kb6.cell 1
          have HX : Hid _ := And.intro HW6 (And.intro kA6 (And.intro kB6 (And.intro kb6 (And.intro hq26 (And.intro hkr6 hmr6)))))
          have hcs6 := kb6.lt
          have HS6 : Hid (wr.heap.size ≤ w6.heap.size) := by have a1 := HSZ.out; have a2 := hg6s; show wr.heap.size ≤ w6.heap.size; omega
          clear HW6 kA6 kB6 kb6 hq26 hkr6 hmr6
          go_wp2_with fail
          refine h19.mono ?_
          rintro e w7 ⟨rfl, hW7, hk7⟩
          clear p1 h19
          obtain ⟨HW6, kA6, kB6, kb6, hq26, hkr6, hmr6⟩ := HX.out
          clear HX
          have b67 : ∀ k, k < w6.heap.size → (R ≤ k ∧ k < ZZ ∨ wr.heap.size ≤ k) → w7.heap[k]? = w6.heap[k]? := fun k h1 h2 => hk7.block k h1 (fun h => h h2)
          have s67 := hk7.size
          have s06 := HS6.out
          have kb7 : Box w7 41 cb #[.int .i64 c.verb, .slice qka c.keys.length qkc, .int .u64 c.flags, .int .i64 c.exp, .int .u64 c.tok, .int .u64 c.del, .slice none 0 0, .bool c.nr, .bool false, .slice qma c.mt.length qmc, sv c.what] := by unfold Box; rw [b67 cb hcs6 (.inr hcbR)]; exact kb6
          have hq27 := row_same hq26 (fun k hk => b67 k (row_ge hq26 hk).2 (.inr (hq2R k hk)))
          have P7 : ∀ k, k < w6.heap.size → (R ≤ k ∧ k < ZZ ∨ wr.heap.size ≤ k) → (∀ g, (Value.slice qka c.keys.length qkc).ownBlock = some g → k ≠ g) → ((R ≤ k ∧ k < ZZ ∨ wr.heap.size ≤ k) ∧ k < w6.heap.size ∧ (Value.slice qka c.keys.length qkc).ownBlock ≠ some k) := fun k h1 h2 h3 => ⟨h2, h1, fun e => h3 k e rfl⟩
          have hcbk : ∀ g, (Value.slice qka c.keys.length qkc).ownBlock = some g → cb ≠ g := fun g hg => by obtain ⟨c2, h2⟩ := row_block hq16 g hg; exact ne_of_type kb6 h2 (by decide)
          have hmvk : ∀ j, (Value.slice qma c.mt.length qmc).ownBlock = some j → ∀ g, (Value.slice qka c.keys.length qkc).ownBlock = some g → j ≠ g := fun j hj g hg => by obtain ⟨c1, h1⟩ := row_block hq26 j hj; obtain ⟨c2, h2⟩ := row_block hq16 g hg; exact ne_of_type h1 h2 (by decide)
          have hlok : ∀ k, k < ZZ → ∀ g, (Value.slice qka c.keys.length qkc).ownBlock = some g → k ≠ g := fun k hk g hg => by have := hq1R g hg; omega
          have hW7' := hW7
          have h20 := hW7.bytes (l := []) (vao := none) (vcp := 0) (m := 0) (by omega) ⟨rfl, .inl ⟨rfl, rfl⟩⟩ (by omega) (fun g hg => by simp [Value.ownBlock] at hg)
          have p6 : w7.cell? ⟨cb, 6, none⟩ = some (.slice none 0 0) := kb7.cell 6
          have HY : Hid _ := And.intro kb7 (And.intro hq27 (And.intro P7 (And.intro hcbk (And.intro hmvk (And.intro hlok b67)))))
          have HX : Hid _ := And.intro kA6 (And.intro kB6 (And.intro hkr6 hmr6))
          have HQ : Hid _ := hq26
          clear kb7 hq27 P7 hcbk hmvk hlok b67 kA6 kB6 hkr6 hmr6 kb6 hW7 hW7' hk7 HW6 hq26 hq16
          go_wp2_with fail
          refine h20.mono ?_
          rintro e w8 ⟨rfl, hW8, hk8⟩
          clear p6 h20
          obtain ⟨kb7, hq27, P7, hcbk, hmvk, hlok, b67⟩ := HY.out
          clear HY
          have s78 := hk8.size
          have b78 : ∀ k, k < w7.heap.size → k < w6.heap.size → (R ≤ k ∧ k < ZZ ∨ wr.heap.size ≤ k) → (∀ g, (Value.slice qka c.keys.length qkc).ownBlock = some g → k ≠ g) → w8.heap[k]? = w7.heap[k]? := fun k h0 h1 h2 h3 => hk8.block k h0 (fun h => h (P7 k h1 h2 h3))
          have kb8 : Box w8 41 cb #[.int .i64 c.verb, .slice qka c.keys.length qkc, .int .u64 c.flags, .int .i64 c.exp, .int .u64 c.tok, .int .u64 c.del, .slice none 0 0, .bool c.nr, .bool false, .slice qma c.mt.length qmc, sv c.what] := by unfold Box; rw [b78 cb kb7.lt hcs6 (.inr hcbR) hcbk]; exact kb7
          have hq26 := HQ.out
          have hq28 := row_same hq27 (fun k hk => b78 k (row_ge hq27 hk).2 (row_ge hq26 hk).2 (.inr (hq2R k hk)) (hmvk k hk))
          have h21 := hW8.add hq28 fcs_one (by omega) (fun g hg => ⟨⟨P7 g (row_ge hq26 hg).2 (.inr (hq2R g hg)) (hmvk g hg), (row_ge hq27 hg).2, by simp [Value.ownBlock]⟩, by have := hq2R g hg; omega⟩)
          have p9 : w8.cell? ⟨cb, 9, none⟩ = some (.slice qma c.mt.length qmc) := kb8.cell 9
          have HY : Hid _ := And.intro P7 (And.intro hlok (And.intro b67 b78))
          clear kb7 hq27 P7 hcbk hmvk hlok b67 b78 kb8 hq26 hq28 hW8 hk8
          go_wp2_with fail
          refine h21.mono ?_
          rintro e w9 ⟨rfl, hW9, hk9⟩
          clear p9 h21
          obtain ⟨P7, hlok, b67, b78⟩ := HY.out
          obtain ⟨kA6, kB6, hkr6, hmr6⟩ := HX.out
          clear HY HX HQ
          have s89 := hk9.size
          have b69 : ∀ k, R ≤ k → k < ZZ → w9.heap[k]? = w6.heap[k]? := fun k h1 h2 => by
            have e9 := hk9.block k (by omega) (fun h => h ⟨P7 k (by omega) (.inl ⟨h1, h2⟩) (hlok k h2), by omega, by simp [Value.ownBlock]⟩)
            rw [e9, b78 k (by omega) (by omega) (.inl ⟨h1, h2⟩) (hlok k h2), b67 k (by omega) (.inl ⟨h1, h2⟩)]
          have HP : Hid (ZZ ≤ w9.heap.size ∧ Wl w w9 w.heap.size (w.heap.size + 1) (fun k => R ≤ k ∧ k < ZZ) (K' + 1 + 1) ∧ Box w9 41 wb #[.int .i64 c.verb, .slice ka c.keys.length kc, .int .u64 c.flags, .int .i64 c.exp, .int .u64 c.tok, .int .u64 c.del, .slice none 0 0, .bool c.nr, .bool false, .slice ma c.mt.length mc, sv c.what] ∧ Box w9 43 (wb + 1) #[.int .i64 wk, sv wt, .int .i64 wp] ∧ w9.ownsRow 0 9 1 (.slice ka c.keys.length kc) c.keys.length (c.keys.map sv) ∧ w9.ownsRow 0 79 3 (.slice ma c.mt.length mc) c.mt.length (fcs c.mt)) := by
            refine ⟨by omega, hW9.less (fun k hk => ⟨⟨P7 k (by omega) (.inl hk) (hlok k hk.2), by omega, by simp [Value.ownBlock]⟩, by omega, fun e => by have := hq2R k e; omega⟩), ?_, ?_, row_same hkr6 (fun k hk => b69 k (hrk k hk).1 (hrk k hk).2), row_same hmr6 (fun k hk => b69 k (hrm k hk).1 (hrm k hk).2)⟩
            · unfold Box; rw [b69 wb hRb hb7]; exact kA6
            · unfold Box; rw [b69 (wb + 1) (by omega) hb8]; exact kB6
          clear b69 P7 hlok b67 b78 kA6 kB6 hkr6 hmr6 hW9 hk9
          go_wp2_with fail
          obtain ⟨q0, q1, q2⟩ := HP.out
          exact ⟨⟨k + 1, K' + 1 + 1, by omega, by omega, by go_num, q0, q1, q2⟩, by simp [intOf]; omega⟩
        · obtain rfl : k = 2 := by omega
          have hk2' : ¬ ((2 : Nat) : Int) < 2 := by omega
          have HS : Hid _ := hW
          clear hbA hbB hkr hmr hW
          go_wp2
          exact ⟨⟨i + 1, K', by omega, by omega, by omega, by go_num, Wl.less HS.out (fun _ h => h.elim)⟩, by simp [intOf]; omega⟩
    · have hW' := hW
      have h22 := hW.close (by omega)
      have hd : (decide ((i : Int) < (n : Int)) && decide ((i : Int) < 300)) = false := by simp; omega
      by_cases hin : i < n
      · have d1 : decide ((i : Int) < (n : Int)) = true := by simp; omega
        have d2 : decide ((i : Int) < 300) = false := by simp; omega
        clear hd hW hW' hlt
        go_wp2_with fail
        refine h22.mono ?_
        rintro e w1 ⟨rfl, hg1, FM, hF, hFM⟩
        have h23 := own_23 hF
        clear h22
        go_wp2_with fail
        refine h23.mono ?_
        rintro e w2 ⟨rfl, hk2⟩
        have hg2 := gb_of_kp hg1 hk2 hFM
        have h24 := wakes_5 (hE.kept hg2)
        clear h23
        go_wp2_with fail
        refine h24.mono ?_
        rintro e w3 ⟨rfl, hg3⟩
        clear h24
        go_wp2_with fail
        go_ret
        exact ⟨rfl, gb_trans hg2 hg3⟩
      · have d1 : decide ((i : Int) < (n : Int)) = false := by simp; omega
        clear hd hW hW' hlt
        go_wp2_with fail
        refine h22.mono ?_
        rintro e w1 ⟨rfl, hg1, FM, hF, hFM⟩
        have h23 := own_23 hF
        clear h22
        go_wp2_with fail
        refine h23.mono ?_
        rintro e w2 ⟨rfl, hk2⟩
        have hg2 := gb_of_kp hg1 hk2 hFM
        have h24 := wakes_5 (hE.kept hg2)
        clear h23
        go_wp2_with fail
        refine h24.mono ?_
        rintro e w3 ⟨rfl, hg3⟩
        clear h24
        go_wp2_with fail
        go_ret
        exact ⟨rfl, gb_trans hg2 hg3⟩

end Go.Proofs.YtobegepebochkaaGreatDoor
