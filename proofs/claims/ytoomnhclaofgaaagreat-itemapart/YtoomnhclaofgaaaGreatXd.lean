import Derived.Test.YtoomnhclaofgaaaGreatXe
import Derived.Deep.RegionHeld3
/-
  ItemApart's walk.
-/
namespace Go.Proofs.YtoomnhclaofgaaaGreat
open Go.RowKit
set_option linter.unusedVariables false

theorem cfN_ex2 (n : Int) : ∃ ps m F s0 il nc, CfN n ps m F s0 il nc ∧ 2 ≤ m := by
  obtain ⟨k, hk, hw⟩ := within_nat n 4 (by omega) (by omega)
  have hk' : k = 0 ∨ k = 1 ∨ k = 2 ∨ k = 3 := by omega
  rcases hk' with rfl | rfl | rfl | rfl
  · exact ⟨4096, 3, 200, 64, 256, 3, ⟨wk_cfg, wk_cls, by decide, by decide, fun W => config_0 n (fun W' => hw W') W⟩, by decide⟩
  · exact ⟨4096, 2, 400, 128, 400, 2, ⟨c1_cfg, c1_cls, by decide, by decide, fun W => config_1 n (fun W' => hw W') W⟩, by decide⟩
  · exact ⟨8192, 3, 400, 512, 4000, 3, ⟨c2_cfg, c2_cls, by decide, by decide, fun W => config_2 n (fun W' => hw W') W⟩, by decide⟩
  · exact ⟨4096, 5, 130, 64, 100, 3, ⟨c3_cfg, c3_cls, by decide, by decide, fun W => config_3 n (fun W' => hw W') W⟩, by decide⟩

set_option maxRecDepth 100000 in
set_option maxHeartbeats 8000000 in
theorem apart_any {w : World} (cf cs : Int) (ka : Option Addr) (kn kc : Nat) (va : Option Addr) (vn vc : Nat) (na : Option Addr) (nn nc : Nat) (fl tk ex to st mk : Int) (ys : List Int) (hy : Has w ka kn ys) (hyb : isBytes ys) (hkn : kn ≤ 140737488351232) (hfl : 0 ≤ fl ∧ fl < 18446744073709551616) (htk : 0 ≤ tk ∧ tk < 18446744073709551616) :
    Calls Tryz.prog 3 #[laidV cf cs ka kn kc va vn vc na nn nc fl tk ex to st mk] w fun y w' => y = .returned (.bool true) ∧ w.grownBy w' none := by
  obtain ⟨ps, m, F, s0, il, n, hN, hm2⟩ := cfN_ex2 cf
  have hcf := hN.is
  have hcn := fun W => new_ok hN.cfg 30 30 hN.n62 hN.cls hN.nm W
  have hInv := inv_new hN.cfg hN.n62 hN.cls
  have hn1 := hN.cls.1
  have hn62 := hN.n62
  have hbp := hN.cfg.bounds.1
  have hwk := fun W => iwakes W
  have hal : w.grownBy (w.alloc (.cells #[.int .i64 cf, .int .i64 cs, .slice ka kn kc, .slice va vn vc, .slice na nn nc, .int .u64 fl, .int .u64 tk, .int .i64 ex, .int .i64 to, .int .i64 st, .int .i64 mk] 25)) none := World.grownBy_alloc _ _ _
  have hbx := Box.new w 25 #[.int .i64 cf, .int .i64 cs, .slice ka kn kc, .slice va vn vc, .slice na nn nc, .int .u64 fl, .int .u64 tk, .int .i64 ex, .int .i64 to, .int .i64 st, .int .i64 mk]
  have hal1 := hal.size
  have hxl := hbx.lt
  obtain ⟨A, fr, hFil, t2⟩ := two_yes hInv rfl (fun c => rfl) (k := n - 1) (show n - 1 < n by omega) hm2
  have hn0 : (((n - 1 : Nat) : Int)) = (n : Int) - 1 := by omega
  clear hN
  unfold cfgV at hcf hcn
  unfold laidV
  go_enter Tryz.func3, Tryz.ntmps3
  have hnw : IntKind.i64.wrap ((n : Int) - 1) = (n : Int) - 1 := by rw [IntKind.wrap_i64]; omega
  rw [hn0] at t2
  go_wp2_with (first | (go_at_call 5; go_must (refine (hcf _).mono ?_); rintro y w1 ⟨rfl, hf1⟩) | (go_at_call 4; go_must (refine (hcn _).mono ?_); rintro y w2 ⟨sb, G, B, rfl, hf2, hS2, hG2⟩) | (go_at_call 6; go_must (refine (num_45 _ _).mono ?_); rintro y w' ⟨rfl, rfl⟩) | (go_at_call 7; go_must (refine (hwk _).mono ?_); rintro y w3 ⟨rfl, hf3⟩; (have hS3 := hS2.kept0 hf3); (have hb3 := ((hbx.kept hf1 (by simp)).kept hf2 (by simp)).kept hf3 (by simp))) | (go_at_call 9; go_must (refine (classes_20 hS3 hInv.toSzs).mono ?_); rintro y w' ⟨rfl, rfl⟩; rw [show ((A0 ps m n (chain F (limOf il) s0)).n : Int) = (n : Int) from rfl]) | (go_at_call 8; go_must (refine (t2 _ _ _ _ _ _ _ _ _ _ _ hS3).mono ?_); rintro y w4 ⟨rfl, hK4, F4, B4, hS4, hG4⟩; (have hGw : ∀ k, G k → w.heap.size < k := fun k hk => by have := hG2 k hk; have := hf1.size; omega); (have hb4 := hK4.box hb3 (fun h => by have := hGw _ h; omega)); (have e0 := hb4.cell 0); (have e1 := hb4.cell 1); (have e2 := hb4.cell 2); (have e3 := hb4.cell 3); (have e4 := hb4.cell 4); (have e5 := hb4.cell 5); (have e6 := hb4.cell 6); (have e7 := hb4.cell 7); (have e8 := hb4.cell 8); (have e9 := hb4.cell 9); (have e10 := hb4.cell 10); simp at e0 e1 e2 e3 e4 e5 e6 e7 e8 e9 e10) | fail)
  have hF3 := gb_trans (gb_trans (gb_trans hal hf1) hf2) hf3
  have hs12 := hf1.size
  have hs23 := hf2.size
  have hs33 := hf3.size
  have hs34 := hK4.size
  have hF4w : ∀ k, F4 k → w.heap.size < k := fun k hk => by
    rcases hG4 k hk with h | h
    · exact hGw k h
    · omega
  have hFw4 : w.grownBy w4 none := ((Kp.of (F := fun _ => False) hF3).trans hK4 (H := fun _ => False) (fun _ h => h) (fun k hk => .inr (by have := hGw k hk; omega))).grown (fun i hi => hi.elim)
  obtain ⟨pA, kA, pB, kB, hHa, hHb, hoA, hoB, hplA, hplB, hap⟩ := two_facts hFil
  have hHne := hN_ne hFil
  have hA := hFil.inv.fit
  have hkn1 : n - 1 < A.n := by rw [hFil.n]; exact (show n - 1 < n by omega)
  have hlo := hA.lo _ hkn1
  have hla := (pl_of hS4 hA.toFit1 hHa.hp hHa.hk).le
  have hlb := (pl_of hS4 hA.toFit1 hHb.hp hHb.hk).le
  rw [hplA, hoA] at hla
  rw [hplB, hoB] at hlb
  obtain ⟨zs, hzs⟩ : ∃ zs, zs = headZ (headZ (List.replicate (ps * m) 0) (plN (A0 ps m n (chain F (limOf il) s0)) (n - 1) 0) 0) (plN (A0 ps m n (chain F (limOf il) s0)) (n - 1) 1) 0 := ⟨_, rfl⟩
  rw [← hzs] at hS4 hla hlb
  have hl0 : (List.replicate (ps * m) (0 : Int)).length = zs.length := by
    rw [hS4.ar.hN, hFil.ps, hFil.m, List.length_replicate]; rfl
  obtain ⟨_, hga, hgb⟩ := two_bytes (zs := List.replicate (ps * m) 0) hlo hap (by rw [hl0]; exact hla) (by rw [hl0]; exact hlb)
  rw [← hzs] at hga hgb
  clear hl0 hzs
  clear hS3 hS2 hb3 hbx hF3 hf1 hf2 hf3 hK4 hG4 hG2 hGw hcf hcn hwk t2 hInv
  generalize plN (A0 ps m n (chain F (limOf il) s0)) (n - 1) 0 = pa at *
  generalize plN (A0 ps m n (chain F (limOf il) s0)) (n - 1) 1 = pb at *
  generalize hN (A0 ps m n (chain F (limOf il) s0)) (n - 1) 0 = Ha at *
  generalize hN (A0 ps m n (chain F (limOf il) s0)) (n - 1) 1 = Hb at *
  have hmd := made_51 (w := w4) cf cs ka kn kc va vn vc na nn nc fl tk ex to st mk ys (hy.kept0 hFw4) hyb hkn hfl
  obtain ⟨hlK, hbK⟩ := keyOf_legal ys hyb
  have r1 : 0 ≤ fl % 4294967296 ∧ fl % 4294967296 ≤ 4294967295 := by omega
  have r2 : 0 ≤ ex % 4611686018427387904 ∧ ex % 4611686018427387904 < 9223372036854775808 := by omega
  have r3 : 0 ≤ to % 4611686018427387904 ∧ to % 4611686018427387904 < 9223372036854775808 := by omega
  have r4 : 1 ≤ 1 + st % 4 ∧ 1 + st % 4 ≤ 4 := by omega
  have r5 : 0 ≤ mk % 16 ∧ mk % 16 ≤ 15 := by omega
  generalize fl % 4294967296 = fl' at *
  generalize ex % 4611686018427387904 = ex' at *
  generalize to % 4611686018427387904 = to' at *
  generalize 1 + st % 4 = st' at *
  generalize mk % 16 = mk' at *
  generalize keyOf ys = K at *
  have hkl := hlK.2.1
  have hkl1 := hlK.1
  generalize hKl : K.length = kl at *
  have hB : Bnd fl' ex' to' st' mk' := ⟨r1, r2, r3, r4, r5⟩
  unfold laidV itV at hmd
  have hHne2 : ¬ (Ha : Int) = (Hb : Int) := by omega
  go_wp2_with (first | (go_at_call 10; go_must (refine hmd.mono ?_); rintro y w6 ⟨ao, cap, rfl, hown6, hf6⟩; obtain ⟨gk, rfl, hgk, hck, hcm⟩ := hown6.shape (by omega); (rw [hKl] at hck); (have hbi := Box.new w6 40 #[.slice (some ⟨gk, 0, none⟩) kl cap, .slice va vn vc, .int .u64 fl', .int .i64 ex', .int .i64 to', .int .u64 tk, .int .i64 st', .int .i64 mk']); (have u0 := hbi.cell 0); (have u1 := hbi.cell 1); (have z0 := hbi.fz 0); (have z1 := hbi.fz 1); simp at u0 u1) | fail)
  obtain ⟨x, hK1, hlx, hbx⟩ := legal_one hlK hbK
  have hk6 := hown6.has
  rw [hKl] at hk6
  have hk1 := (hk6.piece 0 1 0 (by omega) (fun _ => rfl)).kept0 (World.grownBy_alloc w6 (.cells #[.slice (some ⟨gk, 0, none⟩) 1 cap, .slice none 0 0, .int .u64 fl', .int .i64 ex', .int .i64 to', .int .u64 tk, .int .i64 st', .int .i64 mk'] 40) none)
  rw [hK1] at hk1
  have hW0 : w4.grownBy (w6.alloc (.cells #[.slice (some ⟨gk, 0, none⟩) 1 cap, .slice none 0 0, .int .u64 fl', .int .i64 ex', .int .i64 to', .int .u64 tk, .int .i64 st', .int .i64 mk'] 40)) none := gb_alloc hf6 _
  have hbi2 := Box.new w6 40 #[.slice (some ⟨gk, 0, none⟩) 1 cap, .slice none 0 0, .int .u64 fl', .int .i64 ex', .int .i64 to', .int .u64 tk, .int .i64 st', .int .i64 mk']
  have hagF := hS4.fa.2
  have hagl := hS4.lt _ hagF
  have hs46 := hf6.size
  have hgk6 := (hown6.lt gk rfl).2
  have hnil : ∀ W : World, Has W none 0 [] := fun W => ⟨rfl, fun h => by omega⟩
  have hnb : isBytes [] := by simp [isBytes]
  have cla := lay_yes (hS4.kept0 hW0) hA hHa (some ⟨gk, 0, none⟩) 1 cap none 0 0 fl' ex' to' tk st' mk' [x] [] hk1 (hnil _) hbx hnb (fun y hy => by simp at hy; omega) (by simp) hlx (by rw [hoA]; omega) hB htk 0 (by rw [hplA]; exact hga)
  rw [hplA, hoA] at cla
  unfold itV at cla
  obtain ⟨zs5, hz5⟩ : ∃ zs5, zs5 = lay zs pa (It.L ⟨0, 0, 0, 0, ex', to', tk, fl', st', mk', ((n - 1 : Nat) : Int), [x], []⟩).flatten := ⟨_, rfl⟩
  rw [← hz5] at cla
  have hlz5 : zs5.length = zs.length := by rw [hz5]; exact length_lay (by rw [It.len]; simp only [List.length_cons, List.length_nil]; omega)
  have hgb5 : cut zs5 (pb + 12) 4 = be 4 0 := by
    rw [hz5, cut_far zs pa _ (by rw [It.len]; simp only [List.length_cons, List.length_nil]; omega) (pb + 12) 4 (by rw [It.len]; simp only [List.length_cons, List.length_nil]; omega)]
    exact hgb
  have clb := fun (w7 : World) (hS7 : IsS w7 sb F4 B4 m F s0 il 30 30 A zs5) (h47 : w4.heap.size ≤ w7.heap.size) => lay_yes (hS7.kept0 (World.grownBy_alloc w7 (.cells #[.int .u8 122] 5 (1, 2)) none)) hA hHb (some ⟨w7.heap.size, 0, none⟩) 1 1 none 0 0 0 0 0 0 1 0 [122] [] (has_one (cell_new1 w7 122 (1, 2))) (hnil _) bytes_z hnb (fun y hy => by simp at hy; omega) (by simp) legal_z (by rw [hoB]; omega) ⟨by decide, by decide, by decide, by decide, by decide⟩ (by decide) 0 (by rw [hplB]; exact hgb5)
  simp only [hplB, hoB] at clb
  unfold itV at clb
  obtain ⟨zs6, hz6⟩ : ∃ zs6, zs6 = lay zs5 pb (It.L ⟨0, 0, 0, 0, 0, 0, 0, 0, 1, 0, ((n - 1 : Nat) : Int), [122], []⟩).flatten := ⟨_, rfl⟩
  simp only [← hz6] at clb
  have cch := fun (w8 : World) (hS8 : IsS w8 sb F4 B4 m F s0 il 30 30 A zs6) => chunkOf_52 hS8 hA hHb
  simp only [hplB, hoB] at cch
  have hwag : w.heap.size ≠ B4.ag := by have := hF4w _ hagF; omega
  go_wp2_with (first | (go_at_call 11; with_reducible refine cla.mono ?_; rintro y w7 ⟨rfl, hS7, hf7⟩; (have hcv7 := Lib.run_convert_bytes_const w7 22 5 #[.int .u8 122] 1 1 Tryz.underlying22 Tryz.underlying5); (have hs67 := hf7.size)) | (go_at_call 11; with_reducible refine (clb _ hS7 (by have := hW0.size; omega)).mono ?_; rintro y w8 ⟨rfl, hS8, hf8⟩) | (go_at_call 12; with_reducible refine (cch _ hS8).mono ?_; rintro y w9 ⟨gg, rfl, hgg, hf9, hh9⟩; (have hbx9 := ((((hb4.kept hW0 (by simp)).kept hf7 (by simpa using hwag)).kept (World.grownBy_alloc w7 (.cells #[.int .u8 122] 5 (1, 2)) none) (by simp)).kept hf8 (by simpa using hwag)).kept hf9 (by simp)); (have x5 := hbx9.cell 5); (have x6 := hbx9.cell 6); (have x7 := hbx9.cell 7); (have x8 := hbx9.cell 8); (have x9 := hbx9.cell 9); (have x10 := hbx9.cell 10); simp at x5 x6 x7 x8 x9 x10) | (go_at_call 6; go_must (refine (num_45 _ _).mono ?_); rintro y w' ⟨rfl, rfl⟩) | fail)
  have hmy := made_51 (w := w9) 0 0 none 0 0 none 0 0 none 0 0 tk fl to ex mk st [] (hnil _) hnb (by omega) htk
  have q1 : 0 ≤ tk % 4294967296 ∧ tk % 4294967296 ≤ 4294967295 := by omega
  have q2 : 0 ≤ to % 4611686018427387904 ∧ to % 4611686018427387904 ≤ 9223372036854775807 := by omega
  have q3 : 0 ≤ ex % 4611686018427387904 ∧ ex % 4611686018427387904 ≤ 9223372036854775807 := by omega
  have q4 : 1 ≤ 1 + mk % 4 ∧ 1 + mk % 4 ≤ 4 := by omega
  have q5 : 0 ≤ st % 16 ∧ st % 16 ≤ 15 := by omega
  have q6 : 0 ≤ fl ∧ fl ≤ 18446744073709551615 := by omega
  generalize tk % 4294967296 = fy at *
  generalize to % 4611686018427387904 = ey at *
  generalize ex % 4611686018427387904 = ty at *
  generalize 1 + mk % 4 = sy at *
  generalize st % 16 = my at *
  rw [show keyOf [] = [107] from rfl, show ([107] : List Int).length = 1 from rfl] at hmy
  unfold laidV itV at hmy
  go_wp2_with (first | (go_at_call 10; with_reducible refine hmy.mono ?_; rintro y w10 ⟨ao2, cap2, rfl, hown10, hf10⟩) | fail)
  have l1 := hbi2.lt
  have l2 := hf8.size
  have l3 := (World.grownBy_alloc w7 (.cells #[.int .u8 122] 5 (1, 2)) none).size
  have l4 := hf9.size
  have l5 := hf10.size
  have l6 := hb4.lt
  have hlt4 : ∀ k, F4 k → k < w4.heap.size := fun k hk => hS4.lt k hk
  have hagw := hF4w _ hagF
  have hAF : AF w w6.heap.size w10.heap.size F4 (some ⟨gk, 0, none⟩) gg pa pb (A.sz (n - 1)) :=
    ⟨hF4w, fun h => by have := hlt4 _ h; omega, by omega, fun h => by have := hlt4 _ h; omega, by omega, fun y hy => by simp at hy; subst hy; exact ⟨fun h => by have := hlt4 _ h; omega, by omega⟩, ⟨fun h => by have := hlt4 _ h; omega, by omega⟩, hap, hlo⟩
  have g7 : w.grownBy w7 none := gb_mine (gb_trans hFw4 hW0) hf7 (by omega)
  have g8 : w.grownBy w8 none := gb_mine (gb_trans g7 (World.grownBy_alloc w7 (.cells #[.int .u8 122] 5 (1, 2)) none)) hf8 (by omega)
  have a10 := World.grownBy_alloc w10 (.cells #[.slice ao2 1 cap2, .slice none 0 0, .int .u64 fy, .int .i64 ey, .int .i64 ty, .int .u64 fl, .int .i64 sy, .int .i64 my] 40) none
  have hlz6 : zs6.length = zs5.length := by rw [hz6]; exact length_lay (by rw [It.len]; simp only [List.length_cons, List.length_nil]; omega)
  have hI5 : IsI zs5 pa ⟨0, 0, 0, 0, ex', to', tk, fl', st', mk', ((n - 1 : Nat) : Int), [x], []⟩ := by
    rw [hz5]
    exact isI_layP pa ex' to' tk fl' st' mk' ((n - 1 : Nat) : Int) 0 [x] [] (by simp only [List.length_cons, List.length_nil]; omega) hB htk (by omega) (by omega) (by simp) (by simp) hbx hnb
  have hI6 : IsI zs6 pa ⟨0, 0, 0, 0, ex', to', tk, fl', st', mk', ((n - 1 : Nat) : Int), [x], []⟩ := by
    rw [hz6]
    exact hI5.far (by rw [It.len]; simp only [List.length_cons, List.length_nil]; omega) (by rw [It.len]; simp only [List.length_cons, List.length_nil]; omega)
  have hne1 : some w6.heap.size ≠ some B4.ag := by simp; omega
  have hne2 : ∀ y, (some (⟨gk, 0, none⟩ : Addr)).map (·.block) = some y → some y ≠ some B4.ag := fun y hy => by simp at hy; simp; omega
  obtain ⟨OB, hOB⟩ : ∃ OB, OB = cut zs6 pb (A.sz (n - 1)) := ⟨_, rfl⟩
  have hOl : OB.length = A.sz (n - 1) := by rw [hOB]; exact length_cut (by omega)
  have hOb : isBytes OB := by rw [hOB]; exact isBytes_cut hS8.ar.hz _ _
  rw [← hOB] at hh9
  have hAW0 : AW w #[.int .i64 cf, .int .i64 cs, .slice ka kn kc, .slice va vn vc, .slice na nn nc, .int .u64 fl, .int .u64 tk, .int .i64 ex, .int .i64 to, .int .i64 st, .int .i64 mk] sb w6.heap.size w10.heap.size F4 B4 m F s0 il 30 30 A (some ⟨gk, 0, none⟩) gg pa pb (A.sz (n - 1)) [x] OB #[.slice ao2 1 cap2, .slice none 0 0, .int .u64 fy, .int .i64 ey, .int .i64 ty, .int .u64 fl, .int .i64 sy, .int .i64 my] #[.slice (some ⟨gk, 0, none⟩) 1 cap, .slice none 0 0, .int .u64 fl', .int .i64 ex', .int .i64 to', .int .u64 tk, .int .i64 st', .int .i64 mk'] zs6 ⟨0, 0, 0, 0, ex', to', tk, fl', st', mk', ((n - 1 : Nat) : Int), [x], []⟩ (w10.alloc (.cells #[.slice ao2 1 cap2, .slice none 0 0, .int .u64 fy, .int .i64 ey, .int .i64 ty, .int .u64 fl, .int .i64 sy, .int .i64 my] 40)) :=
    ⟨gb_trans (gb_trans (gb_trans g8 hf9) hf10) a10, (hbx9.kept hf10 (by simp)).kept a10 (by simp), (((((hbi2.kept hf7 hne1).kept (World.grownBy_alloc w7 (.cells #[.int .u8 122] 5 (1, 2)) none) (by simp)).kept hf8 hne1).kept hf9 (by simp)).kept hf10 (by simp)).kept a10 (by simp), Box.new w10 40 _, ((hS8.kept0 hf9).kept0 hf10).kept0 a10, (((((hk1.kept hf7 hne2).kept0 (World.grownBy_alloc w7 (.cells #[.int .u8 122] 5 (1, 2)) none)).kept hf8 hne2).kept0 hf9).kept0 hf10).kept0 a10, ((has_vals hh9 hOl).kept0 hf10).kept0 a10, hI6, hOB.symm, by omega, by omega⟩
  have hggl := lt_of_block hh9
  have hoA2 : 59 ≤ A.sz (A.own pA) := by rw [hoA]; omega
  clear hI5 hI6 hz5 hz6 hS4 hS7 hS8 hb4 hbx9 hbi hbi2 hk1 hk6 hh9 hown10 hown6 hcv7 hW0 hf6 hf7 hf8 hf9 hf10 cla clb cch hmd hmy g7 g8 a10 hga hgb hgb5 e0 e1 e2 e3 e4 e5 e6 e7 e8 e9 e10 x5 x6 x7 x8 x9 x10 u0 u1 z0 z1
  clear hFil hOB
  generalize w10.alloc (.cells #[.slice ao2 1 cap2, .slice none 0 0, .int .u64 fy, .int .i64 ey, .int .i64 ty, .int .u64 fl, .int .i64 sy, .int .i64 my] 40) = W1 at *
  go_loopw [10] (fun v wq => ∃ (k : Nat) (zq : List Int), k ≤ 6 ∧ v = .int .i64 k ∧ AW w #[.int .i64 cf, .int .i64 cs, .slice ka kn kc, .slice va vn vc, .slice na nn nc, .int .u64 fl, .int .u64 tk, .int .i64 ex, .int .i64 to, .int .i64 st, .int .i64 mk] sb w6.heap.size w10.heap.size F4 B4 m F s0 il 30 30 A (some ⟨gk, 0, none⟩) gg pa pb (A.sz (n - 1)) [x] OB #[.slice ao2 1 cap2, .slice none 0 0, .int .u64 fy, .int .i64 ey, .int .i64 ty, .int .u64 fl, .int .i64 sy, .int .i64 my] #[.slice (some ⟨gk, 0, none⟩) 1 cap, .slice none 0 0, .int .u64 (stp ⟨0, 0, 0, 0, ex', to', tk, fl', st', mk', ((n - 1 : Nat) : Int), [x], []⟩ ⟨0, 0, 0, 0, ey, ty, fl, fy, sy, my, 0, [], []⟩ k).fl, .int .i64 (stp ⟨0, 0, 0, 0, ex', to', tk, fl', st', mk', ((n - 1 : Nat) : Int), [x], []⟩ ⟨0, 0, 0, 0, ey, ty, fl, fy, sy, my, 0, [], []⟩ k).ex, .int .i64 (stp ⟨0, 0, 0, 0, ex', to', tk, fl', st', mk', ((n - 1 : Nat) : Int), [x], []⟩ ⟨0, 0, 0, 0, ey, ty, fl, fy, sy, my, 0, [], []⟩ k).to, .int .u64 (stp ⟨0, 0, 0, 0, ex', to', tk, fl', st', mk', ((n - 1 : Nat) : Int), [x], []⟩ ⟨0, 0, 0, 0, ey, ty, fl, fy, sy, my, 0, [], []⟩ k).tk, .int .i64 (stp ⟨0, 0, 0, 0, ex', to', tk, fl', st', mk', ((n - 1 : Nat) : Int), [x], []⟩ ⟨0, 0, 0, 0, ey, ty, fl, fy, sy, my, 0, [], []⟩ k).st, .int .i64 (stp ⟨0, 0, 0, 0, ex', to', tk, fl', st', mk', ((n - 1 : Nat) : Int), [x], []⟩ ⟨0, 0, 0, 0, ey, ty, fl, fy, sy, my, 0, [], []⟩ k).ms] zq (stp ⟨0, 0, 0, 0, ex', to', tk, fl', st', mk', ((n - 1 : Nat) : Int), [x], []⟩ ⟨0, 0, 0, 0, ey, ty, fl, fy, sy, my, 0, [], []⟩ k) wq) (fun v _ => 6 - (intOf v).toNat)
  case atStart => exact ⟨0, zs6, by omega, rfl, hAW0⟩
  case round =>
    obtain ⟨k, zq, hk6, rfl, hW⟩ := hrel
    have hkk : k = 0 ∨ k = 1 ∨ k = 2 ∨ k = 3 ∨ k = 4 ∨ k = 5 ∨ k = 6 := by omega
    rcases hkk with rfl | rfl | rfl | rfl | rfl | rfl | rfl
    · have hWk : AW w #[.int .i64 cf, .int .i64 cs, .slice ka kn kc, .slice va vn vc, .slice na nn nc, .int .u64 fl, .int .u64 tk, .int .i64 ex, .int .i64 to, .int .i64 st, .int .i64 mk] sb w6.heap.size w10.heap.size F4 B4 m F s0 il 30 30 A (some ⟨gk, 0, none⟩) gg pa pb (A.sz (n - 1)) [x] OB #[.slice ao2 1 cap2, .slice none 0 0, .int .u64 fy, .int .i64 ey, .int .i64 ty, .int .u64 fl, .int .i64 sy, .int .i64 my] #[.slice (some ⟨gk, 0, none⟩) 1 cap, .slice none 0 0, .int .u64 fl', .int .i64 ex', .int .i64 to', .int .u64 tk, .int .i64 st', .int .i64 mk'] zq ⟨0, 0, 0, 0, ex', to', tk, fl', st', mk', ((n - 1 : Nat) : Int), [x], []⟩ wr := hW
      clear hW
      have cs1 := aw_flags hWk hAF hA hHa hplA fy q1
      have cy := hWk.bY.cell 2
      simp at cy
      go_wp2_with (first | (go_at_call 13; with_reducible refine cs1.mono ?_; rintro y w1 ⟨rfl, zq1, hW1⟩; (have cy1 := hW1.bY.cell 2); (have ci1 := hW1.bi.cell 2); (have cz1 := hW1.bi.fz 2); simp at cy1 ci1) | fail)
      have hW2 : AW w #[.int .i64 cf, .int .i64 cs, .slice ka kn kc, .slice va vn vc, .slice na nn nc, .int .u64 fl, .int .u64 tk, .int .i64 ex, .int .i64 to, .int .i64 st, .int .i64 mk] sb w6.heap.size w10.heap.size F4 B4 m F s0 il 30 30 A (some ⟨gk, 0, none⟩) gg pa pb (A.sz (n - 1)) [x] OB #[.slice ao2 1 cap2, .slice none 0 0, .int .u64 fy, .int .i64 ey, .int .i64 ty, .int .u64 fl, .int .i64 sy, .int .i64 my] #[.slice (some ⟨gk, 0, none⟩) 1 cap, .slice none 0 0, .int .u64 fy, .int .i64 ex', .int .i64 to', .int .u64 tk, .int .i64 st', .int .i64 mk'] zq1 ⟨0, 0, 0, 0, ex', to', tk, fy, st', mk', ((n - 1 : Nat) : Int), [x], []⟩ (w1.setCell ⟨w6.heap.size, 2, none⟩ (.int .u64 fy)) := hW1.cell hAF 2 (.int .u64 fy)
      have cr := aw_read hW2 hA hHa hplA (by simp only [List.length_cons, List.length_nil]; omega)
      unfold itV at cr
      simp only [List.length_cons, List.length_nil, Nat.zero_add] at cr
      clear hW1 hWk
      go_wp2_with (first | (go_at_call 19; with_reducible refine cr.mono ?_; rintro y w2 ⟨g1, g2, rfl, hW3, hf2, hH1, hH2⟩; (have hR : RS w2.heap.size w6.heap.size #[.slice (some ⟨g1, 0, none⟩) 1 1, .slice (some ⟨g2, 0, none⟩) 0 0, .int .u64 fy, .int .i64 ex', .int .i64 to', .int .u64 tk, .int .i64 st', .int .i64 mk'] #[.slice (some ⟨gk, 0, none⟩) 1 cap, .slice none 0 0, .int .u64 fy, .int .i64 ex', .int .i64 to', .int .u64 tk, .int .i64 st', .int .i64 mk'] w2 (w2.alloc (.cells #[.slice (some ⟨g1, 0, none⟩) 1 1, .slice (some ⟨g2, 0, none⟩) 0 0, .int .u64 fy, .int .i64 ex', .int .i64 to', .int .u64 tk, .int .i64 st', .int .i64 mk'] 40)) := ⟨World.grownBy_alloc _ _ _, Box.new _ _ _, hW3.bi.kept (World.grownBy_alloc _ _ none) (by simp)⟩); obtain ⟨r0, r1', r2', r3', r4', r5', r6, r7, v0, v1, v2, v3, v4, v5, v6, v7⟩ := hR.cc; (have hW4 := hW3.step hR.gr); (have ceq := equal_57 (w := w2.alloc (.cells #[.slice (some ⟨g1, 0, none⟩) 1 1, .slice (some ⟨g2, 0, none⟩) 0 0, .int .u64 fy, .int .i64 ex', .int .i64 to', .int .u64 tk, .int .i64 st', .int .i64 mk'] 40)) (some ⟨g1, 0, none⟩) (some ⟨g2, 0, none⟩) (some ⟨gk, 0, none⟩) none 1 1 cap 0 0 0 fy ex' to' tk st' mk' [x] [] (hH1.kept0 hR.gr) (hH2.kept0 hR.gr) hW4.hk (hnil _) hbx hnb); unfold itV at ceq) | (go_at_call 6; go_must (refine (num_45 _ _).mono ?_); rintro y w' ⟨rfl, rfl⟩) | (go_at_call 20; with_reducible refine ceq.mono ?_; rintro y w3 ⟨rfl, hf3⟩) | fail)
      exact ⟨⟨1, zq1, by omega, rfl, hW4.step hf3⟩, by simp [intOf]⟩
    · have hWk : AW w #[.int .i64 cf, .int .i64 cs, .slice ka kn kc, .slice va vn vc, .slice na nn nc, .int .u64 fl, .int .u64 tk, .int .i64 ex, .int .i64 to, .int .i64 st, .int .i64 mk] sb w6.heap.size w10.heap.size F4 B4 m F s0 il 30 30 A (some ⟨gk, 0, none⟩) gg pa pb (A.sz (n - 1)) [x] OB #[.slice ao2 1 cap2, .slice none 0 0, .int .u64 fy, .int .i64 ey, .int .i64 ty, .int .u64 fl, .int .i64 sy, .int .i64 my] #[.slice (some ⟨gk, 0, none⟩) 1 cap, .slice none 0 0, .int .u64 fy, .int .i64 ex', .int .i64 to', .int .u64 tk, .int .i64 st', .int .i64 mk'] zq ⟨0, 0, 0, 0, ex', to', tk, fy, st', mk', ((n - 1 : Nat) : Int), [x], []⟩ wr := hW
      clear hW
      have cs1 := aw_token hWk hAF hA hHa hplA fl q6
      have cy := hWk.bY.cell 5
      simp at cy
      go_wp2_with (first | (go_at_call 14; with_reducible refine cs1.mono ?_; rintro y w1 ⟨rfl, zq1, hW1⟩; (have cy1 := hW1.bY.cell 5); (have ci1 := hW1.bi.cell 5); (have cz1 := hW1.bi.fz 5); simp at cy1 ci1) | fail)
      have hW2 : AW w #[.int .i64 cf, .int .i64 cs, .slice ka kn kc, .slice va vn vc, .slice na nn nc, .int .u64 fl, .int .u64 tk, .int .i64 ex, .int .i64 to, .int .i64 st, .int .i64 mk] sb w6.heap.size w10.heap.size F4 B4 m F s0 il 30 30 A (some ⟨gk, 0, none⟩) gg pa pb (A.sz (n - 1)) [x] OB #[.slice ao2 1 cap2, .slice none 0 0, .int .u64 fy, .int .i64 ey, .int .i64 ty, .int .u64 fl, .int .i64 sy, .int .i64 my] #[.slice (some ⟨gk, 0, none⟩) 1 cap, .slice none 0 0, .int .u64 fy, .int .i64 ex', .int .i64 to', .int .u64 fl, .int .i64 st', .int .i64 mk'] zq1 ⟨0, 0, 0, 0, ex', to', fl, fy, st', mk', ((n - 1 : Nat) : Int), [x], []⟩ (w1.setCell ⟨w6.heap.size, 5, none⟩ (.int .u64 fl)) := hW1.cell hAF 5 (.int .u64 fl)
      have cr := aw_read hW2 hA hHa hplA (by simp only [List.length_cons, List.length_nil]; omega)
      unfold itV at cr
      simp only [List.length_cons, List.length_nil, Nat.zero_add] at cr
      clear hW1 hWk
      go_wp2_with (first | (go_at_call 19; with_reducible refine cr.mono ?_; rintro y w2 ⟨g1, g2, rfl, hW3, hf2, hH1, hH2⟩; (have hR : RS w2.heap.size w6.heap.size #[.slice (some ⟨g1, 0, none⟩) 1 1, .slice (some ⟨g2, 0, none⟩) 0 0, .int .u64 fy, .int .i64 ex', .int .i64 to', .int .u64 fl, .int .i64 st', .int .i64 mk'] #[.slice (some ⟨gk, 0, none⟩) 1 cap, .slice none 0 0, .int .u64 fy, .int .i64 ex', .int .i64 to', .int .u64 fl, .int .i64 st', .int .i64 mk'] w2 (w2.alloc (.cells #[.slice (some ⟨g1, 0, none⟩) 1 1, .slice (some ⟨g2, 0, none⟩) 0 0, .int .u64 fy, .int .i64 ex', .int .i64 to', .int .u64 fl, .int .i64 st', .int .i64 mk'] 40)) := ⟨World.grownBy_alloc _ _ _, Box.new _ _ _, hW3.bi.kept (World.grownBy_alloc _ _ none) (by simp)⟩); obtain ⟨r0, r1', r2', r3', r4', r5', r6, r7, v0, v1, v2, v3, v4, v5, v6, v7⟩ := hR.cc; (have hW4 := hW3.step hR.gr); (have ceq := equal_57 (w := w2.alloc (.cells #[.slice (some ⟨g1, 0, none⟩) 1 1, .slice (some ⟨g2, 0, none⟩) 0 0, .int .u64 fy, .int .i64 ex', .int .i64 to', .int .u64 fl, .int .i64 st', .int .i64 mk'] 40)) (some ⟨g1, 0, none⟩) (some ⟨g2, 0, none⟩) (some ⟨gk, 0, none⟩) none 1 1 cap 0 0 0 fy ex' to' fl st' mk' [x] [] (hH1.kept0 hR.gr) (hH2.kept0 hR.gr) hW4.hk (hnil _) hbx hnb); unfold itV at ceq) | (go_at_call 6; go_must (refine (num_45 _ _).mono ?_); rintro y w' ⟨rfl, rfl⟩) | (go_at_call 20; with_reducible refine ceq.mono ?_; rintro y w3 ⟨rfl, hf3⟩) | fail)
      exact ⟨⟨2, zq1, by omega, rfl, hW4.step hf3⟩, by simp [intOf]⟩
    · have hWk : AW w #[.int .i64 cf, .int .i64 cs, .slice ka kn kc, .slice va vn vc, .slice na nn nc, .int .u64 fl, .int .u64 tk, .int .i64 ex, .int .i64 to, .int .i64 st, .int .i64 mk] sb w6.heap.size w10.heap.size F4 B4 m F s0 il 30 30 A (some ⟨gk, 0, none⟩) gg pa pb (A.sz (n - 1)) [x] OB #[.slice ao2 1 cap2, .slice none 0 0, .int .u64 fy, .int .i64 ey, .int .i64 ty, .int .u64 fl, .int .i64 sy, .int .i64 my] #[.slice (some ⟨gk, 0, none⟩) 1 cap, .slice none 0 0, .int .u64 fy, .int .i64 ex', .int .i64 to', .int .u64 fl, .int .i64 st', .int .i64 mk'] zq ⟨0, 0, 0, 0, ex', to', fl, fy, st', mk', ((n - 1 : Nat) : Int), [x], []⟩ wr := hW
      clear hW
      have cs1 := aw_expiry hWk hAF hA hHa hplA ey q2
      have cy := hWk.bY.cell 3
      simp at cy
      go_wp2_with (first | (go_at_call 15; with_reducible refine cs1.mono ?_; rintro y w1 ⟨rfl, zq1, hW1⟩; (have cy1 := hW1.bY.cell 3); (have ci1 := hW1.bi.cell 3); (have cz1 := hW1.bi.fz 3); simp at cy1 ci1) | fail)
      have hW2 : AW w #[.int .i64 cf, .int .i64 cs, .slice ka kn kc, .slice va vn vc, .slice na nn nc, .int .u64 fl, .int .u64 tk, .int .i64 ex, .int .i64 to, .int .i64 st, .int .i64 mk] sb w6.heap.size w10.heap.size F4 B4 m F s0 il 30 30 A (some ⟨gk, 0, none⟩) gg pa pb (A.sz (n - 1)) [x] OB #[.slice ao2 1 cap2, .slice none 0 0, .int .u64 fy, .int .i64 ey, .int .i64 ty, .int .u64 fl, .int .i64 sy, .int .i64 my] #[.slice (some ⟨gk, 0, none⟩) 1 cap, .slice none 0 0, .int .u64 fy, .int .i64 ey, .int .i64 to', .int .u64 fl, .int .i64 st', .int .i64 mk'] zq1 ⟨0, 0, 0, 0, ey, to', fl, fy, st', mk', ((n - 1 : Nat) : Int), [x], []⟩ (w1.setCell ⟨w6.heap.size, 3, none⟩ (.int .i64 ey)) := hW1.cell hAF 3 (.int .i64 ey)
      have cr := aw_read hW2 hA hHa hplA (by simp only [List.length_cons, List.length_nil]; omega)
      unfold itV at cr
      simp only [List.length_cons, List.length_nil, Nat.zero_add] at cr
      clear hW1 hWk
      go_wp2_with (first | (go_at_call 19; with_reducible refine cr.mono ?_; rintro y w2 ⟨g1, g2, rfl, hW3, hf2, hH1, hH2⟩; (have hR : RS w2.heap.size w6.heap.size #[.slice (some ⟨g1, 0, none⟩) 1 1, .slice (some ⟨g2, 0, none⟩) 0 0, .int .u64 fy, .int .i64 ey, .int .i64 to', .int .u64 fl, .int .i64 st', .int .i64 mk'] #[.slice (some ⟨gk, 0, none⟩) 1 cap, .slice none 0 0, .int .u64 fy, .int .i64 ey, .int .i64 to', .int .u64 fl, .int .i64 st', .int .i64 mk'] w2 (w2.alloc (.cells #[.slice (some ⟨g1, 0, none⟩) 1 1, .slice (some ⟨g2, 0, none⟩) 0 0, .int .u64 fy, .int .i64 ey, .int .i64 to', .int .u64 fl, .int .i64 st', .int .i64 mk'] 40)) := ⟨World.grownBy_alloc _ _ _, Box.new _ _ _, hW3.bi.kept (World.grownBy_alloc _ _ none) (by simp)⟩); obtain ⟨r0, r1', r2', r3', r4', r5', r6, r7, v0, v1, v2, v3, v4, v5, v6, v7⟩ := hR.cc; (have hW4 := hW3.step hR.gr); (have ceq := equal_57 (w := w2.alloc (.cells #[.slice (some ⟨g1, 0, none⟩) 1 1, .slice (some ⟨g2, 0, none⟩) 0 0, .int .u64 fy, .int .i64 ey, .int .i64 to', .int .u64 fl, .int .i64 st', .int .i64 mk'] 40)) (some ⟨g1, 0, none⟩) (some ⟨g2, 0, none⟩) (some ⟨gk, 0, none⟩) none 1 1 cap 0 0 0 fy ey to' fl st' mk' [x] [] (hH1.kept0 hR.gr) (hH2.kept0 hR.gr) hW4.hk (hnil _) hbx hnb); unfold itV at ceq) | (go_at_call 6; go_must (refine (num_45 _ _).mono ?_); rintro y w' ⟨rfl, rfl⟩) | (go_at_call 20; with_reducible refine ceq.mono ?_; rintro y w3 ⟨rfl, hf3⟩) | fail)
      exact ⟨⟨3, zq1, by omega, rfl, hW4.step hf3⟩, by simp [intOf]⟩
    · have hWk : AW w #[.int .i64 cf, .int .i64 cs, .slice ka kn kc, .slice va vn vc, .slice na nn nc, .int .u64 fl, .int .u64 tk, .int .i64 ex, .int .i64 to, .int .i64 st, .int .i64 mk] sb w6.heap.size w10.heap.size F4 B4 m F s0 il 30 30 A (some ⟨gk, 0, none⟩) gg pa pb (A.sz (n - 1)) [x] OB #[.slice ao2 1 cap2, .slice none 0 0, .int .u64 fy, .int .i64 ey, .int .i64 ty, .int .u64 fl, .int .i64 sy, .int .i64 my] #[.slice (some ⟨gk, 0, none⟩) 1 cap, .slice none 0 0, .int .u64 fy, .int .i64 ey, .int .i64 to', .int .u64 fl, .int .i64 st', .int .i64 mk'] zq ⟨0, 0, 0, 0, ey, to', fl, fy, st', mk', ((n - 1 : Nat) : Int), [x], []⟩ wr := hW
      clear hW
      have cs1 := aw_touched hWk hAF hA hHa hplA ty q3
      have cy := hWk.bY.cell 4
      simp at cy
      go_wp2_with (first | (go_at_call 16; with_reducible refine cs1.mono ?_; rintro y w1 ⟨rfl, zq1, hW1⟩; (have cy1 := hW1.bY.cell 4); (have ci1 := hW1.bi.cell 4); (have cz1 := hW1.bi.fz 4); simp at cy1 ci1) | fail)
      have hW2 : AW w #[.int .i64 cf, .int .i64 cs, .slice ka kn kc, .slice va vn vc, .slice na nn nc, .int .u64 fl, .int .u64 tk, .int .i64 ex, .int .i64 to, .int .i64 st, .int .i64 mk] sb w6.heap.size w10.heap.size F4 B4 m F s0 il 30 30 A (some ⟨gk, 0, none⟩) gg pa pb (A.sz (n - 1)) [x] OB #[.slice ao2 1 cap2, .slice none 0 0, .int .u64 fy, .int .i64 ey, .int .i64 ty, .int .u64 fl, .int .i64 sy, .int .i64 my] #[.slice (some ⟨gk, 0, none⟩) 1 cap, .slice none 0 0, .int .u64 fy, .int .i64 ey, .int .i64 ty, .int .u64 fl, .int .i64 st', .int .i64 mk'] zq1 ⟨0, 0, 0, 0, ey, ty, fl, fy, st', mk', ((n - 1 : Nat) : Int), [x], []⟩ (w1.setCell ⟨w6.heap.size, 4, none⟩ (.int .i64 ty)) := hW1.cell hAF 4 (.int .i64 ty)
      have cr := aw_read hW2 hA hHa hplA (by simp only [List.length_cons, List.length_nil]; omega)
      unfold itV at cr
      simp only [List.length_cons, List.length_nil, Nat.zero_add] at cr
      clear hW1 hWk
      go_wp2_with (first | (go_at_call 19; with_reducible refine cr.mono ?_; rintro y w2 ⟨g1, g2, rfl, hW3, hf2, hH1, hH2⟩; (have hR : RS w2.heap.size w6.heap.size #[.slice (some ⟨g1, 0, none⟩) 1 1, .slice (some ⟨g2, 0, none⟩) 0 0, .int .u64 fy, .int .i64 ey, .int .i64 ty, .int .u64 fl, .int .i64 st', .int .i64 mk'] #[.slice (some ⟨gk, 0, none⟩) 1 cap, .slice none 0 0, .int .u64 fy, .int .i64 ey, .int .i64 ty, .int .u64 fl, .int .i64 st', .int .i64 mk'] w2 (w2.alloc (.cells #[.slice (some ⟨g1, 0, none⟩) 1 1, .slice (some ⟨g2, 0, none⟩) 0 0, .int .u64 fy, .int .i64 ey, .int .i64 ty, .int .u64 fl, .int .i64 st', .int .i64 mk'] 40)) := ⟨World.grownBy_alloc _ _ _, Box.new _ _ _, hW3.bi.kept (World.grownBy_alloc _ _ none) (by simp)⟩); obtain ⟨r0, r1', r2', r3', r4', r5', r6, r7, v0, v1, v2, v3, v4, v5, v6, v7⟩ := hR.cc; (have hW4 := hW3.step hR.gr); (have ceq := equal_57 (w := w2.alloc (.cells #[.slice (some ⟨g1, 0, none⟩) 1 1, .slice (some ⟨g2, 0, none⟩) 0 0, .int .u64 fy, .int .i64 ey, .int .i64 ty, .int .u64 fl, .int .i64 st', .int .i64 mk'] 40)) (some ⟨g1, 0, none⟩) (some ⟨g2, 0, none⟩) (some ⟨gk, 0, none⟩) none 1 1 cap 0 0 0 fy ey ty fl st' mk' [x] [] (hH1.kept0 hR.gr) (hH2.kept0 hR.gr) hW4.hk (hnil _) hbx hnb); unfold itV at ceq) | (go_at_call 6; go_must (refine (num_45 _ _).mono ?_); rintro y w' ⟨rfl, rfl⟩) | (go_at_call 20; with_reducible refine ceq.mono ?_; rintro y w3 ⟨rfl, hf3⟩) | fail)
      exact ⟨⟨4, zq1, by omega, rfl, hW4.step hf3⟩, by simp [intOf]⟩
    · have hWk : AW w #[.int .i64 cf, .int .i64 cs, .slice ka kn kc, .slice va vn vc, .slice na nn nc, .int .u64 fl, .int .u64 tk, .int .i64 ex, .int .i64 to, .int .i64 st, .int .i64 mk] sb w6.heap.size w10.heap.size F4 B4 m F s0 il 30 30 A (some ⟨gk, 0, none⟩) gg pa pb (A.sz (n - 1)) [x] OB #[.slice ao2 1 cap2, .slice none 0 0, .int .u64 fy, .int .i64 ey, .int .i64 ty, .int .u64 fl, .int .i64 sy, .int .i64 my] #[.slice (some ⟨gk, 0, none⟩) 1 cap, .slice none 0 0, .int .u64 fy, .int .i64 ey, .int .i64 ty, .int .u64 fl, .int .i64 st', .int .i64 mk'] zq ⟨0, 0, 0, 0, ey, ty, fl, fy, st', mk', ((n - 1 : Nat) : Int), [x], []⟩ wr := hW
      clear hW
      have cs1 := aw_state hWk hAF hA hHa hplA sy q4
      have cy := hWk.bY.cell 6
      simp at cy
      go_wp2_with (first | (go_at_call 17; with_reducible refine cs1.mono ?_; rintro y w1 ⟨rfl, zq1, hW1⟩; (have cy1 := hW1.bY.cell 6); (have ci1 := hW1.bi.cell 6); (have cz1 := hW1.bi.fz 6); simp at cy1 ci1) | fail)
      have hW2 : AW w #[.int .i64 cf, .int .i64 cs, .slice ka kn kc, .slice va vn vc, .slice na nn nc, .int .u64 fl, .int .u64 tk, .int .i64 ex, .int .i64 to, .int .i64 st, .int .i64 mk] sb w6.heap.size w10.heap.size F4 B4 m F s0 il 30 30 A (some ⟨gk, 0, none⟩) gg pa pb (A.sz (n - 1)) [x] OB #[.slice ao2 1 cap2, .slice none 0 0, .int .u64 fy, .int .i64 ey, .int .i64 ty, .int .u64 fl, .int .i64 sy, .int .i64 my] #[.slice (some ⟨gk, 0, none⟩) 1 cap, .slice none 0 0, .int .u64 fy, .int .i64 ey, .int .i64 ty, .int .u64 fl, .int .i64 sy, .int .i64 mk'] zq1 ⟨0, 0, 0, 0, ey, ty, fl, fy, sy, mk', ((n - 1 : Nat) : Int), [x], []⟩ (w1.setCell ⟨w6.heap.size, 6, none⟩ (.int .i64 sy)) := hW1.cell hAF 6 (.int .i64 sy)
      have cr := aw_read hW2 hA hHa hplA (by simp only [List.length_cons, List.length_nil]; omega)
      unfold itV at cr
      simp only [List.length_cons, List.length_nil, Nat.zero_add] at cr
      clear hW1 hWk
      go_wp2_with (first | (go_at_call 19; with_reducible refine cr.mono ?_; rintro y w2 ⟨g1, g2, rfl, hW3, hf2, hH1, hH2⟩; (have hR : RS w2.heap.size w6.heap.size #[.slice (some ⟨g1, 0, none⟩) 1 1, .slice (some ⟨g2, 0, none⟩) 0 0, .int .u64 fy, .int .i64 ey, .int .i64 ty, .int .u64 fl, .int .i64 sy, .int .i64 mk'] #[.slice (some ⟨gk, 0, none⟩) 1 cap, .slice none 0 0, .int .u64 fy, .int .i64 ey, .int .i64 ty, .int .u64 fl, .int .i64 sy, .int .i64 mk'] w2 (w2.alloc (.cells #[.slice (some ⟨g1, 0, none⟩) 1 1, .slice (some ⟨g2, 0, none⟩) 0 0, .int .u64 fy, .int .i64 ey, .int .i64 ty, .int .u64 fl, .int .i64 sy, .int .i64 mk'] 40)) := ⟨World.grownBy_alloc _ _ _, Box.new _ _ _, hW3.bi.kept (World.grownBy_alloc _ _ none) (by simp)⟩); obtain ⟨r0, r1', r2', r3', r4', r5', r6, r7, v0, v1, v2, v3, v4, v5, v6, v7⟩ := hR.cc; (have hW4 := hW3.step hR.gr); (have ceq := equal_57 (w := w2.alloc (.cells #[.slice (some ⟨g1, 0, none⟩) 1 1, .slice (some ⟨g2, 0, none⟩) 0 0, .int .u64 fy, .int .i64 ey, .int .i64 ty, .int .u64 fl, .int .i64 sy, .int .i64 mk'] 40)) (some ⟨g1, 0, none⟩) (some ⟨g2, 0, none⟩) (some ⟨gk, 0, none⟩) none 1 1 cap 0 0 0 fy ey ty fl sy mk' [x] [] (hH1.kept0 hR.gr) (hH2.kept0 hR.gr) hW4.hk (hnil _) hbx hnb); unfold itV at ceq) | (go_at_call 6; go_must (refine (num_45 _ _).mono ?_); rintro y w' ⟨rfl, rfl⟩) | (go_at_call 20; with_reducible refine ceq.mono ?_; rintro y w3 ⟨rfl, hf3⟩) | fail)
      exact ⟨⟨5, zq1, by omega, rfl, hW4.step hf3⟩, by simp [intOf]⟩
    · have hWk : AW w #[.int .i64 cf, .int .i64 cs, .slice ka kn kc, .slice va vn vc, .slice na nn nc, .int .u64 fl, .int .u64 tk, .int .i64 ex, .int .i64 to, .int .i64 st, .int .i64 mk] sb w6.heap.size w10.heap.size F4 B4 m F s0 il 30 30 A (some ⟨gk, 0, none⟩) gg pa pb (A.sz (n - 1)) [x] OB #[.slice ao2 1 cap2, .slice none 0 0, .int .u64 fy, .int .i64 ey, .int .i64 ty, .int .u64 fl, .int .i64 sy, .int .i64 my] #[.slice (some ⟨gk, 0, none⟩) 1 cap, .slice none 0 0, .int .u64 fy, .int .i64 ey, .int .i64 ty, .int .u64 fl, .int .i64 sy, .int .i64 mk'] zq ⟨0, 0, 0, 0, ey, ty, fl, fy, sy, mk', ((n - 1 : Nat) : Int), [x], []⟩ wr := hW
      clear hW
      have cs1 := aw_marks hWk hAF hA hHa hplA my q5
      have cy := hWk.bY.cell 7
      simp at cy
      go_wp2_with (first | (go_at_call 18; with_reducible refine cs1.mono ?_; rintro y w1 ⟨rfl, zq1, hW1⟩; (have cy1 := hW1.bY.cell 7); (have ci1 := hW1.bi.cell 7); (have cz1 := hW1.bi.fz 7); simp at cy1 ci1) | fail)
      have hW2 : AW w #[.int .i64 cf, .int .i64 cs, .slice ka kn kc, .slice va vn vc, .slice na nn nc, .int .u64 fl, .int .u64 tk, .int .i64 ex, .int .i64 to, .int .i64 st, .int .i64 mk] sb w6.heap.size w10.heap.size F4 B4 m F s0 il 30 30 A (some ⟨gk, 0, none⟩) gg pa pb (A.sz (n - 1)) [x] OB #[.slice ao2 1 cap2, .slice none 0 0, .int .u64 fy, .int .i64 ey, .int .i64 ty, .int .u64 fl, .int .i64 sy, .int .i64 my] #[.slice (some ⟨gk, 0, none⟩) 1 cap, .slice none 0 0, .int .u64 fy, .int .i64 ey, .int .i64 ty, .int .u64 fl, .int .i64 sy, .int .i64 my] zq1 ⟨0, 0, 0, 0, ey, ty, fl, fy, sy, my, ((n - 1 : Nat) : Int), [x], []⟩ (w1.setCell ⟨w6.heap.size, 7, none⟩ (.int .i64 my)) := hW1.cell hAF 7 (.int .i64 my)
      have cr := aw_read hW2 hA hHa hplA (by simp only [List.length_cons, List.length_nil]; omega)
      unfold itV at cr
      simp only [List.length_cons, List.length_nil, Nat.zero_add] at cr
      clear hW1 hWk
      go_wp2_with (first | (go_at_call 19; with_reducible refine cr.mono ?_; rintro y w2 ⟨g1, g2, rfl, hW3, hf2, hH1, hH2⟩; (have hR : RS w2.heap.size w6.heap.size #[.slice (some ⟨g1, 0, none⟩) 1 1, .slice (some ⟨g2, 0, none⟩) 0 0, .int .u64 fy, .int .i64 ey, .int .i64 ty, .int .u64 fl, .int .i64 sy, .int .i64 my] #[.slice (some ⟨gk, 0, none⟩) 1 cap, .slice none 0 0, .int .u64 fy, .int .i64 ey, .int .i64 ty, .int .u64 fl, .int .i64 sy, .int .i64 my] w2 (w2.alloc (.cells #[.slice (some ⟨g1, 0, none⟩) 1 1, .slice (some ⟨g2, 0, none⟩) 0 0, .int .u64 fy, .int .i64 ey, .int .i64 ty, .int .u64 fl, .int .i64 sy, .int .i64 my] 40)) := ⟨World.grownBy_alloc _ _ _, Box.new _ _ _, hW3.bi.kept (World.grownBy_alloc _ _ none) (by simp)⟩); obtain ⟨r0, r1', r2', r3', r4', r5', r6, r7, v0, v1, v2, v3, v4, v5, v6, v7⟩ := hR.cc; (have hW4 := hW3.step hR.gr); (have ceq := equal_57 (w := w2.alloc (.cells #[.slice (some ⟨g1, 0, none⟩) 1 1, .slice (some ⟨g2, 0, none⟩) 0 0, .int .u64 fy, .int .i64 ey, .int .i64 ty, .int .u64 fl, .int .i64 sy, .int .i64 my] 40)) (some ⟨g1, 0, none⟩) (some ⟨g2, 0, none⟩) (some ⟨gk, 0, none⟩) none 1 1 cap 0 0 0 fy ey ty fl sy my [x] [] (hH1.kept0 hR.gr) (hH2.kept0 hR.gr) hW4.hk (hnil _) hbx hnb); unfold itV at ceq) | (go_at_call 6; go_must (refine (num_45 _ _).mono ?_); rintro y w' ⟨rfl, rfl⟩) | (go_at_call 20; with_reducible refine ceq.mono ?_; rintro y w3 ⟨rfl, hf3⟩) | fail)
      exact ⟨⟨6, zq1, by omega, rfl, hW4.step hf3⟩, by simp [intOf]⟩
    · have hW6 : AW w #[.int .i64 cf, .int .i64 cs, .slice ka kn kc, .slice va vn vc, .slice na nn nc, .int .u64 fl, .int .u64 tk, .int .i64 ex, .int .i64 to, .int .i64 st, .int .i64 mk] sb w6.heap.size w10.heap.size F4 B4 m F s0 il 30 30 A (some ⟨gk, 0, none⟩) gg pa pb (A.sz (n - 1)) [x] OB #[.slice ao2 1 cap2, .slice none 0 0, .int .u64 fy, .int .i64 ey, .int .i64 ty, .int .u64 fl, .int .i64 sy, .int .i64 my] #[.slice (some ⟨gk, 0, none⟩) 1 cap, .slice none 0 0, .int .u64 fy, .int .i64 ey, .int .i64 ty, .int .u64 fl, .int .i64 sy, .int .i64 my] zq ⟨0, 0, 0, 0, ey, ty, fl, fy, sy, my, ((n - 1 : Nat) : Int), [x], []⟩ wr := hW
      clear hW
      obtain ⟨p1, hp1, hw1⟩ := within_nat st 2 (by omega) (by omega)
      have hlF : ¬ F4 wr.heap.size := fun h => by have := hW6.is.lt _ h; omega
      have hwi := hW6.bi.lt
      have hwy := hW6.bY.lt
      have hV0 := hW6.step (World.grownBy_alloc wr (.cells #[.int .u64 0, .int .u64 0, .int .u64 0] 49) none)
      have hL0 := Box.new wr 49 #[.int .u64 0, .int .u64 0, .int .u64 0]
      have hwlb : w.heap.size < wr.heap.size := hW6.bx.lt
      have hibl : w6.heap.size ≠ wr.heap.size := by omega
      have hybl : w10.heap.size ≠ wr.heap.size := by omega
      have hgol : gg ≠ wr.heap.size := by omega
      have hgkl : gk ≠ wr.heap.size := by omega
      go_wp2
      clear hW6
      generalize wr.alloc (.cells #[.int .u64 0, .int .u64 0, .int .u64 0] 49) = WL at *
      generalize wr.heap.size = lb at *
      go_loopw [15] (fun v wq => ∃ (k : Nat) (zk : List Int) (L : Nat → Nat) (a : Nat → Int), k ≤ 6 ∧ v = .int .i64 k ∧ AW w #[.int .i64 cf, .int .i64 cs, .slice ka kn kc, .slice va vn vc, .slice na nn nc, .int .u64 fl, .int .u64 tk, .int .i64 ex, .int .i64 to, .int .i64 st, .int .i64 mk] sb w6.heap.size w10.heap.size F4 B4 m F s0 il 30 30 A (some ⟨gk, 0, none⟩) gg pa pb (A.sz (n - 1)) [x] OB #[.slice ao2 1 cap2, .slice none 0 0, .int .u64 fy, .int .i64 ey, .int .i64 ty, .int .u64 fl, .int .i64 sy, .int .i64 my] #[.slice (some ⟨gk, 0, none⟩) 1 cap, .slice none 0 0, .int .u64 fy, .int .i64 ey, .int .i64 ty, .int .u64 fl, .int .i64 sy, .int .i64 my] zk (linked a ⟨0, 0, 0, 0, ey, ty, fl, fy, sy, my, ((n - 1 : Nat) : Int), [x], []⟩) wq ∧ Box wq 49 lb (LB L) ∧ (∀ i, i < 3 → Num A (L i) (a i))) (fun v _ => 6 - (intOf v).toNat)
      case atStart => exact ⟨0, zq, fun _ => 0, fun _ => 0, by omega, rfl, hV0, hL0, fun i _ => .inl ⟨rfl, rfl⟩⟩
      case round =>
        clear hV0 hL0
        rename_i wx
        obtain ⟨k, zk, L, a, hk6, rfl, hV, hL, hN⟩ := hrel
        by_cases hk : k = 6
        · subst hk
          have hds : decide (0 < A.sz (n - 1)) = true := by simp; omega
          have hds2 : decide ((0 : Int) < (A.sz (n - 1) : Int)) = true := by simp; omega
          have cr := aw_read hV hA hHa hplA (by show 58 + 1 + 0 ≤ _; omega)
          unfold itV linked at cr
          simp only [List.length_cons, List.length_nil, Nat.zero_add] at cr
          go_wp2_with (first | (go_at_call 19; with_reducible refine cr.mono ?_; rintro y w2 ⟨g1, g2, rfl, hW3, hf2, hH1, hH2⟩; (have hR : RS w2.heap.size w6.heap.size #[.slice (some ⟨g1, 0, none⟩) 1 1, .slice (some ⟨g2, 0, none⟩) 0 0, .int .u64 fy, .int .i64 ey, .int .i64 ty, .int .u64 fl, .int .i64 sy, .int .i64 my] #[.slice (some ⟨gk, 0, none⟩) 1 cap, .slice none 0 0, .int .u64 fy, .int .i64 ey, .int .i64 ty, .int .u64 fl, .int .i64 sy, .int .i64 my] w2 (w2.alloc (.cells #[.slice (some ⟨g1, 0, none⟩) 1 1, .slice (some ⟨g2, 0, none⟩) 0 0, .int .u64 fy, .int .i64 ey, .int .i64 ty, .int .u64 fl, .int .i64 sy, .int .i64 my] 40)) := ⟨World.grownBy_alloc _ _ _, Box.new _ _ _, hW3.bi.kept (World.grownBy_alloc _ _ none) (by simp)⟩); obtain ⟨r0, r1', r2', r3', r4', r5', r6, r7, v0, v1, v2, v3, v4, v5, v6, v7⟩ := hR.cc; (have hW4 := hW3.step hR.gr); (have ceq := equal_57 (w := w2.alloc (.cells #[.slice (some ⟨g1, 0, none⟩) 1 1, .slice (some ⟨g2, 0, none⟩) 0 0, .int .u64 fy, .int .i64 ey, .int .i64 ty, .int .u64 fl, .int .i64 sy, .int .i64 my] 40)) (some ⟨g1, 0, none⟩) (some ⟨g2, 0, none⟩) (some ⟨gk, 0, none⟩) none 1 1 cap 0 0 0 fy ey ty fl sy my [x] [] (hH1.kept0 hR.gr) (hH2.kept0 hR.gr) hW4.hk (hnil _) hbx hnb); unfold itV at ceq) | (go_at_call 6; go_must (refine (num_45 _ _).mono ?_); rintro y w' ⟨rfl, rfl⟩) | (go_at_call 20; with_reducible refine ceq.mono ?_; rintro y w3 ⟨rfl, hf3⟩; (have hW5 := hW4.step hf3); (have cck := chunkOf_52 hW5.is hA hHb); (rw [hplB, hoB, hW5.ob] at cck)) | (go_at_call 12; with_reducible refine cck.mono ?_; rintro y w4 ⟨gc, rfl, hgc, hf4, hh4⟩; (have ceo := equal_67 (w := w4) (has_vals hh4 hOl) (hW5.step hf4).ho hOb hOb (A.sz (n - 1)) (A.sz (n - 1))); (rw [decide_eq_true rfl] at ceo)) | (go_at_call 24; with_reducible refine ceo.mono ?_; rintro y w' ⟨rfl, rfl⟩) | fail)
          go_ret
          exact ⟨rfl, (hW5.step hf4).gr⟩
        · have hdk : decide ((k : Int) < 6) = true := by simp; omega
          have y1 := hV.bx.cell 1
          have y9 := hV.bx.cell 9
          have y10 := hV.bx.cell 10
          simp at y1 y9 y10
          have hpw : IntKind.i64.wrap (1 + (p1 : Int)) = 1 + (p1 : Int) := by rw [IntKind.wrap_i64]; omega
          have hq1 := fun W => (hw1 W).mono (R' := fun y w' => y = .returned (.int .i64 p1) ∧ w' = W) (by rintro y w' ⟨h1, h2⟩; exact ⟨h1, h2.symm⟩)
          have hq3 := fun i W => (within_any i 3 (by omega) (by omega) W).mono (R' := fun y w' => y = .returned (.int .i64 (i % 3)) ∧ w' = W) (by rintro y w' ⟨h1, h2⟩; exact ⟨h1, h2.symm⟩)
          simp only [show ((2 : Nat) : Int) = 2 from rfl] at hq1
          obtain ⟨j2, hj2, hw4⟩ := within_nat (wrap64 (mk + (k : Int))) 3 (by omega) (by omega)
          simp only [show ((3 : Nat) : Int) = 3 from rfl] at hw4
          go_wp2_with fail
          go_quiet ((first | (go_at_call 21; with_reducible exact Calls.quiet_of_same (hq1 _)) | (go_at_call 21; with_reducible exact Calls.quiet_of_same (hq3 _ _))))
          have hVd := hV.step (gb_drewN (gb_refl wr none) nq)
          have hLd := hL.kept (gb_drewN (gb_refl wr none) nq) (by simp)
          clear hV hL y1 y9 y10 hq1 hq3
          generalize wr.drewN nq = wd at *
          have ya := hVd.bx.cell 10
          simp at ya
          generalize hje : wrap64 (cs + wrap64 ((k : Int) * (1 + (p1 : Int)))) % 3 = jz
          obtain ⟨j, rfl⟩ := Int.eq_ofNat_of_zero_le (show 0 ≤ jz by omega)
          have hj : j < 3 := by omega
          clear hje
          have hj3 : j2 = 0 ∨ j2 = 1 ∨ j2 = 2 := by omega
          rcases hj3 with rfl | rfl | rfl
          · have hix := ix49_0 (.int .u64 (Ha : Int)) (.int .u64 (Hb : Int)) (.int .u64 0) wd
            simp only [show ((0 : Nat) : Int) = 0 from rfl] at hw4
            have csl := aw_setLink hVd hAF hA hHa hplA j hj Ha ((nm Ha : Nat) : Int) (.inr ⟨pA, kA, hHa, rfl⟩)
            skip
            go_wp2_with (first | (go_at_call 21; with_reducible refine (hw4 _).mono ?_; rintro y w' ⟨rfl, rfl⟩) | (go_at_call 22; with_reducible refine csl.mono ?_; rintro y w1 ⟨rfl, hK1, zk1, hV1⟩; (have hL1 := hK1.box hLd hlF); (have cj := (hL1.cell j).trans (LB_at L j hj)); (have zj := hL1.fz j)) | (go_at_call 6; go_must (refine (num_45 _ _).mono ?_); rintro y w' ⟨rfl, rfl⟩) | fail)
            rw [linked_set _ _ _ hj] at hV1
            have hfS : w1.grownBy (w1.setCell ⟨lb, j, none⟩ (.int .u64 (Ha : Int))) (some lb) := gb_setCell (gb_refl _ _) _
            have hL2 : Box (w1.setCell ⟨lb, j, none⟩ (.int .u64 (Ha : Int))) 49 lb (LB (upf L j Ha)) := by
              rw [← LB_set L j hj Ha]
              exact hL1.set j _
            have hV2 := hV1.far hfS hlF hwlb hibl hybl (fun y hy => by simp at hy; omega) hgol
            have hN2 := num_upd hN j Ha ((nm Ha : Nat) : Int) (.inr ⟨pA, kA, hHa, rfl⟩)
            generalize w1.setCell ⟨lb, j, none⟩ (.int .u64 (Ha : Int)) = w2 at hL2 hV2 ⊢
            clear hL1 hV1 hK1 cj zj csl hfS hVd hLd hw4 ya hix
            generalize upf L j Ha = L2 at hL2 hN2
            generalize upi a j ((nm Ha : Nat) : Int) = a2 at hV2 hN2
            clear hN
            go_loopw [18] (fun v wq => ∃ mm : Nat, mm ≤ 3 ∧ v = .int .i64 mm ∧ AW w #[.int .i64 cf, .int .i64 cs, .slice ka kn kc, .slice va vn vc, .slice na nn nc, .int .u64 fl, .int .u64 tk, .int .i64 ex, .int .i64 to, .int .i64 st, .int .i64 mk] sb w6.heap.size w10.heap.size F4 B4 m F s0 il 30 30 A (some ⟨gk, 0, none⟩) gg pa pb (A.sz (n - 1)) [x] OB #[.slice ao2 1 cap2, .slice none 0 0, .int .u64 fy, .int .i64 ey, .int .i64 ty, .int .u64 fl, .int .i64 sy, .int .i64 my] #[.slice (some ⟨gk, 0, none⟩) 1 cap, .slice none 0 0, .int .u64 fy, .int .i64 ey, .int .i64 ty, .int .u64 fl, .int .i64 sy, .int .i64 my] zk1 (linked a2 ⟨0, 0, 0, 0, ey, ty, fl, fy, sy, my, ((n - 1 : Nat) : Int), [x], []⟩) wq ∧ Box wq 49 lb (LB L2)) (fun v _ => 3 - (intOf v).toNat)
            case atStart => exact ⟨0, by omega, rfl, hV2, hL2⟩
            case round =>
              obtain ⟨mm, hmm, rfl, hV3, hL3⟩ := hrel
              have hm3 : mm = 0 ∨ mm = 1 ∨ mm = 2 ∨ mm = 3 := by omega
              rcases hm3 with rfl | rfl | rfl | rfl
              · have clk := aw_link hV3 hA hHa hplA 0 (by omega) (L2 0) (by rw [linked_get _ _ _ (by omega)]; exact hN2 0 (by omega))
                simp only [show ((0 : Nat) : Int) = 0 from rfl] at clk
                go_wp2_with (first | (go_at_call 23; with_reducible refine clk.mono ?_; rintro y w4 ⟨rfl, hf4⟩; (have hL4 := hL3.kept hf4 (by simp)); (have cm := (hL4.cell 0).trans (LB_at L2 0 (by omega)))) | (go_at_call 6; go_must (refine (num_45 _ _).mono ?_); rintro y w' ⟨rfl, rfl⟩) | fail)
                exact ⟨⟨1, by omega, rfl, hV3.step hf4, hL4⟩, by simp [intOf]⟩
              · have clk := aw_link hV3 hA hHa hplA 1 (by omega) (L2 1) (by rw [linked_get _ _ _ (by omega)]; exact hN2 1 (by omega))
                simp only [show ((1 : Nat) : Int) = 1 from rfl] at clk
                go_wp2_with (first | (go_at_call 23; with_reducible refine clk.mono ?_; rintro y w4 ⟨rfl, hf4⟩; (have hL4 := hL3.kept hf4 (by simp)); (have cm := (hL4.cell 1).trans (LB_at L2 1 (by omega)))) | (go_at_call 6; go_must (refine (num_45 _ _).mono ?_); rintro y w' ⟨rfl, rfl⟩) | fail)
                exact ⟨⟨2, by omega, rfl, hV3.step hf4, hL4⟩, by simp [intOf]⟩
              · have clk := aw_link hV3 hA hHa hplA 2 (by omega) (L2 2) (by rw [linked_get _ _ _ (by omega)]; exact hN2 2 (by omega))
                simp only [show ((2 : Nat) : Int) = 2 from rfl] at clk
                go_wp2_with (first | (go_at_call 23; with_reducible refine clk.mono ?_; rintro y w4 ⟨rfl, hf4⟩; (have hL4 := hL3.kept hf4 (by simp)); (have cm := (hL4.cell 2).trans (LB_at L2 2 (by omega)))) | (go_at_call 6; go_must (refine (num_45 _ _).mono ?_); rintro y w' ⟨rfl, rfl⟩) | fail)
                exact ⟨⟨3, by omega, rfl, hV3.step hf4, hL4⟩, by simp [intOf]⟩
              · go_wp2_with fail
                refine ⟨⟨_, .int .i64 ((k : Int) + 1), _, _, _, _, _, _, _, _, _, _, _, _, _, _, _, _, _, _, _, _, _, _, _, _, _, _, _, _, _, _, _, _, _, _, _, _, _, _, _, _, _, _, _, _, _, _, _, _, _, _, _, _, _, _, _, _, _, _, _, ⟨k + 1, zk1, L2, a2, by omega, by simp, hV3, hL3, hN2⟩, rfl⟩, ?_⟩
                simp [intOf]
                omega
          · have hix := ix49_1 (.int .u64 (Ha : Int)) (.int .u64 (Hb : Int)) (.int .u64 0) wd
            simp only [show ((1 : Nat) : Int) = 1 from rfl] at hw4
            have csl := aw_setLink hVd hAF hA hHa hplA j hj Hb ((nm Hb : Nat) : Int) (.inr ⟨pB, kB, hHb, rfl⟩)
            skip
            go_wp2_with (first | (go_at_call 21; with_reducible refine (hw4 _).mono ?_; rintro y w' ⟨rfl, rfl⟩) | (go_at_call 22; with_reducible refine csl.mono ?_; rintro y w1 ⟨rfl, hK1, zk1, hV1⟩; (have hL1 := hK1.box hLd hlF); (have cj := (hL1.cell j).trans (LB_at L j hj)); (have zj := hL1.fz j)) | (go_at_call 6; go_must (refine (num_45 _ _).mono ?_); rintro y w' ⟨rfl, rfl⟩) | fail)
            rw [linked_set _ _ _ hj] at hV1
            have hfS : w1.grownBy (w1.setCell ⟨lb, j, none⟩ (.int .u64 (Hb : Int))) (some lb) := gb_setCell (gb_refl _ _) _
            have hL2 : Box (w1.setCell ⟨lb, j, none⟩ (.int .u64 (Hb : Int))) 49 lb (LB (upf L j Hb)) := by
              rw [← LB_set L j hj Hb]
              exact hL1.set j _
            have hV2 := hV1.far hfS hlF hwlb hibl hybl (fun y hy => by simp at hy; omega) hgol
            have hN2 := num_upd hN j Hb ((nm Hb : Nat) : Int) (.inr ⟨pB, kB, hHb, rfl⟩)
            generalize w1.setCell ⟨lb, j, none⟩ (.int .u64 (Hb : Int)) = w2 at hL2 hV2 ⊢
            clear hL1 hV1 hK1 cj zj csl hfS hVd hLd hw4 ya hix
            generalize upf L j Hb = L2 at hL2 hN2
            generalize upi a j ((nm Hb : Nat) : Int) = a2 at hV2 hN2
            clear hN
            go_loopw [18] (fun v wq => ∃ mm : Nat, mm ≤ 3 ∧ v = .int .i64 mm ∧ AW w #[.int .i64 cf, .int .i64 cs, .slice ka kn kc, .slice va vn vc, .slice na nn nc, .int .u64 fl, .int .u64 tk, .int .i64 ex, .int .i64 to, .int .i64 st, .int .i64 mk] sb w6.heap.size w10.heap.size F4 B4 m F s0 il 30 30 A (some ⟨gk, 0, none⟩) gg pa pb (A.sz (n - 1)) [x] OB #[.slice ao2 1 cap2, .slice none 0 0, .int .u64 fy, .int .i64 ey, .int .i64 ty, .int .u64 fl, .int .i64 sy, .int .i64 my] #[.slice (some ⟨gk, 0, none⟩) 1 cap, .slice none 0 0, .int .u64 fy, .int .i64 ey, .int .i64 ty, .int .u64 fl, .int .i64 sy, .int .i64 my] zk1 (linked a2 ⟨0, 0, 0, 0, ey, ty, fl, fy, sy, my, ((n - 1 : Nat) : Int), [x], []⟩) wq ∧ Box wq 49 lb (LB L2)) (fun v _ => 3 - (intOf v).toNat)
            case atStart => exact ⟨0, by omega, rfl, hV2, hL2⟩
            case round =>
              obtain ⟨mm, hmm, rfl, hV3, hL3⟩ := hrel
              have hm3 : mm = 0 ∨ mm = 1 ∨ mm = 2 ∨ mm = 3 := by omega
              rcases hm3 with rfl | rfl | rfl | rfl
              · have clk := aw_link hV3 hA hHa hplA 0 (by omega) (L2 0) (by rw [linked_get _ _ _ (by omega)]; exact hN2 0 (by omega))
                simp only [show ((0 : Nat) : Int) = 0 from rfl] at clk
                go_wp2_with (first | (go_at_call 23; with_reducible refine clk.mono ?_; rintro y w4 ⟨rfl, hf4⟩; (have hL4 := hL3.kept hf4 (by simp)); (have cm := (hL4.cell 0).trans (LB_at L2 0 (by omega)))) | (go_at_call 6; go_must (refine (num_45 _ _).mono ?_); rintro y w' ⟨rfl, rfl⟩) | fail)
                exact ⟨⟨1, by omega, rfl, hV3.step hf4, hL4⟩, by simp [intOf]⟩
              · have clk := aw_link hV3 hA hHa hplA 1 (by omega) (L2 1) (by rw [linked_get _ _ _ (by omega)]; exact hN2 1 (by omega))
                simp only [show ((1 : Nat) : Int) = 1 from rfl] at clk
                go_wp2_with (first | (go_at_call 23; with_reducible refine clk.mono ?_; rintro y w4 ⟨rfl, hf4⟩; (have hL4 := hL3.kept hf4 (by simp)); (have cm := (hL4.cell 1).trans (LB_at L2 1 (by omega)))) | (go_at_call 6; go_must (refine (num_45 _ _).mono ?_); rintro y w' ⟨rfl, rfl⟩) | fail)
                exact ⟨⟨2, by omega, rfl, hV3.step hf4, hL4⟩, by simp [intOf]⟩
              · have clk := aw_link hV3 hA hHa hplA 2 (by omega) (L2 2) (by rw [linked_get _ _ _ (by omega)]; exact hN2 2 (by omega))
                simp only [show ((2 : Nat) : Int) = 2 from rfl] at clk
                go_wp2_with (first | (go_at_call 23; with_reducible refine clk.mono ?_; rintro y w4 ⟨rfl, hf4⟩; (have hL4 := hL3.kept hf4 (by simp)); (have cm := (hL4.cell 2).trans (LB_at L2 2 (by omega)))) | (go_at_call 6; go_must (refine (num_45 _ _).mono ?_); rintro y w' ⟨rfl, rfl⟩) | fail)
                exact ⟨⟨3, by omega, rfl, hV3.step hf4, hL4⟩, by simp [intOf]⟩
              · go_wp2_with fail
                refine ⟨⟨_, .int .i64 ((k : Int) + 1), _, _, _, _, _, _, _, _, _, _, _, _, _, _, _, _, _, _, _, _, _, _, _, _, _, _, _, _, _, _, _, _, _, _, _, _, _, _, _, _, _, _, _, _, _, _, _, _, _, _, _, _, _, _, _, _, _, _, _, ⟨k + 1, zk1, L2, a2, by omega, by simp, hV3, hL3, hN2⟩, rfl⟩, ?_⟩
                simp [intOf]
                omega
          · have hix := ix49_2 (.int .u64 (Ha : Int)) (.int .u64 (Hb : Int)) (.int .u64 0) wd
            simp only [show ((2 : Nat) : Int) = 2 from rfl] at hw4
            have csl := aw_setLink hVd hAF hA hHa hplA j hj 0 0 (.inl ⟨rfl, rfl⟩)
            simp only [show ((0 : Nat) : Int) = 0 from rfl] at csl
            go_wp2_with (first | (go_at_call 21; with_reducible refine (hw4 _).mono ?_; rintro y w' ⟨rfl, rfl⟩) | (go_at_call 22; with_reducible refine csl.mono ?_; rintro y w1 ⟨rfl, hK1, zk1, hV1⟩; (have hL1 := hK1.box hLd hlF); (have cj := (hL1.cell j).trans (LB_at L j hj)); (have zj := hL1.fz j)) | (go_at_call 6; go_must (refine (num_45 _ _).mono ?_); rintro y w' ⟨rfl, rfl⟩) | fail)
            rw [linked_set _ _ _ hj] at hV1
            have hfS : w1.grownBy (w1.setCell ⟨lb, j, none⟩ (.int .u64 0)) (some lb) := gb_setCell (gb_refl _ _) _
            have hL2 : Box (w1.setCell ⟨lb, j, none⟩ (.int .u64 0)) 49 lb (LB (upf L j 0)) := by
              rw [← LB_set L j hj 0]
              exact hL1.set j _
            have hV2 := hV1.far hfS hlF hwlb hibl hybl (fun y hy => by simp at hy; omega) hgol
            have hN2 := num_upd hN j 0 0 (.inl ⟨rfl, rfl⟩)
            generalize w1.setCell ⟨lb, j, none⟩ (.int .u64 0) = w2 at hL2 hV2 ⊢
            clear hL1 hV1 hK1 cj zj csl hfS hVd hLd hw4 ya hix
            generalize upf L j 0 = L2 at hL2 hN2
            generalize upi a j 0 = a2 at hV2 hN2
            clear hN
            go_loopw [18] (fun v wq => ∃ mm : Nat, mm ≤ 3 ∧ v = .int .i64 mm ∧ AW w #[.int .i64 cf, .int .i64 cs, .slice ka kn kc, .slice va vn vc, .slice na nn nc, .int .u64 fl, .int .u64 tk, .int .i64 ex, .int .i64 to, .int .i64 st, .int .i64 mk] sb w6.heap.size w10.heap.size F4 B4 m F s0 il 30 30 A (some ⟨gk, 0, none⟩) gg pa pb (A.sz (n - 1)) [x] OB #[.slice ao2 1 cap2, .slice none 0 0, .int .u64 fy, .int .i64 ey, .int .i64 ty, .int .u64 fl, .int .i64 sy, .int .i64 my] #[.slice (some ⟨gk, 0, none⟩) 1 cap, .slice none 0 0, .int .u64 fy, .int .i64 ey, .int .i64 ty, .int .u64 fl, .int .i64 sy, .int .i64 my] zk1 (linked a2 ⟨0, 0, 0, 0, ey, ty, fl, fy, sy, my, ((n - 1 : Nat) : Int), [x], []⟩) wq ∧ Box wq 49 lb (LB L2)) (fun v _ => 3 - (intOf v).toNat)
            case atStart => exact ⟨0, by omega, rfl, hV2, hL2⟩
            case round =>
              obtain ⟨mm, hmm, rfl, hV3, hL3⟩ := hrel
              have hm3 : mm = 0 ∨ mm = 1 ∨ mm = 2 ∨ mm = 3 := by omega
              rcases hm3 with rfl | rfl | rfl | rfl
              · have clk := aw_link hV3 hA hHa hplA 0 (by omega) (L2 0) (by rw [linked_get _ _ _ (by omega)]; exact hN2 0 (by omega))
                simp only [show ((0 : Nat) : Int) = 0 from rfl] at clk
                go_wp2_with (first | (go_at_call 23; with_reducible refine clk.mono ?_; rintro y w4 ⟨rfl, hf4⟩; (have hL4 := hL3.kept hf4 (by simp)); (have cm := (hL4.cell 0).trans (LB_at L2 0 (by omega)))) | (go_at_call 6; go_must (refine (num_45 _ _).mono ?_); rintro y w' ⟨rfl, rfl⟩) | fail)
                exact ⟨⟨1, by omega, rfl, hV3.step hf4, hL4⟩, by simp [intOf]⟩
              · have clk := aw_link hV3 hA hHa hplA 1 (by omega) (L2 1) (by rw [linked_get _ _ _ (by omega)]; exact hN2 1 (by omega))
                simp only [show ((1 : Nat) : Int) = 1 from rfl] at clk
                go_wp2_with (first | (go_at_call 23; with_reducible refine clk.mono ?_; rintro y w4 ⟨rfl, hf4⟩; (have hL4 := hL3.kept hf4 (by simp)); (have cm := (hL4.cell 1).trans (LB_at L2 1 (by omega)))) | (go_at_call 6; go_must (refine (num_45 _ _).mono ?_); rintro y w' ⟨rfl, rfl⟩) | fail)
                exact ⟨⟨2, by omega, rfl, hV3.step hf4, hL4⟩, by simp [intOf]⟩
              · have clk := aw_link hV3 hA hHa hplA 2 (by omega) (L2 2) (by rw [linked_get _ _ _ (by omega)]; exact hN2 2 (by omega))
                simp only [show ((2 : Nat) : Int) = 2 from rfl] at clk
                go_wp2_with (first | (go_at_call 23; with_reducible refine clk.mono ?_; rintro y w4 ⟨rfl, hf4⟩; (have hL4 := hL3.kept hf4 (by simp)); (have cm := (hL4.cell 2).trans (LB_at L2 2 (by omega)))) | (go_at_call 6; go_must (refine (num_45 _ _).mono ?_); rintro y w' ⟨rfl, rfl⟩) | fail)
                exact ⟨⟨3, by omega, rfl, hV3.step hf4, hL4⟩, by simp [intOf]⟩
              · go_wp2_with fail
                refine ⟨⟨_, .int .i64 ((k : Int) + 1), _, _, _, _, _, _, _, _, _, _, _, _, _, _, _, _, _, _, _, _, _, _, _, _, _, _, _, _, _, _, _, _, _, _, _, _, _, _, _, _, _, _, _, _, _, _, _, _, _, _, _, _, _, _, _, _, _, _, _, ⟨k + 1, zk1, L2, a2, by omega, by simp, hV3, hL3, hN2⟩, rfl⟩, ?_⟩
                simp [intOf]
                omega

end Go.Proofs.YtoomnhclaofgaaaGreat
