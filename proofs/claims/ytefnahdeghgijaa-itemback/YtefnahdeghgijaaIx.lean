import Derived.Test.YtefnahdeghgijaaIz
/-
  ItemBack's walk.
-/
namespace Go.Proofs.Ytefnahdeghgijaa
open Go.RowKit
set_option linter.unusedVariables false

set_option maxRecDepth 100000 in
set_option maxHeartbeats 8000000 in
theorem back_any {w : World} (cf cs : Int) (ka : Option Addr) (kn kc : Nat) (va : Option Addr) (vn vc : Nat) (na : Option Addr) (nn nc : Nat) (fl tk ex to st mk : Int) (ys vs us : List Int) (hy : Has w ka kn ys) (hv : Has w va vn vs) (hu : Has w na nn us) (hyb : isBytes ys) (hvb : isBytes vs) (hub : isBytes us) (hkn : kn ≤ 140737488351232) (hvn : vn ≤ 140737488351232) (hnn : nn ≤ 140737488351232) (hfl : 0 ≤ fl ∧ fl < 18446744073709551616) (htk : 0 ≤ tk ∧ tk < 18446744073709551616)
    (bka : ∀ x, ka.map (·.block) = some x → x < w.heap.size) (bva : ∀ x, va.map (·.block) = some x → x < w.heap.size) (bna : ∀ x, na.map (·.block) = some x → x < w.heap.size) :
    Calls Try.prog 3 #[laidV cf cs ka kn kc va vn vc na nn nc fl tk ex to st mk] w fun y w' => y = .returned (.bool true) ∧ w.grownBy w' none := by
  obtain ⟨ps, m, F, s0, il, n, hN⟩ := cfN_ex cf
  have hcf := hN.is
  have hcn := fun W => new_ok hN.cfg 30 30 hN.n62 hN.cls hN.nm W
  have hInv := inv_new hN.cfg hN.n62 hN.cls
  have hn1 := hN.cls.1
  have hn62 := hN.n62
  have hm1 := hN.cfg.m1
  have hbp := hN.cfg.bounds.1
  have hpm : 4096 * 1 ≤ ps * m := Nat.mul_le_mul hbp hm1
  have hwk := fun W => iwakes W
  obtain ⟨j, hj, hwi⟩ := within_nat cs n (by omega) (by omega)
  have hal : w.grownBy (w.alloc (.cells #[.int .i64 cf, .int .i64 cs, .slice ka kn kc, .slice va vn vc, .slice na nn nc, .int .u64 fl, .int .u64 tk, .int .i64 ex, .int .i64 to, .int .i64 st, .int .i64 mk] 25)) none := World.grownBy_alloc _ _ _
  have hbx := Box.new w 25 #[.int .i64 cf, .int .i64 cs, .slice ka kn kc, .slice va vn vc, .slice na nn nc, .int .u64 fl, .int .u64 tk, .int .i64 ex, .int .i64 to, .int .i64 st, .int .i64 mk]
  have hal1 := hal.size
  have hxl := hbx.lt
  clear hN
  unfold cfgV at hcf hcn
  unfold laidV
  go_enter Try.func3, Try.ntmps3
  go_wp2_with (first | (go_at_call 5; go_must (refine (hcf _).mono ?_); rintro y w1 ⟨rfl, hf1⟩) | (go_at_call 4; go_must (refine (hcn _).mono ?_); rintro y w2 ⟨sb, G, B, rfl, hf2, hS2, hG2⟩) | (go_at_call 6; go_must (refine (num_45 _ _).mono ?_); rintro y w' ⟨rfl, rfl⟩) | (go_at_call 7; go_must (refine (hwk _).mono ?_); rintro y w3 ⟨rfl, hf3⟩; (have hS3 := hS2.kept0 hf3); (have hb3 := ((hbx.kept hf1 (by simp)).kept hf2 (by simp)).kept hf3 (by simp)); (have d1 := hb3.cell 1); simp at d1) | (go_at_call 8; go_must (refine (classes_20 hS3 hInv.toSzs).mono ?_); rintro y w' ⟨rfl, rfl⟩; rw [show ((A0 ps m n (chain F (limOf il) s0)).n : Int) = (n : Int) from rfl]) | fail)
  have hF3 := gb_trans (gb_trans (gb_trans hal hf1) hf2) hf3
  have hs12 := hf1.size
  have hs23 := hf2.size
  have hs33 := hf3.size
  have hcl := fun q => (classes_20 (hS3.kept0 (gb_drewN (gb_refl w3 none) q)) hInv.toSzs).mono (R' := fun y w' => y = .returned (.int .i64 n) ∧ w' = w3.drewN q) (by rintro y w' ⟨h1, h2⟩; exact ⟨h1, h2.symm⟩)
  have hwi2 := fun W => (hwi W).mono (R' := fun y w' => y = .returned (.int .i64 j) ∧ w' = W) (by rintro y w' ⟨h1, h2⟩; exact ⟨h1, h2.symm⟩)
  go_quiet ((first | (go_at_call 8; with_reducible exact Calls.quiet_of_same (hcl _)) | (go_at_call 9; with_reducible exact Calls.quiet_of_same (hwi2 _))))
  have hS4 := hS3.kept0 (gb_drewN (gb_refl w3 none) nq)
  have hb4 := hb3.kept (gb_drewN (gb_refl w3 none) nq) (by simp)
  have hF4 := gb_drewN hF3 nq
  have hs34 : w3.heap.size ≤ (w3.drewN nq).heap.size := (gb_drewN (gb_refl w3 none) nq).size
  clear hcl hwi2 hwi hwk hcf hcn hS3 hS2 d1 hbx
  generalize w3.drewN nq = w4 at *
  go_wp2_with fail
  refine (fresh_take hS4 hInv j hj rfl rfl hm1).mono ?_
  rintro y w5 ⟨rfl, hK5, F5, B5, hS5, hF5⟩
  have hGw : ∀ k, G k → w.heap.size < k := fun k hk => by have := hG2 k hk; omega
  have hb5 := hK5.box hb4 (fun h => by have := hGw _ h; omega)
  have hFw5 : w.grownBy w5 none := ((Kp.of (F := fun _ => False) hF4).trans hK5 (H := fun _ => False) (fun _ h => h) (fun k hk => .inr (by have := hGw k hk; omega))).grown (fun i hi => hi.elim)
  have hs45 := hK5.size
  have hI1 : Inv (one1 (A0 ps m n (chain F (limOf il) s0)) j) := one1_inv hInv hj hm1 rfl
  have hH1 : IsH (one1 (A0 ps m n (chain F (limOf il) s0)) j) 1 0 0 := by
    have h := one1_isH (i := j) hInv hj
    rw [own_hdl rfl] at h
    exact h
  have ho1 : (one1 (A0 ps m n (chain F (limOf il) s0)) j).own 0 = j := one1_own (A := A0 ps m n (chain F (limOf il) s0)) (i := j)
  have hp1 : (one1 (A0 ps m n (chain F (limOf il) s0)) j).place 0 0 = 0 := by
    have h := one1_place (A := A0 ps m n (chain F (limOf il) s0)) (i := j)
    rw [show (A0 ps m n (chain F (limOf il) s0)).np = 0 from rfl, Nat.zero_mul] at h
    exact h
  have hjn : j < (one1 (A0 ps m n (chain F (limOf il) s0)) j).n := by rw [one1_n]; exact hj
  have hag : w.heap.size < B5.ag := by
    rcases hF5 _ hS5.fa.2 with h | h
    · exact hGw _ h
    · omega
  have hagl := hS5.lt _ hS5.fa.2
  generalize one1 (A0 ps m n (chain F (limOf il) s0)) j = A at *
  have hA := hI1.fit
  have hlo := hA.lo j hjn
  have hhi := hA.hi j hjn
  have hps := hA.ps0
  have hzl5 : 0 + A.sz j ≤ (headZ (List.replicate (ps * m) 0) 0 0).length := by
    have h := (pl_of hS5 hA.toFit1 hH1.hp hH1.hk).le
    rw [hp1, ho1] at h
    exact h
  obtain ⟨zs, hzs⟩ : ∃ zs, zs = headZ (List.replicate (ps * m) 0) 0 0 := ⟨_, rfl⟩
  have hgen : cut zs 12 4 = be 4 0 := by
    have h0 : 0 + 56 ≤ (List.replicate (ps * m) (0 : Int)).length := by rw [List.length_replicate]; omega
    have h := lies_gen (headZ_lies (List.replicate (ps * m) 0) 0 0 h0)
    rw [← hzs] at h
    exact h
  rw [← hzs] at hS5 hzl5
  clear hzs hS4 hF5 hK5 hG2 hGw hInv hb4 hb3 hF4 hF3 hf1 hf2 hf3 hal
  have hmd := made_51 (w := w5) cf cs ka kn kc va vn vc na nn nc fl tk ex to st mk ys (hy.kept0 hFw5) hyb hkn hfl
  obtain ⟨hlK, hbK⟩ := keyOf_legal ys hyb
  have r1 : 0 ≤ fl % 4294967296 ∧ fl % 4294967296 ≤ 4294967295 := by omega
  have r2 : 0 ≤ ex % 4611686018427387904 ∧ ex % 4611686018427387904 < 9223372036854775808 := by omega
  have r3 : 0 ≤ to % 4611686018427387904 ∧ to % 4611686018427387904 < 9223372036854775808 := by omega
  have r4 : 1 ≤ 1 + st % 4 ∧ 1 + st % 4 ≤ 4 := by omega
  have r5 : 0 ≤ mk % 16 ∧ mk % 16 ≤ 15 := by omega
  generalize fl % 4294967296 = fl' at *
  generalize ex % 4611686018427387904 = ex' at *
  generalize to % 4611686018427387904 = to' at *
  generalize 1 + st % 4 = st' at *
  generalize mk % 16 = mk' at *
  generalize keyOf ys = K at *
  have hkl := hlK.2.1
  have hkl1 := hlK.1
  generalize hKl : K.length = kl at *
  have hB : Bnd fl' ex' to' st' mk' := ⟨r1, r2, r3, r4, r5⟩
  unfold laidV itV at hmd
  have e0 := hb5.cell 0
  have e1 := hb5.cell 1
  have e2 := hb5.cell 2
  have e3 := hb5.cell 3
  have e4 := hb5.cell 4
  have e5 := hb5.cell 5
  have e6 := hb5.cell 6
  have e7 := hb5.cell 7
  have e8 := hb5.cell 8
  have e9 := hb5.cell 9
  have e10 := hb5.cell 10
  simp at e0 e1 e2 e3 e4 e5 e6 e7 e8 e9 e10
  have hck := fun W (hW : w5.grownBy W none) => chunk_yes (hS5.kept0 hW) hA.toSzs j hjn
  generalize hrm : A.sz j = room at *
  go_wp2_with (first | (go_at_call 6; go_must (refine (num_45 _ _).mono ?_); rintro y w' ⟨rfl, rfl⟩) | (go_at_call 11; go_must (refine hmd.mono ?_); rintro y w6 ⟨ao, cap, rfl, hown6, hf6⟩; (have hf7 : w5.grownBy (w6.alloc (.cells #[.slice ao kl cap, .slice va vn vc, .int .u64 fl', .int .i64 ex', .int .i64 to', .int .u64 tk, .int .i64 st', .int .i64 mk'] 41)) none := gb_alloc hf6 _)) | (go_at_call 12; go_must (refine (hck _ hf7).mono ?_); rintro y w8 ⟨rfl, hf8⟩) | fail)
  have hF78 := gb_trans hf7 hf8
  have hBs : BKs w w6.heap.size B5 ao va na := by
    have s6 := hf6.size
    refine ⟨hag, by omega, fun x hx => ?_, fun x hx => by have := bva x hx; omega, fun x hx => by have := bna x hx; omega⟩
    have := (hown6.lt x hx).1
    omega
  have hk6 := hown6.has
  rw [hKl] at hk6
  have hBK0 : BK w #[.int .i64 cf, .int .i64 cs, .slice ka kn kc, .slice va vn vc, .slice na nn nc, .int .u64 fl, .int .u64 tk, .int .i64 ex, .int .i64 to, .int .i64 st, .int .i64 mk] sb w6.heap.size F5 B5 m F s0 il 30 30 A ao va na kl vn nn K vs us #[.slice ao kl cap, .slice va vn vc, .int .u64 fl', .int .i64 ex', .int .i64 to', .int .u64 tk, .int .i64 st', .int .i64 mk'] zs w8 :=
    ⟨gb_trans hFw5 hF78, hb5.kept hF78 (by simp), (Box.new w6 41 _).kept hf8 (by simp), hS5.kept0 hF78, hk6.kept0 (gb_trans (World.grownBy_alloc _ _ none) hf8), hv.kept0 (gb_trans hFw5 hF78), hu.kept0 (gb_trans hFw5 hF78)⟩
  have c52 := fun ic zs W (h : BK w #[.int .i64 cf, .int .i64 cs, .slice ka kn kc, .slice va vn vc, .slice na nn nc, .int .u64 fl, .int .u64 tk, .int .i64 ex, .int .i64 to, .int .i64 st, .int .i64 mk] sb w6.heap.size F5 B5 m F s0 il 30 30 A ao va na kl vn nn K vs us ic zs W) => bk_chunk h hA hH1
  have c53 := fun ic zs W (h : BK w #[.int .i64 cf, .int .i64 cs, .slice ka kn kc, .slice va vn vc, .slice na nn nc, .int .u64 fl, .int .u64 tk, .int .i64 ex, .int .i64 to, .int .i64 st, .int .i64 mk] sb w6.heap.size F5 B5 m F s0 il 30 30 A ao va na kl vn nn K vs us ic zs W) (qa : Option Addr) (qn qc : Nat) (q : List Int) (hq : Has W qa qn q) (hqb : isBytes q) (hqa : ∀ x, qa.map (·.block) = some x → x ≠ B5.ag) (hfit : 58 + kl + qn ≤ room) (hg : cut zs 12 4 = be 4 0) => bk_lay h hBs hA hH1 cap qa qn qc q hq hqb hqa hbK hlK fl' ex' to' tk st' mk' (by rw [ho1, hrm]; exact hfit) hB htk 0 (by rw [hp1]; exact hg)
  have l53 := fun ic zs W (h : BK w #[.int .i64 cf, .int .i64 cs, .slice ka kn kc, .slice va vn vc, .slice na nn nc, .int .u64 fl, .int .u64 tk, .int .i64 ex, .int .i64 to, .int .i64 st, .int .i64 mk] sb w6.heap.size F5 B5 m F s0 il 30 30 A ao va na kl vn nn K vs us ic zs W) (qa : Option Addr) (qn qc : Nat) (hqn : qn ≤ 140737488351232) (hfit : room < 58 + kl + qn) => bk_lay_long h hA hH1 cap qa qn qc hlK fl' ex' to' tk st' mk' (by rw [ho1, hrm]; exact hfit) hqn
  have c56 := fun ic zs W (h : BK w #[.int .i64 cf, .int .i64 cs, .slice ka kn kc, .slice va vn vc, .slice na nn nc, .int .u64 fl, .int .u64 tk, .int .i64 ex, .int .i64 to, .int .i64 st, .int .i64 mk] sb w6.heap.size F5 B5 m F s0 il 30 30 A ao va na kl vn nn K vs us ic zs W) (t : It) (hI : IsI zs 0 t) (hfit : 58 + t.key.length + t.val.length ≤ room) => bk_read h hA hH1 t (by rw [hp1]; exact hI) (by rw [ho1, hrm]; exact hfit)
  have hpl := fun ic zs W (h : BK w #[.int .i64 cf, .int .i64 cs, .slice ka kn kc, .slice va vn vc, .slice na nn nc, .int .u64 fl, .int .u64 tk, .int .i64 ex, .int .i64 to, .int .i64 st, .int .i64 mk] sb w6.heap.size F5 B5 m F s0 il 30 30 A ao va na kl vn nn K vs us ic zs W) => (pl_of h.is hA.toFit1 hH1.hp hH1.hk).le
  simp only [ho1, hp1, hrm, show ((1 : Nat) : Int) = 1 from rfl] at c52 c53 l53 c56 hpl
  unfold itV at c53 l53 c56
  have hFib : ∀ k, F5 k → k < w6.heap.size := fun k hk => by have := hS5.lt k hk; have := hf6.size; omega
  have hkob : ∀ x, ao.map (·.block) = some x → x < w6.heap.size := fun x hx => (hown6.lt x hx).2
  have hwib : w.heap.size < w6.heap.size := by have := hf6.size; omega
  clear hal1 hxl hs12 hs23 hs33 hs34 hs45 hmd hck hf7 hf8 hf6 hF78 hb5 e0 e1 e2 e3 e4 e5 e6 e7 e8 e9 e10 hown6 hk6 hS5 hFw5 hy hv hu
  have c15 := fun ic zs W (h : BK w #[.int .i64 cf, .int .i64 cs, .slice ka kn kc, .slice va vn vc, .slice na nn nc, .int .u64 fl, .int .u64 tk, .int .i64 ex, .int .i64 to, .int .i64 st, .int .i64 mk] sb w6.heap.size F5 B5 m F s0 il 30 30 A ao va na kl vn nn K vs us ic zs W) (t : It) (hI : IsI zs 0 t) (qa : Option Addr) (qn qc : Nat) (q : List Int) (hq : Has W qa qn q) (hqb : isBytes q) (hqa : ∀ x, qa.map (·.block) = some x → x ≠ B5.ag) (hfit : 58 + t.key.length + qn ≤ room) => bk_value h hBs hA hH1 t (by rw [hp1]; exact hI) qa qn qc q hq hqb hqa (by rw [ho1, hrm]; exact hfit)
  have l15 := fun ic zs W (h : BK w #[.int .i64 cf, .int .i64 cs, .slice ka kn kc, .slice va vn vc, .slice na nn nc, .int .u64 fl, .int .u64 tk, .int .i64 ex, .int .i64 to, .int .i64 st, .int .i64 mk] sb w6.heap.size F5 B5 m F s0 il 30 30 A ao va na kl vn nn K vs us ic zs W) (t : It) (hI : IsI zs 0 t) (qa : Option Addr) (qn qc : Nat) (hqn : qn ≤ 140737488351232) (hfit : room < 58 + t.key.length + qn) => bk_value_long h hA hH1 t (by rw [hp1]; exact hI) qa qn qc hqn (by rw [ho1, hrm]; exact hfit)
  have c17 := fun ic zs W (h : BK w #[.int .i64 cf, .int .i64 cs, .slice ka kn kc, .slice va vn vc, .slice na nn nc, .int .u64 fl, .int .u64 tk, .int .i64 ex, .int .i64 to, .int .i64 st, .int .i64 mk] sb w6.heap.size F5 B5 m F s0 il 30 30 A ao va na kl vn nn K vs us ic zs W) (t : It) (hI : IsI zs 0 t) (hfit : 58 + t.key.length + t.val.length ≤ room) => bk_read2 h hA hH1 t (by rw [hp1]; exact hI) (by rw [ho1, hrm]; exact hfit)
  simp only [hp1, show ((1 : Nat) : Int) = 1 from rfl] at c15 l15 c17
  unfold itV at c17
  go_loopw [10] (fun v wq => ∃ k : Nat, v = .int .i64 k ∧ ((k = 0 ∧ BK w #[.int .i64 cf, .int .i64 cs, .slice ka kn kc, .slice va vn vc, .slice na nn nc, .int .u64 fl, .int .u64 tk, .int .i64 ex, .int .i64 to, .int .i64 st, .int .i64 mk] sb w6.heap.size F5 B5 m F s0 il 30 30 A ao va na kl vn nn K vs us #[.slice ao kl cap, .slice va vn vc, .int .u64 fl', .int .i64 ex', .int .i64 to', .int .u64 tk, .int .i64 st', .int .i64 mk'] zs wq) ∨ (k = 1 ∧ 58 + kl + nn ≤ room ∧ ∃ zs', cut zs' 12 4 = be 4 0 ∧ BK w #[.int .i64 cf, .int .i64 cs, .slice ka kn kc, .slice va vn vc, .slice na nn nc, .int .u64 fl, .int .u64 tk, .int .i64 ex, .int .i64 to, .int .i64 st, .int .i64 mk] sb w6.heap.size F5 B5 m F s0 il 30 30 A ao va na kl vn nn K vs us #[.slice ao kl cap, .slice na nn nc, .int .u64 fl', .int .i64 ex', .int .i64 to', .int .u64 tk, .int .i64 st', .int .i64 mk'] zs' wq) ∨ (k = 2 ∧ w.grownBy wq none))) (fun v _ => 2 - (intOf v).toNat)
  case atStart => exact ⟨0, rfl, .inl ⟨rfl, hBK0⟩⟩
  case round =>
    obtain ⟨k, rfl, hk⟩ := hrel
    rcases hk with ⟨rfl, hBK⟩ | ⟨rfl, hfit1, zs', hg', hBK⟩ | ⟨rfl, hgr⟩
    · by_cases hlong : room < 58 + kl + vn
      · have hD0 := fun ic zs W (h : BK w #[.int .i64 cf, .int .i64 cs, .slice ka kn kc, .slice va vn vc, .slice na nn nc, .int .u64 fl, .int .u64 tk, .int .i64 ex, .int .i64 to, .int .i64 st, .int .i64 mk] sb w6.heap.size F5 B5 m F s0 il 30 30 A ao va na kl vn nn K vs us ic zs W) => h.bi
        have hlen : (cut zs 0 room).length = room := length_cut (by omega)
        have hbc : isBytes (cut zs 0 room) := isBytes_cut hBK.is.ar.hz 0 room
        rw [show ((0 : Nat) : Int) = 0 from rfl]
        have hdl : decide ((room : Int) < 58 + (kl : Int) + vn) = true := by simp; omega
        have hdl2 : decide (room < 58 + kl + vn) = true := by simp; omega
        have hp58 : IntKind.i64.wrap (58 + (kl : Int)) = 58 + (kl : Int) := by rw [IntKind.wrap_i64]; omega
        have hp59 : IntKind.i64.wrap (58 + (kl : Int) + vn) = 58 + (kl : Int) + vn := by rw [IntKind.wrap_i64]; omega
        go_wp2_with (first | (go_at_call 13; with_reducible refine (c52 _ _ _ hBK).mono ?_; rintro y w1 ⟨g1, rfl, hg1, hB1, hf1, hh1⟩; (have ia0 := hB1.bi.cell 0); (have ia1 := hB1.bi.cell 1); (have ia2 := hB1.bi.cell 2); (have ia3 := hB1.bi.cell 3); (have ia4 := hB1.bi.cell 4); (have ia5 := hB1.bi.cell 5); (have ia6 := hB1.bi.cell 6); (have ia7 := hB1.bi.cell 7); simp at ia0 ia1 ia2 ia3 ia4 ia5 ia6 ia7) | (go_at_call 14; with_reducible refine (l53 _ _ _ hB1 va vn vc hvn hlong).mono ?_; rintro y w2 ⟨rfl, hB2, hf2⟩) | (go_at_call 13; with_reducible refine (c52 _ _ _ hB2).mono ?_; rintro y w3 ⟨g3, rfl, hg3, hB3, hf3, hh3⟩) | fail)
        have hm1' := (hf3.block g1 (lt_of_block ((hf2.block g1 (lt_of_block hh1) (by simp)).trans hh1)) (by simp)).trans ((hf2.block g1 (lt_of_block hh1) (by simp)).trans hh1)
        have heq := equal_67 (w := w3) (a1 := some ⟨g1, 0, none⟩) (a2 := some ⟨g3, 0, none⟩) (n1 := room) (n2 := room) (xs := cut zs 0 room) (ys := cut zs 0 room) ⟨hlen, fun _ => ⟨g1, 0, rfl, fun i hi => by rw [Nat.zero_add]; exact cell_of_vals hm1' i (by omega)⟩⟩ ⟨hlen, fun _ => ⟨g3, 0, rfl, fun i hi => by rw [Nat.zero_add]; exact cell_of_vals hh3 i (by omega)⟩⟩ hbc hbc room room
        rw [decide_eq_true rfl] at heq
        go_wp2_with (first | (go_at_call 6; go_must (refine (num_45 _ _).mono ?_); rintro y w' ⟨rfl, rfl⟩) | (go_at_call 16; go_must (refine heq.mono ?_); rintro y w' ⟨rfl, rfl⟩) | fail)
        go_ret
        exact ⟨rfl, hB3.gr⟩
      · have hfit : 58 + kl + vn ≤ room := by omega
        have hzr := hpl _ _ _ hBK
        have hroom : room ≤ 1048576 := by omega
        have hjc : (0 : Int) ≤ (j : Int) ∧ (j : Int) < 256 := by omega
        have hvl := hBK.hv.1
        have hIt := isI_lay (zs := zs) ex' to' tk fl' st' mk' j 0 K vs (by omega) hB htk hjc (by omega) (by omega) (by omega) hbK hvb
        have hIs := isI_self ex' to' tk fl' st' mk' j 0 K vs hB htk hjc (by omega) (by omega) (by omega) hbK hvb
        have hSy := says_of _ rfl rfl rfl hIs
        have hTb := itL_bytes ⟨0, 0, 0, 0, ex', to', tk, fl', st', mk', j, K, vs⟩ hbK hvb
        have hTl := It.len ⟨0, 0, 0, 0, ex', to', tk, fl', st', mk', j, K, vs⟩
        simp only [hKl, hvl] at hTl
        have hLs := hIt.lies
        have hIt0 := hIt
        obtain ⟨zs2, hz2⟩ : ∃ zs2, zs2 = lay zs 0 (It.L ⟨0, 0, 0, 0, ex', to', tk, fl', st', mk', j, K, vs⟩).flatten := ⟨_, rfl⟩
        have hcf2 : cut zs2 (58 + kl + vn) (room - (58 + kl + vn)) = cut zs (58 + kl + vn) (room - (58 + kl + vn)) := by
          rw [hz2]
          exact cut_far zs 0 _ (by rw [hTl]; omega) _ _ (.inr (by rw [hTl]; omega))
        have hc2 : cut zs2 0 (58 + kl + vn) = (It.L ⟨0, 0, 0, 0, ex', to', tk, fl', st', mk', j, K, vs⟩).flatten := by
          have h := hLs.eq
          rw [hTl, ← hz2] at h
          exact h
        have p53 := fun W h hq => c53 #[.slice ao kl cap, .slice va vn vc, .int .u64 fl', .int .i64 ex', .int .i64 to', .int .u64 tk, .int .i64 st', .int .i64 mk'] zs W h va vn vc vs hq hvb (fun x hx => hBs.va x hx) hfit hgen
        have p56 := fun W h => c56 #[.slice ao kl cap, .slice va vn vc, .int .u64 fl', .int .i64 ex', .int .i64 to', .int .u64 tk, .int .i64 st', .int .i64 mk'] zs2 W h ⟨0, 0, 0, 0, ex', to', tk, fl', st', mk', j, K, vs⟩ (by rw [hz2]; exact hIt) (by simp only [hKl, hvl]; exact hfit)
        simp only [hKl, hvl] at p56
        rw [← hz2] at p53
        have hlz : (cut zs 0 room).length = room := length_cut (by omega)
        have hz2l : zs2.length = zs.length := by rw [hz2]; exact length_lay (by rw [hTl]; omega)
        have hlz2 : (cut zs2 0 room).length = room := length_cut (by omega)
        generalize (It.L ⟨0, 0, 0, 0, ex', to', tk, fl', st', mk', j, K, vs⟩).flatten = bsT at *
        rw [← hz2] at hIt0
        clear hz2 hLs hIt hIs
        rw [show ((0 : Nat) : Int) = 0 from rfl]
        have hdl : decide ((room : Int) < 58 + (kl : Int) + vn) = false := by simp; omega
        have hdl2 : decide (room < 58 + kl + vn) = false := by simp; omega
        have hp58 : IntKind.i64.wrap (58 + (kl : Int)) = 58 + (kl : Int) := by rw [IntKind.wrap_i64]; omega
        have hp59 : IntKind.i64.wrap (58 + (kl : Int) + vn) = 58 + (kl : Int) + vn := by rw [IntKind.wrap_i64]; omega
        go_wp2_with (first | (go_at_call 13; with_reducible refine (c52 _ _ _ hBK).mono ?_; rintro y w1 ⟨g1, rfl, hg1, hB1, hf1, hh1⟩; (have ia0 := hB1.bi.cell 0); (have ia1 := hB1.bi.cell 1); (have ia2 := hB1.bi.cell 2); (have ia3 := hB1.bi.cell 3); (have ia4 := hB1.bi.cell 4); (have ia5 := hB1.bi.cell 5); (have ia6 := hB1.bi.cell 6); (have ia7 := hB1.bi.cell 7); simp at ia0 ia1 ia2 ia3 ia4 ia5 ia6 ia7) | (go_at_call 14; with_reducible refine (p53 _ hB1 hB1.hv).mono ?_; rintro y w2 ⟨rfl, hB2, hf2⟩) | (go_at_call 13; with_reducible refine (c52 _ _ _ hB2).mono ?_; rintro y w3 ⟨g3, rfl, hg3, hB3, hf3, hh3⟩) | (go_at_call 17; with_reducible refine (p56 _ hB3).mono ?_; rintro y w4 ⟨g5, g6, rfl, hB4, hf4, hG5, hG6⟩) | fail)
        have hlt1 : B5.ag < wr.heap.size := hBK.is.lt _ hBK.is.fa.2
        have hWas : Has w4 (some ⟨g1, 0, none⟩) room (cut zs 0 room) := (((has_vals hh1 hlz).kept hf2 (fun x hx => by simp at hx; simp; omega)).kept0 hf3).kept0 hf4
        have hNow : Has w4 (some ⟨g3, 0, none⟩) room (cut zs2 0 room) := (has_vals hh3 hlz2).kept0 hf4
        have hfA : w4.grownBy (w4.alloc (.cells #[.slice (some ⟨g5, 0, none⟩) kl kl, .slice (some ⟨g6, 0, none⟩) vn vn, .int .u64 fl', .int .i64 ex', .int .i64 to', .int .u64 tk, .int .i64 st', .int .i64 mk'] 41)) none := World.grownBy_alloc _ _ _
        have hR0 : RS w4.heap.size w6.heap.size #[.slice (some ⟨g5, 0, none⟩) kl kl, .slice (some ⟨g6, 0, none⟩) vn vn, .int .u64 fl', .int .i64 ex', .int .i64 to', .int .u64 tk, .int .i64 st', .int .i64 mk'] #[.slice ao kl cap, .slice va vn vc, .int .u64 fl', .int .i64 ex', .int .i64 to', .int .u64 tk, .int .i64 st', .int .i64 mk'] w4 (w4.alloc (.cells #[.slice (some ⟨g5, 0, none⟩) kl kl, .slice (some ⟨g6, 0, none⟩) vn vn, .int .u64 fl', .int .i64 ex', .int .i64 to', .int .u64 tk, .int .i64 st', .int .i64 mk'] 41)) := ⟨hfA, Box.new _ _ _, hB4.bi.kept hfA (by simp)⟩
        have hR0d := hR0.drew
        have x57 := fun W (hW : w4.grownBy W none) => equal_57 (some ⟨g5, 0, none⟩) (some ⟨g6, 0, none⟩) ao va kl kl cap vn vn vc fl' ex' to' tk st' mk' K vs (hG5.kept0 hW) (hG6.kept0 hW) (hB4.hk.kept0 hW) (hB4.hv.kept0 hW) hbK hvb
        have x58 := fun W (hW : w4.grownBy W none) => laidOut_58 (w := W) g3 room bsT ao va kl cap vn vc ⟨0, 0, 0, 0, ex', to', tk, fl', st', mk', j, K, vs⟩ hSy (by
          have h := (hNow.kept0 hW).piece 0 (58 + kl + vn) 0 (by omega) (fun _ => rfl)
          rw [cut_cut _ _ _ _ _ (by omega), Nat.zero_add, hc2] at h
          exact h) hTb (hB4.hk.kept0 hW) (hB4.hv.kept0 hW) hbK hvb (by omega) (by omega) hB.e hB.t hjc (by have := hB.s; simp only; omega) (by have := hB.m; simp only; omega) (by omega)
        unfold itV at x57 x58
        simp only at x58
        have tn : (58 + (kl : Int) + vn).toNat = 58 + kl + vn := by omega
        have tn0 : (0 : Int) ≤ 58 + (kl : Int) + vn := by omega
        have tn1 : 58 + (kl : Int) + vn ≤ room := by omega
        obtain ⟨z0, z1, z2, z3, z4, z5, z6, z7, v0, v1, v2, v3, v4, v5, v6, v7⟩ := hR0.cc
        obtain ⟨ad3, had3⟩ : ∃ ad3, (if room = 58 + kl + vn then some (⟨g3, 0, none⟩ : Addr) else some ⟨g3, 58 + kl + vn, none⟩) = some ad3 := by by_cases e : room = 58 + kl + vn <;> simp [e]
        obtain ⟨ad1, had1⟩ : ∃ ad1, (if room = 58 + kl + vn then some (⟨g1, 0, none⟩ : Addr) else some ⟨g1, 58 + kl + vn, none⟩) = some ad1 := by by_cases e : room = 58 + kl + vn <;> simp [e]
        have x55 := fun W (hW : w4.grownBy W none) => equal_67 (w := W) (has_end (hNow.kept0 hW) (58 + kl + vn) (by omega) ad3 had3) (has_end (hWas.kept0 hW) (58 + kl + vn) (by omega) ad1 had1) (isBytes_cut (isBytes_cut hB4.is.ar.hz _ _) _ _) (isBytes_cut (isBytes_cut hBK.is.ar.hz _ _) _ _) (room - (58 + kl + vn)) (room - (58 + kl + vn))
        simp only [cut_cut zs2 0 room (58 + kl + vn) (room - (58 + kl + vn)) (by omega), cut_cut zs 0 room (58 + kl + vn) (room - (58 + kl + vn)) (by omega), Nat.zero_add, hcf2, decide_true] at x55
        go_region_held3 (fun w' => w'.cell? ⟨w4.heap.size, 0, none⟩ = some (.slice (some ⟨g5, 0, none⟩) kl kl) ∧ w'.cell? ⟨w4.heap.size, 1, none⟩ = some (.slice (some ⟨g6, 0, none⟩) vn vn) ∧ w'.cell? ⟨w4.heap.size, 2, none⟩ = some (.int .u64 fl') ∧ w'.cell? ⟨w4.heap.size, 3, none⟩ = some (.int .i64 ex') ∧ w'.cell? ⟨w4.heap.size, 4, none⟩ = some (.int .i64 to') ∧ w'.cell? ⟨w4.heap.size, 5, none⟩ = some (.int .u64 tk) ∧ w'.cell? ⟨w4.heap.size, 6, none⟩ = some (.int .i64 st') ∧ w'.cell? ⟨w4.heap.size, 7, none⟩ = some (.int .i64 mk') ∧ w'.cell? ⟨w6.heap.size, 0, none⟩ = some (.slice ao kl cap) ∧ w'.cell? ⟨w6.heap.size, 1, none⟩ = some (.slice va vn vc) ∧ w'.cell? ⟨w6.heap.size, 2, none⟩ = some (.int .u64 fl') ∧ w'.cell? ⟨w6.heap.size, 3, none⟩ = some (.int .i64 ex') ∧ w'.cell? ⟨w6.heap.size, 4, none⟩ = some (.int .i64 to') ∧ w'.cell? ⟨w6.heap.size, 5, none⟩ = some (.int .u64 tk) ∧ w'.cell? ⟨w6.heap.size, 6, none⟩ = some (.int .i64 st') ∧ w'.cell? ⟨w6.heap.size, 7, none⟩ = some (.int .i64 mk')) ((first | with_reducible exact hRb.cc | with_reducible exact hRa.cc | with_reducible exact hR0d.cc)) ((first | (go_at_call 6; with_reducible refine (num_45 _ _).mono ?_; rintro y w' ⟨rfl, rfl⟩) | (go_at_call 18; with_reducible refine (x57 _ hR0d.gr).mono ?_; rintro y wa ⟨rfl, hfa⟩; (have hRa := hR0d.step hfa)) | (go_at_call 19; with_reducible refine (x58 _ hRa.gr).mono ?_; rintro y wb ⟨rfl, hfb⟩; (have hRb := hRa.step hfb)) | (go_at_call 16; with_reducible refine (x55 _ hRb.gr).mono ?_; rintro y w' ⟨rfl, rfl⟩)))
        have hBd := hB4.step hRb.gr
        have hbg := hRb.bg
        have hs4 : w6.heap.size < w4.heap.size := hB4.bi.lt
        have hg3i : w6.heap.size < g3 := by have h1 := hB2.bi.lt; omega
        have hN7 := (hNow.kept0 hRb.gr).kept (gb_setCell (gb_refl _ (some w6.heap.size)) (.slice na nn nc) (i := 1)) (fun x hx => by simp at hx; simp; omega)
        have i1 := hBd.bi.cell 1
        have iz := hBd.bi.fz 1
        have xb4 := hBd.bx.cell 4
        simp at i1 xb4
        have hBv := hBd.setv (fun h => by have := hFib _ h; omega) hwib (fun x hx => by have := hkob x hx; omega) (fun x hx => by have := bva x hx; omega) (fun x hx => by have := bna x hx; omega) (.slice na nn nc)
        have j0 := hBv.bi.cell 0
        have j1 := hBv.bi.cell 1
        simp at j0 j1
        have hp60 : IntKind.i64.wrap (58 + (kl : Int) + nn) = 58 + (kl : Int) + nn := by rw [IntKind.wrap_i64]; omega
        clear x57 x58 x55 p53 p56 hR0 hR0d z0 z1 z2 z3 z4 z5 z6 z7 v0 v1 v2 v3 v4 v5 v6 v7 hWas had1 had3
        by_cases hlong2 : room < 58 + kl + nn
        · have hdm : decide ((room : Int) < 58 + (kl : Int) + nn) = true := by simp; omega
          have hdm2 : decide (room < 58 + kl + nn) = true := by simp; omega
          have lv := l15 #[.slice ao kl cap, .slice na nn nc, .int .u64 fl', .int .i64 ex', .int .i64 to', .int .u64 tk, .int .i64 st', .int .i64 mk'] zs2 _ hBv ⟨0, 0, 0, 0, ex', to', tk, fl', st', mk', j, K, vs⟩ hIt0 na nn nc hnn (by simp only [hKl]; exact hlong2)
          go_wp2_with (first | (go_at_call 15; with_reducible refine lv.mono ?_; rintro y w7 ⟨rfl, hB7, hf7⟩) | (go_at_call 13; with_reducible refine (c52 _ _ _ hB7).mono ?_; rintro y w8 ⟨g8, rfl, hg8, hB8, hf8, hh8⟩) | (go_at_call 6; go_must (refine (num_45 _ _).mono ?_); rintro y w' ⟨rfl, rfl⟩) | fail)
          have heq := equal_67 (w := w8) (has_vals hh8 hlz2) ((hN7.kept0 hf7).kept0 hf8) (isBytes_cut hB8.is.ar.hz 0 room) (isBytes_cut hB8.is.ar.hz 0 room) room room
          rw [decide_eq_true rfl] at heq
          go_wp2_with (first | (go_at_call 6; go_must (refine (num_45 _ _).mono ?_); rintro y w' ⟨rfl, rfl⟩) | (go_at_call 16; go_must (refine heq.mono ?_); rintro y w' ⟨rfl, rfl⟩) | fail)
          go_ret
          exact ⟨rfl, hB8.gr⟩
        · have hfit2 : 58 + kl + nn ≤ room := by omega
          have hdm : decide ((room : Int) < 58 + (kl : Int) + nn) = false := by simp; omega
          have hdm2 : decide (room < 58 + kl + nn) = false := by simp; omega
          have hul := hBd.hu.1
          have hI3 := isI_lay (zs := zs2) ex' to' tk fl' st' mk' j 0 K us (by omega) hB htk hjc (by omega) (by omega) (by omega) hbK hub
          have p15 := c15 #[.slice ao kl cap, .slice na nn nc, .int .u64 fl', .int .i64 ex', .int .i64 to', .int .u64 tk, .int .i64 st', .int .i64 mk'] zs2 _ hBv ⟨0, 0, 0, 0, ex', to', tk, fl', st', mk', j, K, vs⟩ hIt0 na nn nc us hBv.hu hub (fun x hx => hBs.na x hx) (by simp only [hKl]; exact hfit2)
          obtain ⟨zs3, hz3⟩ : ∃ zs3, lay zs2 0 (It.L ⟨0, 0, 0, 0, ex', to', tk, fl', st', mk', j, K, us⟩).flatten = zs3 := ⟨_, rfl⟩
          have e3 : lay zs2 0 (It.withVal ⟨0, 0, 0, 0, ex', to', tk, fl', st', mk', j, K, vs⟩ us).L.flatten = zs3 := hz3
          rw [e3] at p15
          rw [hz3] at hI3
          have hgz3 : cut zs3 12 4 = be 4 0 := by
            have h := hI3.gen
            rw [Nat.zero_add] at h
            exact h
          have p17 := fun W h => c17 #[.slice ao kl cap, .slice na nn nc, .int .u64 fl', .int .i64 ex', .int .i64 to', .int .u64 tk, .int .i64 st', .int .i64 mk'] zs3 W h ⟨0, 0, 0, 0, ex', to', tk, fl', st', mk', j, K, us⟩ hI3 (by simp only [hKl, hul]; exact hfit2)
          simp only [hKl, hul] at p17
          clear e3 hz3 hI3
          go_upto_region 33 with (first | (go_at_call 15; with_reducible refine p15.mono ?_; rintro y w7 ⟨rfl, hB7, hf7⟩) | (go_at_call 17; with_reducible refine (p17 _ hB7).mono ?_; rintro y w8 ⟨g8, g9, rfl, hB8, hf8, hl8, hl9, hG8, hG9⟩; (have hagg : B5.ag < w6.heap.size := hFib _ hB7.is.fa.2); (have hb8 := ((hbg.kept (gb_setCell (gb_refl _ (some w6.heap.size)) (.slice na nn nc) (i := 1)) (by simp; omega)).kept hf7 (by simp; omega)).kept hf8 (by simp)); (have gc0 := hb8.cell 0); (have gz0 := hb8.fz 0); (have gc1 := hb8.cell 1); (have gz1 := hb8.fz 1); (have gc2 := hb8.cell 2); (have gz2 := hb8.fz 2); (have gc3 := hb8.cell 3); (have gz3 := hb8.fz 3); (have gc4 := hb8.cell 4); (have gz4 := hb8.fz 4); (have gc5 := hb8.cell 5); (have gz5 := hb8.fz 5); (have gc6 := hb8.cell 6); (have gz6 := hb8.fz 6); (have gc7 := hb8.cell 7); (have gz7 := hb8.fz 7); simp at gc0 gc1 gc2 gc3 gc4 gc5 gc6 gc7) | fail)
          have hl7 : w4.heap.size < w7.heap.size := ((hbg.kept (gb_setCell (gb_refl _ (some w6.heap.size)) (.slice na nn nc) (i := 1)) (by simp; omega)).kept hf7 (by simp; omega)).lt
          have hf9 : w8.grownBy ((((((((w8.setCell ⟨w4.heap.size, 0, none⟩ (.slice (some ⟨g8, 0, none⟩) kl kl)).setCell ⟨w4.heap.size, 1, none⟩ (.slice (some ⟨g9, 0, none⟩) nn nn)).setCell ⟨w4.heap.size, 2, none⟩ (.int .u64 fl')).setCell ⟨w4.heap.size, 3, none⟩ (.int .i64 ex')).setCell ⟨w4.heap.size, 4, none⟩ (.int .i64 to')).setCell ⟨w4.heap.size, 5, none⟩ (.int .u64 tk)).setCell ⟨w4.heap.size, 6, none⟩ (.int .i64 st')).setCell ⟨w4.heap.size, 7, none⟩ (.int .i64 mk')) (some w4.heap.size) := (gb_setCell (gb_setCell (gb_setCell (gb_setCell (gb_setCell (gb_setCell (gb_setCell (gb_setCell (gb_refl w8 (some w4.heap.size)) (.slice (some ⟨g8, 0, none⟩) kl kl) (i := 0)) (.slice (some ⟨g9, 0, none⟩) nn nn) (i := 1)) (.int .u64 fl') (i := 2)) (.int .i64 ex') (i := 3)) (.int .i64 to') (i := 4)) (.int .u64 tk) (i := 5)) (.int .i64 st') (i := 6)) (.int .i64 mk') (i := 7))
          have hb9 : Box ((((((((w8.setCell ⟨w4.heap.size, 0, none⟩ (.slice (some ⟨g8, 0, none⟩) kl kl)).setCell ⟨w4.heap.size, 1, none⟩ (.slice (some ⟨g9, 0, none⟩) nn nn)).setCell ⟨w4.heap.size, 2, none⟩ (.int .u64 fl')).setCell ⟨w4.heap.size, 3, none⟩ (.int .i64 ex')).setCell ⟨w4.heap.size, 4, none⟩ (.int .i64 to')).setCell ⟨w4.heap.size, 5, none⟩ (.int .u64 tk)).setCell ⟨w4.heap.size, 6, none⟩ (.int .i64 st')).setCell ⟨w4.heap.size, 7, none⟩ (.int .i64 mk')) 41 w4.heap.size #[.slice (some ⟨g8, 0, none⟩) kl kl, .slice (some ⟨g9, 0, none⟩) nn nn, .int .u64 fl', .int .i64 ex', .int .i64 to', .int .u64 tk, .int .i64 st', .int .i64 mk'] := ((((((((hb8.set 0 (.slice (some ⟨g8, 0, none⟩) kl kl)).set 1 (.slice (some ⟨g9, 0, none⟩) nn nn)).set 2 (.int .u64 fl')).set 3 (.int .i64 ex')).set 4 (.int .i64 to')).set 5 (.int .u64 tk)).set 6 (.int .i64 st')).set 7 (.int .i64 mk'))
          have hB9 := hB8.far hf9 hs4 hFib hwib hkob (fun x hx => Nat.lt_trans (bva x hx) hwib) (fun x hx => Nat.lt_trans (bna x hx) hwib)
          generalize ((((((((w8.setCell ⟨w4.heap.size, 0, none⟩ (.slice (some ⟨g8, 0, none⟩) kl kl)).setCell ⟨w4.heap.size, 1, none⟩ (.slice (some ⟨g9, 0, none⟩) nn nn)).setCell ⟨w4.heap.size, 2, none⟩ (.int .u64 fl')).setCell ⟨w4.heap.size, 3, none⟩ (.int .i64 ex')).setCell ⟨w4.heap.size, 4, none⟩ (.int .i64 to')).setCell ⟨w4.heap.size, 5, none⟩ (.int .u64 tk)).setCell ⟨w4.heap.size, 6, none⟩ (.int .i64 st')).setCell ⟨w4.heap.size, 7, none⟩ (.int .i64 mk')) = V at hf9 hb9 hB9 ⊢
          have n0 := hb9.cell 0
          have n1 := hb9.cell 1
          have n2 := hb9.cell 2
          have n3 := hb9.cell 3
          have n4 := hb9.cell 4
          have n5 := hb9.cell 5
          have n6 := hb9.cell 6
          have n7 := hb9.cell 7
          have o0 := hB9.bi.cell 0
          have o1 := hB9.bi.cell 1
          have o2 := hB9.bi.cell 2
          have o3 := hB9.bi.cell 3
          have o4 := hB9.bi.cell 4
          have o5 := hB9.bi.cell 5
          have o6 := hB9.bi.cell 6
          have o7 := hB9.bi.cell 7
          simp at n0 n1 n2 n3 n4 n5 n6 n7 o0 o1 o2 o3 o4 o5 o6 o7
          have x18 := equal_57 (w := V) (some ⟨g8, 0, none⟩) (some ⟨g9, 0, none⟩) ao na kl kl cap nn nn nc fl' ex' to' tk st' mk' K us (hG8.kept hf9 (fun x hx => by simp at hx; simp; omega)) (hG9.kept hf9 (fun x hx => by simp at hx; simp; omega)) hB9.hk hB9.hu hbK hub
          unfold itV at x18
          go_wp2_with (first | (go_at_call 6; go_must (refine (num_45 _ _).mono ?_); rintro y w' ⟨rfl, rfl⟩) | (go_at_call 18; with_reducible refine x18.mono ?_; rintro y w10 ⟨rfl, hf10⟩) | fail)
          exact ⟨⟨1, rfl, .inr (.inl ⟨rfl, hfit2, zs3, hgz3, hB9.step hf10⟩)⟩, by simp [intOf]⟩
    · have hfit : 58 + kl + nn ≤ room := hfit1
      have hzr := hpl _ _ _ hBK
      have hroom : room ≤ 1048576 := by omega
      have hjc : (0 : Int) ≤ (j : Int) ∧ (j : Int) < 256 := by omega
      have hvl := hBK.hu.1
      have hIt := isI_lay (zs := zs') ex' to' tk fl' st' mk' j 0 K us (by omega) hB htk hjc (by omega) (by omega) (by omega) hbK hub
      have hIs := isI_self ex' to' tk fl' st' mk' j 0 K us hB htk hjc (by omega) (by omega) (by omega) hbK hub
      have hSy := says_of _ rfl rfl rfl hIs
      have hTb := itL_bytes ⟨0, 0, 0, 0, ex', to', tk, fl', st', mk', j, K, us⟩ hbK hub
      have hTl := It.len ⟨0, 0, 0, 0, ex', to', tk, fl', st', mk', j, K, us⟩
      simp only [hKl, hvl] at hTl
      have hLs := hIt.lies
      have hIt0 := hIt
      obtain ⟨zs2, hz2⟩ : ∃ zs2, zs2 = lay zs' 0 (It.L ⟨0, 0, 0, 0, ex', to', tk, fl', st', mk', j, K, us⟩).flatten := ⟨_, rfl⟩
      have hcf2 : cut zs2 (58 + kl + nn) (room - (58 + kl + nn)) = cut zs' (58 + kl + nn) (room - (58 + kl + nn)) := by
        rw [hz2]
        exact cut_far zs' 0 _ (by rw [hTl]; omega) _ _ (.inr (by rw [hTl]; omega))
      have hc2 : cut zs2 0 (58 + kl + nn) = (It.L ⟨0, 0, 0, 0, ex', to', tk, fl', st', mk', j, K, us⟩).flatten := by
        have h := hLs.eq
        rw [hTl, ← hz2] at h
        exact h
      have p53 := fun W h hq => c53 #[.slice ao kl cap, .slice na nn nc, .int .u64 fl', .int .i64 ex', .int .i64 to', .int .u64 tk, .int .i64 st', .int .i64 mk'] zs' W h na nn nc us hq hub (fun x hx => hBs.na x hx) hfit hg'
      have p56 := fun W h => c56 #[.slice ao kl cap, .slice na nn nc, .int .u64 fl', .int .i64 ex', .int .i64 to', .int .u64 tk, .int .i64 st', .int .i64 mk'] zs2 W h ⟨0, 0, 0, 0, ex', to', tk, fl', st', mk', j, K, us⟩ (by rw [hz2]; exact hIt) (by simp only [hKl, hvl]; exact hfit)
      simp only [hKl, hvl] at p56
      rw [← hz2] at p53
      have p15 := fun W h hq => c15 #[.slice ao kl cap, .slice na nn nc, .int .u64 fl', .int .i64 ex', .int .i64 to', .int .u64 tk, .int .i64 st', .int .i64 mk'] zs2 W h ⟨0, 0, 0, 0, ex', to', tk, fl', st', mk', j, K, us⟩ (by rw [hz2]; exact hIt) na nn nc us hq hub (fun x hx => hBs.na x hx) (by simp only [hKl]; exact hfit)
      have e15 : lay zs2 0 (It.withVal ⟨0, 0, 0, 0, ex', to', tk, fl', st', mk', j, K, us⟩ us).L.flatten = zs2 := lay_same (by rw [hz2]; exact hLs)
      rw [e15] at p15
      have hlz : (cut zs' 0 room).length = room := length_cut (by omega)
      have hz2l : zs2.length = zs'.length := by rw [hz2]; exact length_lay (by rw [hTl]; omega)
      have hlz2 : (cut zs2 0 room).length = room := length_cut (by omega)
      generalize (It.L ⟨0, 0, 0, 0, ex', to', tk, fl', st', mk', j, K, us⟩).flatten = bsT at *
      rw [← hz2] at hIt0
      clear hz2 hLs hIt hIs e15
      rw [show ((1 : Nat) : Int) = 1 from rfl]
      have hdl : decide ((room : Int) < 58 + (kl : Int) + nn) = false := by simp; omega
      have hdl2 : decide (room < 58 + kl + nn) = false := by simp; omega
      have hp58 : IntKind.i64.wrap (58 + (kl : Int)) = 58 + (kl : Int) := by rw [IntKind.wrap_i64]; omega
      have hp59 : IntKind.i64.wrap (58 + (kl : Int) + nn) = 58 + (kl : Int) + nn := by rw [IntKind.wrap_i64]; omega
      go_wp2_with (first | (go_at_call 13; with_reducible refine (c52 _ _ _ hBK).mono ?_; rintro y w1 ⟨g1, rfl, hg1, hB1, hf1, hh1⟩; (have ia0 := hB1.bi.cell 0); (have ia1 := hB1.bi.cell 1); (have ia2 := hB1.bi.cell 2); (have ia3 := hB1.bi.cell 3); (have ia4 := hB1.bi.cell 4); (have ia5 := hB1.bi.cell 5); (have ia6 := hB1.bi.cell 6); (have ia7 := hB1.bi.cell 7); simp at ia0 ia1 ia2 ia3 ia4 ia5 ia6 ia7) | (go_at_call 14; with_reducible refine (p53 _ hB1 hB1.hu).mono ?_; rintro y w2 ⟨rfl, hB2, hf2⟩; (have ib1 := hB2.bi.cell 1); simp at ib1) | (go_at_call 15; with_reducible refine (p15 _ hB2 hB2.hu).mono ?_; rintro y w2v ⟨rfl, hB2v, hf2v⟩; (have ja0 := hB2v.bi.cell 0); (have ja1 := hB2v.bi.cell 1); simp at ja0 ja1) | (go_at_call 13; with_reducible refine (c52 _ _ _ hB2v).mono ?_; rintro y w3 ⟨g3, rfl, hg3, hB3, hf3, hh3⟩) | (go_at_call 17; with_reducible refine (p56 _ hB3).mono ?_; rintro y w4 ⟨g5, g6, rfl, hB4, hf4, hG5, hG6⟩) | fail)
      have hlt1 : B5.ag < wr.heap.size := hBK.is.lt _ hBK.is.fa.2
      have hWas : Has w4 (some ⟨g1, 0, none⟩) room (cut zs' 0 room) := ((((has_vals hh1 hlz).kept hf2 (fun x hx => by simp at hx; simp; omega)).kept hf2v (fun x hx => by simp at hx; simp; omega)).kept0 hf3).kept0 hf4
      have hNow : Has w4 (some ⟨g3, 0, none⟩) room (cut zs2 0 room) := (has_vals hh3 hlz2).kept0 hf4
      have hfA : w4.grownBy (w4.alloc (.cells #[.slice (some ⟨g5, 0, none⟩) kl kl, .slice (some ⟨g6, 0, none⟩) nn nn, .int .u64 fl', .int .i64 ex', .int .i64 to', .int .u64 tk, .int .i64 st', .int .i64 mk'] 41)) none := World.grownBy_alloc _ _ _
      have hR0 : RS w4.heap.size w6.heap.size #[.slice (some ⟨g5, 0, none⟩) kl kl, .slice (some ⟨g6, 0, none⟩) nn nn, .int .u64 fl', .int .i64 ex', .int .i64 to', .int .u64 tk, .int .i64 st', .int .i64 mk'] #[.slice ao kl cap, .slice na nn nc, .int .u64 fl', .int .i64 ex', .int .i64 to', .int .u64 tk, .int .i64 st', .int .i64 mk'] w4 (w4.alloc (.cells #[.slice (some ⟨g5, 0, none⟩) kl kl, .slice (some ⟨g6, 0, none⟩) nn nn, .int .u64 fl', .int .i64 ex', .int .i64 to', .int .u64 tk, .int .i64 st', .int .i64 mk'] 41)) := ⟨hfA, Box.new _ _ _, hB4.bi.kept hfA (by simp)⟩
      have hR0d := hR0.drew
      have x57 := fun W (hW : w4.grownBy W none) => equal_57 (some ⟨g5, 0, none⟩) (some ⟨g6, 0, none⟩) ao na kl kl cap nn nn nc fl' ex' to' tk st' mk' K us (hG5.kept0 hW) (hG6.kept0 hW) (hB4.hk.kept0 hW) (hB4.hu.kept0 hW) hbK hub
      have x58 := fun W (hW : w4.grownBy W none) => laidOut_58 (w := W) g3 room bsT ao na kl cap nn nc ⟨0, 0, 0, 0, ex', to', tk, fl', st', mk', j, K, us⟩ hSy (by
        have h := (hNow.kept0 hW).piece 0 (58 + kl + nn) 0 (by omega) (fun _ => rfl)
        rw [cut_cut _ _ _ _ _ (by omega), Nat.zero_add, hc2] at h
        exact h) hTb (hB4.hk.kept0 hW) (hB4.hu.kept0 hW) hbK hub (by omega) (by omega) hB.e hB.t hjc (by have := hB.s; simp only; omega) (by have := hB.m; simp only; omega) (by omega)
      unfold itV at x57 x58
      simp only at x58
      have tn : (58 + (kl : Int) + nn).toNat = 58 + kl + nn := by omega
      have tn0 : (0 : Int) ≤ 58 + (kl : Int) + nn := by omega
      have tn1 : 58 + (kl : Int) + nn ≤ room := by omega
      obtain ⟨z0, z1, z2, z3, z4, z5, z6, z7, v0, v1, v2, v3, v4, v5, v6, v7⟩ := hR0.cc
      obtain ⟨ad3, had3⟩ : ∃ ad3, (if room = 58 + kl + nn then some (⟨g3, 0, none⟩ : Addr) else some ⟨g3, 58 + kl + nn, none⟩) = some ad3 := by by_cases e : room = 58 + kl + nn <;> simp [e]
      obtain ⟨ad1, had1⟩ : ∃ ad1, (if room = 58 + kl + nn then some (⟨g1, 0, none⟩ : Addr) else some ⟨g1, 58 + kl + nn, none⟩) = some ad1 := by by_cases e : room = 58 + kl + nn <;> simp [e]
      have x55 := fun W (hW : w4.grownBy W none) => equal_67 (w := W) (has_end (hNow.kept0 hW) (58 + kl + nn) (by omega) ad3 had3) (has_end (hWas.kept0 hW) (58 + kl + nn) (by omega) ad1 had1) (isBytes_cut (isBytes_cut hB4.is.ar.hz _ _) _ _) (isBytes_cut (isBytes_cut hBK.is.ar.hz _ _) _ _) (room - (58 + kl + nn)) (room - (58 + kl + nn))
      simp only [cut_cut zs2 0 room (58 + kl + nn) (room - (58 + kl + nn)) (by omega), cut_cut zs' 0 room (58 + kl + nn) (room - (58 + kl + nn)) (by omega), Nat.zero_add, hcf2, decide_true] at x55
      go_region_held3 (fun w' => w'.cell? ⟨w4.heap.size, 0, none⟩ = some (.slice (some ⟨g5, 0, none⟩) kl kl) ∧ w'.cell? ⟨w4.heap.size, 1, none⟩ = some (.slice (some ⟨g6, 0, none⟩) nn nn) ∧ w'.cell? ⟨w4.heap.size, 2, none⟩ = some (.int .u64 fl') ∧ w'.cell? ⟨w4.heap.size, 3, none⟩ = some (.int .i64 ex') ∧ w'.cell? ⟨w4.heap.size, 4, none⟩ = some (.int .i64 to') ∧ w'.cell? ⟨w4.heap.size, 5, none⟩ = some (.int .u64 tk) ∧ w'.cell? ⟨w4.heap.size, 6, none⟩ = some (.int .i64 st') ∧ w'.cell? ⟨w4.heap.size, 7, none⟩ = some (.int .i64 mk') ∧ w'.cell? ⟨w6.heap.size, 0, none⟩ = some (.slice ao kl cap) ∧ w'.cell? ⟨w6.heap.size, 1, none⟩ = some (.slice na nn nc) ∧ w'.cell? ⟨w6.heap.size, 2, none⟩ = some (.int .u64 fl') ∧ w'.cell? ⟨w6.heap.size, 3, none⟩ = some (.int .i64 ex') ∧ w'.cell? ⟨w6.heap.size, 4, none⟩ = some (.int .i64 to') ∧ w'.cell? ⟨w6.heap.size, 5, none⟩ = some (.int .u64 tk) ∧ w'.cell? ⟨w6.heap.size, 6, none⟩ = some (.int .i64 st') ∧ w'.cell? ⟨w6.heap.size, 7, none⟩ = some (.int .i64 mk')) ((first | with_reducible exact hRb.cc | with_reducible exact hRa.cc | with_reducible exact hR0d.cc)) ((first | (go_at_call 6; with_reducible refine (num_45 _ _).mono ?_; rintro y w' ⟨rfl, rfl⟩) | (go_at_call 18; with_reducible refine (x57 _ hR0d.gr).mono ?_; rintro y wa ⟨rfl, hfa⟩; (have hRa := hR0d.step hfa)) | (go_at_call 19; with_reducible refine (x58 _ hRa.gr).mono ?_; rintro y wb ⟨rfl, hfb⟩; (have hRb := hRa.step hfb)) | (go_at_call 16; with_reducible refine (x55 _ hRb.gr).mono ?_; rintro y w' ⟨rfl, rfl⟩)))
      go_wp2
      exact ⟨⟨2, rfl, .inr (.inr ⟨rfl, (hB4.step hRb.gr).gr⟩)⟩, by simp [intOf]⟩
    · go_wp2
      go_ret
      exact ⟨rfl, hgr⟩

end Go.Proofs.Ytefnahdeghgijaa
