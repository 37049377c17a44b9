import Derived.Test.YtobegepebochkaaGreatDoorVMr
import Derived.Test.YtobegepebochkaaGreatDoorVBg
set_option linter.unusedVariables false
set_option linter.unusedSimpArgs false
namespace Go.Proofs.YtobegepebochkaaGreatDoor
open Go.RowKit
set_option maxRecDepth 100000 in
set_option maxHeartbeats 8000000 in
theorem look_108C {w : World} {bb : Nat} {b0 b1 b2 b3 t0 t1 t2 t3 s0 s1 s2 xv : Value} {n : Int} {K KX m : Nat} {V X : Nat → Value} {L : Nat → Nat} (h : Box w 31 bb (bkA b0 b1 b2 b3 t0 t1 t2 t3 s0 s1 s2 n)) (hr : oC w 0 38 1 b0 K (vsL V K)) (hx : oC w 0 38 1 xv KX (vsL X KX)) (hKX : KX ≤ K) (hK : K < 1000000) (hm : m ≤ 10003) (hL : ∀ i, i < KX → L i ≤ 1000000)
    (hvs : ∀ i, i < KX → oC w 0 5 1 (V i) (L i) (rng (L i) (mkB L i))) (hxs : ∀ i, i < KX → oC w 0 5 1 (X i) (L i + m) (rng (L i + m) (mkB L i))) :
    Calls Tryz.prog 108 #[.pointer (some ⟨bb, 0, none⟩), xv] w fun y w' => y = .returned (.bool true) ∧ w.grownBy w' none := by
  obtain ⟨hao, hcp, hdh, _, _, _, hposh⟩ := row_shapeC hr
  subst hdh
  obtain ⟨xao, xcp, hdx, _, _, _, hposx⟩ := row_shapeC hx
  subst hdx
  have c12 : w.cell? ⟨bb, 0, none⟩ = some (.slice hao K hcp) := h.cell 0
  go_enter Tryz.func108, Tryz.ntmps108
  go_wp2
  go_loopw [5] (fun v wr => ∃ i : Nat, i ≤ KX ∧ v = .int .i64 i ∧ w.grownBy wr none) (fun v _ => KX - (intOf v).toNat)
  case atStart => exact ⟨0, by omega, rfl, gb_refl _ _⟩
  case round =>
    obtain ⟨i, hi, rfl, hg⟩ := hrel
    by_cases hiK : i < KX
    · obtain ⟨gh, rfl⟩ := hposh (by omega)
      obtain ⟨gx, rfl⟩ := hposx (by omega)
      have hV := hvs i hiK
      have hX := hxs i hiK
      have d1 : w.cell? ⟨gh, i, none⟩ = some (V i) := row_cellC hr i _ (vsL_get _ (by omega))
      have d2 : w.cell? ⟨gx, i, none⟩ = some (X i) := row_cellC hx i _ (vsL_get _ hiK)
      have hLi := hL i hiK
      obtain ⟨va, vc, hVs, _, _, _, hposv⟩ := row_shapeC hV
      obtain ⟨xa, xc, hXs, _, _, _, hposxx⟩ := row_shapeC hX
      rw [hVs] at d1 hV
      rw [hXs] at d2 hX
      have hlo : ∀ k, k < L i → mkB L i k = [.int .u8 ((i % 125 : Nat) : Int)] := fun k hk => mkB_lo hk
      have hhi : ∀ k, ¬ k < L i → mkB L i k = [.int .u8 (125 + ((i % 125 : Nat) : Int))] := fun k hk => mkB_hi hk
      generalize mkB L i = mk at *
      generalize L i = n at *
      have hib : (i : Int) < K := by omega
      have hibx : (i : Int) < KX := by omega
      have c0 := gb_cellN hg c12
      have e1 := gb_cellN hg d1
      have e2 := gb_cellN hg d2
      clear hr hx hvs hxs hposh hposx hL h
      go_wp2
      go_loopw [7] (fun v wq => ∃ k : Nat, k ≤ n + m ∧ v = .int .i64 k ∧ w.grownBy wq none) (fun v _ => n + m - (intOf v).toNat)
      case atStart => exact ⟨0, by omega, rfl, hg⟩
      case round =>
        clear c0 e1 e2 hg
        obtain ⟨k, hk, rfl, hg⟩ := hrel
        have c0 := gb_cellN hg c12
        have e1 := gb_cellN hg d1
        have e2 := gb_cellN hg d2
        by_cases hkn : k < n + m
        · obtain ⟨g2, rfl⟩ := hposxx (by omega)
          have hkb : (k : Int) < n + m := by omega
          have q0 : (i : Int).tmod 125 = ((i % 125 : Nat) : Int) := by rw [Int.tmod_eq_emod_of_nonneg (by omega)]; rfl
          have q9 : i % 125 < 125 := Nat.mod_lt _ (by omega)
          generalize i % 125 = z at *
          have q1 : IntKind.i64.wrap (z : Int) = z := by rw [IntKind.wrap_i64]; omega
          have q2 : IntKind.u8.wrap (z : Int) = z := by rw [IntKind.wrap_u8]; omega
          have q3 : IntKind.i64.wrap (125 + (z : Int)) = 125 + z := by rw [IntKind.wrap_i64]; omega
          have q4 : IntKind.u8.wrap (125 + (z : Int)) = 125 + z := by rw [IntKind.wrap_u8]; omega
          have hxk : (rng (n + m) mk)[k]? = (mk k)[0]? := rng1 (fun k => by by_cases e : k < n; exact (by rw [hlo k e]; rfl); exact (by rw [hhi k e]; rfl)) hkn
          by_cases hkl : k < n
          · obtain ⟨g1, rfl⟩ := hposv (by omega)
            have hvk : (rng n mk)[k]? = (mk k)[0]? := rng1 (fun k => by by_cases e : k < n; exact (by rw [hlo k e]; rfl); exact (by rw [hhi k e]; rfl)) hkl
            rw [hlo k hkl] at hxk hvk
            have u1 := gb_cellN hg (row_cellC hV k _ hvk)
            have u2 := gb_cellN hg (row_cellC hX k _ hxk)
            have hlb : (k : Int) < n := by omega
            have hd1 : decide ((n : Int) ≤ (k : Int)) = false := by simp; omega
            have hd2 : decide (n ≤ k) = false := by simp; omega
            have hd3 : ¬ n ≤ k := by omega
            have hd4 : decide ((k : Int) < (n : Int)) = true := by simp; omega
            have hd5 : decide (k < n) = true := by simp; omega
            have HG : Hid _ := hg
            clear hV hX hposv hposxx hxk hvk hlo hhi hg c12 d1 d2
            go_wp2
            exact ⟨⟨k + 1, by omega, by go_num, HG.out⟩, by simp [intOf]; omega⟩
          · rw [hhi k hkl] at hxk
            have u2 := gb_cellN hg (row_cellC hX k _ hxk)
            have hlb : ¬ (k : Int) < n := by omega
            have hd1 : decide ((n : Int) ≤ (k : Int)) = true := by simp; omega
            have hd2 : decide (n ≤ k) = true := by simp; omega
            have hd3 : n ≤ k := by omega
            have hd4 : decide ((k : Int) < (n : Int)) = false := by simp; omega
            have hd5 : decide (k < n) = false := by simp; omega
            have hlb2 : (n : Int) ≤ k := by omega
            have HG : Hid _ := hg
            clear hV hX hposv hposxx hxk hlo hhi hg c12 d1 d2
            go_wp2
            exact ⟨⟨k + 1, by omega, by go_num, HG.out⟩, by simp [intOf]; omega⟩
        · obtain rfl : k = n + m := by omega
          have HG : Hid _ := hg
          clear hV hX hposv hposxx hlo hhi hg c12 d1 d2
          go_wp2
          exact ⟨⟨i + 1, by omega, by go_num, HG.out⟩, by simp [intOf]; omega⟩
    · obtain rfl : i = KX := by omega
      clear hr hx hvs hxs hposh hposx hL h
      have HG : Hid _ := hg
      clear hg
      go_wp2
      go_ret
      exact ⟨rfl, HG.out⟩
set_option maxRecDepth 100000 in
set_option maxHeartbeats 16000000 in
theorem close_67C {w : World} {bb : Nat} {b0 b1 b2 b3 t0 t1 t2 t3 s0 s1 s2 wv : Value} {n : Int} {F : Nat → Prop} {K KW : Nat} {V W : Nat → Value} {L : Nat → Nat} {D : Nat → List Value} (h : Box w 31 bb (bkA b0 b1 b2 b3 t0 t1 t2 t3 s0 s1 s2 n)) (hd : KdC w F 38 5 1 b0 wv K KW V W L D) (h2 : b2 = .slice none 0 0) (h3 : b3 = .slice none 0 0) (hK : K < 1000000) :
    Calls Tryz.prog 67 #[.pointer (some ⟨bb, 0, none⟩)] w fun y w' => y = .returned (.bool true) ∧ Kp (fun k => k = bb ∨ F k) w w' ∧ ∃ ov' mv', Box w' 31 bb (bkA b0 b1 ov' mv' t0 t1 t2 t3 s0 s1 s2 n) := by
  subst h2 h3
  obtain ⟨tO, TO⟩ := ty_22
  obtain ⟨tI, TI⟩ := ty_38
  have hbl := h.lt
  have h0 := hd.cl 16 700 (mkB L) (by omega) (fun _ _ => rfl) (fun _ => .slice none 0 0) (fun _ => .slice none 0 0)
  obtain ⟨hao, hcp, hdh, _, _, _, hposh⟩ := row_shapeC hd.hr
  subst hdh
  clear hd
  have H0 : Hid (Box w 31 bb (bkA (.slice hao K hcp) b1 (.slice none 0 0) (.slice none 0 0) t0 t1 t2 t3 s0 s1 s2 n)) := h
  go_enter Tryz.func67, Tryz.ntmps67
  go_wp2
  clear h
  go_loopw [3] (fun v wr => ∃ i : Nat, i ≤ K ∧ v = .int .i64 i ∧ Kp (fun k => k = bb ∨ F k) w wr ∧ Box wr 31 bb (bkA (.slice hao K hcp) b1 (.slice none 0 0) (.slice none 0 0) t0 t1 t2 t3 s0 s1 s2 n) ∧ ∃ R, ClC wr w.heap.size F 38 5 1 16 700 (mkB L) (.slice hao K hcp) (.slice none 0 0) (.slice none 0 0) K 0 0 V (fun _ => .slice none 0 0) (fun _ => .slice none 0 0) L R ∧ ∀ j, j < i → R j = rng (L j) (mkB L j)) (fun v _ => K - (intOf v).toNat)
  case atStart => exact ⟨0, by omega, rfl, Kp.refl _ _, H0.out, _, h0, fun j hj => by omega⟩
  case round =>
    obtain ⟨i, hi, rfl, hkp, hb, R, hC, hR⟩ := hrel
    clear H0
    have c12 : wr.cell? ⟨bb, 0, none⟩ = some (.slice hao K hcp) := hb.cell 0
    by_cases hiK : i < K
    · obtain ⟨gh, rfl⟩ := hposh (by omega)
      obtain ⟨va, vc, hVs, _, _, _, hposv⟩ := row_shapeC (hC.vs i hiK)
      have d1 : wr.cell? ⟨gh, i, none⟩ = some (.slice va (L i) vc) := by rw [← hVs]; exact row_cellC hC.hr i _ (vsL_get _ hiK)
      have hib : (i : Int) < K := by omega
      have hLi := hC.hL i hiK
      have HC : Hid (ClC wr w.heap.size F 38 5 1 16 700 (mkB L) (.slice (some ⟨gh, 0, none⟩) K hcp) (.slice none 0 0) (.slice none 0 0) K 0 0 V (fun _ => .slice none 0 0) (fun _ => .slice none 0 0) L R) := hC
      have HB : Hid _ := hb
      clear hC h0 hposh hb
      go_wp2
      go_loopw [4] (fun v wq => ∃ k : Nat, k ≤ L i ∧ v = .int .i64 k ∧ Kp (fun k => k = bb ∨ F k) w wq ∧ Box wq 31 bb (bkA (.slice (some ⟨gh, 0, none⟩) K hcp) b1 (.slice none 0 0) (.slice none 0 0) t0 t1 t2 t3 s0 s1 s2 n) ∧ ∃ R2, ClC wq w.heap.size F 38 5 1 16 700 (mkB L) (.slice (some ⟨gh, 0, none⟩) K hcp) (.slice none 0 0) (.slice none 0 0) K 0 0 V (fun _ => .slice none 0 0) (fun _ => .slice none 0 0) L R2 ∧ (∀ j, j < i → R2 j = rng (L j) (mkB L j)) ∧ ∀ l, l < k → (R2 i)[l]? = some (Value.int .u8 ((i % 125 : Nat) : Int))) (fun v _ => L i - (intOf v).toNat)
      case atStart => exact ⟨0, by omega, rfl, hkp, HB.out, R, HC.out, hR, fun l hl => by omega⟩
      case round =>
        obtain ⟨k, hk, rfl, hkp2, hb, R2, hC2, hR2, hM2⟩ := hrel
        clear c12 d1 HC HB hkp hR
        have c12 : wr.cell? ⟨bb, 0, none⟩ = some (.slice (some ⟨gh, 0, none⟩) K hcp) := hb.cell 0
        have d1 : wr.cell? ⟨gh, i, none⟩ = some (.slice va (L i) vc) := by rw [← hVs]; exact row_cellC hC2.hr i _ (vsL_get _ hiK)
        have hrow := hC2.vs i hiK
        rw [hVs] at hrow
        have hlen : (R2 i).length = L i := by have := hrow.1; omega
        by_cases hkl : k < L i
        · obtain ⟨g, rfl⟩ := hposv (by omega)
          obtain ⟨cur, hcur⟩ := row_blockC hrow g rfl
          have e1 : wr.cell? ⟨g, k, none⟩ = some ((R2 i)[k]'(by omega)) := row_cellC hrow k _ (List.getElem?_eq_getElem (by omega))
          have f1 : wr.frozen? ⟨g, k, none⟩ = false := row_fzC hrow (by omega)
          have hkb : (k : Int) < L i := by omega
          have hbg : bb ≠ g := ne_of_type hb hcur (by decide)
          have hgg : gh ≠ g := by obtain ⟨c, hc⟩ := row_blockC hC2.hr gh rfl; exact ne_of_type hc hcur (by decide)
          have hpost : ∀ wx : World, wr.grownBy wx none → Kp (fun k => k = bb ∨ F k) w (wx.setCell ⟨g, k, none⟩ (Value.int .u8 ((i % 125 : Nat) : Int))) ∧ Box (wx.setCell ⟨g, k, none⟩ (Value.int .u8 ((i % 125 : Nat) : Int))) 31 bb (bkA (.slice (some ⟨gh, 0, none⟩) K hcp) b1 (.slice none 0 0) (.slice none 0 0) t0 t1 t2 t3 s0 s1 s2 n) ∧ ∃ R3, ClC (wx.setCell ⟨g, k, none⟩ (Value.int .u8 ((i % 125 : Nat) : Int))) w.heap.size F 38 5 1 16 700 (mkB L) (.slice (some ⟨gh, 0, none⟩) K hcp) (.slice none 0 0) (.slice none 0 0) K 0 0 V (fun _ => .slice none 0 0) (fun _ => .slice none 0 0) L R3 ∧ (∀ j, j < i → R3 j = rng (L j) (mkB L j)) ∧ ∀ l, l < k + 1 → (R3 i)[l]? = some (Value.int .u8 ((i % 125 : Nat) : Int)) := fun wx hx => by
            have hgs : wx.grownBy (wx.setCell ⟨g, k, none⟩ (Value.int .u8 ((i % 125 : Nat) : Int))) (some g) := gb_setCell (gb_refl _ _) _
            refine ⟨(hkp2.step hx (by simp)).step hgs (fun j hj => by have := Option.some.inj hj; subst this; exact .inl (.inr (hC2.fv i g hiK (by rw [hVs]; rfl)))), (hb.kept hx (by simp)).kept hgs (some_ne2 hbg), _, (hC2.kept0 hx).write hiK hVs hgs (row_setC (row_keptC hrow hx (by simp)) k _), fun j hj => ?_, fun l hl => ?_⟩
            · rw [upd_other _ _ (by omega)]; exact hR2 j hj
            · rw [upd_same, List.getElem?_set]
              by_cases e : k = l
              · subst e; simp [hlen, hkl]
              · rw [if_neg e]; exact hM2 l (by omega)
          generalize (R2 i)[k]'(by omega) = old at *
          have HP : Hid _ := hpost
          clear hpost hC2 hkp2 hR2 hM2 hrow hcur hlen hposv hb hVs
          generalize L i = Li at *
          have q0 : (i : Int).tmod 125 = ((i % 125 : Nat) : Int) := by rw [Int.tmod_eq_emod_of_nonneg (by omega)]; rfl
          have q9 : i % 125 < 125 := Nat.mod_lt _ (by omega)
          generalize i % 125 = z at *
          have q1 : IntKind.i64.wrap (z : Int) = z := by rw [IntKind.wrap_i64]; omega
          have q2 : IntKind.u8.wrap (z : Int) = z := by rw [IntKind.wrap_u8]; omega
          have q3 : IntKind.i64.wrap (125 + (z : Int)) = 125 + z := by rw [IntKind.wrap_i64]; omega
          have q4 : IntKind.u8.wrap (125 + (z : Int)) = 125 + z := by rw [IntKind.wrap_u8]; omega
          go_wp2
          obtain ⟨p1, pb, R3, p2, p3, p4⟩ := HP.out _ (gb_refl _ _)
          exact ⟨⟨k + 1, by omega, by go_num, p1, pb, R3, p2, p3, p4⟩, by simp [intOf]; omega⟩
        · obtain rfl : k = L i := by omega
          have hpost : Kp (fun k => k = bb ∨ F k) w wr ∧ Box wr 31 bb (bkA (.slice (some ⟨gh, 0, none⟩) K hcp) b1 (.slice none 0 0) (.slice none 0 0) t0 t1 t2 t3 s0 s1 s2 n) ∧ ∃ R3, ClC wr w.heap.size F 38 5 1 16 700 (mkB L) (.slice (some ⟨gh, 0, none⟩) K hcp) (.slice none 0 0) (.slice none 0 0) K 0 0 V (fun _ => .slice none 0 0) (fun _ => .slice none 0 0) L R3 ∧ ∀ j, j < i + 1 → R3 j = rng (L j) (mkB L j) := by
            refine ⟨hkp2, hb, R2, hC2, fun j hj => ?_⟩
            by_cases e : j = i
            · subst e
              apply List.ext_getElem?
              intro l
              by_cases hl : l < L j
              · rw [hM2 l hl, rng1 (fun _ => rfl) hl, mkB_lo hl]; rfl
              · rw [List.getElem?_eq_none (by omega), List.getElem?_eq_none (by rw [rng_len (s := 1) (fun _ => rfl)]; omega)]
            · exact hR2 j (by omega)
          have HP : Hid _ := hpost
          clear hpost hC2 hkp2 hR2 hM2 hrow hlen hposv hb
          go_wp2
          obtain ⟨p1, pb, R3, p2, p3⟩ := HP.out
          exact ⟨⟨i + 1, by omega, by go_num, p1, pb, R3, p2, p3⟩, by simp [intOf]; omega⟩
    · obtain rfl : K = i := by omega
      have h1 := hC.read hR
      have HC : Hid (ClC wr w.heap.size F 38 5 1 16 700 (mkB L) (.slice hao K hcp) (.slice none 0 0) (.slice none 0 0) K 0 0 V (fun _ => .slice none 0 0) (fun _ => .slice none 0 0) L (fun j => rng (L j) (mkB L j))) := h1
      have HK : Hid _ := hkp
      have HB : Hid _ := hb
      clear hC hR h0 h1 hkp hb
      go_wp2
      clear c12 hposh
      have hposh : 0 < K → ∃ g, hao = some ⟨g, 0, none⟩ := by
        obtain ⟨_, _, hq, _, _, _, h9⟩ := row_shapeC HC.out.hr
        injection hq with h1
        subst h1
        exact h9
      go_loopw [5] (fun v wq => ∃ i : Nat, i ≤ K ∧ v = .int .i64 i ∧ Kp (fun k => k = bb ∨ F k) w wq ∧ ∃ ov O, Box wq 31 bb (bkA (.slice hao K hcp) b1 ov (.slice none 0 0) t0 t1 t2 t3 s0 s1 s2 n) ∧ ClC wq w.heap.size F 38 5 1 16 700 (mkB L) (.slice hao K hcp) ov (.slice none 0 0) K i 0 V O (fun _ => .slice none 0 0) L (fun j => rng (L j) (mkB L j))) (fun v _ => K - (intOf v).toNat)
      case atStart => exact ⟨0, by omega, rfl, HK.out, _, _, HB.out, HC.out⟩
      case round =>
        obtain ⟨i, hi, rfl, hkp, ov, O, hb, hC⟩ := hrel
        clear HC HK HB
        have c12 : wr.cell? ⟨bb, 0, none⟩ = some (.slice hao K hcp) := hb.cell 0
        by_cases hiK : i < K
        · obtain ⟨gh, rfl⟩ := hposh (by omega)
          obtain ⟨va, vc, hVs, _, _, _, hposv⟩ := row_shapeC (hC.vs i hiK)
          have d1 : wr.cell? ⟨gh, i, none⟩ = some (.slice va (L i) vc) := by rw [← hVs]; exact row_cellC hC.hr i _ (vsL_get _ hiK)
          have hib : (i : Int) < K := by omega
          have hLi := hC.hL i hiK
          have hst : oC wr 0 5 1 (.slice va (L i) vc) (L i + 0) (rng (L i + 0) (mkB L i)) ∧ Ap w.heap.size i 0 V O (fun _ => .slice none 0 0) i (.slice va (L i) vc) := by rw [← hVs]; exact ⟨hC.vs i hiK, fun g hg => .inl hg⟩
          have HC : Hid _ := hC
          have HS : Hid _ := hst
          have HK : Hid _ := hkp
          have HB : Hid _ := hb
          clear hC hposh hst hkp hb
          go_wp2
          go_loopw [6, 7] (fun lv v wq => ∃ k : Nat, k ≤ 16 ∧ v = .int .i64 k ∧ Kp (fun k => k = bb ∨ F k) w wq ∧ Box wq 31 bb (bkA (.slice (some ⟨gh, 0, none⟩) K hcp) b1 ov (.slice none 0 0) t0 t1 t2 t3 s0 s1 s2 n) ∧ ClC wq w.heap.size F 38 5 1 16 700 (mkB L) (.slice (some ⟨gh, 0, none⟩) K hcp) ov (.slice none 0 0) K i 0 V O (fun _ => .slice none 0 0) L (fun j => rng (L j) (mkB L j)) ∧ oC wq 0 5 1 lv (L i + k) (rng (L i + k) (mkB L i)) ∧ Ap w.heap.size i 0 V O (fun _ => .slice none 0 0) i lv) (fun _ v _ => 16 - (intOf v).toNat)
          case atStart => exact ⟨0, by omega, rfl, HK.out, HB.out, HC.out, HS.out.1, HS.out.2⟩
          case round =>
            obtain ⟨k, hk, rfl, hkp, hb, hC, hl, hap⟩ := hrel
            clear HC HK HS HB c12 d1
            obtain ⟨lao, lcp, hld, _, _, _, _⟩ := row_shapeC hl
            subst hld
            by_cases hk16 : k < 16
            · have hkb : (k : Int) < 16 := by omega
              have hmore : rng (L i + k) (mkB L i) ++ [(Value.int .u8 (125 + ((i % 125 : Nat) : Int)))] = rng (L i + k + 1) (mkB L i) := by rw [rng_succ, mkB_hi (by omega)]
              have HM : Hid _ := hmore
              have HC : Hid _ := hC
              have HA : Hid _ := hap
              have HK : Hid _ := hkp
              have HB : Hid _ := hb
              have HL : Hid _ := hl
              clear hC hap hkp hb hmore
              have q0 : (i : Int).tmod 125 = ((i % 125 : Nat) : Int) := by rw [Int.tmod_eq_emod_of_nonneg (by omega)]; rfl
              have q9 : i % 125 < 125 := Nat.mod_lt _ (by omega)
              generalize i % 125 = z at *
              have q1 : IntKind.i64.wrap (z : Int) = z := by rw [IntKind.wrap_i64]; omega
              have q2 : IntKind.u8.wrap (z : Int) = z := by rw [IntKind.wrap_u8]; omega
              have q3 : IntKind.i64.wrap (125 + (z : Int)) = 125 + z := by rw [IntKind.wrap_i64]; omega
              have q4 : IntKind.u8.wrap (125 + (z : Int)) = 125 + z := by rw [IntKind.wrap_u8]; omega
              go_wp2_with (at_builtin; go_must (refine pushGC TI rfl _ _ rfl _ (L i + k) _ (by rfl) hl [.int .u8 (125 + (z : Int))] rfl (by simp [Value.oneCell']) (by rfl) (by omega) ?_))
              intro v' w' hown hpsh
              have hg4 : wr.grownBy wr none := gb_refl _ _
              obtain ⟨w4, hw4⟩ : ∃ w4, w4 = wr := ⟨wr, rfl⟩
              rw [← hw4] at hpsh
              have hg4 : wr.grownBy w4 none := by rw [hw4]; exact gb_refl _ _
              rw [HM.out] at hown
              obtain ⟨p1, p2, row, p3, p4⟩ := (HC.out.kept0 hg4).push hiK (row_keptC HL.out hg4 (by simp)) HA.out hpsh hown (fun h => by omega) (Nat.zero_le _)
              have p5 := (HK.out.step hg4 (by simp)).step p3 (fun g hg => (p4 g hg).imp (fun h => .inr h) id)
              have p6 := Psh.boxC hpsh (row_keptC HL.out hg4 (by simp)) (Box.kept (t := 31) HB.out hg4 (by simp)) (by decide)
              have HP : Hid _ := And.intro p5 (And.intro p6 (And.intro p1 (And.intro hown p2)))
              clear p1 p2 p3 p4 p5 p6 hown hpsh hl HC HA HK HB HL HM hg4
              go_wp2
              obtain ⟨p1, p6, p2, p3, p4⟩ := HP.out
              exact ⟨⟨k + 1, by omega, by go_num, p1, p6, p2, p3, p4⟩, by simp [intOf]; omega⟩
            · obtain rfl : k = 16 := by omega
              obtain ⟨oao, ocp, hod, _, _, _, _⟩ := row_shapeC hC.orow
              subst hod
              have c14 : wr.cell? ⟨bb, 2, none⟩ = some (.slice oao i ocp) := hb.cell 2
              have horow := hC.orow
              have hB := hC.hB
              have ho0 : ∀ g, (Value.slice oao i ocp).ownBlock = some g → w.heap.size ≤ g := fun g e => (row_geC horow e).1
              have HC : Hid _ := hC
              have HA : Hid _ := hap
              have HK : Hid _ := hkp
              have HL : Hid _ := hl
              have HB : Hid _ := hb
              clear hC hap hkp hl hb
              go_wp2_with (at_builtin; go_must (refine pushBC TO rfl _ _ rfl w.heap.size _ i _ (by rfl) horow [.slice lao (L i + 16) lcp] rfl (by simp [Value.oneCell']) (by rfl) (by omega) hB ?_))
              intro g2 cap2 w2 hrow2 hgb2 hat2
              have b2' := Box.kept (t := 31) HB.out hgb2 (fun e => by have := ho0 _ e.symm; omega)
              have k14 : w2.cell? ⟨bb, 2, none⟩ = some (.slice oao i ocp) := b2'.cell 2
              have f14 := b2'.fz 2
              obtain ⟨p1, p2⟩ := HC.out.one hiK HL.out HA.out hrow2 hgb2 (fun g hg => by simp [Value.ownBlock] at hg; subst hg; exact hat2)
              have hgs : w2.grownBy (w2.setCell ⟨bb, 2, none⟩ (.slice (some ⟨g2, 0, none⟩) (i + 1) cap2)) (some bb) := gb_setCell (gb_refl _ _) _
              have HP : Hid _ := And.intro ((HK.out.trans p2 (H := fun k => k = bb ∨ F k) (fun _ h => h) (fun j hj => .inr hj)).step hgs (fun j hj => .inl (.inl (Option.some.inj hj).symm))) (And.intro (b2'.set 2 (.slice (some ⟨g2, 0, none⟩) (i + 1) cap2)) (p1.far b2' (by decide) (by decide) hgs))
              clear p1 p2 hrow2 hgb2 hat2 b2' HC HA HK HL HB horow ho0 hgs
              go_wp2
              obtain ⟨p1, p2, p3⟩ := HP.out
              exact ⟨⟨i + 1, by omega, by go_num, p1, _, _, p2, p3⟩, by simp [intOf]; omega⟩
        · obtain rfl : K = i := by omega
          have HC : Hid _ := hC
          have HK : Hid _ := hkp
          have HB : Hid _ := hb
          obtain ⟨oao, ocp, hod, _, _, _, _⟩ := row_shapeC hC.orow
          subst hod
          have c14 : wr.cell? ⟨bb, 2, none⟩ = some (.slice oao K ocp) := hb.cell 2
          have h71 := look_108C hb hC.hr (row_baseC hC.orow (Nat.zero_le _)) (Nat.le_refl _) hK (m := 16) (by omega) hC.hL hC.vs hC.os
          clear hC hkp hb
          go_wp2_with (first | (go_at_call 108; go_must (refine h71.mono ?_); rintro y w7 ⟨rfl, hg7⟩) | fail)
          clear c14 h71 c12
          have HC2 : Hid _ := HC.out.kept0 hg7
          have HK2 : Hid _ := HK.out.step hg7 (by simp)
          have HB2 : Hid _ := Box.kept (t := 31) HB.out hg7 (by simp)
          clear HC HK HB hg7
          go_loopw [8] (fun v wq => ∃ i : Nat, i ≤ K ∧ v = .int .i64 i ∧ Kp (fun k => k = bb ∨ F k) w wq ∧ ∃ mv M, Box wq 31 bb (bkA (.slice hao K hcp) b1 (.slice oao K ocp) mv t0 t1 t2 t3 s0 s1 s2 n) ∧ ClC wq w.heap.size F 38 5 1 16 700 (mkB L) (.slice hao K hcp) (.slice oao K ocp) mv K K i V O M L (fun j => rng (L j) (mkB L j))) (fun v _ => K - (intOf v).toNat)
          case atStart => exact ⟨0, by omega, rfl, HK2.out, _, _, HB2.out, HC2.out⟩
          case round =>
            obtain ⟨i, hi, rfl, hkp, mv, M, hb, hC⟩ := hrel
            clear HC2 HK2 HB2
            have c12 : wr.cell? ⟨bb, 0, none⟩ = some (.slice hao K hcp) := hb.cell 0
            by_cases hiK : i < K
            · obtain ⟨gh, rfl⟩ := hposh (by omega)
              have hib : (i : Int) < K := by omega
              have hLi := hC.hL i hiK
              have HC : Hid _ := hC
              have HK : Hid _ := hkp
              have HB : Hid _ := hb
              clear hC hposh hkp hb
              go_wp2
              have HW : Hid (∃ W0, W0 = wr) := ⟨wr, rfl⟩
              obtain ⟨W0, hW0⟩ := HW.out
              have HC0 : Hid (ClC W0 w.heap.size F 38 5 1 16 700 (mkB L) (.slice (some ⟨gh, 0, none⟩) K hcp) (.slice oao K ocp) mv K K i V O M L (fun j => rng (L j) (mkB L j))) := by rw [hW0]; exact HC.out
              have HK0 : Hid (Kp (fun k => k = bb ∨ F k) w W0) := by rw [hW0]; exact HK.out
              have HB0 : Hid (Box W0 31 bb (bkA (.slice (some ⟨gh, 0, none⟩) K hcp) b1 (.slice oao K ocp) mv t0 t1 t2 t3 s0 s1 s2 n)) := by rw [hW0]; exact HB.out
              have HG0 : Hid (W0.grownBy wr none) := by rw [hW0]; exact gb_refl _ _
              clear HW hW0 HC HK HB
              go_loopw [9, 10] (fun rv v wq => ∃ k : Nat, k ≤ 700 ∧ v = .int .i64 k ∧ oC wq W0.heap.size 5 1 rv k (List.replicate k (Value.int .u8 (125 + ((i % 125 : Nat) : Int)))) ∧ W0.grownBy wq none) (fun _ v _ => 700 - (intOf v).toNat)
              case atStart => exact ⟨0, by omega, rfl, ⟨rfl, .inl ⟨rfl, rfl⟩⟩, HG0.out⟩
              case round =>
                obtain ⟨k, hk, rfl, hrow, hg⟩ := hrel
                obtain ⟨ao2, cp2, hdv2, _, _, _, hpos2⟩ := row_shapeC hrow
                subst hdv2
                clear c12 HG0
                by_cases hk7 : k < 700
                · have hkb : (k : Int) < 700 := by omega
                  have hsz0 := hg.size
                  have HS : Hid (List.replicate k (Value.int .u8 (125 + ((i % 125 : Nat) : Int))) ++ [(Value.int .u8 (125 + ((i % 125 : Nat) : Int)))] = List.replicate (k + 1) (Value.int .u8 (125 + ((i % 125 : Nat) : Int)))) := by rw [List.replicate_succ']; rfl
                  clear HC0 HK0 HB0 hpos2
                  have q0 : (i : Int).tmod 125 = ((i % 125 : Nat) : Int) := by rw [Int.tmod_eq_emod_of_nonneg (by omega)]; rfl
                  have q9 : i % 125 < 125 := Nat.mod_lt _ (by omega)
                  generalize i % 125 = z at *
                  have q1 : IntKind.i64.wrap (z : Int) = z := by rw [IntKind.wrap_i64]; omega
                  have q2 : IntKind.u8.wrap (z : Int) = z := by rw [IntKind.wrap_u8]; omega
                  have q3 : IntKind.i64.wrap (125 + (z : Int)) = 125 + z := by rw [IntKind.wrap_i64]; omega
                  have q4 : IntKind.u8.wrap (125 + (z : Int)) = 125 + z := by rw [IntKind.wrap_u8]; omega
                  go_wp2_with (at_builtin; go_must (refine pushBC TI rfl _ _ rfl W0.heap.size _ k _ (by rfl) hrow [.int .u8 (125 + (z : Int))] rfl (by simp [Value.oneCell']) (by rfl) (by omega) hsz0 ?_))
                  intro g4 cap4 w4 hrow4 hgb4 hat4
                  have hg4 : W0.grownBy w4 none := gb_of_kp hg ((Kp.refl (fun j => (Value.slice ao2 k cp2).ownBlock = some j) wr).step hgb4 (fun j hj => .inl hj)) (fun j hj => (row_geC hrow hj).1)
                  rw [HS.out] at hrow4
                  clear hgb4 hat4 hrow HS
                  go_wp2
                  exact ⟨⟨k + 1, by omega, by go_num, hrow4, hg4⟩, by simp [intOf]; omega⟩
                · obtain rfl : k = 700 := by omega
                  obtain ⟨gm, rfl⟩ := hpos2 (by omega)
                  have hC := HC0.out.kept0 hg
                  have hkp := HK0.out.step hg (by simp)
                  have hb := HB0.out.kept hg (by simp)
                  clear HC0 HK0 HB0 hpos2 hg
                  obtain ⟨va, vc, hVs, _, _, _, hposv⟩ := row_shapeC (hC.vs i hiK)
                  obtain ⟨mao, mcp, hmd, _, _, _, _⟩ := row_shapeC hC.mrow
                  subst hmd
                  have c12 : wr.cell? ⟨bb, 0, none⟩ = some (.slice (some ⟨gh, 0, none⟩) K hcp) := hb.cell 0
                  have c15 : wr.cell? ⟨bb, 3, none⟩ = some (.slice mao i mcp) := hb.cell 3
                  have d1 : wr.cell? ⟨gh, i, none⟩ = some (.slice va (L i) vc) := by rw [← hVs]; exact row_cellC hC.hr i _ (vsL_get _ hiK)
                  have hVr : oC wr 0 5 1 (.slice va (L i) vc) (L i + 0) (rng (L i + 0) (mkB L i)) := by rw [← hVs]; exact hC.vs i hiK
                  have hVa : Ap w.heap.size K i V O M i (.slice va (L i) vc) := by rw [← hVs]; exact fun g hg => .inl hg
                  have hm0 : ∀ g, (Value.slice mao i mcp).ownBlock = some g → w.heap.size ≤ g := fun g e => (row_geC hC.mrow e).1
                  have HMR : Hid (rng (L i) (mkB L i) ++ List.replicate 700 (Value.int .u8 (125 + ((i % 125 : Nat) : Int))) = rng (L i + 0 + 700) (mkB L i)) := by
                    show _ = _
                    rw [Nat.add_zero]
                    exact rng_rep (fun k hk => mkB_hi (by omega)) 700
                  have HC : Hid (ClC wr w.heap.size F 38 5 1 16 700 (mkB L) (.slice (some ⟨gh, 0, none⟩) K hcp) (.slice oao K ocp) (.slice mao i mcp) K K i V O M L (fun j => rng (L j) (mkB L j))) := hC
                  have HK : Hid (Kp (fun k => k = bb ∨ F k) w wr) := hkp
                  have HB : Hid _ := hb
                  have HV : Hid (oC wr 0 5 1 (.slice va (L i) vc) (L i + 0) (rng (L i + 0) (mkB L i))) := hVr
                  have HA : Hid (Ap w.heap.size K i V O M i (.slice va (L i) vc)) := hVa
                  have HM : Hid (oC wr W0.heap.size 5 1 (.slice (some ⟨gm, 0, none⟩) 700 cp2) 700 (List.replicate 700 (Value.int .u8 (125 + ((i % 125 : Nat) : Int))))) := hrow
                  have H0 : Hid (∀ g, (Value.slice mao i mcp).ownBlock = some g → w.heap.size ≤ g) := hm0
                  have hB := hC.hB
                  have hone : ∀ u ∈ List.replicate 700 (Value.int .u8 (125 + ((i % 125 : Nat) : Int))), u.oneCell' = true := fun u hu => by rw [List.eq_of_mem_replicate hu]; rfl
                  clear hC hkp hVr hVa hrow hposv hm0 hb
                  go_wp2
                  go_region_law ((first | (refine step_moreC TI (by rfl) (.tmp 119) (.tmp 120) (by rfl) (.slice va (L i) vc) (L i) (rng (L i) (mkB L i)) (by rfl) (show oC _ 0 5 1 _ _ _ from HV.out) ⟨gm, 0, none⟩ 700 cp2 (List.replicate 700 (Value.int .u8 (125 + ((i % 125 : Nat) : Int)))) (by rfl) (by simp) (fun j u hj => by rw [Addr.add_mid, Nat.zero_add]; exact row_cellC (show oC _ W0.heap.size 5 1 _ _ _ from HM.out) j u hj) hone (by omega) (by omega) ?_; intro gC cC w5 hown5 hpsh5; have hpsh : Psh wr w5 (.slice va (L i) vc) (L i + 0) 700 (.slice (some ⟨gC, 0, none⟩) (L i + 700) cC) := psh_trans (fun r => (by first | exact gb_refl _ _ | exact gb_drew (gb_refl _ _) | exact gb_drewN (gb_refl _ _) _)) hpsh5; rw [HMR.out] at hown5; obtain ⟨p1, p2, row, p3, p4⟩ := HC.out.push hiK HV.out HA.out hpsh hown5 (fun _ => by omega) (Nat.le_refl _); have b5 := Psh.boxC (t := 31) hpsh HV.out HB.out (by decide); have m15 : w5.cell? ⟨bb, 3, none⟩ = some (.slice mao i mcp) := b5.cell 3; have m15a := (fun o => gb_cellN (World.grownBy_alloc w5 o none) m15); have hmr5 := p1.mrow; have hB5 := p1.hB) | (refine step_pushC TO (w5 := w5) (by rfl) (.tmp 112) (.tmp 122) (by rfl) w.heap.size (.slice mao i mcp) i _ (by rfl) [.slice (some ⟨gC, 0, none⟩) (L i + 700) cC] rfl (by simp [Value.oneCell']) (by rfl) hmr5 (by rfl) (by omega) hB5 ?_; intro g7 c7 w7 hown7 hg7 hat7; have b7 := b5.kept hg7 (fun e => (by have := H0.out _ e.symm; omega)); have m7 : w7.cell? ⟨bb, 3, none⟩ = some (.slice mao i mcp) := b7.cell 3; have f7 : w7.frozen? ⟨bb, 3, none⟩ = false := b7.fz 3)))
                  all_goals
                    obtain ⟨r1, r2⟩ := p1.many hiK hown5 p2 hown7 hg7 (fun g hg => by simp [Value.ownBlock] at hg; subst hg; exact hat7)
                    have hgs : w7.grownBy (w7.setCell ⟨bb, 3, none⟩ (.slice (some ⟨g7, 0, none⟩) (i + 1) c7)) (some bb) := gb_setCell (gb_refl _ _) _
                    have HP : Hid _ := And.intro (((HK.out.step p3 (fun g hg => (p4 g hg).imp (fun h => .inr h) id)).trans r2 (H := fun k => k = bb ∨ F k) (fun _ h => h) (fun j hj => .inr hj)).step hgs (fun j hj => .inl (.inl (Option.some.inj hj).symm))) (And.intro (b7.set 3 (.slice (some ⟨g7, 0, none⟩) (i + 1) c7)) (r1.far b7 (by decide) (by decide) hgs))
                    clear r1 r2 p1 p2 p3 p4 hown5 hpsh5 hpsh hown7 hat7 hg7 b7 b5 hgs HC HK HV HA HM H0 HB HMR m15 m15a hmr5 hone
                    go_wp2
                    obtain ⟨p1, p2, p3⟩ := HP.out
                    exact ⟨⟨i + 1, by omega, by go_num, p1, _, _, p2, p3⟩, by simp [intOf]; omega⟩
            · obtain rfl : K = i := by omega
              obtain ⟨mao, mcp, hmd, _, _, _, _⟩ := row_shapeC hC.mrow
              subst hmd
              have c14 : wr.cell? ⟨bb, 2, none⟩ = some (.slice oao K ocp) := hb.cell 2
              have c15 : wr.cell? ⟨bb, 3, none⟩ = some (.slice mao K mcp) := hb.cell 3
              have h72 := look_108C hb hC.hr (row_baseC hC.mrow (Nat.zero_le _)) (Nat.le_refl _) hK (m := 700) (by omega) hC.hL hC.vs hC.ms
              have HP : Hid _ := And.intro hkp (And.intro hb hC)
              clear hC hkp hb
              go_wp2_with (go_at_call 108; go_must (refine h72.mono ?_))
              rintro y w9 ⟨rfl, hg9⟩
              have hb9 := Box.kept (t := 31) HP.out.2.1 hg9 (by simp)
              have hC9 := HP.out.2.2.kept0 hg9
              have hkp9 := HP.out.1.step hg9 (by simp)
              have c14 : w9.cell? ⟨bb, 2, none⟩ = some (.slice oao K ocp) := hb9.cell 2
              have h71 := look_108C hb9 hC9.hr (row_baseC hC9.orow (Nat.zero_le _)) (Nat.le_refl _) hK (m := 16) (by omega) hC9.hL hC9.vs hC9.os
              have HQ : Hid _ := And.intro hkp9 hb9
              clear h72 hb9 hC9 hkp9 HP hg9
              go_wp2_with (go_at_call 108; go_must (refine h71.mono ?_))
              rintro y w8 ⟨rfl, hg8⟩
              clear h71
              go_wp2
              go_ret
              exact ⟨rfl, HQ.out.1.step hg8 (by simp), _, _, Box.kept (t := 31) HQ.out.2 hg8 (by simp)⟩
end Go.Proofs.YtobegepebochkaaGreatDoor
