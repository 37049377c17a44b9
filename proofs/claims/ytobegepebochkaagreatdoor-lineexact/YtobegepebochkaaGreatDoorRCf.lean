import Derived.Test.YtobegepebochkaaGreatDoorRPbr
set_option linter.unusedVariables false
set_option linter.unusedSimpArgs false
set_option maxRecDepth 100000
set_option maxHeartbeats 16000000
namespace Go.Proofs.YtobegepebochkaaGreatDoor
open Go.RowKit
theorem rng16_ext {f : Nat -> List Value} (h : ∀ i, (f i).length = 16) {n : Nat} {R : List Value} (hl : R.length = n * 16) (hR : ∀ l j, l < n -> j < 16 -> R[l * 16 + j]? = (f l)[j]?) : R = rng n f := by
  apply List.ext_getElem?
  intro q
  by_cases hq : q < n * 16
  . have e : q = q / 16 * 16 + q % 16 := by omega
    rw [e, hR _ _ (by omega) (by omega), rng_get h (by omega) (by omega)]
  . rw [List.getElem?_eq_none (by omega), List.getElem?_eq_none (by rw [rng_len h]; omega)]
theorem rng_rep2 {f : Nat -> List Value} {v : List Value} {n : Nat} (h : ∀ k, n <= k -> f k = v) : ∀ m, rng n f ++ rng m (fun _ => v) = rng (n + m) f
  | 0 => by simp [rng]
  | m + 1 => by rw [rng_succ, <- List.append_assoc, rng_rep2 h m, <- Nat.add_assoc, rng_succ, h (n + m) (by omega)]
theorem rng_mem {f : Nat -> List Value} {n : Nat} {u : Value} (h : u ∈ rng n f) : ∃ k, u ∈ f k := by
  unfold rng at h
  rw [List.mem_flatMap] at h
  obtain ⟨k, _, hk⟩ := h
  exact ⟨k, hk⟩
theorem stM_one (v : Int) : ∀ u ∈ stM v, u.oneCell' = true := by
  intro u hu
  simp only [stM, List.mem_cons, List.not_mem_nil, or_false] at hu
  rcases hu with rfl | rfl | rfl | rfl | rfl | rfl | rfl | rfl | rfl | rfl | rfl | rfl | rfl | rfl | rfl | rfl <;> rfl
theorem storeR {w : World} {ops : Array Oper} {rest : List Oper} {op : Oper} {a : Act} {Q : Exit -> Act -> World -> Prop} {g n c k : Nat} {xs : List Value} (hgd : op.guard = none) (x y : Operand) (ho : op.op = .store 86 x y) (hr : w.ownsRow 0 86 16 (.slice (some ⟨g, 0, none⟩) n c) n xs) (hk : k < n) (hx : a.eval x = .pointer (some ⟨g, k * 16, none⟩)) (vs : List Value) (hy : a.eval y = .agg vs.toArray) (hl : vs.length = 16) (h1 : vs.toArray.all (·.oneCell') = true)
    (h : ∀ W, W.ownsRow 0 86 16 (.slice (some ⟨g, 0, none⟩) n c) n (setL xs (k * 16) vs) -> w.grownBy W (some g) -> wpList Tryz.prog ops Q rest (a.put op.dst undef) W) : wpList Tryz.prog ops Q (op :: rest) a w := by
  rcases hr.2 with ⟨q, _⟩ | ⟨g1, c1, cur1, q1, _, r1, hnc, _, s1, _⟩
  . cases q
  . injection q1 with q1 _ q2
    injection q1 with q1
    injection q1 with q1 _ _
    subst q1 q2
    have hb : Box w 86 g cur1 := r1
    refine wpList_store_mid hgd 86 x y ho g (k * 16) vs.toArray hx hy (by rw [List.size_toArray, hl]; exact hb.there (k * 16) 16 (by have : (k + 1) * 16 <= c * 16 := Nat.mul_le_mul_right 16 (by omega); omega)) (by rw [List.size_toArray, hl]; exact size86) h1 ?_
    rw [List.toList_toArray]
    exact h _ (row_setCells vs (k * 16) hr) (gb_setCells _ _ (gb_refl _ _))
theorem close_73s {w : World} {bb : Nat} {b0 b1 b2 b3 t0 t1 t2 t3 s0 s1 s2 wv : Value} {n : Int} {F : Nat -> Prop} {K KW : Nat} {V W : Nat -> Value} {L : Nat -> Nat} {D : Nat -> List Value} (h : Box w 31 bb (bkA b0 b1 b2 b3 t0 t1 t2 t3 s0 s1 s2 n)) (hd : Kd w F 57 86 16 s0 wv K KW V W L D) (h2 : s1 = .slice none 0 0) (h3 : s2 = .slice none 0 0) (hK : K < 1000000) :
    Calls Tryz.prog 73 #[.pointer (some ⟨bb, 0, none⟩)] w fun y w' => y = .returned (.bool true) /\ Kp (fun k => k = bb \/ F k) w w' /\ ∃ ov' mv', Box w' 31 bb (bkA b0 b1 b2 b3 t0 t1 t2 t3 s0 ov' mv' n) := by
  subst h2 h3
  obtain ⟨tO, TO⟩ := ty_29
  obtain ⟨tI, TI⟩ := ty_57
  have hbl := h.lt
  have h0 := hd.cl 16 700 (mkS L) (by omega) (mkS_len L) (fun _ => .slice none 0 0) (fun _ => .slice none 0 0)
  obtain ⟨hao, hcp, hdh, _, _, _, hposh⟩ := row_shape hd.hr
  subst hdh
  clear hd
  have H0 : Hid (Box w 31 bb (bkA b0 b1 b2 b3 t0 t1 t2 t3 (.slice hao K hcp) (.slice none 0 0) (.slice none 0 0) n)) := h
  go_enter Tryz.func73, Tryz.ntmps73
  go_wp2
  clear h
  go_loopw [3] (fun v wr => ∃ i : Nat, i <= K /\ v = .int .i64 i /\ Kp (fun k => k = bb \/ F k) w wr /\ Box wr 31 bb (bkA b0 b1 b2 b3 t0 t1 t2 t3 (.slice hao K hcp) (.slice none 0 0) (.slice none 0 0) n) /\ ∃ R, Cl wr w.heap.size F 57 86 16 16 700 (mkS L) (.slice hao K hcp) (.slice none 0 0) (.slice none 0 0) K 0 0 V (fun _ => .slice none 0 0) (fun _ => .slice none 0 0) L R /\ ∀ j, j < i -> R j = rng (L j) (mkS L j)) (fun v _ => K - (intOf v).toNat)
  case atStart => exact ⟨0, by omega, rfl, Kp.refl _ _, H0.out, _, h0, fun j hj => by omega⟩
  case round =>
    obtain ⟨i, hi, rfl, hkp, hb, R, hC, hR⟩ := hrel
    clear H0
    have c12 : wr.cell? ⟨bb, 22, none⟩ = some (.slice hao K hcp) := hb.cell 22
    by_cases hiK : i < K
    . obtain ⟨gh, rfl⟩ := hposh (by omega)
      obtain ⟨va, vc, hVs, _, _, _, hposv⟩ := row_shape (hC.vs i hiK)
      have d1 : wr.cell? ⟨gh, i, none⟩ = some (.slice va (L i) vc) := by rw [<- hVs]; exact row_cell hC.hr i _ (vsL_get _ hiK)
      have hib : (i : Int) < K := by omega
      have hLi := hC.hL i hiK
      have HC : Hid (Cl wr w.heap.size F 57 86 16 16 700 (mkS L) (.slice (some ⟨gh, 0, none⟩) K hcp) (.slice none 0 0) (.slice none 0 0) K 0 0 V (fun _ => .slice none 0 0) (fun _ => .slice none 0 0) L R) := hC
      have HB : Hid _ := hb
      clear hC h0 hposh hb
      go_wp2
      go_loopw [4] (fun v wq => ∃ k : Nat, k <= L i /\ v = .int .i64 k /\ Kp (fun k => k = bb \/ F k) w wq /\ Box wq 31 bb (bkA b0 b1 b2 b3 t0 t1 t2 t3 (.slice (some ⟨gh, 0, none⟩) K hcp) (.slice none 0 0) (.slice none 0 0) n) /\ ∃ R2, Cl wq w.heap.size F 57 86 16 16 700 (mkS L) (.slice (some ⟨gh, 0, none⟩) K hcp) (.slice none 0 0) (.slice none 0 0) K 0 0 V (fun _ => .slice none 0 0) (fun _ => .slice none 0 0) L R2 /\ (∀ j, j < i -> R2 j = rng (L j) (mkS L j)) /\ ∀ l j, l < k -> j < 16 -> (R2 i)[l * 16 + j]? = (mkS L i l)[j]?) (fun v _ => L i - (intOf v).toNat)
      case atStart => exact ⟨0, by omega, rfl, hkp, HB.out, R, HC.out, hR, fun l j hl => by omega⟩
      case round =>
        obtain ⟨k, hk, rfl, hkp2, hb, R2, hC2, hR2, hM2⟩ := hrel
        clear c12 d1 HC HB hkp hR
        have c12 : wr.cell? ⟨bb, 22, none⟩ = some (.slice (some ⟨gh, 0, none⟩) K hcp) := hb.cell 22
        have d1 : wr.cell? ⟨gh, i, none⟩ = some (.slice va (L i) vc) := by rw [<- hVs]; exact row_cell hC2.hr i _ (vsL_get _ hiK)
        have hrow := hC2.vs i hiK
        rw [hVs] at hrow
        have hlen : (R2 i).length = L i * 16 := hrow.1
        by_cases hkl : k < L i
        . obtain ⟨g, rfl⟩ := hposv (by omega)
          obtain ⟨cur, hcur⟩ := row_block hrow g rfl
          have hkb : (k : Int) < L i := by omega
          have hbg : bb ≠ g := ne_of_type hb hcur (by decide)
          have hpost : ∀ wx : World, wr.grownBy wx (some g) -> wx.ownsRow 0 86 16 (.slice (some ⟨g, 0, none⟩) (L i) vc) (L i) (setL (R2 i) (k * 16) (stM (-1000 - (i : Int)))) -> Kp (fun k => k = bb \/ F k) w wx /\ Box wx 31 bb (bkA b0 b1 b2 b3 t0 t1 t2 t3 (.slice (some ⟨gh, 0, none⟩) K hcp) (.slice none 0 0) (.slice none 0 0) n) /\ ∃ R3, Cl wx w.heap.size F 57 86 16 16 700 (mkS L) (.slice (some ⟨gh, 0, none⟩) K hcp) (.slice none 0 0) (.slice none 0 0) K 0 0 V (fun _ => .slice none 0 0) (fun _ => .slice none 0 0) L R3 /\ (∀ j, j < i -> R3 j = rng (L j) (mkS L j)) /\ ∀ l j, l < k + 1 -> j < 16 -> (R3 i)[l * 16 + j]? = (mkS L i l)[j]? := fun wx hx hr => by
            refine ⟨hkp2.step hx (fun j hj => by have := Option.some.inj hj; subst this; exact .inl (.inr (hC2.fv i g hiK (by rw [hVs]; rfl)))), hb.kept hx (some_ne2 hbg), _, hC2.write hiK hVs hx hr, fun j hj => ?_, fun l j hl hj => ?_⟩
            . rw [upd_other _ _ (by omega)]; exact hR2 j hj
            . rw [upd_same, setL_get _ _ _ _ (by rw [hlen, stM_len]; omega), stM_len]
              by_cases e : l = k
              . subst e
                rw [if_pos (by omega), show l * 16 + j - l * 16 = j by omega, mkS_lo hkl]
              . rw [if_neg (by omega)]; exact hM2 l j (by omega) hj
          have q1 : IntKind.i64.wrap (-1000 - (i : Int)) = -1000 - i := by rw [IntKind.wrap_i64]; omega
          have HP : Hid _ := hpost
          have HR : Hid _ := hrow
          have HKL : Hid _ := hkl
          clear hpost hC2 hkp2 hR2 hM2 hrow hcur hlen hposv hb hVs
          generalize R2 i = Ri at *
          generalize L i = Li at *
          go_wp2_with (refine atS 86 g (k * 16) rfl rfl ?_; go_must (refine storeR rfl _ _ rfl HR.out HKL.out rfl (stM (-1000 - (i : Int))) rfl rfl (by simp [stM, Value.oneCell']) ?_); intro wx hr9 hg9)
          obtain ⟨p1, pb, R3, p2, p3, p4⟩ := HP.out _ hg9 hr9
          exact ⟨⟨k + 1, by omega, by go_num, p1, pb, R3, p2, p3, p4⟩, by simp [intOf]; omega⟩
        . obtain rfl : k = L i := by omega
          have hpost : Kp (fun k => k = bb \/ F k) w wr /\ Box wr 31 bb (bkA b0 b1 b2 b3 t0 t1 t2 t3 (.slice (some ⟨gh, 0, none⟩) K hcp) (.slice none 0 0) (.slice none 0 0) n) /\ ∃ R3, Cl wr w.heap.size F 57 86 16 16 700 (mkS L) (.slice (some ⟨gh, 0, none⟩) K hcp) (.slice none 0 0) (.slice none 0 0) K 0 0 V (fun _ => .slice none 0 0) (fun _ => .slice none 0 0) L R3 /\ ∀ j, j < i + 1 -> R3 j = rng (L j) (mkS L j) := by
            refine ⟨hkp2, hb, R2, hC2, fun j hj => ?_⟩
            by_cases e : j = i
            . subst e
              exact rng16_ext (mkS_len L j) hlen (fun l q hl hq => hM2 l q hl hq)
            . exact hR2 j (by omega)
          have HP : Hid _ := hpost
          clear hpost hC2 hkp2 hR2 hM2 hrow hlen hposv hb
          go_wp2
          obtain ⟨p1, pb, R3, p2, p3⟩ := HP.out
          exact ⟨⟨i + 1, by omega, by go_num, p1, pb, R3, p2, p3⟩, by simp [intOf]; omega⟩
    . obtain rfl : K = i := by omega
      have h1 := hC.read hR
      have HC : Hid (Cl wr w.heap.size F 57 86 16 16 700 (mkS L) (.slice hao K hcp) (.slice none 0 0) (.slice none 0 0) K 0 0 V (fun _ => .slice none 0 0) (fun _ => .slice none 0 0) L (fun j => rng (L j) (mkS L j))) := h1
      have HK : Hid _ := hkp
      have HB : Hid _ := hb
      clear hC hR h0 h1 hkp hb
      go_wp2
      clear c12 hposh
      have hposh : 0 < K -> ∃ g, hao = some ⟨g, 0, none⟩ := by
        obtain ⟨_, _, hq, _, _, _, h9⟩ := row_shape HC.out.hr
        injection hq with h1
        subst h1
        exact h9
      go_loopw [5] (fun v wq => ∃ i : Nat, i <= K /\ v = .int .i64 i /\ Kp (fun k => k = bb \/ F k) w wq /\ ∃ ov O, Box wq 31 bb (bkA b0 b1 b2 b3 t0 t1 t2 t3 (.slice hao K hcp) ov (.slice none 0 0) n) /\ Cl wq w.heap.size F 57 86 16 16 700 (mkS L) (.slice hao K hcp) ov (.slice none 0 0) K i 0 V O (fun _ => .slice none 0 0) L (fun j => rng (L j) (mkS L j))) (fun v _ => K - (intOf v).toNat)
      case atStart => exact ⟨0, by omega, rfl, HK.out, _, _, HB.out, HC.out⟩
      case round =>
        obtain ⟨i, hi, rfl, hkp, ov, O, hb, hC⟩ := hrel
        clear HC HK HB
        have c12 : wr.cell? ⟨bb, 22, none⟩ = some (.slice hao K hcp) := hb.cell 22
        by_cases hiK : i < K
        . obtain ⟨gh, rfl⟩ := hposh (by omega)
          obtain ⟨va, vc, hVs, _, _, _, hposv⟩ := row_shape (hC.vs i hiK)
          have d1 : wr.cell? ⟨gh, i, none⟩ = some (.slice va (L i) vc) := by rw [<- hVs]; exact row_cell hC.hr i _ (vsL_get _ hiK)
          have hib : (i : Int) < K := by omega
          have hLi := hC.hL i hiK
          have hst : wr.ownsRow 0 86 16 (.slice va (L i) vc) (L i + 0) (rng (L i + 0) (mkS L i)) /\ Ap w.heap.size i 0 V O (fun _ => .slice none 0 0) i (.slice va (L i) vc) := by rw [<- hVs]; exact ⟨hC.vs i hiK, fun g hg => .inl hg⟩
          have HC : Hid _ := hC
          have HS : Hid _ := hst
          have HK : Hid _ := hkp
          have HB : Hid _ := hb
          clear hC hposh hst hkp hb
          go_wp2
          go_loopw [6, 7] (fun lv v wq => ∃ k : Nat, k <= 16 /\ v = .int .i64 k /\ Kp (fun k => k = bb \/ F k) w wq /\ Box wq 31 bb (bkA b0 b1 b2 b3 t0 t1 t2 t3 (.slice (some ⟨gh, 0, none⟩) K hcp) ov (.slice none 0 0) n) /\ Cl wq w.heap.size F 57 86 16 16 700 (mkS L) (.slice (some ⟨gh, 0, none⟩) K hcp) ov (.slice none 0 0) K i 0 V O (fun _ => .slice none 0 0) L (fun j => rng (L j) (mkS L j)) /\ wq.ownsRow 0 86 16 lv (L i + k) (rng (L i + k) (mkS L i)) /\ Ap w.heap.size i 0 V O (fun _ => .slice none 0 0) i lv) (fun _ v _ => 16 - (intOf v).toNat)
          case atStart => exact ⟨0, by omega, rfl, HK.out, HB.out, HC.out, HS.out.1, HS.out.2⟩
          case round =>
            obtain ⟨k, hk, rfl, hkp, hb, hC, hl, hap⟩ := hrel
            clear HC HK HS HB c12 d1
            obtain ⟨lao, lcp, hld, _, _, _, _⟩ := row_shape hl
            subst hld
            by_cases hk16 : k < 16
            . have hkb : (k : Int) < 16 := by omega
              have hmore : rng (L i + k) (mkS L i) ++ stM (-5000000 - (i : Int)) = rng (L i + k + 1) (mkS L i) := by rw [rng_succ, mkS_hi (by omega)]
              have HM : Hid _ := hmore
              have HC : Hid _ := hC
              have HA : Hid _ := hap
              have HK : Hid _ := hkp
              have HB : Hid _ := hb
              have HL : Hid _ := hl
              clear hC hap hkp hb hmore
              have q2 : IntKind.i64.wrap (-5000000 - (i : Int)) = -5000000 - i := by rw [IntKind.wrap_i64]; omega
              go_wp2_with (at_builtin; go_must (refine pushG TI rfl _ _ rfl _ (L i + k) _ (by rfl) hl (stM (-5000000 - (i : Int))) rfl (stM_one _) (by rfl) (by omega) ?_))
              intro v' w' hown hpsh
              have hg4 : wr.grownBy wr none := gb_refl _ _
              obtain ⟨w4, hw4⟩ : ∃ w4, w4 = wr := ⟨wr, rfl⟩
              rw [<- hw4] at hpsh
              have hg4 : wr.grownBy w4 none := by rw [hw4]; exact gb_refl _ _
              rw [HM.out] at hown
              obtain ⟨p1, p2, row, p3, p4⟩ := (HC.out.kept0 hg4).push hiK (row_kept HL.out hg4 (by simp)) HA.out hpsh hown (fun h => by omega) (Nat.zero_le _)
              have p5 := (HK.out.step hg4 (by simp)).step p3 (fun g hg => (p4 g hg).imp (fun h => .inr h) id)
              have p6 := Psh.box hpsh (row_kept HL.out hg4 (by simp)) (Box.kept (t := 31) HB.out hg4 (by simp)) (by decide)
              have HP : Hid _ := And.intro p5 (And.intro p6 (And.intro p1 (And.intro hown p2)))
              clear p1 p2 p3 p4 p5 p6 hown hpsh hl HC HA HK HB HL HM hg4
              go_wp2
              obtain ⟨p1, p6, p2, p3, p4⟩ := HP.out
              exact ⟨⟨k + 1, by omega, by go_num, p1, p6, p2, p3, p4⟩, by simp [intOf]; omega⟩
            . obtain rfl : k = 16 := by omega
              obtain ⟨oao, ocp, hod, _, _, _, _⟩ := row_shape hC.orow
              subst hod
              have c14 : wr.cell? ⟨bb, 23, none⟩ = some (.slice oao i ocp) := hb.cell 23
              have horow := hC.orow
              have hB := hC.hB
              have ho0 : ∀ g, (Value.slice oao i ocp).ownBlock = some g -> w.heap.size <= g := fun g e => (row_ge horow e).1
              have HC : Hid _ := hC
              have HA : Hid _ := hap
              have HK : Hid _ := hkp
              have HL : Hid _ := hl
              have HB : Hid _ := hb
              clear hC hap hkp hl hb
              go_wp2_with (at_builtin; go_must (refine pushB TO rfl _ _ rfl w.heap.size _ i _ (by rfl) horow [.slice lao (L i + 16) lcp] rfl (by simp [Value.oneCell']) (by rfl) (by omega) hB ?_))
              intro g2 cap2 w2 hrow2 hgb2 hat2
              have b2' := Box.kept (t := 31) HB.out hgb2 (fun e => by have := ho0 _ e.symm; omega)
              have k14 : w2.cell? ⟨bb, 23, none⟩ = some (.slice oao i ocp) := b2'.cell 23
              have f14 := b2'.fz 23
              obtain ⟨p1, p2⟩ := HC.out.one hiK HL.out HA.out hrow2 hgb2 (fun g hg => by simp [Value.ownBlock] at hg; subst hg; exact hat2)
              have hgs : w2.grownBy (w2.setCell ⟨bb, 23, none⟩ (.slice (some ⟨g2, 0, none⟩) (i + 1) cap2)) (some bb) := gb_setCell (gb_refl _ _) _
              have HP : Hid _ := And.intro ((HK.out.trans p2 (H := fun k => k = bb \/ F k) (fun _ h => h) (fun j hj => .inr hj)).step hgs (fun j hj => .inl (.inl (Option.some.inj hj).symm))) (And.intro (b2'.set 23 (.slice (some ⟨g2, 0, none⟩) (i + 1) cap2)) (p1.far b2' (by decide) (by decide) hgs))
              clear p1 p2 hrow2 hgb2 hat2 b2' HC HA HK HL HB horow ho0 hgs
              go_wp2
              obtain ⟨p1, p2, p3⟩ := HP.out
              exact ⟨⟨i + 1, by omega, by go_num, p1, _, _, p2, p3⟩, by simp [intOf]; omega⟩
        . obtain rfl : K = i := by omega
          have HC : Hid _ := hC
          have HK : Hid _ := hkp
          have HB : Hid _ := hb
          obtain ⟨oao, ocp, hod, _, _, _, _⟩ := row_shape hC.orow
          subst hod
          have c14 : wr.cell? ⟨bb, 23, none⟩ = some (.slice oao K ocp) := hb.cell 23
          have h71 := look_115s hb hC.hr (row_base hC.orow (Nat.zero_le _)) (Nat.le_refl _) hK (m := 16) (by omega) hC.hL hC.vs hC.os
          clear hC hkp hb
          go_wp2_with (first | (go_at_call 115; go_must (refine h71.mono ?_); rintro y w7 ⟨rfl, hg7⟩) | fail)
          clear c14 h71 c12
          have HC2 : Hid _ := HC.out.kept0 hg7
          have HK2 : Hid _ := HK.out.step hg7 (by simp)
          have HB2 : Hid _ := Box.kept (t := 31) HB.out hg7 (by simp)
          clear HC HK HB hg7
          go_loopw [8] (fun v wq => ∃ i : Nat, i <= K /\ v = .int .i64 i /\ Kp (fun k => k = bb \/ F k) w wq /\ ∃ mv M, Box wq 31 bb (bkA b0 b1 b2 b3 t0 t1 t2 t3 (.slice hao K hcp) (.slice oao K ocp) mv n) /\ Cl wq w.heap.size F 57 86 16 16 700 (mkS L) (.slice hao K hcp) (.slice oao K ocp) mv K K i V O M L (fun j => rng (L j) (mkS L j))) (fun v _ => K - (intOf v).toNat)
          case atStart => exact ⟨0, by omega, rfl, HK2.out, _, _, HB2.out, HC2.out⟩
          case round =>
            obtain ⟨i, hi, rfl, hkp, mv, M, hb, hC⟩ := hrel
            clear HC2 HK2 HB2
            have c12 : wr.cell? ⟨bb, 22, none⟩ = some (.slice hao K hcp) := hb.cell 22
            by_cases hiK : i < K
            . obtain ⟨gh, rfl⟩ := hposh (by omega)
              have hib : (i : Int) < K := by omega
              have hLi := hC.hL i hiK
              have HC : Hid _ := hC
              have HK : Hid _ := hkp
              have HB : Hid _ := hb
              clear hC hposh hkp hb
              go_wp2
              have HW : Hid (∃ W0, W0 = wr) := ⟨wr, rfl⟩
              obtain ⟨W0, hW0⟩ := HW.out
              have HC0 : Hid (Cl W0 w.heap.size F 57 86 16 16 700 (mkS L) (.slice (some ⟨gh, 0, none⟩) K hcp) (.slice oao K ocp) mv K K i V O M L (fun j => rng (L j) (mkS L j))) := by rw [hW0]; exact HC.out
              have HK0 : Hid (Kp (fun k => k = bb \/ F k) w W0) := by rw [hW0]; exact HK.out
              have HB0 : Hid (Box W0 31 bb (bkA b0 b1 b2 b3 t0 t1 t2 t3 (.slice (some ⟨gh, 0, none⟩) K hcp) (.slice oao K ocp) mv n)) := by rw [hW0]; exact HB.out
              have HG0 : Hid (W0.grownBy wr none) := by rw [hW0]; exact gb_refl _ _
              clear HW hW0 HC HK HB
              go_loopw [9, 10] (fun rv v wq => ∃ k : Nat, k <= 700 /\ v = .int .i64 k /\ wq.ownsRow W0.heap.size 86 16 rv k (rng k (fun _ => stM (-5000000 - (i : Int)))) /\ W0.grownBy wq none) (fun _ v _ => 700 - (intOf v).toNat)
              case atStart => exact ⟨0, by omega, rfl, ⟨rfl, .inl ⟨rfl, rfl⟩⟩, HG0.out⟩
              case round =>
                obtain ⟨k, hk, rfl, hrow, hg⟩ := hrel
                obtain ⟨ao2, cp2, hdv2, _, _, _, hpos2⟩ := row_shape hrow
                subst hdv2
                clear c12 HG0
                by_cases hk7 : k < 700
                . have hkb : (k : Int) < 700 := by omega
                  have hsz0 := hg.size
                  have HS : Hid (rng k (fun _ => stM (-5000000 - (i : Int))) ++ stM (-5000000 - (i : Int)) = rng (k + 1) (fun _ => stM (-5000000 - (i : Int)))) := by rw [rng_succ]; rfl
                  clear HC0 HK0 HB0 hpos2
                  have q2 : IntKind.i64.wrap (-5000000 - (i : Int)) = -5000000 - i := by rw [IntKind.wrap_i64]; omega
                  go_wp2_with (at_builtin; go_must (refine pushB TI rfl _ _ rfl W0.heap.size _ k _ (by rfl) hrow (stM (-5000000 - (i : Int))) rfl (stM_one _) (by rfl) (by omega) hsz0 ?_))
                  intro g4 cap4 w4 hrow4 hgb4 hat4
                  have hg4 : W0.grownBy w4 none := gb_of_kp hg ((Kp.refl (fun j => (Value.slice ao2 k cp2).ownBlock = some j) wr).step hgb4 (fun j hj => .inl hj)) (fun j hj => (row_ge hrow hj).1)
                  rw [HS.out] at hrow4
                  clear hgb4 hat4 hrow HS
                  go_wp2
                  exact ⟨⟨k + 1, by omega, by go_num, hrow4, hg4⟩, by simp [intOf]; omega⟩
                . obtain rfl : k = 700 := by omega
                  obtain ⟨gm, rfl⟩ := hpos2 (by omega)
                  have hC := HC0.out.kept0 hg
                  have hkp := HK0.out.step hg (by simp)
                  have hb := HB0.out.kept hg (by simp)
                  clear HC0 HK0 HB0 hpos2 hg
                  obtain ⟨va, vc, hVs, _, _, _, hposv⟩ := row_shape (hC.vs i hiK)
                  obtain ⟨mao, mcp, hmd, _, _, _, _⟩ := row_shape hC.mrow
                  subst hmd
                  have c12 : wr.cell? ⟨bb, 22, none⟩ = some (.slice (some ⟨gh, 0, none⟩) K hcp) := hb.cell 22
                  have c15 : wr.cell? ⟨bb, 24, none⟩ = some (.slice mao i mcp) := hb.cell 24
                  have d1 : wr.cell? ⟨gh, i, none⟩ = some (.slice va (L i) vc) := by rw [<- hVs]; exact row_cell hC.hr i _ (vsL_get _ hiK)
                  have hVr : wr.ownsRow 0 86 16 (.slice va (L i) vc) (L i + 0) (rng (L i + 0) (mkS L i)) := by rw [<- hVs]; exact hC.vs i hiK
                  have hVa : Ap w.heap.size K i V O M i (.slice va (L i) vc) := by rw [<- hVs]; exact fun g hg => .inl hg
                  have hm0 : ∀ g, (Value.slice mao i mcp).ownBlock = some g -> w.heap.size <= g := fun g e => (row_ge hC.mrow e).1
                  have HMR : Hid (rng (L i) (mkS L i) ++ rng 700 (fun _ => stM (-5000000 - (i : Int))) = rng (L i + 0 + 700) (mkS L i)) := by
                    show _ = _
                    rw [Nat.add_zero]
                    exact rng_rep2 (fun k hk => mkS_hi (by omega)) 700
                  have HC : Hid (Cl wr w.heap.size F 57 86 16 16 700 (mkS L) (.slice (some ⟨gh, 0, none⟩) K hcp) (.slice oao K ocp) (.slice mao i mcp) K K i V O M L (fun j => rng (L j) (mkS L j))) := hC
                  have HK : Hid (Kp (fun k => k = bb \/ F k) w wr) := hkp
                  have HB : Hid _ := hb
                  have HV : Hid (wr.ownsRow 0 86 16 (.slice va (L i) vc) (L i + 0) (rng (L i + 0) (mkS L i))) := hVr
                  have HA : Hid (Ap w.heap.size K i V O M i (.slice va (L i) vc)) := hVa
                  have HM : Hid (wr.ownsRow W0.heap.size 86 16 (.slice (some ⟨gm, 0, none⟩) 700 cp2) 700 (rng 700 (fun _ => stM (-5000000 - (i : Int))))) := hrow
                  have H0 : Hid (∀ g, (Value.slice mao i mcp).ownBlock = some g -> w.heap.size <= g) := hm0
                  have hB := hC.hB
                  have hone : ∀ u ∈ rng 700 (fun _ => stM (-5000000 - (i : Int))), u.oneCell' = true := fun u hu => by obtain ⟨_, hk⟩ := rng_mem hu; exact stM_one _ u hk
                  clear hC hkp hVr hVa hrow hposv hm0 hb
                  go_wp2
                  go_region_law ((first | (refine step_more TI (by rfl) (.tmp 117) (.tmp 118) (by rfl) (.slice va (L i) vc) (L i) (rng (L i) (mkS L i)) (by rfl) (show World.ownsRow _ 0 86 16 _ _ _ from HV.out) ⟨gm, 0, none⟩ 700 cp2 (rng 700 (fun _ => stM (-5000000 - (i : Int)))) (by rfl) (rng_len (fun _ => stM_len _) 700) (fun j u hj => by rw [Addr.add_mid, Nat.zero_add]; exact row_cell (show World.ownsRow _ W0.heap.size 86 16 _ _ _ from HM.out) j u hj) hone (by omega) (by omega) ?_; intro gC cC w5 hown5 hpsh5; have hpsh : Psh wr w5 (.slice va (L i) vc) (L i + 0) 700 (.slice (some ⟨gC, 0, none⟩) (L i + 700) cC) := psh_trans (fun r => (by first | exact gb_refl _ _ | exact gb_drew (gb_refl _ _) | exact gb_drewN (gb_refl _ _) _)) hpsh5; rw [HMR.out] at hown5; obtain ⟨p1, p2, row, p3, p4⟩ := HC.out.push hiK HV.out HA.out hpsh hown5 (fun _ => by omega) (Nat.le_refl _); have b5 := Psh.box (t := 31) hpsh HV.out HB.out (by decide); have m15 : w5.cell? ⟨bb, 24, none⟩ = some (.slice mao i mcp) := b5.cell 24; have m15a := (fun o => gb_cellN (World.grownBy_alloc w5 o none) m15); have hmr5 := p1.mrow; have hB5 := p1.hB) | (refine step_push TO (w5 := w5) (by rfl) (.tmp 110) (.tmp 120) (by rfl) w.heap.size (.slice mao i mcp) i _ (by rfl) [.slice (some ⟨gC, 0, none⟩) (L i + 700) cC] rfl (by simp [Value.oneCell']) (by rfl) hmr5 (by rfl) (by omega) hB5 ?_; intro g7 c7 w7 hown7 hg7 hat7; have b7 := b5.kept hg7 (fun e => (by have := H0.out _ e.symm; omega)); have m7 : w7.cell? ⟨bb, 24, none⟩ = some (.slice mao i mcp) := b7.cell 24; have f7 : w7.frozen? ⟨bb, 24, none⟩ = false := b7.fz 24)))
                  all_goals
                    obtain ⟨r1, r2⟩ := p1.many hiK hown5 p2 hown7 hg7 (fun g hg => by simp [Value.ownBlock] at hg; subst hg; exact hat7)
                    have hgs : w7.grownBy (w7.setCell ⟨bb, 24, none⟩ (.slice (some ⟨g7, 0, none⟩) (i + 1) c7)) (some bb) := gb_setCell (gb_refl _ _) _
                    have HP : Hid _ := And.intro (((HK.out.step p3 (fun g hg => (p4 g hg).imp (fun h => .inr h) id)).trans r2 (H := fun k => k = bb \/ F k) (fun _ h => h) (fun j hj => .inr hj)).step hgs (fun j hj => .inl (.inl (Option.some.inj hj).symm))) (And.intro (b7.set 24 (.slice (some ⟨g7, 0, none⟩) (i + 1) c7)) (r1.far b7 (by decide) (by decide) hgs))
                    clear r1 r2 p1 p2 p3 p4 hown5 hpsh5 hpsh hown7 hat7 hg7 b7 b5 hgs HC HK HV HA HM H0 HB HMR m15 m15a hmr5 hone
                    go_wp2
                    obtain ⟨p1, p2, p3⟩ := HP.out
                    exact ⟨⟨i + 1, by omega, by go_num, p1, _, _, p2, p3⟩, by simp [intOf]; omega⟩
            . obtain rfl : K = i := by omega
              obtain ⟨mao, mcp, hmd, _, _, _, _⟩ := row_shape hC.mrow
              subst hmd
              have c14 : wr.cell? ⟨bb, 23, none⟩ = some (.slice oao K ocp) := hb.cell 23
              have c15 : wr.cell? ⟨bb, 24, none⟩ = some (.slice mao K mcp) := hb.cell 24
              have h72 := look_115s hb hC.hr (row_base hC.mrow (Nat.zero_le _)) (Nat.le_refl _) hK (m := 700) (by omega) hC.hL hC.vs hC.ms
              have HP : Hid _ := And.intro hkp (And.intro hb hC)
              clear hC hkp hb
              go_wp2_with (go_at_call 115; go_must (refine h72.mono ?_))
              rintro y w9 ⟨rfl, hg9⟩
              have hb9 := Box.kept (t := 31) HP.out.2.1 hg9 (by simp)
              have hC9 := HP.out.2.2.kept0 hg9
              have hkp9 := HP.out.1.step hg9 (by simp)
              have c14 : w9.cell? ⟨bb, 23, none⟩ = some (.slice oao K ocp) := hb9.cell 23
              have h71 := look_115s hb9 hC9.hr (row_base hC9.orow (Nat.zero_le _)) (Nat.le_refl _) hK (m := 16) (by omega) hC9.hL hC9.vs hC9.os
              have HQ : Hid _ := And.intro hkp9 hb9
              clear h72 hb9 hC9 hkp9 HP hg9
              go_wp2_with (go_at_call 115; go_must (refine h71.mono ?_))
              rintro y w8 ⟨rfl, hg8⟩
              clear h71
              go_wp2
              go_ret
              exact ⟨rfl, HQ.out.1.step hg8 (by simp), _, _, Box.kept (t := 31) HQ.out.2 hg8 (by simp)⟩
end Go.Proofs.YtobegepebochkaaGreatDoor
