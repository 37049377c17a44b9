import Derived.Deep.CutRange
import Derived.Test.YtobegepebochkaaGreatDoorVGi
import Derived.Test.YtobegepebochkaaGreatDoorVPbm
import Derived.Test.YtobegepebochkaaGreatDoorVGr
import Derived.Test.YtobegepebochkaaGreatDoorVPbo
import Derived.Test.YtobegepebochkaaGreatDoorVGu
import Derived.Test.YtobegepebochkaaGreatDoorVPaq
import Derived.Test.YtobegepebochkaaGreatDoorVPbf
set_option linter.unusedVariables false
set_option linter.unusedSimpArgs false
namespace Go.Proofs.YtobegepebochkaaGreatDoor
open Go.RowKit Go.Maps
attribute [local go_sem] Oper.semAt_some
theorem Kf.slice {w : World} {v : Value} {ks : List Bs} (h : Kf w v ks) : ∃ a c, v = .slice a ks.length c := by
  rcases h with ⟨rfl, a, c, rfl⟩ | ⟨g, o, c, rfl, -⟩
  · exact ⟨a, c, rfl⟩
  · exact ⟨_, _, rfl⟩
theorem Fg.slice {w : World} {v : Value} {fs : List Fl} (h : Fg w v fs) : ∃ a c, v = .slice a fs.length c := by
  rcases h with ⟨rfl, a, c, rfl⟩ | ⟨g, o, c, rfl, -⟩
  · exact ⟨a, c, rfl⟩
  · exact ⟨_, _, rfl⟩
theorem key_all_take {ks : List Bs} {k : Nat} {x : Bs} (h : ks[k]? = some x) : (ks.take (k + 1)).all keyT = ((ks.take k).all keyT && keyT x) := by
  rw [List.take_add_one, h, Option.toList_some, List.all_append]; simp
set_option maxRecDepth 100000 in
set_option maxHeartbeats 8000000 in
theorem may_77 {i : Nat} (hi : i < 24) {c : Cmd} (hv : c.verb = (i : Int) + 1) (hr : RngP c) (hf : c.flags ≤ 18446744073709551615) {n : Nat} (hn : n ≤ 4611686018427387904) {kv mv : Value} {da : Option Addr} {dc : Nat} {lg : Bool} (w : World) (hK : Kf w kv c.keys) (hM : Fg w mv c.mt) (hkn : c.keys.length ≤ 4611686018427387904) (hmn : c.mt.length ≤ 4611686018427387904) (hkl : ∀ k ∈ c.keys, k.length ≤ 4611686018427387904) (hfl : ∀ f ∈ c.mt, f.arg.length ≤ 4611686018427387904) (hL : mayT4 i c = false → mayT3 i c = false → c.keys.all keyT = true → (lnB i c n).length ≤ 4611686018427387904) :
    Calls Tryz.prog 77 #[.agg (cmV c kv (.slice da n dc) lg mv)] w fun e w' => e = .returned (.bool (mayB i c n lg)) ∧ w.grownBy w' none := by
  obtain ⟨ka, kc, rfl⟩ := hK.slice
  obtain ⟨ma, mc, rfl⟩ := hM.slice
  have hsl := shape_len i hi
  have h58 := rowOf_58 i hi
  have h78 := fun (W : World) (hW : w.grownBy W none) => fun hL => line_78 hi hv hr hf hn hL (da := da) (dc := dc) (lg := lg) W (hK.kept hW) (hM.kept hW) hkn hmn
  have h38 := fun (W : World) (hW : w.grownBy W none) => rflags_38 ((i : Int) + 1) (.slice ma c.mt.length mc) c.mt (fun f h => by have := hfl f h; omega) (by omega) W (hM.kept hW)
  have hMB : mayB i c n lg = (!lg && (!mayT1 i c && (c.keys.all keyT && (!mayT2 i c && (!mayT3 i c && (!mayT4 i c && (!mayT5 i c n && decide ((lnB i c n).length ≤ 2048)))))))) := rfl
  obtain ⟨R, hR⟩ : ∃ R, mayB i c n lg = R := ⟨_, rfl⟩
  obtain ⟨LN, hLN⟩ : ∃ x, lnB i c n = x := ⟨_, rfl⟩
  obtain ⟨T1, hT1⟩ : ∃ x, mayT1 i c = x := ⟨_, rfl⟩
  obtain ⟨T2, hT2⟩ : ∃ x, mayT2 i c = x := ⟨_, rfl⟩
  obtain ⟨T3, hT3⟩ : ∃ x, mayT3 i c = x := ⟨_, rfl⟩
  obtain ⟨T4, hT4⟩ : ∃ x, mayT4 i c = x := ⟨_, rfl⟩
  obtain ⟨T5, hT5⟩ : ∃ x, mayT5 i c n = x := ⟨_, rfl⟩
  obtain ⟨KA, hKA⟩ : ∃ x, c.keys.all keyT = x := ⟨_, rfl⟩
  rw [hR, hT1, hT2, hT3, hT4, hT5, hKA, hLN] at hMB
  rw [hLN, hT3, hT4, hKA] at hL
  rw [hLN] at h78
  rw [hR]
  obtain ⟨verb, keys, flags, exp, tok, del, nr, mt, what⟩ := c
  simp only at hv hf hK hM hkn hmn hkl hfl h78 h38 hKA
  subst hv
  obtain ⟨sh, hsh⟩ : ∃ x, (dr i).shape = x := ⟨_, rfl⟩
  obtain ⟨le, hle⟩ : ∃ x, (dr i).least = x := ⟨_, rfl⟩
  obtain ⟨ag, hag⟩ : ∃ x, (dr i).again = x := ⟨_, rfl⟩
  obtain ⟨re, hre⟩ : ∃ x, (dr i).reply = x := ⟨_, rfl⟩
  obtain ⟨bl, hbl⟩ : ∃ x, (dr i).block = x := ⟨_, rfl⟩
  simp only [drA, hsh, hle, hag, hre, hbl] at h58
  simp only [mayT1, mayT2, mayT3, mayT4, mayT5, hsh, hre, hbl] at hT1 hT2 hT3 hT4 hT5
  rw [hsh] at hsl
  have h122 := fields_122 sh (by omega)
  obtain ⟨y0, hy0⟩ : ∃ x, sh.contains 75 = x := ⟨_, rfl⟩
  obtain ⟨y1, hy1⟩ : ∃ x, sh.contains 70 = x := ⟨_, rfl⟩
  obtain ⟨y2, hy2⟩ : ∃ x, (sh.contains 84 || sh.contains 83) = x := ⟨_, rfl⟩
  obtain ⟨y3, hy3⟩ : ∃ x, sh.contains 67 = x := ⟨_, rfl⟩
  obtain ⟨y4, hy4⟩ : ∃ x, sh.contains 68 = x := ⟨_, rfl⟩
  obtain ⟨y5, hy5⟩ : ∃ x, sh.contains 71 = x := ⟨_, rfl⟩
  obtain ⟨FT, hFT⟩ : ∃ x, flS ((i : Int) + 1) [] mt = x := ⟨_, rfl⟩
  simp only [hasA, hy0, hy1, hy2, hy3, hy4, hy5] at h122
  rw [hy0] at hT1
  rw [hy1, hy2, hy3, hy4] at hT2
  rw [hy5, hFT] at hT3
  rw [hFT] at h38
  have HMB := Lib.hid hMB
  have HT1 := Lib.hid hT1
  have HT2 := Lib.hid hT2
  have HT3 := Lib.hid hT3
  have HT4 := Lib.hid hT4
  have HT5 := Lib.hid hT5
  have HKA := Lib.hid hKA
  have H78 := Lib.hid h78
  have HL := Lib.hid hL
  have H38 := Lib.hid h38
  have HK := Lib.hid hK
  have HKL := Lib.hid hkl
  clear hR hLN hsh hle hag hre hbl hT1 hT2 hT3 hT4 hT5 hKA hMB hy0 hy1 hy2 hy3 hy4 hy5 hFT h78 h38 hK hkl hM hfl hr hL
  have dA : decide ((i : Int) + 1 < 1) = false := by simp; omega
  have dB : decide ((24 : Int) < (i : Int) + 1) = false := by simp; omega
  have dA' : ¬ ((i : Int) + 1 < 1) := by omega
  have dB' : ¬ ((24 : Int) < (i : Int) + 1) := by omega
  go_enter Tryz.func77, Tryz.ntmps77
  cases lg with
  | true =>
    go_wp2_with fail
    go_ret
    refine ⟨?_, gb_alloc (gb_refl _ none) _⟩
    rw [HMB.out]; rfl
  | false =>
    go_wp2_with fail
    refine (h58 _).mono ?_
    rintro e w1 ⟨rfl, g1⟩
    obtain ⟨vs, hvs⟩ : ∃ x, cmV ⟨(i : Int) + 1, keys, flags, exp, tok, del, nr, mt, what⟩ (.slice ka keys.length kc) (.slice da n dc) false (.slice ma mt.length mc) = x := ⟨_, rfl⟩
    rw [hvs] at g1
    have b1 := (Box.new w 41 vs).kept g1 (by simp)
    have gw := gb_trans (gb_alloc (gb_refl w none) (.cells vs 41)) g1
    obtain ⟨RA, hRA⟩ : ∃ x : Array Value, #[.int .i64 ((i : Int) + 1), sv sh, .int .i64 (le : Int), .bool ag, .bool re, .bool bl] = x := ⟨_, rfl⟩
    have g1' := gb_alloc (gb_refl w1 none) (.cells RA 111)
    have b1' := b1.kept g1' (by simp)
    have b3' := Box.new w1 111 RA
    have gw' := gb_trans gw g1'
    have p1 := b3'.cell 1
    rw [← hRA] at p1
    simp only [List.getElem?_toArray, List.getElem?_cons_succ, List.getElem?_cons_zero] at p1
    have HRA := Lib.hid hRA
    have HVS := Lib.hid hvs
    clear g1 b1 gw g1' hRA hvs
    go_wp2_with fail
    refine (h122 _).mono ?_
    rintro e w2 ⟨rfl, g2⟩
    rw [HRA.out] at g2
    have b1 := b1'.kept g2 (by simp)
    have b3 := b3'.kept g2 (by simp)
    have gw := gb_trans gw' g2
    clear b1' b3' gw' g2 p1 h58 h122
    generalize w1.heap.size = fb at *
    obtain ⟨HA, hHA⟩ : ∃ x : Array Value, hasV y0 y1 y2 y3 y4 y5 = x := ⟨_, rfl⟩
    have g4 := gb_alloc (gb_refl w2 none) (.cells HA 177)
    have c1 := b1.kept g4 (by simp)
    have c3 := b3.kept g4 (by simp)
    have c4 := Box.new w2 177 HA
    have gv := gb_trans gw g4
    have HHA := Lib.hid hHA
    clear b1 b3 gw g4 hHA
    go_upto_region 5 with fail
    have hW : w2.alloc (.cells #[.bool y0, .bool y1, .bool y2, .bool y3, .bool y4, .bool y5] 177) = w2.alloc (.cells HA 177) := by rw [← HHA.out]
    rw [hW, HVS.out]
    clear hW
    generalize w2.alloc (.cells HA 177) = W at *
    generalize w2.heap.size = hb at *
    have p0 := c1.cell 0
    have p1 := c1.cell 1
    have p2 := c1.cell 2
    have p3 := c1.cell 3
    have p4 := c1.cell 4
    have p5 := c1.cell 5
    have p6 := c1.cell 6
    have p7 := c1.cell 7
    have p8 := c1.cell 8
    have p9 := c1.cell 9
    have p10 := c1.cell 10
    have r4 := c3.cell 4
    have r5 := c3.cell 5
    have a0 := c4.cell 0
    have a1 := c4.cell 1
    have a2 := c4.cell 2
    have a3 := c4.cell 3
    have a4 := c4.cell 4
    have a5 := c4.cell 5
    rw [← HVS.out] at p0 p1 p2 p3 p4 p5 p6 p7 p8 p9 p10
    rw [← HRA.out] at r4 r5
    rw [← HHA.out] at a0 a1 a2 a3 a4 a5
    simp only [List.getElem?_toArray, List.getElem?_cons_succ, List.getElem?_cons_zero] at p0 p1 p2 p3 p4 p5 p6 p7 p8 p9 p10 r4 r5 a0 a1 a2 a3 a4 a5
    go_cut [41] from 24 to 41 (fun x wd => x = .bool T1 ∧ wd = W)
    case first =>
      obtain ⟨k1, hk1⟩ : ∃ b, decide ((1 : Int) < (keys.length : Int)) = b := ⟨_, rfl⟩
      obtain ⟨k2, hk2⟩ : ∃ b, decide ((4 : Int) < (i : Int) + 1) = b := ⟨_, rfl⟩
      obtain ⟨k3, hk3⟩ : ∃ b, decide ((0 : Int) < (keys.length : Int)) = b := ⟨_, rfl⟩
      have e1 : decide (1 < keys.length) = k1 := by rw [← hk1]; exact decide_eq_decide.2 (by omega)
      have e2 : decide (4 ≤ i) = k2 := by rw [← hk2]; exact decide_eq_decide.2 (by omega)
      have e3 : decide (0 < keys.length) = k3 := by rw [← hk3]; exact decide_eq_decide.2 (by omega)
      have hT := HT1.out
      rw [e1, e2, e3] at hT
      have HT := Lib.hid hT
      have E1 := Lib.hid e1
      have E2 := Lib.hid e2
      have E3 := Lib.hid e3
      clear e1 e2 e3 hT
      cases k1 <;> cases k2 <;> cases k3 <;> cases y0 <;>
        (go_wp2_with fail
         go_meet
         exact ⟨by rw [← HT.out]; first | rfl | (rw [E3.out]; rfl) | (rw [E2.out]; rfl) | (rw [E2.out, E3.out]; rfl), rfl⟩)
    case rest =>
      obtain ⟨rfl, hwc⟩ := hcut
      have hwc' := hwc.symm
      subst hwc'
      clear hwc
      cases T1 with
      | true =>
        go_wp2_with fail
        go_ret
        refine ⟨?_, gv⟩
        rw [HMB.out]; rfl
      | false =>
        go_wp2_with fail
        go_loopw [5] (fun v wr => ∃ k : Nat, k ≤ keys.length ∧ v = .int .i64 k ∧ wr = W ∧ (keys.take k).all keyT = true) (fun v _ => keys.length - (intOf v).toNat)
        case atStart => exact ⟨0, by omega, rfl, rfl, rfl⟩
        case round =>
          obtain ⟨k, hk, rfl, hwr, hall⟩ := hrel
          have hwr' := hwr.symm
          subst hwr'
          clear hwr
          rcases (by omega : k < keys.length ∨ k = keys.length) with hlt | rfl
          · obtain ⟨x, hx⟩ : ∃ x, keys[k]? = some x := ⟨_, List.getElem?_eq_getElem hlt⟩
            have hxl := HKL.out x (List.mem_of_getElem? hx)
            have h97 := fun W' => key_97 x (by omega) W'
            have hst := key_all_take hx
            rw [hall, Bool.true_and] at hst
            have hfalse : keyT x = false → KA = false := fun e => by
              rw [← HKA.out]
              exact List.all_eq_false.mpr ⟨x, List.mem_of_getElem? hx, by rw [e]; simp⟩
            rcases (HK.out.kept gv) with ⟨h0, -⟩ | ⟨g, o1, kc', he, hcell⟩
            · rw [h0] at hlt; exact absurd hlt (by simp)
            · have hka : ka = some ⟨g, o1, none⟩ := by injection he
              subst hka
              have cx := hcell k x hx
              have d1 : decide ((k : Int) < (keys.length : Int)) = true := decide_eq_true (by omega)
              have e97 : (plain x && decide (1 ≤ x.length) && decide (x.length ≤ 250)) = keyT x := rfl
              simp only [e97] at h97
              obtain ⟨kx, hkx⟩ : ∃ b, keyT x = b := ⟨_, rfl⟩
              rw [hkx] at hst hfalse
              simp only [hkx] at h97
              have HST := Lib.hid hst
              have HFA := Lib.hid hfalse
              clear hcell hx hall hst hfalse e97 he hkx
              cases kx with
              | true =>
                go_wp2_with (go_at_call 97; go_must (refine (h97 _).mono ?_); rintro e w5 ⟨rfl, rfl⟩)
                exact ⟨⟨k + 1, by omega, by go_num, by first | rfl | trivial, HST.out⟩, by simp [intOf]; omega⟩
              | false =>
                go_wp2_with (go_at_call 97; go_must (refine (h97 _).mono ?_); rintro e w5 ⟨rfl, rfl⟩)
                go_ret
                refine ⟨?_, gv⟩
                rw [HMB.out, HFA.out (by first | rfl | trivial)]; rfl
          · rw [List.take_length, HKA.out] at hall
            subst hall
            go_upto_region 12 with fail
            refine may_r12 p2 p3 p4 p5 a1 a2 a3 a4 HT2.out ?_
            intro u56 u57 u58 u59 u60 u61 u62 u63 u64 u65 u66 u67 u68 u69 u70 u71 u72 u73 u74 u75 u76 u77 u78 u79 u80 u81 u82 u83 u84 u85 u86 u87 u88 u89 u90 u91 u92 u93 u94 u95 u96 u97
            cases T2 with
            | true =>
              go_wp2_with fail
              go_ret
              refine ⟨?_, gv⟩
              rw [HMB.out]; rfl
            | false =>
              go_upto_region 14 with fail
              refine may_r14 p0 p9 a5 (H38.out _ gv) HT3.out ?_
              intro u99 u100 u101 u102 u103 u104 u105 u106 u107 u108 u109 u110 u111 u112 u113 u114 u115 W3 g3 h115
              subst h115
              have gv3 := gb_trans gv g3
              have d1 := c1.kept g3 (by simp)
              have d3 := c3.kept g3 (by simp)
              clear p0 p1 p2 p3 p4 p5 p6 p7 p8 p9 p10 r4 r5 a0 a1 a2 a3 a4 a5 c1 c3 c4 gv g3
              have p0 := d1.cell 0
              have p3 := d1.cell 3
              have p6 := d1.cell 6
              have p7 := d1.cell 7
              have p10 := d1.cell 10
              have r4 := d3.cell 4
              have r5 := d3.cell 5
              rw [← HVS.out] at p0 p3 p6 p7 p10
              rw [← HRA.out] at r4 r5
              simp only [List.getElem?_toArray, List.getElem?_cons_succ, List.getElem?_cons_zero] at p0 p3 p6 p7 p10 r4 r5
              cases T3 with
              | true =>
                go_wp2_with fail
                go_ret
                refine ⟨?_, gv3⟩
                rw [HMB.out]; rfl
              | false =>
              go_upto_region 16 with fail
              have hT4 : (decide (what ≠ []) && (decide ((i : Int) + 1 ≠ 19) || decide (what ≠ reset))) = T4 := by
                rw [← HT4.out, show decide ((i : Int) + 1 ≠ 19) = decide (i ≠ 18) from decide_eq_decide.2 (by omega)]
              refine may_r16 p0 p10 hT4 ?_
              clear hT4
              intro u116 u117 u118 u119 u120 u121 u122 u123 u124 u125 u126 u127 u128 h128
              subst h128
              cases T4 with
              | true =>
                go_wp2_with fail
                go_ret
                refine ⟨?_, gv3⟩
                rw [HMB.out]; rfl
              | false =>
              go_upto_region 18 with fail
              have hT5 : ((((decide ((i : Int) + 1 = 15) && decide (exp < 0)) || (nr && !re)) || (decide (0 < n) && !bl)) || decide (2147483647 < n)) = T5 := by
                rw [← HT5.out, show decide ((i : Int) + 1 = 15) = decide (i = 14) from decide_eq_decide.2 (by omega)]
              refine may_r18 p0 p3 p6 p7 r4 r5 hT5 ?_
              clear hT5
              intro u129 u130 u131 u132 u133 u134 u135 u136 u137 u138 u139 u140 u141 u142 u143 u144 u145 u146 u147 u148 u149 u150 u151 u152 u153 u154 u155 u156 u157 u158 u159 u160 u161 u162 h162
              subst h162
              cases T5 with
              | true =>
                go_wp2_with fail
                go_ret
                refine ⟨?_, gv3⟩
                rw [HMB.out]; rfl
              | false =>
              go_upto_region 20 with fail
              have h78 := H78.out W3 gv3 (HL.out rfl rfl rfl)
              have hll := HL.out rfl rfl rfl
              have hvl : vs.toList.length = 11 := by rw [← HVS.out]; rfl
              rw [HVS.out] at h78
              clear H78 H38 HK HKL p0 p3 p6 p7 p10 r4 r5
              go_wp2_with (first
                | (refine atL 41 w.heap.size 0 rfl rfl ?_; go_must (refine load41 rfl _ rfl 41 w.heap.size 0 _ d1 rfl vs.toList hvl (fun j v hv => by simpa using hv) ?_))
                | (go_at_call 78; go_must (refine h78.mono ?_); rintro e w5 ⟨rfl, g5⟩))
              go_ret
              refine ⟨?_, gb_trans gv3 g5⟩
              rw [HMB.out]
              exact congrArg Ending.returned (congrArg Value.bool (by simp; first | done | exact decide_eq_decide.2 (by omega) | omega))
end Go.Proofs.YtobegepebochkaaGreatDoor
namespace Go.Proofs.YtobegepebochkaaGreatDoor
theorem bls_bound : ∀ (ws : List Bs) (m : Nat), (∀ x ∈ ws, x.length ≤ m) → (bls ws).length ≤ ws.length * (m + 1)
  | [], m, _ => by simp [bls]
  | x :: ws, m, h => by
    rw [bls_cons]
    have h1 := h x (by simp)
    have h2 := bls_bound ws m (fun y hy => h y (by simp [hy]))
    simp only [List.length_cons, List.length_append, Nat.add_mul]
    omega
theorem flS_few (v : Int) : ∀ (fs : List Fl) (seen : Bs), flS v seen fs = [] → fs.length ≤ ((bare v ++ full v).filter fun x => !seen.contains x).length
  | [], seen, _ => by simp
  | f :: t, seen, h => by
    rw [flS] at h
    split at h
    · rename_i h1
      have ih := flS_few v t (f.letter :: seen) h
      have hin : f.letter ∈ ((bare v ++ full v).filter fun x => !seen.contains x) := by
        unfold fl1 at h1
        split at h1
        · exact absurd h1 (by decide)
        · rename_i h2
          split at h1
          · exact absurd h1 (by decide)
          · rename_i h3
            rw [List.mem_filter]
            refine ⟨?_, by simpa using h3⟩
            simp only [Bool.and_eq_true, Bool.not_eq_true', not_and, Bool.not_eq_false] at h2
            rw [List.mem_append]
            by_cases hb : (bare v).contains f.letter = true
            · exact .inl (List.contains_iff_mem.1 hb)
            · exact .inr (List.contains_iff_mem.1 (h2 (by simpa using hb)))
      have e : ((bare v ++ full v).filter fun x => !(f.letter :: seen).contains x) = ((bare v ++ full v).filter fun x => !seen.contains x).filter fun x => !(x == f.letter) := by
        rw [List.filter_filter]
        congr 1
        funext x
        simp only [List.contains_cons, Bool.not_or]
      have hlt : (((bare v ++ full v).filter fun x => !seen.contains x).filter fun x => !(x == f.letter)).length < ((bare v ++ full v).filter fun x => !seen.contains x).length := by
        rw [List.length_filter_lt_length_iff_exists]
        exact ⟨f.letter, hin, by simp⟩
      rw [e] at ih
      rw [List.length_cons]
      omega
    · rename_i h1
      exact absurd h h1
theorem few13 (v : Int) : (bare v ++ full v).length ≤ 13 := by
  unfold bare full
  repeat' split
  all_goals first | decide | simp
theorem flS_13 {v : Int} {fs : List Fl} (h : flS v [] fs = []) : fs.length ≤ 13 :=
  Nat.le_trans (flS_few v fs [] h) (Nat.le_trans (List.length_filter_le _ _) (few13 v))
theorem flat_bound (f : UInt8 → List Bs) (m : Nat) : ∀ l : Bs, (∀ a ∈ l, (bls (f a)).length ≤ m) → (bls (l.flatMap f)).length ≤ l.length * m
  | [], _ => by simp [bls]
  | a :: l, h => by
    rw [List.flatMap_cons, bls_app, List.length_append, List.length_cons, Nat.add_mul]
    have := h a (by simp)
    have := flat_bound f m l (fun b hb => h b (by simp [hb]))
    omega
theorem one_bound (x : Bs) (m : Nat) (h : x.length ≤ m) : (bls [x]).length ≤ m + 1 := by
  have := bls_bound [x] m (by simpa using h)
  simpa using this
theorem nil_bound : (bls []).length = 0 := by simp [bls]
theorem lnB_len {i : Nat} (hi : i < 24) {c : Cmd} (hr : RngP c) (hf : c.flags ≤ 18446744073709551615) {n : Nat} (hn : n ≤ 18446744073709551615) (hkn : c.keys.length ≤ 140737488355328) (hfl : ∀ f ∈ c.mt, f.arg.length ≤ 140737488355328)
    (h4 : mayT4 i c = false) (h3 : mayT3 i c = false) (hk : c.keys.all keyT = true) : (lnB i c n).length ≤ 4611686018427387904 := by
  have hmt : c.mt.length ≤ 13 := by
    simp only [mayT3, Bool.or_eq_false_iff, decide_eq_false_iff_not, ne_eq, Classical.not_not] at h3
    exact flS_13 h3.2
  have hw : c.what.length ≤ 5 := by
    simp only [mayT4, Bool.and_eq_false_iff, Bool.or_eq_false_iff, decide_eq_false_iff_not, ne_eq, Classical.not_not] at h4
    rcases h4 with h | h
    · rw [h]; simp
    · rw [h.2]; decide
  have key : ∀ a ∈ (dr i).shape, (bls (lw c n a)).length ≤ 144115188075855872 := by
    intro a ha
    have hin := shape_in i hi a ha
    simp only [List.mem_cons, List.not_mem_nil, or_false] at hin
    rcases hin with rfl | rfl | rfl | rfl | rfl | rfl | rfl | rfl | rfl | rfl | rfl
    · have := bls_bound c.keys 250 (fun x hx => by
        have := List.all_eq_true.mp hk x hx
        simp only [keyT, Bool.and_eq_true, decide_eq_true_eq] at this
        exact this.2)
      rw [show lw c n 75 = c.keys from rfl]
      omega
    · have := one_bound _ _ (dg_20 c.flags hf)
      rw [show lw c n 70 = [dg c.flags] from rfl]; omega
    · have := one_bound _ _ (sg_21 c.exp hr.e1 hr.e2)
      rw [show lw c n 84 = [sg c.exp] from rfl]; omega
    · have := one_bound _ _ (dg_20 n hn)
      rw [show lw c n 78 = [dg n] from rfl]; omega
    · have := one_bound _ _ (dg_20 c.tok hr.tok)
      rw [show lw c n 67 = [dg c.tok] from rfl]; omega
    · have := one_bound _ _ (dg_20 c.del hr.del)
      rw [show lw c n 68 = [dg c.del] from rfl]; omega
    · have := one_bound [49] 1 (by decide)
      rw [show lw c n 86 = [[49]] from rfl]; omega
    · have := one_bound _ _ hw
      rw [show lw c n 87 = (if c.what = [] then [] else [c.what]) from rfl]
      split
      · rw [nil_bound]; omega
      · omega
    · have := bls_bound (c.mt.map fw) 140737488355329 (fun x hx => by
        obtain ⟨f, hf, rfl⟩ := List.mem_map.1 hx
        have := hfl f hf
        simp only [fw, List.length_cons]
        omega)
      rw [List.length_map] at this
      have h2 : c.mt.length * (140737488355329 + 1) ≤ 13 * (140737488355329 + 1) := Nat.mul_le_mul_right _ hmt
      rw [show lw c n 71 = c.mt.map fw from rfl]
      omega
    · have := one_bound _ _ (sg_21 c.exp hr.e1 hr.e2)
      rw [show lw c n 83 = (if c.exp = 0 then [] else [sg c.exp]) from rfl]
      split
      · rw [nil_bound]; omega
      · omega
    · rw [show lw c n 90 = [] from rfl, nil_bound]; omega
  have h1 := flat_bound (lw c n) 144115188075855872 (dr i).shape key
  have h2 : (dr i).shape.length * 144115188075855872 ≤ 5 * 144115188075855872 := Nat.mul_le_mul_right _ (shape_len i hi)
  have h5 := spn_len i hi
  have h6 : (bls (nrW c.nr)).length ≤ 8 := by cases c.nr <;> decide
  unfold lnB lws
  rw [bls_app, List.length_append, List.length_append]
  omega
end Go.Proofs.YtobegepebochkaaGreatDoor
