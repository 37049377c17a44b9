import Derived.Deep.CutRange
import Derived.Deep.CutBlock
import Derived.Deep.RegionLaw
import Derived.Test.YtbbocbdoiealoaaGreatDoorRPbu
import Derived.Test.YtbbocbdoiealoaaGreatDoorRPbw
import Derived.Test.YtbbocbdoiealoaaGreatDoorROd
import Derived.Test.YtbbocbdoiealoaaGreatDoorRPby
set_option linter.unusedVariables false
set_option linter.unusedSimpArgs false
namespace Go.Proofs.YtbbocbdoiealoaaGreatDoor
open Go.RowKit Go.Maps
attribute [local go_sem] Oper.semAt_some
theorem rt_step {w w1 wq : World} {L : Nat} {raw : Bs} {q : List Tld} {left : Int} {g c i : Nat} (hA : AlR w L raw q (.slice (some ⟨g, 0, none⟩) q.length c) left w1) (hg : w1.grownBy wq none) {t : Tld} (ht : q[i]? = some t) :
    (∀ j u, (stpL t.s t.ck t.cd t.cm)[j]? = some u → wq.cell? ⟨g, i * 16 + j, none⟩ = some u) ∧ StR w1 (fun _ => False) t.s t.ck t.cd t.cm ∧ StI t.s ∧ DatP raw t.s := by
  have hm := List.mem_of_getElem? ht
  refine ⟨fun j u hu => gb_cellN hg (row_cell hA.ss.row _ u ?_), hA.ss.all t hm, hA.kinds t hm, hA.dat t hm⟩
  have hj := (List.getElem?_eq_some_iff.1 hu).1
  rw [tl_get q i t j ht (by simpa using hj)]
  exact hu
set_option maxRecDepth 100000 in
set_option maxHeartbeats 16000000 in
theorem wright_9 {w : World} (hE : Er w) (hp : Pw w) {ra : Option Addr} {rc : Nat} {lim : Int} {raw : Bs} (hr : Ck w (fun _ => False) (.slice ra raw.length rc) raw) (hl1 : lim ≤ 9223372036854775807) (hl2 : -9223372036854775808 ≤ lim) (hrl : raw.length ≤ 9223372036854775807) :
    Calls Tryz.prog 9 #[.agg #[.slice ra raw.length rc, .int .i64 lim]] w fun e w' => e = .returned (.bool true) ∧ w.grownBy w' none := by
  obtain ⟨-, hcc, hck0⟩ := ck_clip hr 65536
  have h27 := fun W => clip_27 (w := W) (ao := ra) (c := rc) (l := raw) hcc hrl
  have htl : (raw.take 65536).length ≤ 65536 := by rw [List.length_take]; omega
  obtain ⟨b, hb⟩ : ∃ b, raw.take 65536 = b := ⟨_, rfl⟩
  rw [hb] at hck0 h27 htl
  obtain ⟨n, hn⟩ : ∃ n, raw.length = n := ⟨_, rfl⟩
  rw [hn] at h27 ⊢
  have HC := Lib.hid hck0
  clear hr hck0 hcc hrl hb hn
  have g0 := gb_alloc (gb_refl w none) (.cells #[.slice ra n rc, .int .i64 lim] 56)
  have h29 := all_27 (hE.kept g0) (HC.out.kept0 g0) (by omega) lim hl1 hl2
  go_enter Tryz.func9, Tryz.ntmps9
  go_upto_block 0 with fail
  go_upto_region 2 with (go_at_call 27; go_must (refine (h27 _).mono ?_); rintro e w1 ⟨rfl, hw1⟩; have hw2 := hw1.symm; subst hw2)
  go_upto_region 3 with (go_at_call 29; go_must (refine h29.mono ?_); rintro e w1 ⟨rv, q, left, rfl, hA⟩; (have HA := Lib.hid hA); clear hA)
  clear h27 h29
  obtain ⟨a4, c4, e4, -, hn4, hc4, p4⟩ := row_shape HA.out.ss.row
  subst e4
  have g1 := gb_trans g0 HA.out.gb
  have h26 := fun W (h : w.grownBy W none) => wakes_5 (hE.kept h)
  have hql : q.length ≤ 9223372036854775807 := by
    unfold maxLen at hc4
    omega
  go_wp2_with fail
  go_loopw [6] (fun x6 wq => ∃ i : Nat, i ≤ q.length ∧ x6 = .int .i64 (i : Int) ∧ w1.grownBy wq none) (fun x6 _ => q.length - (intOf x6).toNat)
  case atStart => exact ⟨0, by omega, rfl, gb_refl _ _⟩
  case round =>
    obtain ⟨i, hi, rfl, hg⟩ := hrel
    obtain ⟨wq, hwq⟩ : ∃ wq, wq = wr := ⟨_, rfl⟩
    subst hwq
    by_cases hlt : i < q.length
    · obtain ⟨t, ht⟩ : ∃ t, q[i]? = some t := ⟨_, List.getElem?_eq_getElem hlt⟩
      obtain ⟨g4, rfl⟩ := p4 (by omega)
      obtain ⟨hcell, hst, hki, hdat⟩ := rt_step HA.out hg ht
      have d1 : decide ((i : Int) < (q.length : Int)) = true := by simp; omega
      have hib : (i : Int) < (q.length : Int) := by omega
      have hw1 : IntKind.i64.wrap ((i : Int) + 1) = (i : Int) + 1 := by rw [IntKind.wrap_i64]; omega
      obtain ⟨⟨c, d, lg, wk, wt, wp, fr, te⟩, ck, cd, cm⟩ := t
      obtain ⟨ka, kc, ek, -, -, -, -⟩ := row_shape hst.keys
      obtain ⟨da, dc, ed, -, -, -, -⟩ := row_shape hst.data
      obtain ⟨ma, mc, em, -, -, -, -⟩ := row_shape hst.mt
      simp only at ek ed em
      subst ek
      subst ed
      subst em
      simp only at hst hki hdat
      have hcl : ∀ j u, ([.int .i64 c.verb, .slice ka c.keys.length kc, .int .u64 c.flags, .int .i64 c.exp, .int .u64 c.tok, .int .u64 c.del, .slice da d.length dc, .bool c.nr, .bool lg, .slice ma c.mt.length mc, sv c.what] : List Value)[j]? = some u → wq.cell? ⟨g4, i * 16 + j, none⟩ = some u := by
        intro j u hu
        have hj := (List.getElem?_eq_some_iff.1 hu).1
        refine hcell j u ?_
        show (([.int .i64 c.verb, .slice ka c.keys.length kc, .int .u64 c.flags, .int .i64 c.exp, .int .u64 c.tok, .int .u64 c.del, .slice da d.length dc, .bool c.nr, .bool lg, .slice ma c.mt.length mc, sv c.what] : List Value) ++ _)[j]? = _
        rw [List.getElem?_append_left hj]
        exact hu
      have b7 : Box (wq.alloc (.cells Z41 41)) 41 wq.heap.size Z41 := Box.new wq 41 _
      have g7 := gb_alloc (gb_refl wq none) (.cells Z41 41)
      have HCE := Lib.hid hcell
      have HST := Lib.hid hst
      have HKI := Lib.hid hki
      have HDA := Lib.hid hdat
      clear hcell hst hki hdat
      go_upto_region 7 with (first
        | (refine atL 41 g4 (i * 16) rfl rfl ?_; go_must (refine loadC rfl _ rfl g4 (i * 16) rfl _ rfl hcl ?_))
        | (refine atS 41 wq.heap.size 0 rfl rfl ?_; go_must (refine storeT 41 11 size41 rfl _ _ rfl 41 wq.heap.size 0 _ b7 (by simp) rfl _ rfl rfl (by simp [Value.oneCell']) ?_); intro w2 b2 hg2; (simp only [sets_41] at b2)))
      clear hcl b7
      have G2 := gb_mine g7 hg2 (by omega)
      rcases HKI.out with ⟨h1, h2, h3, h4⟩ | hto
      · simp only at h1 h2 h3 h4
        subst h1
        subst h2
        subst h3
        have H4 := Lib.hid h4
        clear h4
        have hsg : Sg2 w1 ⟨cmd0 0 false, [], false, wk, wt, wp, fr, te⟩ _ _ _ := HST.out.sg (by simp)
        have h18 : ∀ W, w1.grownBy W none → Calls Tryz.prog 18 #[.agg #[.int .i64 0, .slice ka 0 kc, .int .u64 0, .int .i64 0, .int .u64 0, .int .u64 0, .slice da 0 dc, .bool false, .bool false, .slice ma 0 mc, sv []], .agg #[.int .i64 0, .slice none 0 0, .int .u64 0, .int .i64 0, .int .u64 0, .int .u64 0, .slice none 0 0, .bool false, .bool false, .slice none 0 0, .string ⟨#[]⟩]] W fun e w' => e = .returned (.bool true) ∧ W.grownBy w' none := fun W gW => same_16g (w := W) (cmd0 0 false) [] false (.slice ka 0 kc) (.slice none 0 0) (.slice da 0 dc) (.slice none 0 0) (.slice ma 0 mc) (.slice none 0 0) (hsg.k.kept0 gW) (.inl ⟨rfl, _, _, rfl⟩) (by simp [cmd0]) (hsg.m.kept gW) (.inl ⟨rfl, _, _, rfl⟩) (by simp [cmd0]) (hsg.d.kept0 gW) (.inl ⟨rfl, _, _, rfl⟩)
        have c11 : wq.cell? ⟨g4, i * 16 + 11, none⟩ = some (.int .i64 wk) := HCE.out 11 _ rfl
        have c12 : wq.cell? ⟨g4, i * 16 + 12, none⟩ = some (sv wt) := HCE.out 12 _ rfl
        have c13 : wq.cell? ⟨g4, i * 16 + 13, none⟩ = some (.int .i64 wp) := HCE.out 13 _ rfl
        have h43 := fun W => texts_43 (w := W) H4.out
        have GA := gb_trans hg G2
        clear HCE HST HKI HDA hsg ht p4 hg2 g7 H4 HA HC
        simp only [cmd0, List.length_nil] at b2
        have q0 : w2.cell? ⟨wq.heap.size, 0, none⟩ = some (.int .i64 0) := b2.cell 0
        go_upto_region 8 with fail
        go_wp2_with (first
          | (refine atL 41 wq.heap.size 0 rfl rfl ?_; go_must (refine load41 rfl _ rfl 41 wq.heap.size 0 _ b2 rfl [.int .i64 0, .slice ka 0 kc, .int .u64 0, .int .i64 0, .int .u64 0, .int .u64 0, .slice da 0 dc, .bool false, .bool false, .slice ma 0 mc, sv []] rfl (fun j v hv => by simpa using hv) ?_))
          | (go_at_call 18; go_must ((with_reducible refine (h18 _ GA).mono ?_); rintro e w3 ⟨rfl, g3⟩; (have G3 := gb_trans G2 g3); (have c11 := gb_cellN G3 c11); (have c12 := gb_cellN G3 c12); (have c13 := gb_cellN G3 c13)))
          | (go_at_call 43; go_must ((with_reducible refine (h43 _).mono ?_); rintro e w4 ⟨rfl, g4'⟩)))
        exact ⟨⟨i + 1, by omega, by first | rfl | simp, gb_trans hg (gb_trans G3 g4')⟩, by simp [intOf]; omega⟩
      · clear HKI
        obtain ⟨l, n0, hl, e1, e2, e3, hlg⟩ := hto
        simp only at hl e1 e2 e3 hlg
        subst e1
        subst e2
        subst e3
        obtain ⟨m, hm⟩ : ∃ m : Nat, (m : Int) = max n0 0 := ⟨(max n0 0).toNat, by omega⟩
        have hP := told_P hl hm
        have c11 : w2.cell? ⟨g4, i * 16 + 11, none⟩ = some (.int .i64 0) := gb_cellN G2 (HCE.out 11 _ rfl)
        have c12 : w2.cell? ⟨g4, i * 16 + 12, none⟩ = some (sv []) := gb_cellN G2 (HCE.out 12 _ rfl)
        have c13 : w2.cell? ⟨g4, i * 16 + 13, none⟩ = some (.int .i64 0) := gb_cellN G2 (HCE.out 13 _ rfl)
        have p0 : w2.cell? ⟨wq.heap.size, 0, none⟩ = some (.int .i64 c.verb) := b2.cell 0
        have p1 : w2.cell? ⟨wq.heap.size, 1, none⟩ = some (.slice ka c.keys.length kc) := b2.cell 1
        have p2 : w2.cell? ⟨wq.heap.size, 2, none⟩ = some (.int .u64 c.flags) := b2.cell 2
        have p9 : w2.cell? ⟨wq.heap.size, 9, none⟩ = some (.slice ma c.mt.length mc) := b2.cell 9
        have p10 : w2.cell? ⟨wq.heap.size, 10, none⟩ = some (sv c.what) := b2.cell 10
        have h44 := fun W => counted_44 (w := W) hP.v1 hP.v2 hP.cnt
        have GA := gb_trans (gb_trans g1 hg) G2
        have h39 : Calls Tryz.prog 39 #[.int .i64 c.verb, .slice ma c.mt.length mc] w2 fun e w' => e = .returned (sv []) ∧ w2.grownBy w' none := by
          have := flags_34w c.verb (.slice ma c.mt.length mc) c.mt (fun f hf => by have := hP.fa f hf; omega) (by have := hP.mn; omega) w2 (hE.kept GA) ((fs_row HST.out.mt).kept0 (gb_trans hg G2))
          rw [hP.mt] at this
          exact this
        have d2 : decide (c.verb = 0) = false := decide_eq_false (by have := hP.v1; omega)
        have d2' : ¬ c.verb = 0 := by have := hP.v1; omega
        have d3 : decide ((4294967295 : Int) < (c.flags : Int)) = false := decide_eq_false (by have := hP.fl; omega)
        have d3' : ¬ (4294967295 : Int) < (c.flags : Int) := by have := hP.fl; omega
        have HP := Lib.hid hP
        have HLG := Lib.hid hlg
        have HL := Lib.hid hl
        have HM := Lib.hid hm
        have BB := Lib.hid b2
        clear hP hlg hl hm b2
        go_upto_region 10 with fail
        go_cut [88] from 36 to 88 (fun v wd => v = .bool false ∧ w2.grownBy wd none)
        case first =>
          go_wp2_with (first
            | (go_at_call 44; go_must ((with_reducible refine (h44 _).mono ?_); rintro e w3 ⟨rfl, hw3⟩; have hw4 := hw3.symm; subst hw4))
            | (go_at_call 39; go_must ((with_reducible refine h39.mono ?_); rintro e w3 ⟨rfl, g3⟩; (have p10 := gb_cellN g3 p10); (have p0 := gb_cellN g3 p0))))
          all_goals go_meet
          · rename_i hw
            have h19 := HP.out.what (by intro h; rw [h] at hw; simp at hw)
            exact ⟨by rw [h19]; rfl, g3⟩
          · exact ⟨rfl, g3⟩
        case rest =>
          obtain ⟨rfl, g3⟩ := hcut
          obtain ⟨w3, hw3⟩ : ∃ w3, w3 = wc := ⟨_, rfl⟩
          subst hw3
          have G3 := gb_trans G2 g3
          have p1' := gb_cellN g3 p1
          clear c11 c12 c13 p0 p1 p2 p9 p10 h44 h39 d2 d2' d3 d3' GA
          have hkn := HP.out.kn
          go_upto_block 2 with fail
          go_cut [8] from 89 to 102 (fun v wd => wd = w3)
          case first =>
            have HK : Hid (∀ k x, c.keys[k]? = some x → ∃ gk, ka = some ⟨gk, 0, none⟩ ∧ w3.cell? ⟨gk, k, none⟩ = some (sv x)) := by
              show ∀ k x, _
              intro k x hx
              have hr := HST.out.keys
              obtain ⟨a, cc, e, -, -, -, pk⟩ := row_shape hr
              have hkl := (List.getElem?_eq_some_iff.1 hx).1
              obtain ⟨gk, rfl⟩ := pk (by show 0 < c.keys.length; omega)
              injection e with e1 _ _
              refine ⟨gk, e1, ?_⟩
              subst e1
              refine gb_cellN (gb_trans hg G3) (row_cell hr k (sv x) ?_)
              show (c.keys.map sv)[k]? = _
              rw [List.getElem?_map, hx]
              rfl
            clear HA HST HDA HL HM HLG HCE BB
            go_wp2_with fail
            go_loopw [8] (fun x8 wd => ∃ k : Nat, k ≤ c.keys.length ∧ x8 = .int .i64 (k : Int) ∧ wd = w3) (fun x8 _ => c.keys.length - (intOf x8).toNat)
            case atStart => exact ⟨0, by omega, rfl, rfl⟩
            case round =>
              obtain ⟨k, hk, rfl, hwd⟩ := hrel
              subst hwd
              by_cases hkl : k < c.keys.length
              · obtain ⟨x, hx⟩ : ∃ x, c.keys[k]? = some x := ⟨_, List.getElem?_eq_getElem hkl⟩
                obtain ⟨gk, e1, hcx⟩ := HK.out k x hx
                subst e1
                have h45 := fun W => keyed_45 (w := W) (HP.out.keys x (List.mem_of_getElem? hx))
                have e5 : decide ((k : Int) < (c.keys.length : Int)) = true := by simp; omega
                have e6 : (k : Int) < (c.keys.length : Int) := by omega
                have e7 : IntKind.i64.wrap ((k : Int) + 1) = (k : Int) + 1 := by rw [IntKind.wrap_i64]; omega
                clear HK HP
                generalize c.keys.length = nk at *
                go_wp2_with (go_at_call 45; go_must ((with_reducible refine (h45 _).mono ?_); rintro e w5 ⟨rfl, hw5⟩; have hw6 := hw5.symm; subst hw6))
                exact ⟨⟨k + 1, by omega, by first | rfl | simp, by first | rfl | trivial⟩, by simp [intOf]; omega⟩
              · obtain rfl : k = c.keys.length := by omega
                have e5 : decide ((c.keys.length : Int) < (c.keys.length : Int)) = false := by simp
                clear HK HP
                go_wp2_with fail
                go_meet
                rfl
          case rest =>
            have hcs := hcut.symm
            clear hcut
            subst hcs
            have B3 := BB.out.kept g3 (by simp)
            have BB3 := Lib.hid B3
            have p8 : w3.cell? ⟨wq.heap.size, 8, none⟩ = some (.bool lg) := B3.cell 8
            have p6 : w3.cell? ⟨wq.heap.size, 6, none⟩ = some (.slice da d.length dc) := B3.cell 6
            have p0 : w3.cell? ⟨wq.heap.size, 0, none⟩ = some (.int .i64 c.verb) := B3.cell 0
            clear B3 BB p1'
            rcases HLG.out with ⟨rfl, rfl, hn0⟩ | ⟨rfl, hdn⟩
            · have hb : c.verb = 21 ∨ (5 ≤ c.verb ∧ c.verb ≤ 10) := by
                have v1 := HP.out.v1
                have v2 := HP.out.v2
                have hv : c.verb = (((c.verb - 1).toNat : Nat) : Int) + 1 := by omega
                have h1 := (told_may HL.out (by omega) hv HM.out).2.1 hn0
                have h2 : ∀ j, j < 24 → (dr j).block = true → j = 20 ∨ (4 ≤ j ∧ j ≤ 9) := by decide
                have := h2 _ (by omega) h1
                omega
              clear HA HST HDA HL HM HLG HCE HP BB3
              simp only [List.length_nil] at p6
              rcases hb with hb | ⟨hb1, hb2⟩
              · rw [hb] at p0
                go_wp2_with fail
                exact ⟨⟨i + 1, by omega, by first | rfl | simp, gb_trans hg G3⟩, by simp [intOf]; omega⟩
              · have e1 : decide (c.verb < 5) = false := decide_eq_false (by omega)
                have e2 : ¬ c.verb < 5 := by omega
                have e3 : decide (10 < c.verb) = false := decide_eq_false (by omega)
                have e4 : ¬ 10 < c.verb := by omega
                have e5 : ¬ c.verb = 21 := by omega
                have e6 : decide (c.verb = 21) = false := decide_eq_false (by omega)
                go_wp2_with fail
                exact ⟨⟨i + 1, by omega, by first | rfl | simp, gb_trans hg G3⟩, by simp [intOf]; omega⟩
            · have GQ := gb_trans hg G3
              have G4 := gb_trans g1 GQ
              have hmay := told_mayX HL.out hdn (.slice ka c.keys.length kc) (.slice da d.length dc) (.slice ma c.mt.length mc)
              have hdl : d.length ≤ 65536 := by
                rcases HDA.out with h0 | ⟨h1, h2, -⟩
                · simp only at h0
                  rw [h0]; simp
                · simp only at h1 h2
                  omega
              have hmm : m = d.length := by have := HM.out; omega
              subst hmm
              have hsg : Sg2 w1 ⟨c, d, false, 0, [], 0, fr, te⟩ (.slice ka c.keys.length kc) (.slice da d.length dc) (.slice ma c.mt.length mc) := HST.out.sg hdl
              have hok : CiOk w3 ⟨c, d, false, .slice ka c.keys.length kc, .slice da d.length dc, .slice ma c.mt.length mc⟩ :=
                ⟨hsg.k.kept0 GQ, .inl ((ck_own (X := fun _ => False) HST.out.data (fun _ _ h => h)).kept0 GQ), hsg.m.kept GQ, HP.out.r, by have := HP.out.fl; show c.flags ≤ _; omega, by have := HP.out.v2; show c.verb ≤ _; omega, by have := HP.out.v1; show _ ≤ c.verb; omega, by show d.length ≤ _; omega, by have := HP.out.kn; show c.keys.length ≤ _; omega, by have := HP.out.mn; show c.mt.length ≤ _; omega, fun k hk => by have := (HP.out.keys k hk).2.1; omega, fun f hf => by have := HP.out.fa f hf; omega⟩
              obtain ⟨L, hL⟩ : ∃ L, bsX ⟨c, d, false, .slice ka c.keys.length kc, .slice da d.length dc, .slice ma c.mt.length mc⟩ = L := ⟨_, rfl⟩
              have h35 := wbytes_x (hE.kept G4) (hp.kept G4) hok (by have := HP.out.kn; show c.keys.length ≤ _; omega) (by have := HP.out.mn; show c.mt.length ≤ _; omega) (fun f hf => by have := HP.out.fa f hf; omega) HP.out.ln (en := 0) (by simp [hmay]) hL
              have HMAY := Lib.hid hmay
              have HLL := Lib.hid hL
              have HOK := Lib.hid hok
              have HSG := Lib.hid hsg
              clear hmay hL hok hsg HLG hdn
              go_upto_region 21 with (first
                | (refine atL 41 wq.heap.size 0 rfl rfl ?_; go_must (refine load41 rfl _ rfl 41 wq.heap.size 0 _ BB3.out rfl [.int .i64 c.verb, .slice ka c.keys.length kc, .int .u64 c.flags, .int .i64 c.exp, .int .u64 c.tok, .int .u64 c.del, .slice da d.length dc, .bool c.nr, .bool false, .slice ma c.mt.length mc, sv c.what] rfl (fun j v hv => by simpa using hv) ?_))
                | (go_at_call 35; go_must (refine h35.mono ?_); rintro e w5 ⟨g5, va, vn, vc, rfl, ho⟩; (have HO := Lib.hid ho); clear ho))
              clear h35
              have hvn : vn = L.length := HO.out.len
              have h29 : Calls Tryz.prog 29 #[.slice va vn vc, .int .i64 (d.length : Int)] w5 fun e w' => ∃ g c2 ck cd cm, e = .returned (.tuple #[.slice (some ⟨g, 0, none⟩) 1 c2, .int .i64 0]) ∧ w5.grownBy w' none ∧ (∀ j u, (stc c ck cd cm 0 (vn : Int)).toList[j]? = some u → w'.cell? ⟨g, j, none⟩ = some u) ∧ Sg2 w' (stpX ⟨c, d, false, .slice ka c.keys.length kc, .slice da d.length dc, .slice ma c.mt.length mc⟩ 0) ck cd cm := by
                have := all_x (hE.kept (gb_trans G4 g5)) HMAY.out HOK.out.r hdl (by rw [HLL.out]; exact HO.out.ck (fun _ _ h => h))
                rw [HLL.out, ← hvn] at this
                exact this
              have p6' := gb_cellN g5 p6
              have HVN := Lib.hid hvn
              clear hvn p6 p8 p0
              go_upto_region 22 with (go_at_call 29; go_must (with_reducible refine h29.mono ?_); rintro e w6 ⟨g6, c6, ck, cd, cm, rfl, gw6, hcs, hsg6⟩; (have HCS := Lib.hid (And.intro hcs hsg6)); clear hcs hsg6)
              clear h29
              obtain ⟨hcs, hsg6⟩ := HCS.out
              have GW6 := gb_trans g5 gw6
              have H18 : Hid (∀ W, w6.grownBy W none → Calls Tryz.prog 18 #[.agg #[.int .i64 c.verb, ck, .int .u64 c.flags, .int .i64 c.exp, .int .u64 c.tok, .int .u64 c.del, cd, .bool c.nr, .bool false, cm, sv c.what], .agg #[.int .i64 c.verb, .slice ka c.keys.length kc, .int .u64 c.flags, .int .i64 c.exp, .int .u64 c.tok, .int .u64 c.del, .slice da d.length dc, .bool c.nr, .bool false, .slice ma c.mt.length mc, sv c.what]] W fun e w' => e = .returned (.bool true) ∧ W.grownBy w' none) := by
                intro W gW
                have gq := gb_trans (gb_trans GQ GW6) gW
                exact same_16g (w := W) c d false ck (.slice ka c.keys.length kc) cd (.slice da d.length dc) cm (.slice ma c.mt.length mc) (hsg6.k.kept0 gW) (HSG.out.k.kept0 gq) hsg6.kn (hsg6.m.kept gW) (HSG.out.m.kept gq) hsg6.mn (hsg6.d.kept0 gW) (HSG.out.d.kept0 gq)
              have hnum := fun (W : World) => num_4 0 W
              clear hsg6
              go_cut [157] from 137 to 157 (fun v wd => v = .bool false ∧ w6.grownBy wd none)
              case first =>
                have q0 : w6.cell? ⟨g6, 0, none⟩ = some (.int .i64 c.verb) := hcs 0 _ rfl
                have q1 : w6.cell? ⟨g6, 1, none⟩ = some (ck) := hcs 1 _ rfl
                have q2 : w6.cell? ⟨g6, 2, none⟩ = some (.int .u64 c.flags) := hcs 2 _ rfl
                have q3 : w6.cell? ⟨g6, 3, none⟩ = some (.int .i64 c.exp) := hcs 3 _ rfl
                have q4 : w6.cell? ⟨g6, 4, none⟩ = some (.int .u64 c.tok) := hcs 4 _ rfl
                have q5 : w6.cell? ⟨g6, 5, none⟩ = some (.int .u64 c.del) := hcs 5 _ rfl
                have q6 : w6.cell? ⟨g6, 6, none⟩ = some (cd) := hcs 6 _ rfl
                have q7 : w6.cell? ⟨g6, 7, none⟩ = some (.bool c.nr) := hcs 7 _ rfl
                have q8 : w6.cell? ⟨g6, 8, none⟩ = some (.bool false) := hcs 8 _ rfl
                have q9 : w6.cell? ⟨g6, 9, none⟩ = some (cm) := hcs 9 _ rfl
                have q10 : w6.cell? ⟨g6, 10, none⟩ = some (sv c.what) := hcs 10 _ rfl
                have r0 : w6.cell? ⟨wq.heap.size, 0, none⟩ = some (.int .i64 c.verb) := gb_cellN GW6 (BB3.out.cell 0)
                have r1 : w6.cell? ⟨wq.heap.size, 1, none⟩ = some (.slice ka c.keys.length kc) := gb_cellN GW6 (BB3.out.cell 1)
                have r2 : w6.cell? ⟨wq.heap.size, 2, none⟩ = some (.int .u64 c.flags) := gb_cellN GW6 (BB3.out.cell 2)
                have r3 : w6.cell? ⟨wq.heap.size, 3, none⟩ = some (.int .i64 c.exp) := gb_cellN GW6 (BB3.out.cell 3)
                have r4 : w6.cell? ⟨wq.heap.size, 4, none⟩ = some (.int .u64 c.tok) := gb_cellN GW6 (BB3.out.cell 4)
                have r5 : w6.cell? ⟨wq.heap.size, 5, none⟩ = some (.int .u64 c.del) := gb_cellN GW6 (BB3.out.cell 5)
                have r6 : w6.cell? ⟨wq.heap.size, 6, none⟩ = some (.slice da d.length dc) := gb_cellN GW6 (BB3.out.cell 6)
                have r7 : w6.cell? ⟨wq.heap.size, 7, none⟩ = some (.bool c.nr) := gb_cellN GW6 (BB3.out.cell 7)
                have r8 : w6.cell? ⟨wq.heap.size, 8, none⟩ = some (.bool false) := gb_cellN GW6 (BB3.out.cell 8)
                have r9 : w6.cell? ⟨wq.heap.size, 9, none⟩ = some (.slice ma c.mt.length mc) := gb_cellN GW6 (BB3.out.cell 9)
                have r10 : w6.cell? ⟨wq.heap.size, 10, none⟩ = some (sv c.what) := gb_cellN GW6 (BB3.out.cell 10)
                clear hcs HCS HA HST HDA HL HM HCE HP BB3 HOK HMAY HLL HSG HO HVN p6' HC
                go_region_held3 (fun W : World => W.cell? ⟨g6, 0, none⟩ = some (.int .i64 c.verb) ∧ W.cell? ⟨g6, 1, none⟩ = some (ck) ∧ W.cell? ⟨g6, 2, none⟩ = some (.int .u64 c.flags) ∧ W.cell? ⟨g6, 3, none⟩ = some (.int .i64 c.exp) ∧ W.cell? ⟨g6, 4, none⟩ = some (.int .u64 c.tok) ∧ W.cell? ⟨g6, 5, none⟩ = some (.int .u64 c.del) ∧ W.cell? ⟨g6, 6, none⟩ = some (cd) ∧ W.cell? ⟨g6, 7, none⟩ = some (.bool c.nr) ∧ W.cell? ⟨g6, 8, none⟩ = some (.bool false) ∧ W.cell? ⟨g6, 9, none⟩ = some (cm) ∧ W.cell? ⟨g6, 10, none⟩ = some (sv c.what) ∧ W.cell? ⟨wq.heap.size, 0, none⟩ = some (.int .i64 c.verb) ∧ W.cell? ⟨wq.heap.size, 1, none⟩ = some (.slice ka c.keys.length kc) ∧ W.cell? ⟨wq.heap.size, 2, none⟩ = some (.int .u64 c.flags) ∧ W.cell? ⟨wq.heap.size, 3, none⟩ = some (.int .i64 c.exp) ∧ W.cell? ⟨wq.heap.size, 4, none⟩ = some (.int .u64 c.tok) ∧ W.cell? ⟨wq.heap.size, 5, none⟩ = some (.int .u64 c.del) ∧ W.cell? ⟨wq.heap.size, 6, none⟩ = some (.slice da d.length dc) ∧ W.cell? ⟨wq.heap.size, 7, none⟩ = some (.bool c.nr) ∧ W.cell? ⟨wq.heap.size, 8, none⟩ = some (.bool false) ∧ W.cell? ⟨wq.heap.size, 9, none⟩ = some (.slice ma c.mt.length mc) ∧ W.cell? ⟨wq.heap.size, 10, none⟩ = some (sv c.what)) (go_keep) (first | (go_at_call 36; go_must ((with_reducible refine (hnum _).mono ?_); rintro y w8 ⟨rfl, hw8⟩; have hw8s := hw8.symm; subst hw8s)) | (go_at_call 18; go_must ((with_reducible refine (H18.out _ (gb_drew (gb_refl _ _))).mono ?_); rintro y w9 ⟨rfl, g9⟩; (have G9 : w6.grownBy w9 none := gb_trans (gb_drew (gb_refl _ _)) g9); (have s0 := gb_cellN G9 q0); (have s1 := gb_cellN G9 q1); (have s2 := gb_cellN G9 q2); (have s3 := gb_cellN G9 q3); (have s4 := gb_cellN G9 q4); (have s5 := gb_cellN G9 q5); (have s6 := gb_cellN G9 q6); (have s7 := gb_cellN G9 q7); (have s8 := gb_cellN G9 q8); (have s9 := gb_cellN G9 q9); (have s10 := gb_cellN G9 q10); (have u0 := gb_cellN G9 r0); (have u1 := gb_cellN G9 r1); (have u2 := gb_cellN G9 r2); (have u3 := gb_cellN G9 r3); (have u4 := gb_cellN G9 r4); (have u5 := gb_cellN G9 r5); (have u6 := gb_cellN G9 r6); (have u7 := gb_cellN G9 r7); (have u8 := gb_cellN G9 r8); (have u9 := gb_cellN G9 r9); (have u10 := gb_cellN G9 r10))))
                all_goals
                  go_wp2_with fail
                  go_meet
                  exact ⟨rfl, G9⟩
              case rest =>
                obtain ⟨rfl, g7⟩ := hcut
                obtain ⟨w7, hw7⟩ : ∃ w7, w7 = wc := ⟨_, rfl⟩
                subst hw7
                have GW7 := gb_trans GW6 g7
                have p6 : w7.cell? ⟨wq.heap.size, 6, none⟩ = some (.slice da d.length dc) := gb_cellN GW7 (BB3.out.cell 6)
                have hck7 := HC.out.kept0 (gb_trans G4 GW7)
                have hcd7 : Ck w7 (fun _ => False) (.slice da d.length dc) d := (ck_own (X := fun _ => False) HST.out.data (fun _ _ h => h)).kept0 (gb_trans GQ GW7)
                have c15 : w7.cell? ⟨g4, i * 16 + 15, none⟩ = some (.int .i64 (te : Int)) := gb_cellN (gb_trans G3 GW7) (HCE.out 15 _ rfl)
                have hend : w1.grownBy w7 none := gb_trans GQ GW7
                clear hcs HCS H18 hnum p6' BB3 HOK HMAY HLL HSG HO HVN HA HST HCE HL HM HP
                rcases HDA.out with h0 | ⟨h1, h2, h3⟩
                · simp only at h0
                  subst h0
                  simp only [List.length_nil] at p6
                  clear HDA hck7 hcd7
                  go_upto_region 24 with fail
                  go_quiet (fail)
                  go_wp2_with fail
                  exact ⟨⟨i + 1, by omega, by first | rfl | simp, gb_drewN hend _⟩, by simp [intOf]; omega⟩
                · simp only at h1 h2 h3
                  clear HDA
                  obtain ⟨lo, hlo⟩ : ∃ lo : Nat, te = lo + d.length + 2 := ⟨te - d.length - 2, by omega⟩
                  by_cases hd0 : d.length = 0
                  · have hdn : d = [] := List.length_eq_zero_iff.1 hd0
                    subst hdn
                    simp only [List.length_nil] at p6
                    clear hck7 hcd7 hd0 hlo h1 h2 h3
                    go_upto_region 24 with fail
                    go_quiet (fail)
                    go_wp2_with fail
                    exact ⟨⟨i + 1, by omega, by first | rfl | simp, gb_drewN hend _⟩, by simp [intOf]; omega⟩
                  rw [show te - 2 - d.length = lo by omega] at h3
                  have hcut := hck7.cutA lo d.length (by omega)
                  rw [h3] at hcut
                  rcases hck7 with ⟨hb0, -⟩ | ⟨gr, ro, rc', er, hle, -, -, -, -⟩
                  · rw [hb0] at h1
                    simp at h1
                    omega
                  injection er with er1 er2 er3
                  subst er1
                  subst er3
                  simp only [Option.map_some, Addr.add_mid] at hcut
                  have h37 := fun (W : World) (gW : w7.grownBy W none) => eq_35 (hcd7.kept0 gW) (hcut.kept0 gW)
                  obtain ⟨nd, hnd⟩ : ∃ nd, d.length = nd := ⟨_, rfl⟩
                  simp only [hnd] at p6 hlo h37 hd0
                  have bdl : b.length ≤ 65536 := htl
                  rw [hnd] at h2
                  clear hcd7 h3 hcut hnd
                  have e1 : IntKind.i64.wrap ((te : Int) - 2) = (lo : Int) + (nd : Int) := by rw [IntKind.wrap_i64]; omega
                  have e2 : IntKind.i64.wrap ((lo : Int) + (nd : Int) - (nd : Int)) = (lo : Int) := by rw [IntKind.wrap_i64]; omega
                  have e3 : IntKind.i64.wrap (lo : Int) = (lo : Int) := by rw [IntKind.wrap_i64]; omega
                  have e4 : decide ((0 : Int) < (nd : Int)) = true := by simp; omega
                  have e5 : (0 : Int) < (nd : Int) := by omega
                  have e10 : 0 < nd := by omega
                  have e11 : decide (0 < nd) = true := by simp; omega
                  have e6 : (lo : Int) + (nd : Int) ≤ (rc : Int) := by omega
                  have e7 : (lo : Int) ≤ (lo : Int) + (nd : Int) := by omega
                  have e8 : ¬ rc = lo := by omega
                  have e9 : ¬ (lo : Int) < 0 := by omega
                  clear h1 h2 hlo
                  go_upto_region 24 with fail
                  go_quiet ((go_at_call 37; exact Calls.quiet_of_same (h37 _ (by first | exact gb_refl _ _ | exact gb_drewN (gb_refl _ _) _ | exact gb_drew (gb_refl _ _)))))
                  go_wp2_with fail
                  exact ⟨⟨i + 1, by omega, by first | rfl | simp, gb_drewN hend _⟩, by simp [intOf]; omega⟩
    · obtain rfl : i = q.length := by omega
      have d1 : decide ((q.length : Int) < (q.length : Int)) = false := by simp
      clear p4
      go_wp2_with (go_at_call 26; go_must ((with_reducible refine (h26 _ (gb_trans g1 hg)).mono ?_); rintro e w7 ⟨rfl, hg7⟩))
      go_ret
      exact ⟨rfl, gb_trans (gb_trans g1 hg) hg7⟩
end Go.Proofs.YtbbocbdoiealoaaGreatDoor
