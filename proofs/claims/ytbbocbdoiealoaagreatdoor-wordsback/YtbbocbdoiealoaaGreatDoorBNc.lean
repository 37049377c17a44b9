import Derived.Deep.CutRange
import Derived.Deep.CutBlock
import Derived.Deep.RegionLaw
import Derived.Test.YtbbocbdoiealoaaGreatDoorBPbx
set_option linter.unusedVariables false
set_option linter.unusedSimpArgs false
namespace Go.Proofs.YtbbocbdoiealoaaGreatDoor
open Go.RowKit Go.Maps
attribute [local go_sem] Oper.semAt_some
def bgX (rs : List CI) (i : Nat) : Nat := if i = 0 then 0 else ((endX 0 rs)[i - 1]?).getD 0
theorem bgX_get {rs : List CI} {i : Nat} {x : CI} (h : rs[i]? = some x) : (stsX 0 rs)[i]? = some (stpX x (bgX rs i)) ∧ (endX 0 rs)[i]? = some (bgX rs i + (bsX x).length) ∧ bgX rs (i + 1) = bgX rs i + (bsX x).length := by
  obtain ⟨b, h1, h2, h3, h4⟩ := stsX_get rs 0 i x h
  have hb : bgX rs i = b := by
    unfold bgX
    rcases Nat.eq_zero_or_pos i with h0 | h0
    · rw [if_pos h0, h3 h0]
    · rw [if_neg (by omega), h4 (i - 1) (by omega)]
      rfl
  rw [hb]
  refine ⟨h1, h2, ?_⟩
  unfold bgX
  rw [if_neg (by omega), Nat.add_sub_cancel, h2]
  rfl
theorem ci_get : ∀ (l : List CI) (k : Nat) (x : CI) (j : Nat), l[k]? = some x → j < 11 → (l.flatMap ciL)[k * 11 + j]? = (ciL x)[j]?
  | [], k, x, j, h, _ => by simp at h
  | y :: l, 0, x, j, h, hj => by
    simp at h
    subst h
    rw [List.flatMap_cons, List.getElem?_append_left (by simpa using hj)]
    congr 1
    omega
  | y :: l, k + 1, x, j, h, hj => by
    have h' : l[k]? = some x := by simpa using h
    rw [List.flatMap_cons, List.getElem?_append_right (by simp; omega)]
    rw [← ci_get l k x j h' hj]
    congr 1
    simp
    omega
structure Wk2 (w : World) (rs : List CI) (a3 a4 a5 : Nat) (i : Nat) (x : CI) (ck cd cm : Value) (wr : World) : Prop where
  c12 : ∀ j u, (stc x.c ck cd cm (bgX rs i : Int) ((bgX rs i + (bsX x).length : Nat) : Int)).toList[j]? = some u → wr.cell? ⟨a3, i * 16 + j, none⟩ = some u
  c4 : ∀ j u, (ciL x)[j]? = some u → wr.cell? ⟨a4, i * 11 + j, none⟩ = some u
  c5 : wr.cell? ⟨a5, i, none⟩ = some (.int .i64 ((bgX rs i + (bsX x).length : Nat) : Int))
  sg : Sg2 wr (stpX x (bgX rs i)) ck cd cm
  sg' : Sg2 wr (stpX x (bgX rs i)) x.kv x.dv x.mv
  lg : x.lg = false
theorem Wk2.of {w wr w1 wq : World} {rs : List CI} {lim L : Nat} {q : List Tld} {left : Int} {x3 : Value} {a12 a4 a5 c12 c4 c5 n12 n4 n5 : Nat} (h : WkI w wr rs lim x3 (.slice (some ⟨a4, 0, none⟩) n4 c4) (.slice (some ⟨a5, 0, none⟩) n5 c5)) (hA : AlR wr L (rawX rs) q (.slice (some ⟨a12, 0, none⟩) n12 c12) left w1) (hs : q.map Tld.s = stsX 0 rs) (hg : w1.grownBy wq none) {i : Nat} {x : CI} (hx : rs[i]? = some x) :
    ∃ ck cd cm, Wk2 w rs a12 a4 a5 i x ck cd cm wq := by
  obtain ⟨hm, hok, hd⟩ := h.ok x (List.mem_of_getElem? hx)
  obtain ⟨b1, b2, b3⟩ := bgX_get hx
  have hlm := h.lm
  have hi := (List.getElem?_eq_some_iff.1 hx).1
  have hql : q.length = rs.length := by have := congrArg List.length hs; simpa [stsX_len] using this
  obtain ⟨t, ht⟩ : ∃ t, q[i]? = some t := ⟨_, List.getElem?_eq_getElem (by omega)⟩
  have es : t.s = stpX x (bgX rs i) := by
    have : (q.map Tld.s)[i]? = some t.s := by rw [List.getElem?_map, ht]; rfl
    rw [hs, b1] at this
    exact (Option.some.inj this).symm
  have g1 := gb_trans hA.gb hg
  have hst := hA.ss.all t (List.mem_of_getElem? ht)
  have n12' : n12 = q.length := by
    obtain ⟨_, _, e, _⟩ := row_shape hA.ss.row
    injection e
  have n4' : n4 = rs.length := by
    obtain ⟨_, _, e, _⟩ := row_shape h.r4
    injection e
  have n5' : n5 = rs.length := by
    obtain ⟨_, _, e, _⟩ := row_shape h.r5
    injection e
  subst n12' n4' n5'
  refine ⟨t.ck, t.cd, t.cm, fun j u hu => ?_, fun j u hu => ?_, ?_, ?_, hok.sg (gb_trans h.gb g1) (by omega) _, mayX_lg hm⟩
  · refine gb_cellN hg (row_cell hA.ss.row _ u ?_)
    have hj := (List.getElem?_eq_some_iff.1 hu).1
    rw [tl_get q i t j ht (by simpa using hj)]
    show (stpL t.s t.ck t.cd t.cm)[j]? = _
    rw [es]
    exact hu
  · refine gb_cellN g1 (row_cell h.r4 _ u ?_)
    have hj := (List.getElem?_eq_some_iff.1 hu).1
    rw [ci_get rs i x j hx (by simpa using hj)]
    exact hu
  · refine gb_cellN g1 (row_cell h.r5 _ _ ?_)
    rw [List.getElem?_map, b2]
    rfl
  · rw [es] at hst
    exact (hst.sg (by show x.d.length ≤ _; omega)).kept0 hg
set_option maxRecDepth 100000 in
set_option maxHeartbeats 16000000 in
theorem wback_7 {w : World} (hE : Er w) (hp : Pw w) {ca : Option Addr} {cc : Nat} {cs : List CI} (hc : Cms w (.slice ca cs.length cc) cs) (hk : ∀ x ∈ cs, CbOk w x) :
    Calls Tryz.prog 7 #[.slice ca cs.length cc] w fun e w' => e = .returned (.bool true) ∧ w.grownBy w' none := by
  have hlen := hc.len
  obtain ⟨N, hN⟩ : ∃ N, cs.length = N := ⟨_, rfl⟩
  rw [hN] at hlen ⊢
  have HC := Lib.hid hc
  have HK := Lib.hid hk
  have HN := Lib.hid hN
  clear hc hk hN
  go_enter Tryz.func7, Tryz.ntmps7
  go_upto_block 0 with fail
  go_cut [3, 4, 5, 6] from 7 to 112 (fun x3 x4 x5 x6 wd => ∃ (rs : List CI) (lim : Nat), rs.length ≤ 60 ∧ x6 = .int .i64 (lim : Int) ∧ WkI w wd rs lim x3 x4 x5 ∧ ∀ x ∈ rs.dropLast, x.c.verb ≠ 18)
  case first =>
    go_wp2_with fail
    go_loopw [3, 4, 5, 6, 7] (fun x3 x4 x5 x6 x7 wr => ∃ (k : Nat) (rs : List CI) (lim : Nat), k ≤ N ∧ k ≤ 60 ∧ rs.length ≤ k ∧ x7 = .int .i64 (k : Int) ∧ x6 = .int .i64 (lim : Int) ∧ WkI w wr rs lim x3 x4 x5 ∧ ∀ x ∈ rs, x.c.verb ≠ 18) (fun _ _ _ _ x7 _ => N - (intOf x7).toNat)
    case atStart => exact ⟨0, [], 0, by omega, by omega, by simp, rfl, rfl, WkI.start w, fun _ h => by cases h⟩
    case round =>
      obtain ⟨k, rs, lim, hk1, hk2, hrk, rfl, rfl, hI, hnq⟩ := hrel
      obtain ⟨a3, c3, e3, -, -, -, -⟩ := row_shape hI.r3
      obtain ⟨a4, c4, e4, -, -, -, -⟩ := row_shape hI.r4
      obtain ⟨a5, c5, e5, -, -, -, -⟩ := row_shape hI.r5
      subst e3
      subst e4
      subst e5
      by_cases hlt : k < N ∧ k < 60
      · obtain ⟨x, hx⟩ : ∃ x, cs[k]? = some x := ⟨_, List.getElem?_eq_getElem (by rw [HN.out]; exact hlt.1)⟩
        have hxk := HK.out x (List.mem_of_getElem? hx)
        obtain ⟨g, o, c, e, hcell⟩ := HC.out.cell k x hx
        injection e with e1 _ e3
        subst e1
        subst e3
        have hcr := fun j u hu => gb_cellN hI.gb (hcell j u hu)
        obtain ⟨da, dc, hdv⟩ := hxk.ok.dsl
        have d1 : decide ((k : Int) < (N : Int)) = true := by simp; omega
        have d2 : decide ((k : Int) < 60) = true := by simp; omega
        have hib : (k : Int) < (N : Int) := by omega
        have hw1 : IntKind.i64.wrap ((k : Int) + 1) = (k : Int) + 1 := by rw [IntKind.wrap_i64]; omega
        obtain ⟨en, hen⟩ : ∃ en : Int, (if mayX x then (0 : Int) else 7) = en := ⟨_, rfl⟩
        obtain ⟨L, hL⟩ : ∃ L, bsX x = L := ⟨_, rfl⟩
        have h35 := wbytes_x (hE.kept hI.gb) (hp.kept hI.gb) (hxk.ok.kept hI.gb) hxk.kn hxk.mn hxk.fl hxk.ln hen hL
        obtain ⟨ka, kn, kc, hkv⟩ := hxk.ok.k.shape
        obtain ⟨ma, mn, mc, hmv⟩ := hxk.ok.m.shape
        have hdx := hdv
        obtain ⟨xc, xd, xlg, xkv, xdv, xmv⟩ := x
        simp only at hdv hkv hmv
        subst hdv
        subst hkv
        subst hmv
        have HX := Lib.hid hxk
        have HCELL := Lib.hid hcell
        have HI := Lib.hid hI
        have HNQ := Lib.hid hnq
        have HL := Lib.hid hL
        clear hxk hcell hx hnq hL hdx HC HK HN
        obtain ⟨n3, hn3⟩ : ∃ n3, (rawX rs).length = n3 := ⟨_, rfl⟩
        have HN3 := Lib.hid hn3
        rw [hn3]
        clear hn3
        go_upto_region 9 with (first
          | (refine atL 41 g (o + k * 11) rfl rfl ?_; go_must (refine loadC rfl _ rfl g (o + k * 11) rfl _ rfl hcr ?_))
          | (go_at_call 35; go_must (refine h35.mono ?_); rintro e w1 ⟨g1, va, vn, vc, rfl, ho⟩; (have HO := Lib.hid ho); clear ho))
        clear h35 hcr
        have G1 := gb_trans HI.out.gb g1
        have p6 : w1.cell? ⟨g, o + k * 11 + 6, none⟩ = some (.slice da xd.length dc) := gb_cellN G1 (HCELL.out 6 _ rfl)
        have hnum := fun (z : Int) (W : World) => num_4 z W
        have HS : Hid (WkI w w1 rs lim (.slice a3 n3 c3) (.slice a4 rs.length c4) (.slice a5 rs.length c5)) := by
          show WkI _ _ _ _ _ _ _
          have := hI.skip g1
          rw [HN3.out] at this
          exact this
        clear hI HI
        cases hmay : mayX ⟨xc, xd, xlg, .slice ka kn kc, .slice da xd.length dc, .slice ma mn mc⟩ with
        | false =>
          have he7 : en = 7 := by rw [← hen, hmay]; rfl
          subst he7
          clear hen
          go_wp2_with (go_at_call 36; go_must (refine (hnum 7 _).mono ?_); rintro e w2 ⟨rfl, hw2⟩; have hw3 := hw2.symm; subst hw3)
          exact ⟨⟨k + 1, rs, lim, by omega, by omega, by omega, by first | rfl | simp, rfl, HS.out, HNQ.out⟩, by simp [intOf]; omega⟩
        | true =>
          have he0 : en = 0 := by rw [← hen, hmay]; rfl
          subst he0
          clear hen
          by_cases hd : xd.length ≤ 65536
          · have d3 : decide ((65536 : Int) < (xd.length : Int)) = false := by simp; omega
            have hlg : xlg = false := mayX_lg hmay
            subst hlg
            have hvn : vn = L.length := HO.out.len
            have h29 : Calls Tryz.prog 29 #[.slice va vn vc, .int .i64 (xd.length : Int)] w1 fun e w' => ∃ g c ck cd cm, e = .returned (.tuple #[.slice (some ⟨g, 0, none⟩) 1 c, .int .i64 0]) ∧ w1.grownBy w' none ∧ (∀ j u, (stc xc ck cd cm 0 (vn : Int)).toList[j]? = some u → w'.cell? ⟨g, j, none⟩ = some u) ∧ Sg2 w' (stpX ⟨xc, xd, false, .slice ka kn kc, .slice da xd.length dc, .slice ma mn mc⟩ 0) ck cd cm := by
              have := all_x (hE.kept G1) hmay HX.out.ok.r hd (by rw [HL.out]; exact HO.out.ck (fun _ _ h => h))
              rw [HL.out, ← hvn] at this
              exact this
            have HVN := Lib.hid hvn
            clear hvn
            have HMAY := Lib.hid hmay
            clear hmay
            go_upto_region 10 with (go_at_call 36; go_must (refine (hnum 0 _).mono ?_); rintro e w2 ⟨rfl, hw2⟩; have hw3 := hw2.symm; subst hw3)
            go_upto_region 11 with (go_at_call 29; go_must (with_reducible refine h29.mono ?_); rintro e w2 ⟨g2, c2, ck, cd, cm, rfl, gw2, hcs, hsg⟩; (have HCS := Lib.hid (And.intro hcs hsg)); clear hcs hsg)
            obtain ⟨hcs, hsg⟩ := HCS.out
            clear HCS
            clear h29 p6 hnum
            have G2 := gb_trans G1 gw2
            have HSG : Hid (∀ W, w2.grownBy W none → Calls Tryz.prog 41 #[.agg (stc xc ck cd cm 0 (vn : Int)), .agg (stc xc (.slice ka kn kc) (.slice da xd.length dc) (.slice ma mn mc) 0 (vn : Int))] W fun e w' => e = .returned (.bool true) ∧ W.grownBy w' none) := by
              intro W gW
              exact same_0 HX.out hd (gb_trans G2 gW) (by rw [HL.out, HVN.out]) (hsg.kept0 gW)
            have hcr := fun j u hu => gb_cellN G2 (HCELL.out j u hu)
            go_cut [77] from 57 to 77 (fun v wd => v = .bool false ∧ w2.grownBy wd none)
            case first =>
              have q0 : w2.cell? ⟨g2, 0, none⟩ = some (.int .i64 xc.verb) := hcs 0 _ rfl
              have q1 : w2.cell? ⟨g2, 1, none⟩ = some ck := hcs 1 _ rfl
              have q2 : w2.cell? ⟨g2, 2, none⟩ = some (.int .u64 xc.flags) := hcs 2 _ rfl
              have q3 : w2.cell? ⟨g2, 3, none⟩ = some (.int .i64 xc.exp) := hcs 3 _ rfl
              have q4 : w2.cell? ⟨g2, 4, none⟩ = some (.int .u64 xc.tok) := hcs 4 _ rfl
              have q5 : w2.cell? ⟨g2, 5, none⟩ = some (.int .u64 xc.del) := hcs 5 _ rfl
              have q6 : w2.cell? ⟨g2, 6, none⟩ = some cd := hcs 6 _ rfl
              have q7 : w2.cell? ⟨g2, 7, none⟩ = some (.bool xc.nr) := hcs 7 _ rfl
              have q8 : w2.cell? ⟨g2, 8, none⟩ = some (.bool false) := hcs 8 _ rfl
              have q9 : w2.cell? ⟨g2, 9, none⟩ = some cm := hcs 9 _ rfl
              have q10 : w2.cell? ⟨g2, 10, none⟩ = some (sv xc.what) := hcs 10 _ rfl
              have q11 : w2.cell? ⟨g2, 11, none⟩ = some (.int .i64 0) := hcs 11 _ rfl
              have q12 : w2.cell? ⟨g2, 12, none⟩ = some (.string ⟨#[]⟩) := hcs 12 _ rfl
              have q13 : w2.cell? ⟨g2, 13, none⟩ = some (.int .i64 0) := hcs 13 _ rfl
              have q14 : w2.cell? ⟨g2, 14, none⟩ = some (.int .i64 0) := hcs 14 _ rfl
              have q15 : w2.cell? ⟨g2, 15, none⟩ = some (.int .i64 (vn : Int)) := hcs 15 _ rfl
              have r0 : w2.cell? ⟨g, o + k * 11, none⟩ = some (.int .i64 xc.verb) := hcr 0 _ rfl
              have r1 : w2.cell? ⟨g, o + k * 11 + 1, none⟩ = some (.slice ka kn kc) := hcr 1 _ rfl
              have r2 : w2.cell? ⟨g, o + k * 11 + 2, none⟩ = some (.int .u64 xc.flags) := hcr 2 _ rfl
              have r3 : w2.cell? ⟨g, o + k * 11 + 3, none⟩ = some (.int .i64 xc.exp) := hcr 3 _ rfl
              have r4 : w2.cell? ⟨g, o + k * 11 + 4, none⟩ = some (.int .u64 xc.tok) := hcr 4 _ rfl
              have r5 : w2.cell? ⟨g, o + k * 11 + 5, none⟩ = some (.int .u64 xc.del) := hcr 5 _ rfl
              have r6 : w2.cell? ⟨g, o + k * 11 + 6, none⟩ = some (.slice da xd.length dc) := hcr 6 _ rfl
              have r7 : w2.cell? ⟨g, o + k * 11 + 7, none⟩ = some (.bool xc.nr) := hcr 7 _ rfl
              have r8 : w2.cell? ⟨g, o + k * 11 + 8, none⟩ = some (.bool false) := hcr 8 _ rfl
              have r9 : w2.cell? ⟨g, o + k * 11 + 9, none⟩ = some (.slice ma mn mc) := hcr 9 _ rfl
              have r10 : w2.cell? ⟨g, o + k * 11 + 10, none⟩ = some (sv xc.what) := hcr 10 _ rfl
              clear hcr hcs HX HCELL HS HNQ HL HN3 hsg HMAY
              go_region_held3 (fun W : World => W.cell? ⟨g2, 0, none⟩ = some (.int .i64 xc.verb) ∧ W.cell? ⟨g2, 1, none⟩ = some (ck) ∧ W.cell? ⟨g2, 2, none⟩ = some (.int .u64 xc.flags) ∧ W.cell? ⟨g2, 3, none⟩ = some (.int .i64 xc.exp) ∧ W.cell? ⟨g2, 4, none⟩ = some (.int .u64 xc.tok) ∧ W.cell? ⟨g2, 5, none⟩ = some (.int .u64 xc.del) ∧ W.cell? ⟨g2, 6, none⟩ = some (cd) ∧ W.cell? ⟨g2, 7, none⟩ = some (.bool xc.nr) ∧ W.cell? ⟨g2, 8, none⟩ = some (.bool false) ∧ W.cell? ⟨g2, 9, none⟩ = some (cm) ∧ W.cell? ⟨g2, 10, none⟩ = some (sv xc.what) ∧ W.cell? ⟨g2, 11, none⟩ = some (.int .i64 0) ∧ W.cell? ⟨g2, 12, none⟩ = some (.string ⟨#[]⟩) ∧ W.cell? ⟨g2, 13, none⟩ = some (.int .i64 0) ∧ W.cell? ⟨g2, 14, none⟩ = some (.int .i64 0) ∧ W.cell? ⟨g2, 15, none⟩ = some (.int .i64 (vn : Int)) ∧ W.cell? ⟨g, o + k * 11, none⟩ = some (.int .i64 xc.verb) ∧ W.cell? ⟨g, o + k * 11 + 1, none⟩ = some (.slice ka kn kc) ∧ W.cell? ⟨g, o + k * 11 + 2, none⟩ = some (.int .u64 xc.flags) ∧ W.cell? ⟨g, o + k * 11 + 3, none⟩ = some (.int .i64 xc.exp) ∧ W.cell? ⟨g, o + k * 11 + 4, none⟩ = some (.int .u64 xc.tok) ∧ W.cell? ⟨g, o + k * 11 + 5, none⟩ = some (.int .u64 xc.del) ∧ W.cell? ⟨g, o + k * 11 + 6, none⟩ = some (.slice da xd.length dc) ∧ W.cell? ⟨g, o + k * 11 + 7, none⟩ = some (.bool xc.nr) ∧ W.cell? ⟨g, o + k * 11 + 8, none⟩ = some (.bool false) ∧ W.cell? ⟨g, o + k * 11 + 9, none⟩ = some (.slice ma mn mc) ∧ W.cell? ⟨g, o + k * 11 + 10, none⟩ = some (sv xc.what)) (go_keep) ((go_at_call 41; go_must ((with_reducible refine (HSG.out _ (gb_drew (gb_refl _ _))).mono ?_); rintro y w9 ⟨rfl, g9⟩; (have G9 : w2.grownBy w9 none := gb_trans (gb_drew (gb_refl _ _)) g9); (have t0 := gb_cellN G9 q0); (have t1 := gb_cellN G9 q1); (have t2 := gb_cellN G9 q2); (have t3 := gb_cellN G9 q3); (have t4 := gb_cellN G9 q4); (have t5 := gb_cellN G9 q5); (have t6 := gb_cellN G9 q6); (have t7 := gb_cellN G9 q7); (have t8 := gb_cellN G9 q8); (have t9 := gb_cellN G9 q9); (have t10 := gb_cellN G9 q10); (have t11 := gb_cellN G9 q11); (have t12 := gb_cellN G9 q12); (have t13 := gb_cellN G9 q13); (have t14 := gb_cellN G9 q14); (have t15 := gb_cellN G9 q15); (have u0 := gb_cellN G9 r0); (have u1 := gb_cellN G9 r1); (have u2 := gb_cellN G9 r2); (have u3 := gb_cellN G9 r3); (have u4 := gb_cellN G9 r4); (have u5 := gb_cellN G9 r5); (have u6 := gb_cellN G9 r6); (have u7 := gb_cellN G9 r7); (have u8 := gb_cellN G9 r8); (have u9 := gb_cellN G9 r9); (have u10 := gb_cellN G9 r10))))
              all_goals
                go_wp2_with fail
                go_meet
                exact ⟨rfl, G9⟩
            case rest =>
              obtain ⟨rfl, g3⟩ := hcut
              obtain ⟨w3, hw3⟩ : ∃ w3, w3 = wc := ⟨_, rfl⟩
              subst hw3
              clear hcr hcs HSG hsg
              have G23 := gb_trans gw2 g3
              have hS3 := HS.out.skip G23
              have ho3 := HO.out.kept0 G23
              rw [← HN3.out] at hS3
              have r3 := hS3.r3
              have r4 := hS3.r4
              have r5 := hS3.r5
              rw [HN3.out] at r3
              have hrl := hS3.rl
              have hLl : L.length ≤ 70000 := by have := bsX_len (x := ⟨xc, xd, false, .slice ka kn kc, .slice da xd.length dc, .slice ma mn mc⟩) hd; rw [HL.out] at this; exact this
              have hn3b : n3 ≤ rs.length * 70000 := by rw [← HN3.out]; exact hrl
              have hB3 : w.heap.size ≤ w3.heap.size := hS3.gb.size
              have ck3 := ho3.ck (X := fun _ => False) (fun _ _ h => h)
              have G3 : w.grownBy w3 none := hS3.gb
              have HS3 := Lib.hid hS3
              clear hS3 ho3 hrl HS G23
              have hvn := HVN.out
              subst hvn
              clear HVN
              go_upto_region 14 with (at_builtin; go_must (refine moreC rfl _ _ rfl w.heap.size _ n3 _ (by rfl) r3 (fun _ => False) _ L (by rfl) ck3 (by omega) hB3 ?_); intro y3 w4 r3' g4; (obtain ⟨b3, k3, rfl, -, -, -, -⟩ := row_shape r3'))
              have r4' := row_diff r4 r3 (by decide) g4
              have r5' := row_diff r5 r3 (by decide) g4
              have G4 : w.grownBy w4 none := gb_far G3 g4 (B := w.heap.size) (fun j hj => (World.ownsRow.lt r3 j hj).1) (Nat.le_refl _)
              have hB4 := G4.size
              clear r3 r4 r5 ck3 g4
              obtain ⟨t63, T63⟩ := ty_63
              obtain ⟨t82, T82⟩ := ty_82
              have hcr := fun j u hu => gb_cellN G4 (HCELL.out j u hu)
              go_upto_region 15 with (first
                | (refine atL 41 g (o + k * 11) rfl rfl ?_; go_must (refine loadC rfl _ rfl g (o + k * 11) rfl _ rfl hcr ?_))
                | (at_builtin; go_must (refine pushB T63 rfl _ _ rfl w.heap.size _ rs.length _ (by rfl) r4' [.int .i64 xc.verb, .slice ka kn kc, .int .u64 xc.flags, .int .i64 xc.exp, .int .u64 xc.tok, .int .u64 xc.del, .slice da xd.length dc, .bool xc.nr, .bool false, .slice ma mn mc, sv xc.what] rfl (by simp [Value.oneCell']) (by rfl) (by omega) hB4 ?_); intro b4 k4 w5 r4'' g5 at5))
              have r3'' := row_diff r3' r4' (by decide) g5
              have r5'' := row_diff r5' r4' (by decide) g5
              have G5 : w.grownBy w5 none := gb_far G4 g5 (B := w.heap.size) (fun j hj => (World.ownsRow.lt r4' j hj).1) (Nat.le_refl _)
              have hB5 := G5.size
              clear r3' r4' r5' hcr g5 at5
              go_upto_region 16 with (at_builtin; go_must (refine pushB T82 rfl _ _ rfl w.heap.size _ rs.length _ (by rfl) r5'' [.int .i64 ((n3 + L.length : Nat) : Int)] rfl (by simp [Value.oneCell']) (by rfl) (by omega) hB5 ?_); intro b5 k5 w6 r5t g6 at6)
              have r3t := row_diff r3'' r5'' (by decide) g6
              have r4t := row_diff r4'' r5'' (by decide) g6
              have G6 : w.grownBy w6 none := gb_far G5 g6 (B := w.heap.size) (fun j hj => (World.ownsRow.lt r5'' j hj).1) (Nat.le_refl _)
              have p6 : w6.cell? ⟨g, o + k * 11 + 6, none⟩ = some (.slice da xd.length dc) := gb_cellN G6 (HCELL.out 6 _ rfl)
              have p0 : w6.cell? ⟨g, o + k * 11, none⟩ = some (.int .i64 xc.verb) := gb_cellN G6 (HCELL.out 0 _ rfl)
              have hnx : ∀ lim', lim' = max lim xd.length → WkI w w6 (rs ++ [⟨xc, xd, false, .slice ka kn kc, .slice da xd.length dc, .slice ma mn mc⟩]) lim' (.slice b3 (n3 + L.length) k3) (.slice (some ⟨b4, 0, none⟩) (rs.length + 1) k4) (.slice (some ⟨b5, 0, none⟩) (rs.length + 1) k5) := fun lim' hl' =>
                HS3.out.take HMAY.out HX.out hd hl' (by rw [HL.out, HN3.out]; exact r3t) r4t (by rw [HL.out, HN3.out]; exact r5t) G6
              have HNX := Lib.hid hnx
              clear r3'' r4'' r5'' r3t r4t r5t g6 at6 hnx HS3 HX HCELL T63 T82
              have hend : ∀ lim', lim' = max lim xd.length → xc.verb ≠ 18 → ∀ (u3 u4 u5 : Value), WkI w w6 (rs ++ [⟨xc, xd, false, .slice ka kn kc, .slice da xd.length dc, .slice ma mn mc⟩]) lim' u3 u4 u5 → True := fun _ _ _ _ _ _ _ => trivial
              clear hend
              by_cases hgt : lim < xd.length
              · have d5 : decide ((lim : Int) < (xd.length : Int)) = true := by simp; omega
                have d5' : (lim : Int) < (xd.length : Int) := by omega
                by_cases hv : xc.verb = 18
                · have d6 : decide (xc.verb = 18) = true := by simp [hv]
                  rw [hv] at p0
                  go_wp2_with fail
                  go_meet
                  exact ⟨_, xd.length, by simp; omega, rfl, HNX.out _ (by omega), fun x hx => HNQ.out x (by simpa using hx)⟩
                · have d6 : decide (xc.verb = 18) = false := by simp [hv]
                  go_wp2_with fail
                  exact ⟨⟨k + 1, _, xd.length, by omega, by omega, by simp; omega, by first | rfl | simp, rfl, HNX.out _ (by omega), fun x hx => by
                    rcases List.mem_append.1 hx with hx | hx
                    · exact HNQ.out x hx
                    · rw [List.mem_singleton.1 hx]; exact hv⟩, by simp [intOf]; omega⟩
              · have d5 : decide ((lim : Int) < (xd.length : Int)) = false := by simp; omega
                have d5' : ¬ (lim : Int) < (xd.length : Int) := by omega
                by_cases hv : xc.verb = 18
                · have d6 : decide (xc.verb = 18) = true := by simp [hv]
                  rw [hv] at p0
                  go_wp2_with fail
                  go_meet
                  exact ⟨_, lim, by simp; omega, rfl, HNX.out _ (by omega), fun x hx => HNQ.out x (by simpa using hx)⟩
                · have d6 : decide (xc.verb = 18) = false := by simp [hv]
                  go_wp2_with fail
                  exact ⟨⟨k + 1, _, lim, by omega, by omega, by simp; omega, by first | rfl | simp, rfl, HNX.out _ (by omega), fun x hx => by
                    rcases List.mem_append.1 hx with hx | hx
                    · exact HNQ.out x hx
                    · rw [List.mem_singleton.1 hx]; exact hv⟩, by simp [intOf]; omega⟩
          · have d3 : decide ((65536 : Int) < (xd.length : Int)) = true := by simp; omega
            have hd4 : (65536 : Int) < (xd.length : Int) := by omega
            go_wp2_with (go_at_call 36; go_must (refine (hnum 0 _).mono ?_); rintro e w2 ⟨rfl, hw2⟩; have hw3 := hw2.symm; subst hw3)
            exact ⟨⟨k + 1, rs, lim, by omega, by omega, by omega, by first | rfl | simp, rfl, HS.out, HNQ.out⟩, by simp [intOf]; omega⟩
      · have hfin : ∃ (rs' : List CI) (lim' : Nat), rs'.length ≤ 60 ∧ Value.int .i64 (lim : Int) = .int .i64 (lim' : Int) ∧ WkI w wr rs' lim' (.slice a3 (rawX rs).length c3) (.slice a4 rs.length c4) (.slice a5 rs.length c5) ∧ ∀ x ∈ rs'.dropLast, x.c.verb ≠ 18 := ⟨rs, lim, by omega, rfl, hI, fun x hx => hnq x (List.dropLast_subset rs hx)⟩
        have HF := Lib.hid hfin
        clear hfin hI hnq HC HK HN
        generalize (rawX rs).length = n3 at *
        rcases Nat.lt_or_ge k N with h1 | h1
        · have d1 : decide ((k : Int) < (N : Int)) = true := decide_eq_true (by omega)
          have d2 : decide ((k : Int) < 60) = false := decide_eq_false (by omega)
          go_wp2_with fail
          go_meet
          exact HF.out
        · have d1 : decide ((k : Int) < (N : Int)) = false := decide_eq_false (by omega)
          go_wp2_with fail
          go_meet
          exact HF.out
  case rest =>
    clear HC HK HN
    obtain ⟨rs, lim, hrs, rfl, hI, hq⟩ := hcut
    obtain ⟨a3, c3, e3, -, -, -, -⟩ := row_shape hI.r3
    obtain ⟨a4, c4, e4, -, -, -, p4⟩ := row_shape hI.r4
    obtain ⟨a5, c5, e5, -, -, -, p5⟩ := row_shape hI.r5
    subst e3
    subst e4
    subst e5
    have hlm := hI.lm
    have hrl := hI.rl
    have h29 := all_27 (hE.kept hI.gb) (ck_own (X := fun _ => False) hI.r3 (fun _ _ h => h)) (by omega) (lim : Int) (by omega) (by omega)
    have HI := Lib.hid hI
    have HQ := Lib.hid hq
    clear hI hq
    obtain ⟨n3, hn3⟩ : ∃ n3, (rawX rs).length = n3 := ⟨_, rfl⟩
    have HN3 := Lib.hid hn3
    rw [hn3] at h29 ⊢
    clear hn3 hrl
    go_upto_region 20 with (go_at_call 29; go_must (refine h29.mono ?_); rintro e w1 ⟨rv, q, left, rfl, hA⟩; (have HA := Lib.hid hA); clear hA)
    clear h29
    have hA := HA.out
    rw [Int.toNat_natCast] at hA
    obtain ⟨hs, hl0, hql⟩ := hA.back (fun x hx => ⟨(HI.out.ok x hx).1, (HI.out.ok x hx).2.1.ok.r, (HI.out.ok x hx).2.2⟩) HQ.out
    subst hl0
    obtain ⟨a12, c12, e12, -, -, -, p12⟩ := row_shape hA.ss.row
    subst e12
    rw [hql] at p12
    have hg1 := hA.gb
    have HAA := Lib.hid hA
    have HSS := Lib.hid hs
    rw [hql]
    clear hA hs HA
    have G1 := gb_trans HI.out.gb hg1
    go_upto_region 23 with fail
    have h26 := fun W (h : w.grownBy W none) => wakes_5 (hE.kept h)
    go_wp2_with fail
    go_loopw [14, 15] (fun x14 x15 wq => ∃ i : Nat, i ≤ rs.length ∧ x15 = .int .i64 (i : Int) ∧ x14 = .int .i64 ((bgX rs i : Nat) : Int) ∧ w1.grownBy wq none) (fun _ x15 _ => rs.length - (intOf x15).toNat)
    case atStart => exact ⟨0, by omega, rfl, rfl, gb_refl _ _⟩
    case round =>
      obtain ⟨i, hi, rfl, rfl, hg⟩ := hrel
      obtain ⟨wq, hwq⟩ : ∃ wq, wq = wr := ⟨_, rfl⟩
      subst hwq
      by_cases hlt : i < rs.length
      · obtain ⟨x, hx⟩ : ∃ x, rs[i]? = some x := ⟨_, List.getElem?_eq_getElem hlt⟩
        obtain ⟨g12, rfl⟩ := p12 (by omega)
        obtain ⟨g4, rfl⟩ := p4 (by omega)
        obtain ⟨g5, rfl⟩ := p5 (by omega)
        obtain ⟨ck, cd, cm, hW⟩ := Wk2.of HI.out HAA.out HSS.out hg hx
        have hbg := (bgX_get hx).2.2
        obtain ⟨bg, hbg0⟩ : ∃ bg, bgX rs i = bg := ⟨_, rfl⟩
        obtain ⟨eg, heg⟩ : ∃ eg, bg + (bsX x).length = eg := ⟨_, rfl⟩
        rw [hbg0, heg] at hbg
        have hc12 := hW.c12
        have hc4 := hW.c4
        have hc5 := hW.c5
        have hlg := hW.lg
        have HSG : Hid (∀ W, wq.grownBy W none → Calls Tryz.prog 41 #[.agg (stc x.c ck cd cm (bg : Int) (eg : Int)), .agg (stc x.c x.kv x.dv x.mv (bg : Int) (eg : Int))] W fun e w' => e = .returned (.bool true) ∧ W.grownBy w' none) := by
          intro W gW
          have h1 := hW.sg.kept0 gW
          have h2 := hW.sg'.kept0 gW
          rw [hbg0] at h1 h2
          exact same_x heg.symm h1 h2
        rw [hbg0, heg] at hc12 hc5
        rw [hbg0]
        have HBG := Lib.hid hbg
        have d1 : decide ((i : Int) < (rs.length : Int)) = true := by simp; omega
        have hib : (i : Int) < (rs.length : Int) := by omega
        have hw1 : IntKind.i64.wrap ((i : Int) + 1) = (i : Int) + 1 := by rw [IntKind.wrap_i64]; omega
        obtain ⟨xc, xd, xlg, xkv, xdv, xmv⟩ := x
        simp only at hlg
        subst hlg
        generalize rs.length = m at *
        clear hW hx hbg hbg0 heg HI HAA HSS HQ HN3
        go_upto_region 26 with fail
        go_cut [149] from 134 to 149 (fun v wd => v = .bool false ∧ wq.grownBy wd none)
        case first =>
          have q0 : wq.cell? ⟨g12, i * 16, none⟩ = some (.int .i64 xc.verb) := hc12 0 _ rfl
          have q1 : wq.cell? ⟨g12, i * 16 + 1, none⟩ = some (ck) := hc12 1 _ rfl
          have q2 : wq.cell? ⟨g12, i * 16 + 2, none⟩ = some (.int .u64 xc.flags) := hc12 2 _ rfl
          have q3 : wq.cell? ⟨g12, i * 16 + 3, none⟩ = some (.int .i64 xc.exp) := hc12 3 _ rfl
          have q4 : wq.cell? ⟨g12, i * 16 + 4, none⟩ = some (.int .u64 xc.tok) := hc12 4 _ rfl
          have q5 : wq.cell? ⟨g12, i * 16 + 5, none⟩ = some (.int .u64 xc.del) := hc12 5 _ rfl
          have q6 : wq.cell? ⟨g12, i * 16 + 6, none⟩ = some (cd) := hc12 6 _ rfl
          have q7 : wq.cell? ⟨g12, i * 16 + 7, none⟩ = some (.bool xc.nr) := hc12 7 _ rfl
          have q8 : wq.cell? ⟨g12, i * 16 + 8, none⟩ = some (.bool false) := hc12 8 _ rfl
          have q9 : wq.cell? ⟨g12, i * 16 + 9, none⟩ = some (cm) := hc12 9 _ rfl
          have q10 : wq.cell? ⟨g12, i * 16 + 10, none⟩ = some (sv xc.what) := hc12 10 _ rfl
          have q11 : wq.cell? ⟨g12, i * 16 + 11, none⟩ = some (.int .i64 0) := hc12 11 _ rfl
          have q12 : wq.cell? ⟨g12, i * 16 + 12, none⟩ = some (.string ⟨#[]⟩) := hc12 12 _ rfl
          have q13 : wq.cell? ⟨g12, i * 16 + 13, none⟩ = some (.int .i64 0) := hc12 13 _ rfl
          have q14 : wq.cell? ⟨g12, i * 16 + 14, none⟩ = some (.int .i64 (bg : Int)) := hc12 14 _ rfl
          have q15 : wq.cell? ⟨g12, i * 16 + 15, none⟩ = some (.int .i64 (eg : Int)) := hc12 15 _ rfl
          have r0 : wq.cell? ⟨g4, i * 11, none⟩ = some (.int .i64 xc.verb) := hc4 0 _ rfl
          have r1 : wq.cell? ⟨g4, i * 11 + 1, none⟩ = some (xkv) := hc4 1 _ rfl
          have r2 : wq.cell? ⟨g4, i * 11 + 2, none⟩ = some (.int .u64 xc.flags) := hc4 2 _ rfl
          have r3 : wq.cell? ⟨g4, i * 11 + 3, none⟩ = some (.int .i64 xc.exp) := hc4 3 _ rfl
          have r4 : wq.cell? ⟨g4, i * 11 + 4, none⟩ = some (.int .u64 xc.tok) := hc4 4 _ rfl
          have r5 : wq.cell? ⟨g4, i * 11 + 5, none⟩ = some (.int .u64 xc.del) := hc4 5 _ rfl
          have r6 : wq.cell? ⟨g4, i * 11 + 6, none⟩ = some (xdv) := hc4 6 _ rfl
          have r7 : wq.cell? ⟨g4, i * 11 + 7, none⟩ = some (.bool xc.nr) := hc4 7 _ rfl
          have r8 : wq.cell? ⟨g4, i * 11 + 8, none⟩ = some (.bool false) := hc4 8 _ rfl
          have r9 : wq.cell? ⟨g4, i * 11 + 9, none⟩ = some (xmv) := hc4 9 _ rfl
          have r10 : wq.cell? ⟨g4, i * 11 + 10, none⟩ = some (sv xc.what) := hc4 10 _ rfl
          clear hc12 hc4 p12 p4 p5
          go_region_law (go_simp; go_at_call 41; refine (HSG.out _ (by first | exact gb_drew (gb_refl _ _) | exact gb_refl _ _)).mono ?_; rintro y w9 ⟨rfl, g9⟩; have G9 : wq.grownBy w9 none := gb_trans (gb_drew (gb_refl _ _)) g9)
          all_goals
            go_wp2_with fail
            go_meet
            exact ⟨rfl, G9⟩
        case rest =>
          obtain ⟨rfl, g3⟩ := hcut
          obtain ⟨w3, hw3⟩ : ∃ w3, w3 = wc := ⟨_, rfl⟩
          subst hw3
          have k5 := gb_cellN g3 hc5
          clear hc12 hc4 hc5 HSG p12 p4 p5
          go_wp2_with fail
          exact ⟨⟨i + 1, by omega, by first | rfl | simp, by rw [HBG.out], gb_trans hg g3⟩, by simp [intOf]; omega⟩
      · obtain rfl : i = rs.length := by omega
        have d1 : decide ((rs.length : Int) < (rs.length : Int)) = false := by simp
        generalize bgX rs rs.length = bb at *
        clear p12 p4 p5 HI HAA HSS HQ
        go_wp2_with (go_at_call 26; go_must ((with_reducible refine (h26 _ (gb_trans G1 hg)).mono ?_); rintro e w7 ⟨rfl, hg7⟩))
        go_ret
        exact ⟨rfl, gb_trans (gb_trans G1 hg) hg7⟩
end Go.Proofs.YtbbocbdoiealoaaGreatDoor
