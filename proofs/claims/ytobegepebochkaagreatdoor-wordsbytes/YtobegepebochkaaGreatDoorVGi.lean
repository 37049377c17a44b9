import Derived.BigRegion
import Derived.Test.YtobegepebochkaaGreatDoorVPbf
set_option linter.unusedVariables false
set_option linter.unusedSimpArgs false
namespace Go.Proofs.YtobegepebochkaaGreatDoor
open Go.RowKit Go.Maps
attribute [local go_sem] Oper.semAt_some
theorem sv_cat3 (o : Bs) (a : UInt8) (x : Bs) : Value.string ((⟨o.toArray⟩ : ByteArray) ++ ⟨#[32]⟩ ++ ⟨#[a]⟩ ++ ⟨x.toArray⟩) = sv (o ++ bls [a :: x]) := by
  rw [show (⟨#[32]⟩ : ByteArray) = ⟨[(32 : UInt8)].toArray⟩ from rfl, show (⟨#[a]⟩ : ByteArray) = ⟨[a].toArray⟩ from rfl, ba_app, ba_app, ba_app]
  simp [bls]
theorem la_ck (W : World) (la : UInt8) : Ck (W.alloc (.cells #[.int .u8 la.toNat] 5)) (fun _ => False) (.slice (some ⟨W.heap.size, 0, none⟩) 1 1) [la] := .inr ⟨W.heap.size, 0, 1, rfl, by simp, by omega, by simp, fun h => h, fun i x hx => by
  obtain ⟨rfl, rfl⟩ : i = 0 ∧ la = x := by
    rcases i with _ | i
    · simpa using hx
    · simp at hx
  exact World.news_of_block (cs := #[.int .u8 la.toNat]) (t := 5) (fr := (0, 0)) (heap_alloc_new W _) 0 _ rfl⟩
set_option maxRecDepth 100000 in
set_option maxHeartbeats 600000 in
theorem line_78 {i : Nat} (hi : i < 24) {c : Cmd} (hv : c.verb = (i : Int) + 1) (hr : RngP c) (hf : c.flags ≤ 18446744073709551615) {n : Nat} (hn : n ≤ 4611686018427387904) (hL : (lnB i c n).length ≤ 4611686018427387904) {kv mv : Value} {da : Option Addr} {dc : Nat} {lg : Bool} (w : World) (hK : Kf w kv c.keys) (hM : Fg w mv c.mt) (hkn : c.keys.length ≤ 4611686018427387904) (hmn : c.mt.length ≤ 4611686018427387904) :
    Calls Tryz.prog 78 #[.agg (cmV c kv (.slice da n dc) lg mv)] w fun e w' => e = .returned (sv (lnB i c n)) ∧ w.grownBy w' none := by
  have hsl := shape_len i hi
  have h58 := rowOf_58 i hi
  have h95 := spelled_95 i hi
  obtain ⟨verb, keys, flags, exp, tok, del, nr, mt, what⟩ := c
  simp only at hv hf hK hM hkn hmn
  subst hv
  obtain ⟨R, hR⟩ : ∃ R, lnB i ⟨(i : Int) + 1, keys, flags, exp, tok, del, nr, mt, what⟩ n = R := ⟨_, rfl⟩
  obtain ⟨sh, hsh⟩ : ∃ x, (dr i).shape = x := ⟨_, rfl⟩
  obtain ⟨le, hle⟩ : ∃ x, (dr i).least = x := ⟨_, rfl⟩
  obtain ⟨ag, hag⟩ : ∃ x, (dr i).again = x := ⟨_, rfl⟩
  obtain ⟨re, hre⟩ : ∃ x, (dr i).reply = x := ⟨_, rfl⟩
  obtain ⟨bl, hbl⟩ : ∃ x, (dr i).block = x := ⟨_, rfl⟩
  obtain ⟨sp, hsp⟩ : ∃ x, spn i = x := ⟨_, rfl⟩
  simp only [drA, hsh, hle, hag, hre, hbl] at h58
  rw [hsp] at h95
  rw [hsh] at hsl
  rw [hR]
  have A := Lib.hid hR
  have B := Lib.hid hsh
  have C := Lib.hid hsp
  have D := Lib.hid hL
  clear hR hsh hle hag hre hbl hsp hL
  go_enter Tryz.func78, Tryz.ntmps78
  go_wp2_with fail
  refine (h58 _).mono ?_
  rintro e w1 ⟨rfl, g1⟩
  obtain ⟨vs, hvs⟩ : ∃ x, cmV ⟨(i : Int) + 1, keys, flags, exp, tok, del, nr, mt, what⟩ kv (.slice da n dc) lg mv = x := ⟨_, rfl⟩
  rw [hvs] at g1
  have b1 := (Box.new w 41 vs).kept g1 (by simp)
  have gw := gb_trans (gb_alloc (gb_refl w none) (.cells vs 41)) g1
  obtain ⟨RA, hRA⟩ : ∃ x : Array Value, #[.int .i64 ((i : Int) + 1), sv sh, .int .i64 (le : Int), .bool ag, .bool re, .bool bl] = x := ⟨_, rfl⟩
  have g1' := gb_alloc (gb_refl w1 none) (.cells RA 111)
  have b1' := b1.kept g1' (by simp)
  have b3' := Box.new w1 111 RA
  have gw' := gb_trans gw g1'
  have p0 := b1'.cell 0
  rw [← hvs, ← hRA] at p0
  simp only [List.getElem?_toArray, List.getElem?_cons_succ, List.getElem?_cons_zero] at p0
  have hlt13 : w.heap.size < w1.heap.size := b1.lt
  have HRA := Lib.hid hRA
  have HVS := Lib.hid hvs
  clear g1 b1 gw g1' hRA hvs
  go_wp2_with fail
  refine (h95 _).mono ?_
  rintro e w2 ⟨rfl, g2⟩
  rw [HRA.out] at g2
  have b1 := b1'.kept g2 (by simp)
  have b3 := b3'.kept g2 (by simp)
  have gw := gb_trans gw' g2
  have H58 := Lib.hid h58
  have H95 := Lib.hid h95
  clear b1' b3' gw' g2 p0 h58 h95
  generalize w1.heap.size = fb at *
  go_wp2_with fail
  go_loopw [4, 5] (fun ov v wr => ∃ k : Nat, k ≤ sh.length ∧ v = .int .i64 k ∧ ov = sv (lnK i ⟨(i : Int) + 1, keys, flags, exp, tok, del, nr, mt, what⟩ n k) ∧ w.grownBy wr none ∧ Box wr 41 w.heap.size vs ∧ Box wr 111 fb RA) (fun _ v _ => sh.length - (intOf v).toNat)
  case atStart =>
    exact ⟨0, by omega, rfl, by rw [lnK_0, C.out], gw, b1, b3⟩
  case round =>
    obtain ⟨k, hk, rfl, rfl, hg, hb1, hb3⟩ := hrel
    have q1 := hb3.cell 1
    rw [← HRA.out] at q1
    have p1 := hb1.cell 1
    have p2 := hb1.cell 2
    have p3 := hb1.cell 3
    have p4 := hb1.cell 4
    have p5 := hb1.cell 5
    have p6 := hb1.cell 6
    have p7 := hb1.cell 7
    have p8 := hb1.cell 8
    have p9 := hb1.cell 9
    have p10 := hb1.cell 10
    rw [← HVS.out] at p1 p2 p3 p4 p5 p6 p7 p8 p9 p10
    simp only [List.getElem?_toArray, List.getElem?_cons_succ, List.getElem?_cons_zero] at q1 p1 p2 p3 p4 p5 p6 p7 p8 p9 p10
    have hol : (lnK i ⟨(i : Int) + 1, keys, flags, exp, tok, del, nr, mt, what⟩ n k).length ≤ 4611686018427387904 := Nat.le_trans (lnK_le _ _ _ _) D.out
    rcases (by omega : k < sh.length ∨ k = sh.length) with hlt | rfl
    · have d1 : decide ((k : Int) < (sh.length : Int)) = true := decide_eq_true (by omega)
      obtain ⟨a, hb⟩ : ∃ a, sh.getD k 0 = a := ⟨_, rfl⟩
      have hgt : ∀ h : k < (ByteArray.mk sh.toArray).size, (ByteArray.mk sh.toArray)[k] = a := fun h => (ba_get sh k h).trans hb
      have hget : sh[k]? = some a := by rw [List.getElem?_eq_getElem hlt, ← hb]; simp [List.getD, hlt]
      have hin := shape_in i hi a (by rw [B.out]; exact List.mem_of_getElem? hget)
      have hnx := lnK_1 (c := ⟨(i : Int) + 1, keys, flags, exp, tok, del, nr, mt, what⟩) (n := n) (a := a) (k := k) (i := i) (by rw [B.out]; exact hget)
      have hol' : (lnK i ⟨(i : Int) + 1, keys, flags, exp, tok, del, nr, mt, what⟩ n (k + 1)).length ≤ 4611686018427387904 := Nat.le_trans (lnK_le _ _ _ _) D.out
      rw [hnx] at hol'
      have HN := Lib.hid hnx
      obtain ⟨o, ho⟩ : ∃ o, lnK i ⟨(i : Int) + 1, keys, flags, exp, tok, del, nr, mt, what⟩ n k = o := ⟨_, rfl⟩
      rw [ho] at hol hol'
      rw [ho]
      have HO := Lib.hid ho
      clear hb hget hnx ho
      have hend : ∀ W x, w.grownBy W none → Box W 41 w.heap.size vs → Box W 111 fb RA → x = sv (o ++ bls (lw ⟨(i : Int) + 1, keys, flags, exp, tok, del, nr, mt, what⟩ n a)) → ∃ k' : Nat, k' ≤ sh.length ∧ Value.int .i64 ((k : Int) + 1) = .int .i64 k' ∧ x = sv (lnK i ⟨(i : Int) + 1, keys, flags, exp, tok, del, nr, mt, what⟩ n k') ∧ w.grownBy W none ∧ Box W 41 w.heap.size vs ∧ Box W 111 fb RA := fun W x a b c d => ⟨k + 1, by omega, by go_num, by rw [HN.out, HO.out]; exact d, a, b, c⟩
      have HE := Lib.hid hend
      clear hend HN HO
      simp only [List.mem_cons, List.not_mem_nil, or_false] at hin
      rcases hin with rfl | rfl | rfl | rfl | rfl | rfl | rfl | rfl | rfl | rfl | rfl
      · have hKr := hK.kept hg
        have hol2 : o.length + (bls keys).length ≤ 4611686018427387904 := by
          have : (o ++ bls keys).length ≤ 4611686018427387904 := hol'
          rwa [List.length_append] at this
        clear hol'
        rcases hKr with ⟨rfl, ka, kc, rfl⟩ | ⟨g, o1, kc, rfl, hcell⟩
        · go_wp2_with fail
          go_loopw [4, 6] (fun ov v W => v = .int .i64 0 ∧ ov = sv o ∧ W = wr) (fun _ _ _ => 0)
          case atStart => exact ⟨rfl, rfl, rfl⟩
          case round =>
            obtain ⟨rfl, rfl, rfl⟩ := hrel
            go_wp2_with fail
            exact ⟨HE.out _ _ hg hb1 hb3 (by simp [lw, bls]), by simp [intOf]; omega⟩
        · go_wp2_with fail
          go_loopw [4, 6] (fun ov v W => ∃ j : Nat, j ≤ keys.length ∧ v = .int .i64 j ∧ ov = sv (o ++ bls (keys.take j)) ∧ W = wr) (fun _ v _ => keys.length - (intOf v).toNat)
          case atStart => exact ⟨0, by omega, rfl, by simp [bls], rfl⟩
          case round =>
            obtain ⟨j, hj, rfl, rfl, rfl⟩ := hrel
            rcases (by omega : j < keys.length ∨ j = keys.length) with hjl | rfl
            · obtain ⟨x, hx⟩ : ∃ x, keys[j]? = some x := ⟨_, List.getElem?_eq_getElem hjl⟩
              have cx := hcell j x hx
              have hs1 := bls_take hx
              have hs2 := bls_takeLe keys (j + 1)
              rw [hs1] at hs2
              have hs3 : (bls [x]).length = x.length + 1 := by simp [bls]
              rw [List.length_append, hs3] at hs2
              have hl5 : (o ++ bls (keys.take j)).length = o.length + (bls (keys.take j)).length := List.length_append
              have hfin : sv ((o ++ bls (keys.take j)) ++ bls [x]) = sv (o ++ bls (keys.take (j + 1))) := by rw [hs1, List.append_assoc]
              have HF := Lib.hid hfin
              have d2 : decide ((j : Int) < (keys.length : Int)) = true := decide_eq_true (by omega)
              obtain ⟨o2, ho2⟩ : ∃ x, o ++ bls (keys.take j) = x := ⟨_, rfl⟩
              rw [ho2] at hl5 HF ⊢
              clear hs1 hfin hx ho2 hcell
              go_wp2_with fail
              exact ⟨⟨j + 1, by omega, by go_num, (sv_cat _ _).trans HF.out, by first | rfl | trivial⟩, by simp [intOf]; omega⟩
            · rw [List.take_length]
              go_wp2_with fail
              exact ⟨HE.out _ _ hg hb1 hb3 rfl, by simp [intOf]; omega⟩
      · have l1 := dg_20 flags hf
        have h74 := digits64 flags hf
        go_wp2_with (go_at_call 74; go_must (refine (h74 _).mono ?_); rintro e w5 ⟨rfl, g5⟩)
        exact ⟨HE.out _ _ (gb_trans hg g5) (hb1.kept g5 (by simp)) (hb3.kept g5 (by simp)) (sv_cat _ _), by simp [intOf]; omega⟩
      · have l1 := sg_21 exp hr.e1 hr.e2
        have h123 := signed_123 exp hr.e1 hr.e2
        go_wp2_with (go_at_call 123; go_must (refine (h123 _).mono ?_); rintro e w5 ⟨rfl, g5⟩)
        exact ⟨HE.out _ _ (gb_trans hg g5) (hb1.kept g5 (by simp)) (hb3.kept g5 (by simp)) (sv_cat _ _), by simp [intOf]; omega⟩
      · have l1 := dg_20 n (by omega)
        have h74 := digits64 n (by omega)
        go_wp2_with (go_at_call 74; go_must (refine (h74 _).mono ?_); rintro e w5 ⟨rfl, g5⟩)
        exact ⟨HE.out _ _ (gb_trans hg g5) (hb1.kept g5 (by simp)) (hb3.kept g5 (by simp)) (sv_cat _ _), by simp [intOf]; omega⟩
      · have l1 := dg_20 tok hr.tok
        have h74 := digits64 tok hr.tok
        go_wp2_with (go_at_call 74; go_must (refine (h74 _).mono ?_); rintro e w5 ⟨rfl, g5⟩)
        exact ⟨HE.out _ _ (gb_trans hg g5) (hb1.kept g5 (by simp)) (hb3.kept g5 (by simp)) (sv_cat _ _), by simp [intOf]; omega⟩
      · have l1 := dg_20 del hr.del
        have h74 := digits64 del hr.del
        go_wp2_with (go_at_call 74; go_must (refine (h74 _).mono ?_); rintro e w5 ⟨rfl, g5⟩)
        exact ⟨HE.out _ _ (gb_trans hg g5) (hb1.kept g5 (by simp)) (hb3.kept g5 (by simp)) (sv_cat _ _), by simp [intOf]; omega⟩
      · go_wp2_with fail
        exact ⟨HE.out _ _ hg hb1 hb3 ((sv_cat2 o [] [32, 49]).trans rfl), by simp [intOf]; omega⟩
      · have hol2 : (o ++ bls (if what = [] then [] else [what])).length ≤ 4611686018427387904 := hol'
        have HE2 : ∀ W x, w.grownBy W none → Box W 41 w.heap.size vs → Box W 111 fb RA → x = sv (o ++ bls (if what = [] then [] else [what])) → _ := HE.out
        clear hol' HE
        by_cases hw : what = []
        · subst hw
          have HE := Lib.hid HE2
          clear HE2 hol2
          go_wp2_with fail
          exact ⟨HE.out _ _ hg hb1 hb3 (by simp [bls]), by simp [intOf]; omega⟩
        · rw [if_neg hw] at hol2 HE2
          have hol3 : o.length + (what.length + 1) ≤ 4611686018427387904 := by
            have e : (o ++ bls [what]).length = o.length + (what.length + 1) := by simp [bls]
            rwa [e] at hol2
          have hne : what.isEmpty = false := by simpa using hw
          have HE := Lib.hid HE2
          clear HE2 hol2
          go_wp2_with fail
          all_goals first
            | exact absurd rfl hw
            | exact ⟨HE.out _ _ hg hb1 hb3 (sv_cat _ _), by simp [intOf]; omega⟩
      · have hMr := hM.kept hg
        have hol2 : o.length + (bls (mt.map fw)).length ≤ 4611686018427387904 := by
          have : (o ++ bls (mt.map fw)).length ≤ 4611686018427387904 := hol'
          rwa [List.length_append] at this
        clear hol'
        rcases hMr with ⟨rfl, ka, kc, rfl⟩ | ⟨g, o1, kc, rfl, hcell⟩
        · go_wp2_with fail
          go_loopw [4, 7] (fun ov v W => v = .int .i64 0 ∧ ov = sv o ∧ W = wr) (fun _ _ _ => 0)
          case atStart => exact ⟨rfl, rfl, rfl⟩
          case round =>
            obtain ⟨rfl, rfl, rfl⟩ := hrel
            go_wp2_with fail
            exact ⟨HE.out _ _ hg hb1 hb3 (by simp [lw, bls]), by simp [intOf]; omega⟩
        · go_wp2_with fail
          obtain ⟨w0, hw0⟩ : ∃ x, wr = x := ⟨_, rfl⟩
          go_loopw [4, 7] (fun ov v W => ∃ j : Nat, j ≤ mt.length ∧ v = .int .i64 j ∧ ov = sv (o ++ bls ((mt.map fw).take j)) ∧ w0.grownBy W none) (fun _ v _ => mt.length - (intOf v).toNat)
          case atStart => exact ⟨0, by omega, rfl, by simp [bls], by rw [hw0]; exact gb_refl _ _⟩
          case round =>
            obtain ⟨j, hj, rfl, rfl, g0⟩ := hrel
            subst hw0
            rcases (by omega : j < mt.length ∨ j = mt.length) with hjl | rfl
            · obtain ⟨x, hx⟩ : ∃ x, mt[j]? = some x := ⟨_, List.getElem?_eq_getElem hjl⟩
              obtain ⟨c0, c1, c2⟩ := hcell j x hx
              obtain ⟨la, ar, hs⟩ := x
              simp only at c0 c1
              obtain ⟨w4, hw4⟩ : ∃ x, wr.alloc (.cells #[.int .u8 la.toNat] 5) = x := ⟨_, rfl⟩
              have ga : wr.grownBy w4 none := by rw [← hw4]; exact gb_alloc (gb_refl _ none) _
              have c0 := gb_cellN g0 c0
              have c1 := gb_cellN g0 c1
              have p9 := gb_cellN g0 p9
              have p9' := gb_cellN ga p9
              have hx2 : (mt.map fw)[j]? = some (la :: ar) := by rw [List.getElem?_map, hx]; rfl
              have hs1 := bls_take hx2
              have hs2 := bls_takeLe (mt.map fw) (j + 1)
              rw [hs1] at hs2
              have hs3 : (bls [la :: ar]).length = ar.length + 2 := by simp [bls]
              rw [List.length_append, hs3] at hs2
              have hl5 : (o ++ bls ((mt.map fw).take j)).length = o.length + (bls ((mt.map fw).take j)).length := List.length_append
              have hfin : sv ((o ++ bls ((mt.map fw).take j)) ++ bls [la :: ar]) = sv (o ++ bls ((mt.map fw).take (j + 1))) := by rw [hs1, List.append_assoc]
              have HF := Lib.hid hfin
              have d2 : decide ((j : Int) < (mt.length : Int)) = true := decide_eq_true (by omega)
              have hcv : ∀ W : World, (convert 38 9 (.slice (some ⟨W.heap.size, 0, none⟩) 1 1)).run Tryz.prog (W.alloc (.cells #[.int .u8 la.toNat] 5)) = .ok (sv [la]) (W.alloc (.cells #[.int .u8 la.toNat] 5)) := fun W => (la_ck W la).conv
              have hcw := hcv wr
              have hcd : (convert 38 9 (.slice (some ⟨wr.heap.size, 0, none⟩) 1 1)).run Tryz.prog (wr.drew.alloc (.cells #[.int .u8 la.toNat] 5)) = .ok (sv [la]) (wr.drew.alloc (.cells #[.int .u8 la.toNat] 5)) := hcv wr.drew
              have hcd2 : (convert 38 9 (.slice (some ⟨wr.heap.size, 0, none⟩) 1 1)).run Tryz.prog (wr.alloc (.cells #[.int .u8 la.toNat] 5)).drew = .ok (sv [la]) (wr.alloc (.cells #[.int .u8 la.toNat] 5)).drew := hcv wr.drew
              obtain ⟨o2, ho2⟩ : ∃ x, o ++ bls ((mt.map fw).take j) = x := ⟨_, rfl⟩
              rw [ho2] at hl5 HF ⊢
              have c1' := gb_cellN ga c1
              rw [← hw4] at c1' p9'
              have HG := Lib.hid (gb_trans g0 ga)
              have HW := Lib.hid hw4
              clear hs1 hfin hx ho2 hcell hx2 ga hw4 hcv
              go_wp2_with fail
              go_region
              all_goals
                go_wp2_with fail
                exact ⟨⟨j + 1, by omega, by go_num, (sv_cat3 _ _ _).trans HF.out, gb_drew (by rw [HW.out]; exact HG.out)⟩, by simp [intOf]; omega⟩
            · have p9 := gb_cellN g0 p9
              have e9 : bls ((mt.map fw).take mt.length) = bls (mt.map fw) := by rw [List.take_of_length_le (by simp)]
              rw [e9]
              clear e9 hcell
              go_wp2_with fail
              exact ⟨HE.out _ _ (gb_trans hg g0) (hb1.kept g0 (by simp)) (hb3.kept g0 (by simp)) rfl, by simp [intOf]; omega⟩
      · have l1 := sg_21 exp hr.e1 hr.e2
        have HE2 : ∀ W x, w.grownBy W none → Box W 41 w.heap.size vs → Box W 111 fb RA → x = sv (o ++ bls (if exp = 0 then [] else [sg exp])) → _ := HE.out
        clear HE
        by_cases hw : exp = 0
        · subst hw
          have HE := Lib.hid HE2
          clear HE2
          go_wp2_with fail
          exact ⟨HE.out _ _ hg hb1 hb3 (by simp [bls]), by simp [intOf]; omega⟩
        · rw [if_neg hw] at HE2
          have HE := Lib.hid HE2
          clear HE2
          have h123 := signed_123 exp hr.e1 hr.e2
          go_wp2_with (go_at_call 123; go_must (refine (h123 _).mono ?_); rintro e w5 ⟨rfl, g5⟩)
          exact ⟨HE.out _ _ (gb_trans hg g5) (hb1.kept g5 (by simp)) (hb3.kept g5 (by simp)) (sv_cat _ _), by simp [intOf]; omega⟩
      · go_wp2_with fail
        exact ⟨HE.out _ _ hg hb1 hb3 (by simp [lw, bls]), by simp [intOf]; omega⟩
    · have hfin : lnB i ⟨(i : Int) + 1, keys, flags, exp, tok, del, nr, mt, what⟩ n = lnK i ⟨(i : Int) + 1, keys, flags, exp, tok, del, nr, mt, what⟩ n sh.length ++ bls (nrW nr) := by
        have := lnK_end i ⟨(i : Int) + 1, keys, flags, exp, tok, del, nr, mt, what⟩ n
        rwa [B.out] at this
      obtain ⟨o, ho⟩ : ∃ o, lnK i ⟨(i : Int) + 1, keys, flags, exp, tok, del, nr, mt, what⟩ n sh.length = o := ⟨_, rfl⟩
      rw [ho] at hol hfin
      rw [ho]
      have HFN := Lib.hid hfin
      clear ho hfin
      cases nr with
      | false =>
        go_wp2_with fail
        go_ret
        refine ⟨?_, hg⟩
        rw [← A.out, HFN.out]
        simp [bls]
      | true =>
        go_wp2_with fail
        go_ret
        refine ⟨?_, hg⟩
        rw [← A.out, HFN.out]
        exact congrArg Ending.returned (sv_cat2 o [] [32, 110, 111, 114, 101, 112, 108, 121])
end Go.Proofs.YtobegepebochkaaGreatDoor
