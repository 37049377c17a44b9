import Derived.Test.YtbbocbdoiealoaaGreatDoorRPbk
import Derived.Test.YtbbocbdoiealoaaGreatDoorRPbl
import Derived.Test.YtbbocbdoiealoaaGreatDoorRPbi
set_option linter.unusedVariables false
set_option linter.unusedSimpArgs false
namespace Go.Proofs.YtbbocbdoiealoaaGreatDoor
open Go.RowKit Go.Shelf Go.Maps
attribute [local go_sem] Oper.semAt_some
def WtP (c c' : Cmd) (lg : Bool) (n : Int) (d : Bs) : Prop := c' = c ∧ lg = false ∧ (d.length : Int) = max n 0
set_option maxRecDepth 100000 in
set_option maxHeartbeats 16000000 in
theorem wbytes_row {w : World} (hE : Er w) (hp : Pw w) {c : Cmd} {d : Bs} {lg : Bool} {ka da ma : Option Addr} {kn kc dc mn mc : Nat} (hK : Ws w (.slice ka kn kc) c.keys) (hM : Fg w (.slice ma mn mc) c.mt) (hD : Ck w (fun _ => False) (.slice da d.length dc) d ∨ (d = [])) (hr : RngP c) (hf : c.flags ≤ 18446744073709551615) (hdn : d.length ≤ 140737488355328) (hkn : c.keys.length ≤ 10000000) (hmn : c.mt.length ≤ 10000000) (hfl : ∀ f ∈ c.mt, f.arg.length ≤ 1099511627776) {i : Nat} (hi : i < 24) (hv : c.verb = (i : Int) + 1) {LN : Bs} (hLN : lnB i c d.length = LN) {c' : Cmd} {n : Int} (hls : lineS LN = .inl (c', n)) :
    Calls Tryz.prog 35 #[.agg (cmB c (.slice ka kn kc) (.slice da d.length dc) (.slice ma mn mc) lg)] w fun e w' => w.grownBy w' none ∧ ((¬ WtP c c' lg n d ∧ e = .returned (.tuple #[.slice none 0 0, .int .i64 7])) ∨ (WtP c c' lg n d ∧ ∃ v, e = .returned (.tuple #[v, .int .i64 0]) ∧ OwC w' w.heap.size v (LN ++ [13, 10] ++ (if 0 ≤ n then d ++ [13, 10] else [])))) := by
  obtain ⟨hkl, hml, hL⟩ := lineS_len hls
  have hn1 := (lineS_ok hls).2
  obtain ⟨TL, hTL⟩ : ∃ y, LN ++ [13, 10] ++ (if 0 ≤ n then d ++ [13, 10] else []) = y := ⟨_, rfl⟩
  rw [hTL]
  have HTL := Lib.hid hTL
  clear hTL
  have h80 := fun W gb (hG : GM W gb rowL) (hW : w.grownBy W none) => spell_80 hG hi c hv hr hf d.length (by omega) (kv := .slice ka kn kc) (mv := .slice ma mn mc) (lg := lg) (da := da) (dc := dc) (hp.kept hW) (hK.kept0 hW) (hM.kept hW) hkn hmn hfl (by rw [hLN]; omega)
  simp only [hLN] at h80
  have h63 := fun W gb v (hG : GM W gb rowL) (hg : w.grownBy W none) (hB : By W v LN) => (line_10 hG (hE.kept hg) v LN hB).mono (P := Tryz.prog) (fun e w' (hh : LnP LN W e w') => show ∃ ka' kb' ma' mb', e = .returned (.tuple #[.agg (cmB c' (.slice ka' c'.keys.length kb') (.slice none 0 0) (.slice ma' c'.mt.length mb') false), .int .i64 n, .agg #[.int .i64 0, sv [], .int .i64 0]]) ∧ Ws w' (.slice ka' c'.keys.length kb') c'.keys ∧ Fg w' (.slice ma' c'.mt.length mb') c'.mt ∧ W.grownBy w' none by
    obtain ⟨⟨c2, n2, kv', mv', h1, h2, h3, h4⟩ | ⟨k', t', p', h1, h2⟩, h5⟩ := hh
    · rw [hls] at h1
      injection h1 with h1
      injection h1 with e1 e2
      subst e1 e2
      have h6 := ws_row h3 rfl
      have h7 := (fs_row h4).fg
      obtain ⟨a1, b1, rfl, -⟩ := row_shape h3
      obtain ⟨a2, b2, rfl, -⟩ := row_shape h4
      exact ⟨a1, b1, a2, b2, h2, h6, h7, h5⟩
    · rw [hls] at h1
      cases h1)
  have h81 := fun W ka' kb' ma' mb' (hg : w.grownBy W none) (hk' : Ws W (.slice ka' c'.keys.length kb') c'.keys) (hm' : Fg W (.slice ma' c'.mt.length mb') c'.mt) => same_81 c' c false lg _ _ (.slice none 0 0) (.slice da d.length dc) _ _ hk' (hK.kept0 hg) (by omega) (by omega) hm' (hM.kept hg) (by omega) (by omega) ⟨_, _, _, rfl⟩ ⟨_, _, _, rfl⟩
  obtain ⟨vs, hvs⟩ : ∃ vs, cmB c (.slice ka kn kc) (.slice da d.length dc) (.slice ma mn mc) lg = vs := ⟨_, rfl⟩
  have hvl : vs.toList.length = 11 := by rw [← hvs]; rfl
  rw [hvs] at h80 ⊢
  have b1 := Box.new w 41 vs
  have gA := gb_alloc (gb_refl w none) (.cells vs 41)
  have h62 := rows_9 (w.alloc (.cells vs 41))
  simp only [World.size_alloc] at h62
  have HVS := Lib.hid hvs
  have hlt0 : w.heap.size < (w.alloc (.cells vs 41)).heap.size := by simp
  clear hvs hp hE hfl hls hLN hK hM hv hi hf hr hkn hmn
  go_enter Tryz.func35, Tryz.ntmps35
  go_upto_region 6 with (first
    | (go_at_call 67; go_must ((with_reducible refine h62.mono ?_); rintro e w2 ⟨rfl, hG2, g2⟩; have b2 := b1.kept g2 (by simp)))
    | (refine atL 41 w.heap.size 0 rfl rfl ?_; go_must (refine load41 rfl _ rfl 41 w.heap.size 0 _ b2 rfl vs.toList hvl (fun j v hv => by simpa using hv) ?_))
    | (go_at_call 85; go_must ((with_reducible refine (h80 _ _ hG2 (gb_trans gA g2)).mono ?_); rintro e w3 ⟨rfl, g3⟩; obtain ⟨W4, cc, hcv, g4, hB4, hs4⟩ := conv_by w3 LN (by omega); clear hs4))
    | (go_at_call 68; go_must ((with_reducible refine (h63 _ _ _ ((hG2.kept g3 (by simp)).kept g4 (by simp)) (gb_trans (gb_trans (gb_trans gA g2) g3) g4) hB4).mono ?_); rintro e w5 ⟨ka', kb', ma', mb', rfl, hk5, hm5, g5⟩; clear hcv hB4)))
  have gw5 := gb_trans (gb_trans (gb_trans (gb_trans gA g2) g3) g4) g5
  have b5 := ((b2.kept g3 (by simp)).kept g4 (by simp)).kept g5 (by simp)
  have hl5 : w.heap.size < w5.heap.size := Nat.lt_of_lt_of_le hlt0 (gb_trans (gb_trans (gb_trans g2 g3) g4) g5).size
  clear b1 b2 gA g2 g3 g4 g5 h62 h63 h80 hG2 hlt0
  have gX := gb_alloc (gb_alloc (gb_refl w5 none) (.cells (cmB c' (.slice ka' c'.keys.length kb') (.slice none 0 0) (.slice ma' c'.mt.length mb') false) 41)) (.cells #[.int .i64 0, .string ⟨#[]⟩, .int .i64 0] 43)
  have bk := (Box.new w5 41 (cmB c' (.slice ka' c'.keys.length kb') (.slice none 0 0) (.slice ma' c'.mt.length mb') false)).kept (gb_alloc (gb_refl _ none) (.cells #[.int .i64 0, .string ⟨#[]⟩, .int .i64 0] 43)) (by simp)
  have bw := Box.new (w5.alloc (.cells (cmB c' (.slice ka' c'.keys.length kb') (.slice none 0 0) (.slice ma' c'.mt.length mb') false) 41)) 43 #[.int .i64 0, .string ⟨#[]⟩, .int .i64 0]
  simp only [World.size_alloc] at bw
  obtain ⟨W6, hW6⟩ : ∃ W, (w5.alloc (.cells #[.int .i64 c'.verb, .slice ka' c'.keys.length kb', .int .u64 c'.flags, .int .i64 c'.exp, .int .u64 c'.tok, .int .u64 c'.del, .slice none 0 0, .bool c'.nr, .bool false, .slice ma' c'.mt.length mb', .string ⟨List.toArray c'.what⟩] 41)).alloc (.cells #[.int .i64 0, .string ⟨#[]⟩, .int .i64 0] 43) = W := ⟨_, rfl⟩
  rw [hW6]
  have g56 : w5.grownBy W6 none := hW6 ▸ gX
  have bk6 : Box W6 41 w5.heap.size (cmB c' (.slice ka' c'.keys.length kb') (.slice none 0 0) (.slice ma' c'.mt.length mb') false) := hW6 ▸ bk
  have bw6 : Box W6 43 (w5.heap.size + 1) #[.int .i64 0, .string ⟨#[]⟩, .int .i64 0] := hW6 ▸ bw
  have b6 : Box W6 41 w.heap.size (cmB c (.slice ka kn kc) (.slice da d.length dc) (.slice ma mn mc) lg) := by
    rw [HVS.out]
    exact b5.kept g56 (by simp)
  have gw6 := gb_trans gw5 g56
  have h81' := h81 W6 ka' kb' ma' mb' gw6 (hk5.kept0 g56) (hm5.kept g56)
  have hl6 : w.heap.size < W6.heap.size := Nat.lt_of_lt_of_le hl5 g56.size
  clear gX bk bw hW6 g56 h81 hk5 hm5 b5 gw5
  have p0 : W6.cell? ⟨w.heap.size, 0, none⟩ = some (.int .i64 c.verb) := b6.cell 0
  have p1 : W6.cell? ⟨w.heap.size, 1, none⟩ = some (.slice ka kn kc) := b6.cell 1
  have p2 : W6.cell? ⟨w.heap.size, 2, none⟩ = some (.int .u64 c.flags) := b6.cell 2
  have p3 : W6.cell? ⟨w.heap.size, 3, none⟩ = some (.int .i64 c.exp) := b6.cell 3
  have p4 : W6.cell? ⟨w.heap.size, 4, none⟩ = some (.int .u64 c.tok) := b6.cell 4
  have p5 : W6.cell? ⟨w.heap.size, 5, none⟩ = some (.int .u64 c.del) := b6.cell 5
  have p6 : W6.cell? ⟨w.heap.size, 6, none⟩ = some (.slice da d.length dc) := b6.cell 6
  have p7 : W6.cell? ⟨w.heap.size, 7, none⟩ = some (.bool c.nr) := b6.cell 7
  have p8 : W6.cell? ⟨w.heap.size, 8, none⟩ = some (.bool lg) := b6.cell 8
  have p9 : W6.cell? ⟨w.heap.size, 9, none⟩ = some (.slice ma mn mc) := b6.cell 9
  have p10 : W6.cell? ⟨w.heap.size, 10, none⟩ = some (sv c.what) := b6.cell 10
  have q0 : W6.cell? ⟨w5.heap.size, 0, none⟩ = some (.int .i64 c'.verb) := bk6.cell 0
  have q1 : W6.cell? ⟨w5.heap.size, 1, none⟩ = some (.slice ka' c'.keys.length kb') := bk6.cell 1
  have q2 : W6.cell? ⟨w5.heap.size, 2, none⟩ = some (.int .u64 c'.flags) := bk6.cell 2
  have q3 : W6.cell? ⟨w5.heap.size, 3, none⟩ = some (.int .i64 c'.exp) := bk6.cell 3
  have q4 : W6.cell? ⟨w5.heap.size, 4, none⟩ = some (.int .u64 c'.tok) := bk6.cell 4
  have q5 : W6.cell? ⟨w5.heap.size, 5, none⟩ = some (.int .u64 c'.del) := bk6.cell 5
  have q6 : W6.cell? ⟨w5.heap.size, 6, none⟩ = some (.slice none 0 0) := bk6.cell 6
  have q7 : W6.cell? ⟨w5.heap.size, 7, none⟩ = some (.bool c'.nr) := bk6.cell 7
  have q8 : W6.cell? ⟨w5.heap.size, 8, none⟩ = some (.bool false) := bk6.cell 8
  have q9 : W6.cell? ⟨w5.heap.size, 9, none⟩ = some (.slice ma' c'.mt.length mb') := bk6.cell 9
  have q10 : W6.cell? ⟨w5.heap.size, 10, none⟩ = some (sv c'.what) := bk6.cell 10
  have k0 : W6.cell? ⟨w5.heap.size + 1, 0, none⟩ = some (.int .i64 0) := bw6.cell 0
  go_cut [44] from 28 to 44 (fun x44 wd => ∃ sk : Bool, x44 = .bool sk ∧ (sk = false ↔ WtP c c' lg n d) ∧ W6.grownBy wd none)
  case first =>
    go_wp2_with (go_at_call 86; go_must ((with_reducible refine h81'.mono ?_); rintro e w7 ⟨b, hb, rfl, g7⟩; have pd : w7.cell? ⟨w.heap.size, 6, none⟩ = some (.slice da d.length dc) := (b6.kept g7 (by simp)).cell 6; have HB := Lib.hid hb; clear hb))
    · go_meet
      refine ⟨true, rfl, ⟨fun h => Bool.noConfusion h, fun h => ?_⟩, g7⟩
      have := HB.out.2 ⟨h.1, h.2.1.symm⟩
      simp_all
    · go_meet
      refine ⟨((d.length : Int) != max n 0), rfl, ⟨fun h => ?_, fun h => ?_⟩, g7⟩
      · obtain ⟨h1, h2⟩ := HB.out.1 (by assumption)
        exact ⟨h1, h2.symm, by simpa using h⟩
      · have := h.2.2
        simp [this]
  case rest =>
    obtain ⟨wb, hwb⟩ : ∃ y, y = wc := ⟨_, rfl⟩
    subst hwb
    obtain ⟨sk, rfl, hsk, gc⟩ := hcut
    have gwc := gb_trans gw6 gc
    have bc := b6.kept gc (by simp)
    have hlc : w.heap.size < wb.heap.size := Nat.lt_of_lt_of_le hl6 gc.size
    clear b6 bk6 bw6 gw6 gc h81' k0 p0 q0 p1 q1 p2 q2 p3 q3 p4 q4 p5 q5 p6 q6 p7 q7 p8 q8 p9 q9 p10 q10
    cases sk with
    | true =>
      go_wp2_with fail
      go_ret2
      exact ⟨gwc, .inl ⟨fun h => Bool.noConfusion (hsk.2 h), rfl⟩⟩
    | false =>
      have hW := hsk.1 rfl
      clear hsk
      have hcat : (ByteArray.mk LN.toArray ++ ByteArray.mk #[13, 10]) = ⟨(LN ++ [13, 10]).toArray⟩ := ba_app LN [13, 10]
      obtain ⟨W8, c8, hcv, g8, o8, s8⟩ := conv_own wb (LN ++ [13, 10]) (by simp; omega)
      have gw8 := gb_trans gwc g8
      have b8 := bc.kept g8 (by simp)
      clear bc
      have HW := Lib.hid hW
      clear hW
      have hs8 : wb.heap.size ≤ W8.heap.size := by omega
      have low8 := o8.low
      have hdl : d.length ≤ 2147483647 := by have := HW.out.2.2; omega
      clear s8
      have pd8 : W8.cell? ⟨w.heap.size, 6, none⟩ = some (.slice da d.length dc) := b8.cell 6
      obtain ⟨N8, hN8⟩ : ∃ y, (LN ++ [13, 10]).length = y := ⟨_, rfl⟩
      rw [hN8] at hcv o8 low8
      by_cases hn0 : 0 ≤ n
      · go_upto_region 10 with fail
        clear hcv hcat
        go_cut [10] from 50 to 53 (fun x10 wd => OwC wd wb.heap.size x10 ((LN ++ [13, 10]) ++ d) ∧ w.grownBy wd none ∧ wb.heap.size ≤ wd.heap.size)
        case first =>
          rcases hD with hd | hd0
          · have hd8 := hd.kept0 gw8
            go_wp2_with (at_builtin; go_must (refine moreM rfl _ _ rfl wb.heap.size _ (LN ++ [13, 10]) (by rfl) o8 (fun _ => False) _ d (by rfl) hd8 (by simp; omega) hs8 ?_); intro v9 w9 o9 g9)
            go_meet
            exact ⟨o9, gb_far gw8 g9 (B := wb.heap.size) low8 (by omega), Nat.le_trans hs8 g9.size⟩
          · subst hd0
            rcases id o8 with ⟨he, -⟩ | ⟨og, ocap, ocur, ofz, he, -, -, -, hoc, -⟩
            · cases he
            · injection he with h1 h2 h3
              injection h1 with h1
              injection h1 with h1 _ _
              subst h1
              subst h3
              have hk2 : N8 ≤ c8 := by rw [h2]; exact hoc
              clear h2 hoc
              go_wp2_with (at_builtin; go_must (refine moreE0 rfl _ _ rfl wb.heap.size N8 c8 (by rfl) hk2 da dc (by rfl) ?_))
              go_meet
              exact ⟨by simpa using o8, gw8, hs8⟩
        case rest =>
        obtain ⟨o9, gw9, hs9⟩ := hcut
        clear o8
        have low9 := o9.low
        rcases id o9 with ⟨-, he⟩ | ⟨og, ocap, ocur, ofz, he, -⟩
        · simp at he
        · subst he
          go_wp2_with (at_builtin; go_must (refine moreS rfl _ _ rfl wb.heap.size og _ _ (LN ++ [13, 10] ++ d) (by rfl) o9 [13, 10] (by rfl) (by simp; omega) hs9 ?_); intro v10 w10 o10 g10)
          go_ret2
          refine ⟨gb_far gw9 g10 (B := wb.heap.size) low9 (by omega), .inr ⟨HW.out, _, rfl, ?_⟩⟩
          rw [← HTL.out, if_pos hn0]
          have := o10.wide (B' := w.heap.size) (by omega)
          simpa using this
      · go_wp2_with fail
        go_ret2
        refine ⟨gw8, .inr ⟨HW.out, _, rfl, ?_⟩⟩
        rw [← HTL.out, if_neg (by omega), List.append_nil]
        exact o8.wide (by omega)
theorem wbytes_told {w : World} (hE : Er w) (hp : Pw w) {x : CI} (h : CiOk w x) (hkn : x.c.keys.length ≤ 10000000) (hmn : x.c.mt.length ≤ 10000000) (hfl : ∀ f ∈ x.c.mt, f.arg.length ≤ 1099511627776) {i : Nat} (hi : i < 24) (hv : x.c.verb = (i : Int) + 1) {c' : Cmd} {n : Int} (hls : lineS (lnB i x.c x.d.length) = .inl (c', n)) :
    Calls Tryz.prog 35 #[.agg (ciL x).toArray] w fun e w' => WbP x w e w' := by
  obtain ⟨da, dc, hdv⟩ := h.dsl
  obtain ⟨ka, kn, kc, hkv⟩ := h.k.shape
  obtain ⟨ma, mn, mc, hmv⟩ := h.m.shape
  have hK := h.k
  have hM := h.m
  have hD := h.d
  rw [hkv] at hK
  rw [hmv] at hM
  rw [hdv] at hD
  have key := wbytes_row hE hp hK hM (hD.imp id (fun h => h.1)) (lg := x.lg) h.r h.f h.dn hkn hmn hfl hi hv rfl hls
  have e : (ciL x).toArray = cmB x.c (.slice ka kn kc) (.slice da x.d.length dc) (.slice ma mn mc) x.lg := by rw [← hkv, ← hdv, ← hmv]
  rw [e]
  refine key.mono ?_
  rintro e w' ⟨g, ⟨hno, rfl⟩ | ⟨hw, v, rfl, ho⟩⟩
  · refine ⟨g, none, 0, 0, 7, rfl, .inl ⟨rfl, rfl, rfl, rfl, ?_⟩⟩
    rintro ⟨j, m, hj⟩
    have e : j = i := by have := hj.v; omega
    subst e
    have hl := hj.l
    rw [hls] at hl
    injection hl with hl
    injection hl with e1 e2
    exact hno ⟨e1, hj.lg, by rw [e2]; exact hj.d⟩
  · obtain ⟨va, vn, vc, rfl, -⟩ := (ho.ck (X := fun _ => False) (fun _ _ h => h)).slice
    exact ⟨g, va, vn, vc, 0, rfl, .inr ⟨rfl, i, n, ⟨hi, hv, hw.2.1, by rw [hls, hw.1], hw.2.2⟩, ho⟩⟩
theorem wbytes_any {w : World} (hE : Er w) (hp : Pw w) {x : CI} (h : CiOk w x) (hkn : x.c.keys.length ≤ 10000000) (hmn : x.c.mt.length ≤ 10000000) (hfl : ∀ f ∈ x.c.mt, f.arg.length ≤ 1099511627776) (hL : ∀ i, i < 24 → (lnB i x.c x.d.length).length ≤ 1000000000) :
    Calls Tryz.prog 35 #[.agg (ciL x).toArray] w fun e w' => WbP x w e w' := by
  by_cases hv : x.c.verb < 1 ∨ 24 < x.c.verb
  · exact wbytes_verb hv
  · obtain ⟨i, hi⟩ : ∃ i : Nat, x.c.verb = (i : Int) + 1 := ⟨(x.c.verb - 1).toNat, by omega⟩
    rcases hls : lineS (lnB i x.c x.d.length) with ⟨c', n⟩ | ⟨k, t, p⟩
    · exact wbytes_told hE hp h hkn hmn hfl (by omega) hi hls
    · exact wbytes_wrong hE hp h hkn hmn hfl (by omega) hi (hL i (by omega)) hls
end Go.Proofs.YtbbocbdoiealoaaGreatDoor
