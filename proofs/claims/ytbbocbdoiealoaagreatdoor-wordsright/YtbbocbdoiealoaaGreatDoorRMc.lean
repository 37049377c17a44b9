import Derived.Test.YtbbocbdoiealoaaGreatDoorRPba
import Derived.Test.YtbbocbdoiealoaaGreatDoorRPbb
set_option linter.unusedVariables false
set_option linter.unusedSimpArgs false
namespace Go.Proofs.YtbbocbdoiealoaaGreatDoor
open Go.RowKit Go.Shelf Go.Maps
attribute [local go_sem] Oper.semAt_some
theorem ws_one (W : World) (x : Bs) : Ws (W.alloc (.cells #[sv x] 9)) (.slice (some ⟨W.heap.size, 0, none⟩) 1 1) [x] :=
  .inr ⟨W.heap.size, 0, 1, rfl, by simp, by simp, fun i y hy => by
    obtain ⟨rfl, rfl⟩ : i = 0 ∧ x = y := by
      rcases i with _ | i
      · simpa using hy
      · simp at hy
    exact World.news_of_block (cs := #[sv x]) (t := 9) (fr := (0, 0)) (heap_alloc_new W _) 0 _ rfl⟩
set_option maxRecDepth 100000 in
set_option maxHeartbeats 4000000 in
theorem must_125 (c : Cmd) (hr : RngP c) (hf : c.flags ≤ 18446744073709551615) (n : Nat) (hn : n ≤ 9223372036854775807) {kv mv : Value} {da : Option Addr} {dc : Nat} {lg : Bool} (w : World) (hp : Pw w) (hk : Ws w kv c.keys) (hm : ∃ a n' c', mv = .slice a n' c') (a : UInt8) (ha : a ∈ ([75, 70, 84, 78, 67, 68, 86] : Bs)) :
    Calls Tryz.prog 130 #[.agg (cmB c kv (.slice da n dc) mv lg), .int .u8 a.toNat] w fun e w' => ∃ v, e = .returned v ∧ Ws w' v (mustW c n a) ∧ w.grownBy w' none := by
  obtain ⟨ka, kn, kc, rfl⟩ := hk.shape
  obtain ⟨ma, mn, mc, rfl⟩ := hm
  have g1 := gb_alloc (gb_refl w none) (.cells (cmB c (.slice ka kn kc) (.slice da n dc) (.slice ma mn mc) lg) 41)
  have hp1 := hp.kept g1
  have h1 := fmtu_149 c.flags hf _ hp1
  have h2 := itoa_150 c.exp hr.e1 hr.e2 _ hp1
  have h3 := itoa_150 (n : Int) (by omega) (by omega) _ hp1
  have h4 := fmtu_149 c.tok hr.tok _ hp1
  have h5 := fmtu_149 c.del hr.del _ hp1
  simp only [List.mem_cons, List.not_mem_nil, or_false] at ha
  rcases ha with rfl | rfl | rfl | rfl | rfl | rfl | rfl
  · go_enter Tryz.func130, Tryz.ntmps130
    go_wp2
    go_ret
    exact ⟨_, rfl, hk.kept0 g1, g1⟩
  · go_enter Tryz.func130, Tryz.ntmps130
    go_wp2_with (go_at_call 154; go_must (refine h1.mono ?_); rintro e w2 ⟨rfl, g2⟩)
    go_ret
    exact ⟨_, rfl, ws_one _ _, gb_alloc (gb_trans g1 g2) _⟩
  · go_enter Tryz.func130, Tryz.ntmps130
    go_wp2_with (go_at_call 155; go_must (refine h2.mono ?_); rintro e w2 ⟨rfl, g2⟩)
    go_ret
    exact ⟨_, rfl, ws_one _ _, gb_alloc (gb_trans g1 g2) _⟩
  · go_enter Tryz.func130, Tryz.ntmps130
    go_wp2_with (go_at_call 155; go_must (refine h3.mono ?_); rintro e w2 ⟨rfl, g2⟩)
    go_ret
    refine ⟨_, rfl, ?_, gb_alloc (gb_trans g1 g2) _⟩
    have := ws_one w2 (sg (n : Int))
    rwa [show sg (n : Int) = dg n by unfold sg; rw [if_neg (by omega)]; rfl] at this
  · go_enter Tryz.func130, Tryz.ntmps130
    go_wp2_with (go_at_call 154; go_must (refine h4.mono ?_); rintro e w2 ⟨rfl, g2⟩)
    go_ret
    exact ⟨_, rfl, ws_one _ _, gb_alloc (gb_trans g1 g2) _⟩
  · go_enter Tryz.func130, Tryz.ntmps130
    go_wp2_with (go_at_call 154; go_must (refine h5.mono ?_); rintro e w2 ⟨rfl, g2⟩)
    go_ret
    exact ⟨_, rfl, ws_one _ _, gb_alloc (gb_trans g1 g2) _⟩
  · go_enter Tryz.func130, Tryz.ntmps130
    go_wp2
    go_ret
    refine ⟨_, rfl, ?_, gb_alloc g1 _⟩
    have := ws_one (w.alloc (.cells (cmB c (.slice ka kn kc) (.slice da n dc) (.slice ma mn mc) lg) 41)) [49]
    simp only [World.size_alloc] at this
    exact this
set_option maxRecDepth 100000 in
set_option maxHeartbeats 4000000 in
theorem might_126 (c : Cmd) (hr : RngP c) {kv dv mv : Value} {lg : Bool} (w : World) (hp : Pw w) (hk : ∃ a n' c', kv = .slice a n' c') (hd : ∃ a n' c', dv = .slice a n' c') (hm : Fg w mv c.mt) (hmn : c.mt.length ≤ 1000000000) (hfl : ∀ f ∈ c.mt, f.arg.length ≤ 1099511627776) (a : UInt8) (ha : a ∈ ([75, 48, 76, 87, 77] : Bs)) :
    Calls Tryz.prog 131 #[.agg (cmB c kv dv mv lg), .int .u8 a.toNat] w fun e w' => ∃ v, e = .returned v ∧ Ws w' v (mightW c a) ∧ w.grownBy w' none := by
  obtain ⟨ka, kn, kc, rfl⟩ := hk
  obtain ⟨da, dn, dc, rfl⟩ := hd
  obtain ⟨ma, mn, mc, rfl⟩ := hm.shape
  have g1 := gb_alloc (gb_refl w none) (.cells (cmB c (.slice ka kn kc) (.slice da dn dc) (.slice ma mn mc) lg) 41)
  have hp1 := hp.kept g1
  have h2 := itoa_150 c.exp hr.e1 hr.e2 _ hp1
  simp only [List.mem_cons, List.not_mem_nil, or_false] at ha
  rcases ha with rfl | rfl | rfl | rfl | rfl
  · go_enter Tryz.func131, Tryz.ntmps131
    go_wp2
    go_ret
    exact ⟨_, rfl, .inl ⟨rfl, _, _, rfl⟩, g1⟩
  · go_enter Tryz.func131, Tryz.ntmps131
    go_wp2
    go_ret
    exact ⟨_, rfl, .inl ⟨rfl, _, _, rfl⟩, g1⟩
  · by_cases he : c.exp = 0
    · have hz : mightW c 76 = [] := by simp [mightW, he]
      rw [hz]
      have h0 : (c.exp != 0) = false := by simpa using he
      go_enter Tryz.func131, Tryz.ntmps131
      go_wp2
      all_goals first
        | contradiction
        | (go_ret; exact ⟨_, rfl, .inl ⟨rfl, _, _, rfl⟩, g1⟩)
    · have hz : mightW c 76 = [sg c.exp] := by simp [mightW, he]
      rw [hz]
      have h0 : (c.exp != 0) = true := by simpa using he
      go_enter Tryz.func131, Tryz.ntmps131
      go_wp2_with (first
        | (go_at_call 155; go_must (refine h2.mono ?_); rintro e w2 ⟨rfl, g2⟩)
        | (at_builtin; go_must (refine push9 rfl _ _ rfl w2.heap.size _ 0 [] (by rfl) (World.ownsRow_nil _ _ _ _) ⟨(sg c.exp).toArray⟩ (by rfl) (by omega) (Nat.le_refl _) ?_); intro g3 c3 w3 r3 g3' o3))
      all_goals first
        | contradiction
        | (go_ret; exact ⟨_, rfl, ws_row (ws := [sg c.exp]) (by simpa using r3) rfl, gb_trans g1 (gb_trans g2 g3')⟩)
  · by_cases he : c.what = []
    · have hz : mightW c 87 = [] := by simp [mightW, he]
      rw [hz]
      obtain ⟨verb, keys, flags, exp, tok, del, nr, mt, what⟩ := c
      simp only at he
      subst he
      go_enter Tryz.func131, Tryz.ntmps131
      go_wp2
      all_goals first
        | contradiction
        | (go_ret; exact ⟨_, rfl, .inl ⟨rfl, _, _, rfl⟩, g1⟩)
    · have hz : mightW c 87 = [c.what] := by simp [mightW, he]
      rw [hz]
      have hne : c.what.isEmpty = false := by simpa using he
      go_enter Tryz.func131, Tryz.ntmps131
      go_wp2_with (at_builtin; go_must (refine push9 rfl _ _ rfl (w.heap.size + 1) _ 0 [] (by rfl) (World.ownsRow_nil _ _ _ _) ⟨c.what.toArray⟩ (by rw [World.size_alloc]; rfl) (by omega) (by simp) ?_); intro g3 c3 w3 r3 g3' o3)
      all_goals first
        | contradiction
        | (go_ret; exact ⟨_, rfl, ws_row (ws := [c.what]) (by simpa using r3) rfl, gb_trans g1 g3'⟩)
  · have hz : mightW c 77 = c.mt.map fw := rfl
    rw [hz]
    obtain ⟨w1, hw1⟩ : ∃ x, w.alloc (.cells (cmB c (.slice ka kn kc) (.slice da dn dc) (.slice ma mn mc) lg) 41) = x := ⟨_, rfl⟩
    have b1 : Box w1 41 w.heap.size (cmB c (.slice ka kn kc) (.slice da dn dc) (.slice ma mn mc) lg) := by rw [← hw1]; exact Box.new w 41 _
    have p9 : w1.cell? ⟨w.heap.size, 9, none⟩ = some (.slice ma mn mc) := b1.cell 9
    have hml : mn = c.mt.length := hm.len
    have hm1 : Fg w1 (.slice ma mn mc) c.mt := hm.kept (by rw [← hw1]; exact g1)
    have G1 : w.grownBy w1 none := by rw [← hw1]; exact g1
    clear g1 hp1 h2 hm b1
    obtain ⟨mt, hmt⟩ : ∃ x, c.mt = x := ⟨_, rfl⟩
    rw [hmt] at hm1 hml hmn hfl ⊢
    subst hml
    have HMT := Lib.hid hmt
    clear hmt
    have HM := Lib.hid hm1
    have HFL := Lib.hid hfl
    clear hm1 hfl
    go_enter Tryz.func131, Tryz.ntmps131
    go_upto_region 8 with fail
    have HW1 := Lib.hid hw1
    clear hw1
    go_loopw [5, 41] (fun x5 x41 wr => ∃ k : Nat, k ≤ mt.length ∧ x41 = .int .i64 (k : Int) ∧ wr.ownsRow w1.heap.size 9 1 x5 k (((mt.take k).map fw).map sv) ∧ w1.grownBy wr none) (fun _ x41 _ => mt.length - (intOf x41).toNat)
    case atStart => exact ⟨0, by omega, rfl, World.ownsRow_nil _ _ _ _, gb_refl _ _⟩
    case round =>
      obtain ⟨k, hk, rfl, row, gr⟩ := hrel
      obtain ⟨ra, rc, erv, -, -, -, -⟩ := row_shape row
      subst erv
      rcases (by omega : k < mt.length ∨ k = mt.length) with hlt | rfl
      · obtain ⟨x, hx⟩ : ∃ x, mt[k]? = some x := ⟨_, List.getElem?_eq_getElem hlt⟩
        have hxl := HFL.out x (List.mem_of_getElem? hx)
        rcases HM.out with ⟨h0, -⟩ | ⟨g, o1, mc', he, hcell⟩
        · rw [h0] at hlt; exact absurd hlt (by simp)
        · injection he with e1 _ e3
          subst e1
          subst e3
          obtain ⟨c0, c1, c2⟩ := hcell k x hx
          obtain ⟨la, ar, hs⟩ := x
          simp only at c0 c1 c2 hxl
          replace c0 := gb_cellN gr c0
          replace c1 := gb_cellN gr c1
          replace c2 := gb_cellN gr c2
          have d1 : decide (k < mt.length) = true := decide_eq_true hlt
          have HX := Lib.hid hx
          clear hx hcell
          go_upto_region 10 with fail
          obtain ⟨w2, hw2⟩ : ∃ x, wr.alloc (.cells #[.int .u8 la.toNat, .string ⟨ar.toArray⟩, .bool hs] 79) = x := ⟨_, rfl⟩
          have b2 : Box w2 79 wr.heap.size #[.int .u8 la.toNat, .string ⟨ar.toArray⟩, .bool hs] := by rw [← hw2]; exact Box.new wr 79 _
          have g2 : wr.grownBy w2 none := by rw [← hw2]; exact gb_alloc (gb_refl _ none) _
          rw [hw2]
          clear hw2
          have q0 : w2.cell? ⟨wr.heap.size, 0, none⟩ = some (.int .u8 la.toNat) := b2.cell 0
          have q1 : w2.cell? ⟨wr.heap.size, 1, none⟩ = some (.string ⟨ar.toArray⟩) := b2.cell 1
          have q1' : (w2.alloc (.cells #[.int .u8 la.toNat] 5)).cell? ⟨wr.heap.size, 1, none⟩ = some (.string ⟨ar.toArray⟩) := gb_cellN (gb_alloc (gb_refl w2 none) _) q1
          have hcw : (convert 38 9 (.slice (some ⟨w2.heap.size, 0, none⟩) 1 1)).run Tryz.prog (w2.alloc (.cells #[.int .u8 la.toNat] 5)) = .ok (sv [la]) (w2.alloc (.cells #[.int .u8 la.toNat] 5)) := (la_ck w2 la).conv
          have row2 := row_kept row (gb_alloc g2 (.cells #[.int .u8 la.toNat] 5)) (fun _ _ e => by cases e)
          have hsz : w1.heap.size ≤ (w2.alloc (.cells #[.int .u8 la.toNat] 5)).heap.size := Nat.le_trans gr.size (gb_alloc g2 (.cells #[.int .u8 la.toNat] 5)).size
          obtain ⟨w3, hw3⟩ : ∃ x, w2.alloc (.cells #[.int .u8 la.toNat] 5) = x := ⟨_, rfl⟩
          have G3 : w1.grownBy w3 none := gb_trans gr (by rw [← hw3]; exact gb_alloc g2 _)
          rw [hw3] at hcw row2 hsz q1'
          clear row b2 g2 q1
          generalize wr.heap.size = fb at *
          go_wp2_with (at_builtin; go_must (refine push9 rfl _ _ rfl w1.heap.size _ k _ (by rfl) row2 _ (by rfl) (by omega) hsz ?_); intro g4 c4 w4 r4 g4' o4)
          have e4 : List.take (k + 1) (mt.map (sv ∘ fw)) = ((mt.take k).map fw).map sv ++ [sv (la :: ar)] := by
            rw [List.take_add_one, List.getElem?_map, HX.out, ← List.map_take]
            simp [fw]
          refine ⟨⟨_, _, _, ⟨k + 1, by omega, rfl, ?_, gb_far G3 g4' (B := w1.heap.size) (fun j hj => (World.ownsRow.lt row2 j hj).1) (Nat.le_refl _)⟩, rfl, rfl, rfl⟩, by simp [intOf]; omega⟩
          rw [e4]
          have e5 : Value.string ((⟨[la].toArray⟩ : ByteArray) ++ ⟨ar.toArray⟩) = sv (la :: ar) := by rw [ba_app]; rfl
          rw [← e5]
          exact r4
      · rw [List.take_length] at row
        go_wp2_with fail
        go_ret
        exact ⟨_, rfl, ws_row row (by simp), gb_trans G1 gr⟩
end Go.Proofs.YtbbocbdoiealoaaGreatDoor
