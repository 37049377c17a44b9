import Derived.Test.YtobegepebochkaaGreatDoorSGk
import Derived.Test.YtobegepebochkaaGreatDoorSPbi
set_option linter.unusedVariables false
set_option linter.unusedSimpArgs false
namespace Go.Proofs.YtobegepebochkaaGreatDoor
open Go.RowKit Go.Maps
attribute [local go_sem] Oper.semAt_some
theorem Ck.kept0 {w w' : World} {X : Nat → Prop} {v : Value} {l : Bs} (h : Ck w X v l) (hf : w.grownBy w' none) : Ck w' X v l := by
  rcases h with h | ⟨g, o, c, h1, h2, h3, h4, h5, h6⟩
  · exact .inl h
  · exact .inr ⟨g, o, c, h1, h2, h3, Nat.lt_of_lt_of_le h4 hf.size, h5, fun i x hx => gb_cellN hf (h6 i x hx)⟩
theorem crlf_ck (W : World) : Ck (W.alloc (.cells #[.int .u8 13, .int .u8 10] 5)) (fun _ => False) (.slice (some ⟨W.heap.size, 0, none⟩) 2 2) [13, 10] := .inr ⟨W.heap.size, 0, 2, rfl, by simp, by omega, by simp, fun h => h, fun i x hx => by
  rcases i with _ | _ | i
  · have e : (13 : UInt8) = x := by simpa using hx
    subst e
    exact World.news_of_block (cs := #[.int .u8 13, .int .u8 10]) (t := 5) (fr := (0, 0)) (heap_alloc_new W _) 0 _ rfl
  · have e : (10 : UInt8) = x := by simpa using hx
    subst e
    exact World.news_of_block (cs := #[.int .u8 13, .int .u8 10]) (t := 5) (fr := (0, 0)) (heap_alloc_new W _) 1 _ rfl
  · simp at hx⟩
theorem field111_5 (a b c d e f : Value) (w : World) : (Instr.field 111 (.agg #[a, b, c, d, e, f]) 5).run Tryz.prog w = .ok f w := by kernel_rfl
def bsB (i : Nat) (c : Cmd) (d : Bs) : Bs := lnB i c d.length ++ [13, 10] ++ (if (dr i).block then d ++ [13, 10] else [])
set_option maxRecDepth 100000 in
set_option maxHeartbeats 4000000 in
theorem may_no {v : Int} (hv : v < 1 ∨ 24 < v) (c : Cmd) (kv dv mv : Value) (lg : Bool) (hc : c.verb = v) (w : World) :
    Calls Tryz.prog 77 #[.agg (cmV c kv dv lg mv)] w fun e w' => e = .returned (.bool false) ∧ w.grownBy w' none := by
  obtain ⟨verb, keys, flags, exp, tok, del, nr, mt, what⟩ := c
  simp only at hc
  subst hc
  go_enter Tryz.func77, Tryz.ntmps77
  by_cases h1 : verb < 1
  · have d1 : decide (verb < 1) = true := decide_eq_true h1
    go_wp2_with fail
    all_goals first | omega | (go_ret; exact ⟨rfl, gb_alloc (gb_refl _ none) _⟩)
  · have h2 : 24 < verb := by omega
    have d1 : decide (verb < 1) = false := decide_eq_false h1
    have d2 : decide (24 < verb) = true := decide_eq_true h2
    go_wp2_with fail
    all_goals first | omega | (go_ret; exact ⟨rfl, gb_alloc (gb_refl _ none) _⟩)
set_option maxRecDepth 100000 in
set_option maxHeartbeats 4000000 in
theorem bytes_31_no {vs : Array Value} (hvl : vs.toList.length = 11) (w : World) (h77 : ∀ W, w.grownBy W none → Calls Tryz.prog 77 #[.agg vs] W fun e w' => e = .returned (.bool false) ∧ W.grownBy w' none) :
    Calls Tryz.prog 31 #[.agg vs] w fun e w' => e = .returned (.tuple #[.slice none 0 0, .int .i64 7]) ∧ w.grownBy w' none := by
  have b1 := Box.new w 41 vs
  have gA := gb_alloc (gb_refl w none) (.cells vs 41)
  have h77' := h77 _ gA
  go_enter Tryz.func31, Tryz.ntmps31
  go_wp2_with (first
    | (refine atL 41 w.heap.size 0 rfl rfl ?_; go_must (refine load41 rfl _ rfl 41 w.heap.size 0 _ b1 rfl vs.toList hvl (fun j v hv => by simpa using hv) ?_))
    | (go_at_call 77; go_must (refine h77'.mono ?_); rintro e w2 ⟨rfl, g2⟩))
  go_ret2
  exact ⟨rfl, gb_trans gA g2⟩
set_option maxRecDepth 100000 in
set_option maxHeartbeats 4000000 in
theorem bytes_31_yes {i : Nat} (hi : i < 24) {vs : Array Value} {LN d : Bs} {dv : Value} {X : Nat → Prop} {bl : Bool} (hbl : (dr i).block = bl) (hvl : vs.toList.length = 11) (hv0 : vs[0]? = some (.int .i64 ((i : Int) + 1))) (hv6 : vs[6]? = some dv) (hLN : LN.length ≤ 2048) (w : World) (hd : Ck w X dv d ∨ (d = [] ∧ ∃ a c, dv = .slice a 0 c)) (hdl : d.length ≤ 2147483647)
    (h77 : ∀ W, w.grownBy W none → Calls Tryz.prog 77 #[.agg vs] W fun e w' => e = .returned (.bool true) ∧ W.grownBy w' none)
    (h78 : ∀ W, w.grownBy W none → Calls Tryz.prog 78 #[.agg vs] W fun e w' => e = .returned (sv LN) ∧ W.grownBy w' none) :
    Calls Tryz.prog 31 #[.agg vs] w fun e w' => ∃ v, e = .returned (.tuple #[v, .int .i64 0]) ∧ OwC w' w.heap.size v (LN ++ [13, 10] ++ (if bl then d ++ [13, 10] else [])) ∧ w.grownBy w' none := by
  have b1 := Box.new w 41 vs
  have gA := gb_alloc (gb_refl w none) (.cells vs 41)
  have h77' := h77 _ gA
  have h58 := rowOf_58 i hi
  obtain ⟨sh, hsh⟩ : ∃ x, (dr i).shape = x := ⟨_, rfl⟩
  obtain ⟨le, hle⟩ : ∃ x, (dr i).least = x := ⟨_, rfl⟩
  obtain ⟨ag, hag⟩ : ∃ x, (dr i).again = x := ⟨_, rfl⟩
  obtain ⟨re, hre⟩ : ∃ x, (dr i).reply = x := ⟨_, rfl⟩
  simp only [drA, hsh, hle, hag, hre, hbl] at h58
  clear hsh hle hag hre hbl
  obtain ⟨da, dn, dc, rfl, rfl⟩ : ∃ a n c, dv = .slice a n c ∧ n = d.length := by
    rcases hd with hd | ⟨rfl, a, c, rfl⟩
    · exact hd.slice
    · exact ⟨a, 0, c, rfl, rfl⟩
  have HV0 := Lib.hid hv0
  have HV6 := Lib.hid hv6
  clear hv0 hv6
  go_enter Tryz.func31, Tryz.ntmps31
  go_upto_region 3 with (first
    | (refine atL 41 w.heap.size 0 rfl rfl ?_; go_must (refine load41 rfl _ rfl 41 w.heap.size 0 _ b1 rfl vs.toList hvl (fun j v hv => by simpa using hv) ?_))
    | (go_at_call 77; go_must (refine h77'.mono ?_); rintro e w2 ⟨rfl, g2⟩))
  have gw2 := gb_trans gA g2
  have b2 := b1.kept g2 (by simp)
  have h78' := h78 _ gw2
  clear h77 h77' b1 gA h78 g2
  go_upto_region 4 with (first
    | (refine atL 41 w.heap.size 0 rfl rfl ?_; go_must (refine load41 rfl _ rfl 41 w.heap.size 0 _ b2 rfl vs.toList hvl (fun j v hv => by simpa using hv) ?_))
    | (go_at_call 78; go_must (refine h78'.mono ?_); rintro e w3 ⟨rfl, g3⟩; obtain ⟨W4, cc, hcv, g4, o4, s4⟩ := conv_own w3 LN (by omega); have o4' := o4.kept0 (gb_alloc (gb_refl W4 none) (.cells #[.int .u8 13, .int .u8 10] 5)); have hs4 : w3.heap.size ≤ (W4.alloc (.cells #[.int .u8 13, .int .u8 10] 5)).heap.size := (by simp only [World.size_alloc, s4]; omega); clear s4)
    | (at_builtin; go_must (refine moreM rfl _ _ rfl w3.heap.size _ LN (by rfl) o4' (fun _ => False) (.slice (some ⟨W4.heap.size, 0, none⟩) 2 2) [13, 10] (by rfl) (crlf_ck W4) (by simp; omega) hs4 ?_); intro v5 w5 o5 g5))
  have hlt : w.heap.size < w2.heap.size := (Array.getElem?_eq_some_iff.1 b2).1
  have hlt3 : w.heap.size < w3.heap.size := Nat.lt_of_lt_of_le hlt g3.size
  have gw4 := gb_trans (gb_trans gw2 g3) (gb_alloc g4 (.cells #[.int .u8 13, .int .u8 10] 5))
  have gw5 : w.grownBy w5 none := gb_far gw4 g5 (B := w3.heap.size) (fun i h => by have e : w3.heap.size = i := by simpa [Value.ownBlock] using h
                                                                                   omega) (by omega)
  have b5 : Box w5 41 w.heap.size vs := (b2.kept (gb_trans g3 (gb_alloc g4 (.cells #[.int .u8 13, .int .u8 10] 5))) (by simp)).kept g5 (by simp [Value.ownBlock]; omega)
  have hs5 : w3.heap.size ≤ w5.heap.size := Nat.le_trans hs4 g5.size
  have p0 : w5.cell? ⟨w.heap.size, 0, none⟩ = some (.int .i64 ((i : Int) + 1)) := (b5.cell 0).trans HV0.out
  obtain ⟨va, vn, vc, hv5, -⟩ : ∃ a n c, v5 = .slice a n c ∧ n = (LN ++ [13, 10]).length := (o5.ck (X := fun _ => False) (fun _ _ h => h)).slice
  have low5 := o5.low
  clear hcv o4 o4' g5 gw4 h78' b2 g3 g4 hs4
  subst hv5
  have hfd := field111_5
  cases bl with
  | false =>
    go_wp2_with (go_at_call 58; go_must (refine (h58 _).mono ?_); rintro e w6 ⟨rfl, g6⟩)
    go_ret2
    exact ⟨_, rfl, by simpa using (o5.kept0 g6).wide (B' := w.heap.size) (by omega), gb_trans gw5 g6⟩
  | true =>
    go_upto_region 5 with (go_at_call 58; go_must (refine (h58 _).mono ?_); rintro e w6 ⟨rfl, g6⟩)
    have o6 := o5.kept0 g6
    have b6 := b5.kept g6 (by simp)
    have p6 : w6.cell? ⟨w.heap.size, 6, none⟩ = some (.slice da d.length dc) := (b6.cell 6).trans HV6.out
    have gw6 := gb_trans gw5 g6
    have hs6 : w3.heap.size ≤ w6.heap.size := Nat.le_trans hs5 g6.size
    have hl6 : (LN ++ [13, 10]).length + d.length ≤ 140737488355328 := by simp; omega
    clear o5 b5 p0 g6
    have key : ∀ (v7 : Value) (w7 : World), OwC w7 w3.heap.size v7 ((LN ++ [13, 10]) ++ d) → w.grownBy w7 none → w3.heap.size ≤ w7.heap.size → OwC w7 w3.heap.size v7 ((LN ++ [13, 10]) ++ d) ∧ w.grownBy w7 none ∧ w3.heap.size ≤ w7.heap.size := fun _ _ h1 h2 h3 => ⟨h1, h2, h3⟩
    clear key
    go_cut [4] from 17 to 20 (fun x4 wd => OwC wd w3.heap.size x4 ((LN ++ [13, 10]) ++ d) ∧ w.grownBy wd none ∧ w3.heap.size ≤ wd.heap.size)
    case first =>
      rcases hd with hd | ⟨rfl, -⟩
      · have hd6 := hd.kept0 gw6
        go_wp2_with (at_builtin; go_must (refine moreM rfl _ _ rfl w3.heap.size _ (LN ++ [13, 10]) (by rfl) o6 X _ d (by rfl) hd6 hl6 hs6 ?_); intro v7 w7 o7 g7)
        go_meet
        exact ⟨o7, gb_far gw6 g7 (B := w3.heap.size) low5 (by omega), Nat.le_trans hs6 g7.size⟩
      · rcases id o6 with ⟨he, -⟩ | ⟨og, ocap, ocur, ofz, he, -, -, -, hoc, -⟩
        · exact absurd (show (LN ++ [13, 10]) = [] by rcases id o6 with ⟨-, h⟩ | ⟨_, _, _, _, h, _⟩ <;> first | exact h | (rw [h] at he; cases he)) (by simp)
        · injection he with h1 h2 h3
          subst h1
          subst h3
          have hk2 : vn ≤ vc := by rw [h2]; exact hoc
          clear h2 hoc
          go_wp2_with (at_builtin; go_must (refine moreE0 rfl _ _ rfl og vn vc (by rfl) hk2 da dc (by rfl) ?_))
          go_meet
          exact ⟨by simpa using o6, gw6, hs6⟩
    case rest =>
    obtain ⟨o7, gw7, hs70⟩ := hcut
    clear o6
    have hs7 : w3.heap.size ≤ (wc.alloc (.cells #[.int .u8 13, .int .u8 10] 5)).heap.size := Nat.le_trans hs70 (by simp)
    have o7' := o7.kept0 (gb_alloc (gb_refl wc none) (.cells #[.int .u8 13, .int .u8 10] 5))
    have lowc := o7.low
    have hl7 : ((LN ++ [13, 10]) ++ d).length + ([13, 10] : Bs).length ≤ 140737488355328 := by simp; omega
    obtain ⟨va7, vn7, vc7, hv7, -⟩ : ∃ a n c, u4 = .slice a n c ∧ n = (LN ++ [13, 10] ++ d).length := (o7.ck (X := fun _ => False) (fun _ _ h => h)).slice
    subst hv7
    go_wp2_with (at_builtin; go_must (refine moreM rfl _ _ rfl w3.heap.size _ ((LN ++ [13, 10]) ++ d) (by rfl) o7' (fun _ => False) (.slice (some ⟨wc.heap.size, 0, none⟩) 2 2) [13, 10] (by rfl) (crlf_ck wc) hl7 hs7 ?_); intro v8 w8 o8 g8)
    go_ret2
    refine ⟨_, rfl, ?_, gb_far (gb_alloc gw7 _) g8 (B := w3.heap.size) lowc (by omega)⟩
    have := o8.wide (B' := w.heap.size) (by omega)
    simpa using this
theorem bytes_31 {i : Nat} (hi : i < 24) {c : Cmd} (hv : c.verb = (i : Int) + 1) (hr : RngP c) (hf : c.flags ≤ 18446744073709551615) {d : Bs} {kv mv dv : Value} {lg : Bool} {X : Nat → Prop} (w : World) (hK : Kf w kv c.keys) (hM : Fg w mv c.mt) (hD : Ck w X dv d ∨ (d = [] ∧ ∃ a c, dv = .slice a 0 c)) (hdn : d.length ≤ 140737488355328) (hkn : c.keys.length ≤ 140737488355328) (hmn : c.mt.length ≤ 140737488355328) (hkl : ∀ k ∈ c.keys, k.length ≤ 140737488355328) (hfl : ∀ f ∈ c.mt, f.arg.length ≤ 140737488355328) :
    Calls Tryz.prog 31 #[.agg (cmV c kv dv lg mv)] w fun e w' => w.grownBy w' none ∧ ((mayB i c d.length lg = false ∧ e = .returned (.tuple #[.slice none 0 0, .int .i64 7])) ∨ (mayB i c d.length lg = true ∧ ∃ v, e = .returned (.tuple #[v, .int .i64 0]) ∧ OwC w' w.heap.size v (bsB i c d))) := by
  obtain ⟨da, dn, dc, rfl, rfl⟩ : ∃ a n c, dv = .slice a n c ∧ n = d.length := by
    rcases hD with hD | ⟨rfl, a, c, rfl⟩
    · exact hD.slice
    · exact ⟨a, 0, c, rfl, rfl⟩
  have h77 := fun (W : World) (hW : w.grownBy W none) => may_77 hi hv hr hf (n := d.length) (by omega) (da := da) (dc := dc) (lg := lg) W (hK.kept hW) (hM.kept hW) (by omega) (by omega) (fun k h => by have := hkl k h; omega) (fun f h => by have := hfl f h; omega) (fun h4 h3 hk => lnB_len hi hr hf (by omega) hkn hfl h4 h3 hk)
  obtain ⟨R, hR⟩ : ∃ R, mayB i c d.length lg = R := ⟨_, rfl⟩
  simp only [hR] at h77 ⊢
  cases R with
  | false =>
    refine (bytes_31_no rfl w h77).mono ?_
    rintro e w' ⟨rfl, g⟩
    exact ⟨g, .inl ⟨rfl, rfl⟩⟩
  | true =>
    obtain ⟨rfl, hm, hl⟩ := (mayB_iff hv).1 hR
    have h78 := fun (W : World) (hW : w.grownBy W none) => line_78 hi hv hr hf (n := d.length) (by omega) (by omega) (da := da) (dc := dc) (lg := false) W (hK.kept hW) (hM.kept hW) (by omega) (by omega)
    refine (bytes_31_yes hi rfl rfl (by rw [← hv]; rfl) rfl hl w hD hm.most h77 h78).mono ?_
    rintro e w' ⟨v, rfl, ho, g⟩
    exact ⟨g, .inr ⟨rfl, v, rfl, ho⟩⟩
end Go.Proofs.YtobegepebochkaaGreatDoor
