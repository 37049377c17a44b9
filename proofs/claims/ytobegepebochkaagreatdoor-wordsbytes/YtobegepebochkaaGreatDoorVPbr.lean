import Derived.Test.YtobegepebochkaaGreatDoorVPbq
import Derived.Test.YtobegepebochkaaGreatDoorVPaf
import Derived.Test.YtobegepebochkaaGreatDoorVGe
import Derived.Test.YtobegepebochkaaGreatDoorVPaj
import Derived.Test.YtobegepebochkaaGreatDoorVGl
import Derived.Test.YtobegepebochkaaGreatDoorVPat
import Derived.Test.YtobegepebochkaaGreatDoorVPae
import Derived.Test.YtobegepebochkaaGreatDoorVPap
import Derived.Test.YtobegepebochkaaGreatDoorVD
import Derived.Lib.ConvBytes
import Derived.Test.YtobegepebochkaaGreatDoorVPbl
set_option linter.unusedVariables false
set_option linter.unusedSimpArgs false
namespace Go.Proofs.YtobegepebochkaaGreatDoor
open Go.RowKit Go.Maps
attribute [local go_sem] Oper.semAt_some
theorem Ck.kept0 {w w' : World} {X : Nat → Prop} {v : Value} {l : Bs} (h : Ck w X v l) (hf : w.grownBy w' none) : Ck w' X v l := by
  rcases h with h | ⟨g, o, c, h1, h2, h3, h4, h5, h6⟩
  · exact .inl h
  · exact .inr ⟨g, o, c, h1, h2, h3, Nat.lt_of_lt_of_le h4 hf.size, h5, fun i x hx => gb_cellN hf (h6 i x hx)⟩
theorem crlf_ck (W : World) : Ck (W.alloc (.cells #[.int .u8 13, .int .u8 10] 5)) (fun _ => False) (.slice (some ⟨W.heap.size, 0, none⟩) 2 2) [13, 10] := .inr ⟨W.heap.size, 0, 2, rfl, by simp, by omega, by simp, fun h => h, fun i x hx => by
  rcases i with _ | _ | i
  · have e : (13 : UInt8) = x := by simpa using hx
    subst e
    exact World.news_of_block (cs := #[.int .u8 13, .int .u8 10]) (t := 5) (fr := (0, 0)) (heap_alloc_new W _) 0 _ rfl
  · have e : (10 : UInt8) = x := by simpa using hx
    subst e
    exact World.news_of_block (cs := #[.int .u8 13, .int .u8 10]) (t := 5) (fr := (0, 0)) (heap_alloc_new W _) 1 _ rfl
  · simp at hx⟩
theorem field111_5 (a b c d e f : Value) (w : World) : (Instr.field 111 (.agg #[a, b, c, d, e, f]) 5).run Tryz.prog w = .ok f w := by kernel_rfl
def bsB (i : Nat) (c : Cmd) (d : Bs) : Bs := lnB i c d.length ++ [13, 10] ++ (if (dr i).block then d ++ [13, 10] else [])
set_option maxRecDepth 100000 in
set_option maxHeartbeats 4000000 in
theorem may_no {v : Int} (hv : v < 1 ∨ 24 < v) (c : Cmd) (kv dv mv : Value) (lg : Bool) (hc : c.verb = v) (w : World) :
    Calls Tryz.prog 77 #[.agg (cmV c kv dv lg mv)] w fun e w' => e = .returned (.bool false) ∧ w.grownBy w' none := by
  obtain ⟨verb, keys, flags, exp, tok, del, nr, mt, what⟩ := c
  simp only at hc
  subst hc
  go_enter Tryz.func77, Tryz.ntmps77
  by_cases h1 : verb < 1
  · have d1 : decide (verb < 1) = true := decide_eq_true h1
    go_wp2_with fail
    all_goals first | omega | (go_ret; exact ⟨rfl, gb_alloc (gb_refl _ none) _⟩)
  · have h2 : 24 < verb := by omega
    have d1 : decide (verb < 1) = false := decide_eq_false h1
    have d2 : decide (24 < verb) = true := decide_eq_true h2
    go_wp2_with fail
    all_goals first | omega | (go_ret; exact ⟨rfl, gb_alloc (gb_refl _ none) _⟩)
set_option maxRecDepth 100000 in
set_option maxHeartbeats 4000000 in
theorem bytes_31_no {vs : Array Value} (hvl : vs.toList.length = 11) (w : World) (h77 : ∀ W, w.grownBy W none → Calls Tryz.prog 77 #[.agg vs] W fun e w' => e = .returned (.bool false) ∧ W.grownBy w' none) :
    Calls Tryz.prog 31 #[.agg vs] w fun e w' => e = .returned (.tuple #[.slice none 0 0, .int .i64 7]) ∧ w.grownBy w' none := by
  have b1 := Box.new w 41 vs
  have gA := gb_alloc (gb_refl w none) (.cells vs 41)
  have h77' := h77 _ gA
  go_enter Tryz.func31, Tryz.ntmps31
  go_wp2_with (first
    | (refine atL 41 w.heap.size 0 rfl rfl ?_; go_must (refine load41 rfl _ rfl 41 w.heap.size 0 _ b1 rfl vs.toList hvl (fun j v hv => by simpa using hv) ?_))
    | (go_at_call 77; go_must (refine h77'.mono ?_); rintro e w2 ⟨rfl, g2⟩))
  go_ret2
  exact ⟨rfl, gb_trans gA g2⟩
set_option maxRecDepth 100000 in
set_option maxHeartbeats 4000000 in
theorem bytes_31_yes {i : Nat} (hi : i < 24) {vs : Array Value} {LN d : Bs} {dv : Value} {X : Nat → Prop} {bl : Bool} (hbl : (dr i).block = bl) (hvl : vs.toList.length = 11) (hv0 : vs[0]? = some (.int .i64 ((i : Int) + 1))) (hv6 : vs[6]? = some dv) (hLN : LN.length ≤ 2048) (w : World) (hd : Ck w X dv d ∨ (d = [] ∧ ∃ a c, dv = .slice a 0 c)) (hdl : d.length ≤ 2147483647)
    (h77 : ∀ W, w.grownBy W none → Calls Tryz.prog 77 #[.agg vs] W fun e w' => e = .returned (.bool true) ∧ W.grownBy w' none)
    (h78 : ∀ W, w.grownBy W none → Calls Tryz.prog 78 #[.agg vs] W fun e w' => e = .returned (sv LN) ∧ W.grownBy w' none) :
    Calls Tryz.prog 31 #[.agg vs] w fun e w' => ∃ v, e = .returned (.tuple #[v, .int .i64 0]) ∧ OwC w' w.heap.size v (LN ++ [13, 10] ++ (if bl then d ++ [13, 10] else [])) ∧ w.grownBy w' none := by
  have b1 := Box.new w 41 vs
  have gA := gb_alloc (gb_refl w none) (.cells vs 41)
  have h77' := h77 _ gA
  have h58 := rowOf_58 i hi
  obtain ⟨sh, hsh⟩ : ∃ x, (dr i).shape = x := ⟨_, rfl⟩
  obtain ⟨le, hle⟩ : ∃ x, (dr i).least = x := ⟨_, rfl⟩
  obtain ⟨ag, hag⟩ : ∃ x, (dr i).again = x := ⟨_, rfl⟩
  obtain ⟨re, hre⟩ : ∃ x, (dr i).reply = x := ⟨_, rfl⟩
  simp only [drA, hsh, hle, hag, hre, hbl] at h58
  clear hsh hle hag hre hbl
  obtain ⟨da, dn, dc, rfl, rfl⟩ : ∃ a n c, dv = .slice a n c ∧ n = d.length := by
    rcases hd with hd | ⟨rfl, a, c, rfl⟩
    · exact hd.slice
    · exact ⟨a, 0, c, rfl, rfl⟩
  have HV0 := Lib.hid hv0
  have HV6 := Lib.hid hv6
  clear hv0 hv6
  go_enter Tryz.func31, Tryz.ntmps31
  go_upto_region 3 with (first
    | (refine atL 41 w.heap.size 0 rfl rfl ?_; go_must (refine load41 rfl _ rfl 41 w.heap.size 0 _ b1 rfl vs.toList hvl (fun j v hv => by simpa using hv) ?_))
    | (go_at_call 77; go_must (refine h77'.mono ?_); rintro e w2 ⟨rfl, g2⟩))
  have gw2 := gb_trans gA g2
  have b2 := b1.kept g2 (by simp)
  have h78' := h78 _ gw2
  clear h77 h77' b1 gA h78 g2
  go_upto_region 4 with (first
    | (refine atL 41 w.heap.size 0 rfl rfl ?_; go_must (refine load41 rfl _ rfl 41 w.heap.size 0 _ b2 rfl vs.toList hvl (fun j v hv => by simpa using hv) ?_))
    | (go_at_call 78; go_must (refine h78'.mono ?_); rintro e w3 ⟨rfl, g3⟩; obtain ⟨W4, cc, hcv, g4, o4, s4⟩ := conv_own w3 LN (by omega); have o4' := o4.kept0 (gb_alloc (gb_refl W4 none) (.cells #[.int .u8 13, .int .u8 10] 5)); have hs4 : w3.heap.size ≤ (W4.alloc (.cells #[.int .u8 13, .int .u8 10] 5)).heap.size := (by simp only [World.size_alloc, s4]; omega); clear s4)
    | (at_builtin; go_must (refine moreM rfl _ _ rfl w3.heap.size _ LN (by rfl) o4' (fun _ => False) (.slice (some ⟨W4.heap.size, 0, none⟩) 2 2) [13, 10] (by rfl) (crlf_ck W4) (by simp; omega) hs4 ?_); intro v5 w5 o5 g5))
  have hlt : w.heap.size < w2.heap.size := (Array.getElem?_eq_some_iff.1 b2).1
  have hlt3 : w.heap.size < w3.heap.size := Nat.lt_of_lt_of_le hlt g3.size
  have gw4 := gb_trans (gb_trans gw2 g3) (gb_alloc g4 (.cells #[.int .u8 13, .int .u8 10] 5))
  have gw5 : w.grownBy w5 none := gb_far gw4 g5 (B := w3.heap.size) (fun i h => by have e : w3.heap.size = i := by simpa [Value.ownBlock] using h
                                                                                   omega) (by omega)
  have b5 : Box w5 41 w.heap.size vs := (b2.kept (gb_trans g3 (gb_alloc g4 (.cells #[.int .u8 13, .int .u8 10] 5))) (by simp)).kept g5 (by simp [Value.ownBlock]; omega)
  have hs5 : w3.heap.size ≤ w5.heap.size := Nat.le_trans hs4 g5.size
  have p0 : w5.cell? ⟨w.heap.size, 0, none⟩ = some (.int .i64 ((i : Int) + 1)) := (b5.cell 0).trans HV0.out
  obtain ⟨va, vn, vc, hv5, -⟩ : ∃ a n c, v5 = .slice a n c ∧ n = (LN ++ [13, 10]).length := (o5.ck (X := fun _ => False) (fun _ _ h => h)).slice
  have low5 := o5.low
  clear hcv o4 o4' g5 gw4 h78' b2 g3 g4 hs4
  subst hv5
  have hfd := field111_5
  cases bl with
  | false =>
    go_wp2_with (go_at_call 58; go_must (refine (h58 _).mono ?_); rintro e w6 ⟨rfl, g6⟩)
    go_ret2
    exact ⟨_, rfl, by simpa using (o5.kept0 g6).wide (B' := w.heap.size) (by omega), gb_trans gw5 g6⟩
  | true =>
    go_upto_region 5 with (go_at_call 58; go_must (refine (h58 _).mono ?_); rintro e w6 ⟨rfl, g6⟩)
    have o6 := o5.kept0 g6
    have b6 := b5.kept g6 (by simp)
    have p6 : w6.cell? ⟨w.heap.size, 6, none⟩ = some (.slice da d.length dc) := (b6.cell 6).trans HV6.out
    have gw6 := gb_trans gw5 g6
    have hs6 : w3.heap.size ≤ w6.heap.size := Nat.le_trans hs5 g6.size
    have hl6 : (LN ++ [13, 10]).length + d.length ≤ 140737488355328 := by simp; omega
    clear o5 b5 p0 g6
    have key : ∀ (v7 : Value) (w7 : World), OwC w7 w3.heap.size v7 ((LN ++ [13, 10]) ++ d) → w.grownBy w7 none → w3.heap.size ≤ w7.heap.size → OwC w7 w3.heap.size v7 ((LN ++ [13, 10]) ++ d) ∧ w.grownBy w7 none ∧ w3.heap.size ≤ w7.heap.size := fun _ _ h1 h2 h3 => ⟨h1, h2, h3⟩
    clear key
    go_cut [4] from 17 to 20 (fun x4 wd => OwC wd w3.heap.size x4 ((LN ++ [13, 10]) ++ d) ∧ w.grownBy wd none ∧ w3.heap.size ≤ wd.heap.size)
    case first =>
      rcases hd with hd | ⟨rfl, -⟩
      · have hd6 := hd.kept0 gw6
        go_wp2_with (at_builtin; go_must (refine moreM rfl _ _ rfl w3.heap.size _ (LN ++ [13, 10]) (by rfl) o6 X _ d (by rfl) hd6 hl6 hs6 ?_); intro v7 w7 o7 g7)
        go_meet
        exact ⟨o7, gb_far gw6 g7 (B := w3.heap.size) low5 (by omega), Nat.le_trans hs6 g7.size⟩
      · rcases id o6 with ⟨he, -⟩ | ⟨og, ocap, ocur, ofz, he, -, -, -, hoc, -⟩
        · exact absurd (show (LN ++ [13, 10]) = [] by rcases id o6 with ⟨-, h⟩ | ⟨_, _, _, _, h, _⟩ <;> first | exact h | (rw [h] at he; cases he)) (by simp)
        · injection he with h1 h2 h3
          subst h1
          subst h3
          have hk2 : vn ≤ vc := by rw [h2]; exact hoc
          clear h2 hoc
          go_wp2_with (at_builtin; go_must (refine moreE0 rfl _ _ rfl og vn vc (by rfl) hk2 da dc (by rfl) ?_))
          go_meet
          exact ⟨by simpa using o6, gw6, hs6⟩
    case rest =>
    obtain ⟨o7, gw7, hs70⟩ := hcut
    clear o6
    have hs7 : w3.heap.size ≤ (wc.alloc (.cells #[.int .u8 13, .int .u8 10] 5)).heap.size := Nat.le_trans hs70 (by simp)
    have o7' := o7.kept0 (gb_alloc (gb_refl wc none) (.cells #[.int .u8 13, .int .u8 10] 5))
    have lowc := o7.low
    have hl7 : ((LN ++ [13, 10]) ++ d).length + ([13, 10] : Bs).length ≤ 140737488355328 := by simp; omega
    obtain ⟨va7, vn7, vc7, hv7, -⟩ : ∃ a n c, u4 = .slice a n c ∧ n = (LN ++ [13, 10] ++ d).length := (o7.ck (X := fun _ => False) (fun _ _ h => h)).slice
    subst hv7
    go_wp2_with (at_builtin; go_must (refine moreM rfl _ _ rfl w3.heap.size _ ((LN ++ [13, 10]) ++ d) (by rfl) o7' (fun _ => False) (.slice (some ⟨wc.heap.size, 0, none⟩) 2 2) [13, 10] (by rfl) (crlf_ck wc) hl7 hs7 ?_); intro v8 w8 o8 g8)
    go_ret2
    refine ⟨_, rfl, ?_, gb_far (gb_alloc gw7 _) g8 (B := w3.heap.size) lowc (by omega)⟩
    have := o8.wide (B' := w.heap.size) (by omega)
    simpa using this
theorem bytes_31 {i : Nat} (hi : i < 24) {c : Cmd} (hv : c.verb = (i : Int) + 1) (hr : RngP c) (hf : c.flags ≤ 18446744073709551615) {d : Bs} {kv mv dv : Value} {lg : Bool} {X : Nat → Prop} (w : World) (hK : Kf w kv c.keys) (hM : Fg w mv c.mt) (hD : Ck w X dv d ∨ (d = [] ∧ ∃ a c, dv = .slice a 0 c)) (hdn : d.length ≤ 140737488355328) (hkn : c.keys.length ≤ 140737488355328) (hmn : c.mt.length ≤ 140737488355328) (hkl : ∀ k ∈ c.keys, k.length ≤ 140737488355328) (hfl : ∀ f ∈ c.mt, f.arg.length ≤ 140737488355328) :
    Calls Tryz.prog 31 #[.agg (cmV c kv dv lg mv)] w fun e w' => w.grownBy w' none ∧ ((mayB i c d.length lg = false ∧ e = .returned (.tuple #[.slice none 0 0, .int .i64 7])) ∨ (mayB i c d.length lg = true ∧ ∃ v, e = .returned (.tuple #[v, .int .i64 0]) ∧ OwC w' w.heap.size v (bsB i c d))) := by
  obtain ⟨da, dn, dc, rfl, rfl⟩ : ∃ a n c, dv = .slice a n c ∧ n = d.length := by
    rcases hD with hD | ⟨rfl, a, c, rfl⟩
    · exact hD.slice
    · exact ⟨a, 0, c, rfl, rfl⟩
  have h77 := fun (W : World) (hW : w.grownBy W none) => may_77 hi hv hr hf (n := d.length) (by omega) (da := da) (dc := dc) (lg := lg) W (hK.kept hW) (hM.kept hW) (by omega) (by omega) (fun k h => by have := hkl k h; omega) (fun f h => by have := hfl f h; omega) (fun h4 h3 hk => lnB_len hi hr hf (by omega) hkn hfl h4 h3 hk)
  obtain ⟨R, hR⟩ : ∃ R, mayB i c d.length lg = R := ⟨_, rfl⟩
  simp only [hR] at h77 ⊢
  cases R with
  | false =>
    refine (bytes_31_no rfl w h77).mono ?_
    rintro e w' ⟨rfl, g⟩
    exact ⟨g, .inl ⟨rfl, rfl⟩⟩
  | true =>
    obtain ⟨rfl, hm, hl⟩ := (mayB_iff hv).1 hR
    have h78 := fun (W : World) (hW : w.grownBy W none) => line_78 hi hv hr hf (n := d.length) (by omega) (by omega) (da := da) (dc := dc) (lg := false) W (hK.kept hW) (hM.kept hW) (by omega) (by omega)
    refine (bytes_31_yes hi rfl rfl (by rw [← hv]; rfl) rfl hl w hD hm.most h77 h78).mono ?_
    rintro e w' ⟨v, rfl, ho, g⟩
    exact ⟨g, .inr ⟨rfl, v, rfl, ho⟩⟩
end Go.Proofs.YtobegepebochkaaGreatDoor
namespace Go.Proofs.YtobegepebochkaaGreatDoor
open Go.RowKit Go.Maps
attribute [local go_sem] Oper.semAt_some
structure CI where
  c : Cmd
  d : Bs
  lg : Bool
  kv : Value
  dv : Value
  mv : Value
abbrev ciL (x : CI) : List Value := [.int .i64 x.c.verb, x.kv, .int .u64 x.c.flags, .int .i64 x.c.exp, .int .u64 x.c.tok, .int .u64 x.c.del, x.dv, .bool x.c.nr, .bool x.lg, x.mv, sv x.c.what]
structure CiOk (w : World) (x : CI) : Prop where
  k : Ws w x.kv x.c.keys
  d : Ck w (fun _ => False) x.dv x.d ∨ (x.d = [] ∧ ∃ a c, x.dv = .slice a 0 c)
  m : Fg w x.mv x.c.mt
  r : RngP x.c
  f : x.c.flags ≤ 18446744073709551615
  v1 : x.c.verb ≤ 9223372036854775807
  v2 : -9223372036854775808 ≤ x.c.verb
  dn : x.d.length ≤ 140737488355328
  kn : x.c.keys.length ≤ 140737488355328
  mn : x.c.mt.length ≤ 140737488355328
  kl : ∀ k ∈ x.c.keys, k.length ≤ 140737488355328
  fl : ∀ f ∈ x.c.mt, f.arg.length ≤ 140737488355328
theorem Ws.kf {w : World} {v : Value} {ks : List Bs} (h : Ws w v ks) : Kf w v ks := by
  rcases h with h | ⟨g, o, c, e, _, _, h⟩
  · exact .inl h
  · exact .inr ⟨g, o, c, e, h⟩
theorem CiOk.kept {w w' : World} {x : CI} (h : CiOk w x) (hf : w.grownBy w' none) : CiOk w' x :=
  ⟨h.k.kept0 hf, h.d.imp (fun h => h.kept0 hf) id, h.m.kept hf, h.r, h.f, h.v1, h.v2, h.dn, h.kn, h.mn, h.kl, h.fl⟩
theorem CiOk.dsl {w : World} {x : CI} (h : CiOk w x) : ∃ a c, x.dv = .slice a x.d.length c := by
  rcases h.d with h | ⟨h1, a, c, h2⟩
  · obtain ⟨a, n, c, e, rfl⟩ := h.slice
    exact ⟨a, c, e⟩
  · exact ⟨a, c, by rw [h1]; exact h2⟩
structure Cms (w : World) (v : Value) (cs : List CI) : Prop where
  shape : ∃ a c, v = .slice a cs.length c
  len : cs.length ≤ 9223372036854775807
  cell : ∀ k x, cs[k]? = some x → ∃ g o c, v = .slice (some ⟨g, o, none⟩) cs.length c ∧ ∀ j u, (ciL x)[j]? = some u → w.cell? ⟨g, o + k * 11 + j, none⟩ = some u
  ok : ∀ x ∈ cs, CiOk w x
section
variable {w : World} {ops : Array Oper} {rest : List Oper} {op : Oper} {a : Act} {Q : Exit → Act → World → Prop}
theorem loadC (hgd : op.guard = none) (x : Operand) (ho : op.op = .load 41 x) (b o : Nat) (hx : a.eval x = .pointer (some ⟨b, o, none⟩)) (cs : List Value) (hs : cs.length = 11) (hc : ∀ j v, cs[j]? = some v → w.cell? ⟨b, o + j, none⟩ = some v)
    (h : wpList Tryz.prog ops Q rest (a.put op.dst (.agg cs.toArray)) w) : wpList Tryz.prog ops Q (op :: rest) a w :=
  wpList_load_mid hgd 41 x ho b o hx cs _ hc Tryz.underlying41 rfl (by rw [hs]; exact size41) h
end
end Go.Proofs.YtobegepebochkaaGreatDoor
namespace Go.Proofs.YtobegepebochkaaGreatDoor
open Go.RowKit Go.Shelf
theorem conv_by (w : World) (l : Bs) (hl : l.length ≤ 1099511627776) : ∃ W c, (convert 9 38 (sv l)).run Tryz.prog w = .ok (.slice (some ⟨w.heap.size, 0, none⟩) l.length c) W ∧ w.grownBy W none ∧ By W (.slice (some ⟨w.heap.size, 0, none⟩) l.length c) l ∧ W.heap.size = w.heap.size + 1 := by
  have hr := Lib.run_convert_string_bytes (P := Tryz.prog) w 9 38 5 ⟨l.toArray⟩ Tryz.underlying9 Tryz.underlying38 Tryz.underlying5
  rw [ba_size] at hr
  refine ⟨_, _, hr, gb_below (Lib.bytesWorld_below _ _ _), .inr ⟨w.heap.size, 0, _, rfl, hl, by rw [Lib.bytesWorld_size]; omega, fun i x hx => ?_⟩, Lib.bytesWorld_size _ _ _⟩
  have hi : i < l.length := (List.getElem?_eq_some_iff.1 hx).1
  rw [Nat.zero_add, Lib.bytesWorld_cell w 5 _ i (by rw [ba_size]; exact hi)]
  show some (Value.int .u8 ((l.getD i 0).toNat : Int)) = _
  rw [List.getD, hx]; rfl
theorem lnp_ok {l : Bs} {w w' : World} {e : Ending} {c : Cmd} (hls : lineS l = .inl (c, -1)) (hmt : c.mt = [])
    (hL : (∃ c n kv mv, lineS l = .inl (c, n) ∧ e = .returned (.tuple #[.agg (cmA c kv mv), .int .i64 n, .agg #[.int .i64 0, sv [], .int .i64 0]]) ∧ w'.ownsRow w.heap.size 9 1 kv c.keys.length (c.keys.map sv) ∧ w'.ownsRow w.heap.size 79 3 mv c.mt.length (fcs c.mt)) ∨
      ∃ k t p, lineS l = .inr (k, t, p) ∧ e = .returned (.tuple #[.agg (Z31 0 false), .int .i64 (-1), .agg #[.int .i64 k, sv t, .int .i64 p]])) :
    ∃ kv mv, e = .returned (.tuple #[.agg (cmA c kv mv), .int .i64 (-1), .agg #[.int .i64 0, sv [], .int .i64 0]]) ∧ w'.ownsRow w.heap.size 9 1 kv c.keys.length (c.keys.map sv) ∧ ∃ a b, mv = .slice a 0 b := by
  rcases hL with ⟨c', n, kv, mv, h1, h2, h3, h4⟩ | ⟨k, t, p, h1, _⟩
  · rw [hls] at h1
    injection h1 with h1
    injection h1 with h5 h6
    subst h5 h6
    refine ⟨kv, mv, h2, h3, ?_⟩
    rw [hmt] at h4
    obtain ⟨a, b, h5, _⟩ := row_shape h4
    exact ⟨a, b, h5⟩
  · rw [hls] at h1; cases h1
set_option maxRecDepth 100000 in
set_option maxHeartbeats 4000000 in
theorem bytes_8 {w : World} (hE : Er w) (c : Cmd) (nm : Bs) (hof : ofS c.verb = some (nm, ⟨c.verb, [75], [75], true, false⟩)) (hnr : c.nr = false) (hmt : c.mt = []) (kg ko kc dc mc : Nat) (da mo : Option Addr) (hks : c.keys ≠ []) (hkl : c.keys.length ≤ 1000000) (hkcap : c.keys.length ≤ kc) (hkg : kg < w.heap.size) (hkc : ∀ i x, c.keys[i]? = some x → w.cell? ⟨kg, ko + i, none⟩ = some (sv x)) (hl : (Lib.join (nm :: c.keys) [32]).length ≤ 1000000) (hls : lineS (Lib.join (nm :: c.keys) [32]) = .inl (c, -1)) :
    Calls Tryz.prog 33 #[.agg (cmB c (.slice (some ⟨kg, ko, none⟩) c.keys.length kc) (.slice da 0 dc) (.slice mo 0 mc) false)] w fun e w' => ∃ v, e = .returned (.tuple #[v, .int .i64 0]) ∧ By w' v (Lib.join (nm :: c.keys) [32] ++ [13, 10]) ∧ w.grownBy w' none := by
  obtain ⟨l, hll⟩ : ∃ l, Lib.join (nm :: c.keys) [32] = l := ⟨_, rfl⟩
  have hgA := gb_alloc (gb_refl w none) (.cells (cmB c (.slice (some ⟨kg, ko, none⟩) c.keys.length kc) (.slice da 0 dc) (.slice mo 0 mc) false) 41)
  have bA := Box.new w 41 (cmB c (.slice (some ⟨kg, ko, none⟩) c.keys.length kc) (.slice da 0 dc) (.slice mo 0 mc) false)
  have h9 := rows_9 (w.alloc (.cells (cmB c (.slice (some ⟨kg, ko, none⟩) c.keys.length kc) (.slice da 0 dc) (.slice mo 0 mc) false) 41))
  simp only [World.size_alloc] at h9
  have h12 := fun W gb (hG : GM W gb rowL) (hg : w.grownBy W none) => spell_12 hG c nm hof hnr kg ko kc da mo 0 dc 0 mc false hks hkl (Nat.lt_of_lt_of_le hkg hg.size) (fun i x hx => gb_cellN hg (hkc i x hx)) (by omega)
  rw [hll] at h12 hls hl ⊢
  have h10 := fun W gb v (hG : GM W gb rowL) (hg : w.grownBy W none) (hB : By W v l) => line_10 hG (hE.kept hg) v l hB
  have h13 : ∀ (w5 : World) (ka : Option Addr) (kb : Nat) (ma : Option Addr) (mb : Nat) (W : World), w.grownBy w5 none → w5.grownBy W none → w5.ownsRow w.heap.size 9 1 (.slice ka c.keys.length kb) c.keys.length (c.keys.map sv) → Calls Tryz.prog 81 #[.agg #[.int .i64 c.verb, .slice ka c.keys.length kb, .int .u64 c.flags, .int .i64 c.exp, .int .u64 c.tok, .int .u64 c.del, .slice none 0 0, .bool c.nr, .bool false, .slice ma 0 mb, sv c.what], .agg #[.int .i64 c.verb, .slice (some ⟨kg, ko, none⟩) c.keys.length kc, .int .u64 c.flags, .int .i64 c.exp, .int .u64 c.tok, .int .u64 c.del, .slice da 0 dc, .bool c.nr, .bool false, .slice mo 0 mc, sv c.what]] W fun e w' => e = .returned (.bool true) ∧ W.grownBy w' none := fun w5 ka kb ma mb W h1 h2 h3 =>
    same_13 c _ _ _ _ _ _ ((ws_row h3 rfl).kept h2) (.inr ⟨kg, ko, kc, rfl, hkcap, Nat.lt_of_lt_of_le hkg (gb_trans h1 h2).size, fun i x hx => gb_cellN (gb_trans h1 h2) (hkc i x hx)⟩) (by omega) ⟨_, _, rfl⟩ ⟨_, _, rfl⟩ ⟨_, _, _, rfl⟩ ⟨_, _, _, rfl⟩
  have hcat : (ByteArray.mk l.toArray ++ ByteArray.mk #[13, 10]) = ⟨(l ++ [13, 10]).toArray⟩ := ba_app l [13, 10]
  have HNR := Lib.hid hnr
  have HMT := Lib.hid hmt
  have HLS := Lib.hid hls
  clear hll hnr hmt hls hof
  go_enter Tryz.func33, Tryz.ntmps33
  go_wp2_with (first | (go_at_call 62; go_must ((with_reducible refine h9.mono ?_); rintro e w2 ⟨rfl, hG2, hg2⟩; (have b2 := bA.kept hg2 (by simp)); (have p0 : w2.cell? ⟨w.heap.size, 0, none⟩ = some (.int .i64 c.verb) := b2.cell 0); (have p1 : w2.cell? ⟨w.heap.size, 1, none⟩ = some (.slice (some ⟨kg, ko, none⟩) c.keys.length kc) := b2.cell 1); (have p2 : w2.cell? ⟨w.heap.size, 2, none⟩ = some (.int .u64 c.flags) := b2.cell 2); (have p3 : w2.cell? ⟨w.heap.size, 3, none⟩ = some (.int .i64 c.exp) := b2.cell 3); (have p4 : w2.cell? ⟨w.heap.size, 4, none⟩ = some (.int .u64 c.tok) := b2.cell 4); (have p5 : w2.cell? ⟨w.heap.size, 5, none⟩ = some (.int .u64 c.del) := b2.cell 5); (have p6 : w2.cell? ⟨w.heap.size, 6, none⟩ = some (.slice da 0 dc) := b2.cell 6); (have p7 : w2.cell? ⟨w.heap.size, 7, none⟩ = some (.bool c.nr) := b2.cell 7); (have p8 : w2.cell? ⟨w.heap.size, 8, none⟩ = some (.bool false) := b2.cell 8); (have p9 : w2.cell? ⟨w.heap.size, 9, none⟩ = some (.slice mo 0 mc) := b2.cell 9); (have p10 : w2.cell? ⟨w.heap.size, 10, none⟩ = some (sv c.what) := b2.cell 10))) | (go_at_call 80; go_must ((with_reducible refine (h12 _ _ hG2 (gb_trans hgA hg2)).mono ?_); rintro e w3 ⟨rfl, hg3⟩; obtain ⟨W4, cc, hcv, hg4, hB4, hs4⟩ := conv_by w3 l (by omega))) | (go_at_call 63; go_must ((with_reducible refine (h10 _ _ _ ((hG2.kept hg3 (by simp)).kept hg4 (by simp)) (gb_trans (gb_trans (gb_trans hgA hg2) hg3) hg4) hB4).mono ?_); rintro e w5 ⟨hL, hg5⟩; (have hgw5 := gb_trans (gb_trans (gb_trans (gb_trans hgA hg2) hg3) hg4) hg5); (have b5 := ((b2.kept hg3 (by simp)).kept hg4 (by simp)).kept hg5 (by simp)); obtain ⟨kv', mv', rfl, kr, mr⟩ := lnp_ok HLS.out HMT.out hL; obtain ⟨ka, kb, rfl, -, -, -, -⟩ := row_shape kr; obtain ⟨ma, mb, rfl⟩ := mr; (have gX := gb_alloc (gb_alloc (gb_refl w5 none) (.cells #[.int .i64 c.verb, .slice ka c.keys.length kb, .int .u64 c.flags, .int .i64 c.exp, .int .u64 c.tok, .int .u64 c.del, .slice none 0 0, .bool c.nr, .bool false, .slice ma 0 mb, sv c.what] 41)) (.cells #[.int .i64 0, .string ⟨#[]⟩, .int .i64 0] 43)); (have s0 : ((w5.alloc (.cells #[.int .i64 c.verb, .slice ka c.keys.length kb, .int .u64 c.flags, .int .i64 c.exp, .int .u64 c.tok, .int .u64 c.del, .slice none 0 0, .bool c.nr, .bool false, .slice ma 0 mb, sv c.what] 41)).alloc (.cells #[.int .i64 0, .string ⟨#[]⟩, .int .i64 0] 43)).cell? ⟨w.heap.size, 0, none⟩ = some (.int .i64 c.verb) := (b5.kept gX (by simp)).cell 0); (have s1 : ((w5.alloc (.cells #[.int .i64 c.verb, .slice ka c.keys.length kb, .int .u64 c.flags, .int .i64 c.exp, .int .u64 c.tok, .int .u64 c.del, .slice none 0 0, .bool c.nr, .bool false, .slice ma 0 mb, sv c.what] 41)).alloc (.cells #[.int .i64 0, .string ⟨#[]⟩, .int .i64 0] 43)).cell? ⟨w.heap.size, 1, none⟩ = some (.slice (some ⟨kg, ko, none⟩) c.keys.length kc) := (b5.kept gX (by simp)).cell 1); (have s2 : ((w5.alloc (.cells #[.int .i64 c.verb, .slice ka c.keys.length kb, .int .u64 c.flags, .int .i64 c.exp, .int .u64 c.tok, .int .u64 c.del, .slice none 0 0, .bool c.nr, .bool false, .slice ma 0 mb, sv c.what] 41)).alloc (.cells #[.int .i64 0, .string ⟨#[]⟩, .int .i64 0] 43)).cell? ⟨w.heap.size, 2, none⟩ = some (.int .u64 c.flags) := (b5.kept gX (by simp)).cell 2); (have s3 : ((w5.alloc (.cells #[.int .i64 c.verb, .slice ka c.keys.length kb, .int .u64 c.flags, .int .i64 c.exp, .int .u64 c.tok, .int .u64 c.del, .slice none 0 0, .bool c.nr, .bool false, .slice ma 0 mb, sv c.what] 41)).alloc (.cells #[.int .i64 0, .string ⟨#[]⟩, .int .i64 0] 43)).cell? ⟨w.heap.size, 3, none⟩ = some (.int .i64 c.exp) := (b5.kept gX (by simp)).cell 3); (have s4 : ((w5.alloc (.cells #[.int .i64 c.verb, .slice ka c.keys.length kb, .int .u64 c.flags, .int .i64 c.exp, .int .u64 c.tok, .int .u64 c.del, .slice none 0 0, .bool c.nr, .bool false, .slice ma 0 mb, sv c.what] 41)).alloc (.cells #[.int .i64 0, .string ⟨#[]⟩, .int .i64 0] 43)).cell? ⟨w.heap.size, 4, none⟩ = some (.int .u64 c.tok) := (b5.kept gX (by simp)).cell 4); (have s5 : ((w5.alloc (.cells #[.int .i64 c.verb, .slice ka c.keys.length kb, .int .u64 c.flags, .int .i64 c.exp, .int .u64 c.tok, .int .u64 c.del, .slice none 0 0, .bool c.nr, .bool false, .slice ma 0 mb, sv c.what] 41)).alloc (.cells #[.int .i64 0, .string ⟨#[]⟩, .int .i64 0] 43)).cell? ⟨w.heap.size, 5, none⟩ = some (.int .u64 c.del) := (b5.kept gX (by simp)).cell 5); (have s6 : ((w5.alloc (.cells #[.int .i64 c.verb, .slice ka c.keys.length kb, .int .u64 c.flags, .int .i64 c.exp, .int .u64 c.tok, .int .u64 c.del, .slice none 0 0, .bool c.nr, .bool false, .slice ma 0 mb, sv c.what] 41)).alloc (.cells #[.int .i64 0, .string ⟨#[]⟩, .int .i64 0] 43)).cell? ⟨w.heap.size, 6, none⟩ = some (.slice da 0 dc) := (b5.kept gX (by simp)).cell 6); (have s7 : ((w5.alloc (.cells #[.int .i64 c.verb, .slice ka c.keys.length kb, .int .u64 c.flags, .int .i64 c.exp, .int .u64 c.tok, .int .u64 c.del, .slice none 0 0, .bool c.nr, .bool false, .slice ma 0 mb, sv c.what] 41)).alloc (.cells #[.int .i64 0, .string ⟨#[]⟩, .int .i64 0] 43)).cell? ⟨w.heap.size, 7, none⟩ = some (.bool c.nr) := (b5.kept gX (by simp)).cell 7); (have s8 : ((w5.alloc (.cells #[.int .i64 c.verb, .slice ka c.keys.length kb, .int .u64 c.flags, .int .i64 c.exp, .int .u64 c.tok, .int .u64 c.del, .slice none 0 0, .bool c.nr, .bool false, .slice ma 0 mb, sv c.what] 41)).alloc (.cells #[.int .i64 0, .string ⟨#[]⟩, .int .i64 0] 43)).cell? ⟨w.heap.size, 8, none⟩ = some (.bool false) := (b5.kept gX (by simp)).cell 8); (have s9 : ((w5.alloc (.cells #[.int .i64 c.verb, .slice ka c.keys.length kb, .int .u64 c.flags, .int .i64 c.exp, .int .u64 c.tok, .int .u64 c.del, .slice none 0 0, .bool c.nr, .bool false, .slice ma 0 mb, sv c.what] 41)).alloc (.cells #[.int .i64 0, .string ⟨#[]⟩, .int .i64 0] 43)).cell? ⟨w.heap.size, 9, none⟩ = some (.slice mo 0 mc) := (b5.kept gX (by simp)).cell 9); (have s10 : ((w5.alloc (.cells #[.int .i64 c.verb, .slice ka c.keys.length kb, .int .u64 c.flags, .int .i64 c.exp, .int .u64 c.tok, .int .u64 c.del, .slice none 0 0, .bool c.nr, .bool false, .slice ma 0 mb, sv c.what] 41)).alloc (.cells #[.int .i64 0, .string ⟨#[]⟩, .int .i64 0] 43)).cell? ⟨w.heap.size, 10, none⟩ = some (sv c.what) := (b5.kept gX (by simp)).cell 10); clear p0 p1 p2 p3 p4 p5 p6 p7 p8 p9 p10 hcv)) | (go_at_call 81; go_must ((with_reducible refine (h13 w5 ka kb ma mb _ hgw5 gX (row_base kr (gb_trans (gb_trans (gb_trans hgA hg2) hg3) hg4).size)).mono ?_); rintro e w7 ⟨rfl, hg7⟩; (have pd : w7.cell? ⟨w.heap.size, 6, none⟩ = some (.slice da 0 dc) := ((b5.kept gX (by simp)).kept hg7 (by simp)).cell 6); obtain ⟨W8, c8, hcv8, hg8, hB8, hs8⟩ := conv_by w7 (l ++ [13, 10]) (by simp; omega))))
  go_ret2
  have hlen : (l ++ ([13, 10] : Bs)).length = l.length + 2 := by simp
  rw [hlen] at hB8
  exact ⟨_, rfl, hB8, gb_trans hgw5 (gb_trans gX (gb_trans hg7 hg8))⟩
end Go.Proofs.YtobegepebochkaaGreatDoor
