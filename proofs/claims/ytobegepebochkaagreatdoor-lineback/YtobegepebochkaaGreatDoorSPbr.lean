import Derived.Test.YtobegepebochkaaGreatDoorSGy
import Derived.Test.YtobegepebochkaaGreatDoorSPbq
import Derived.Test.YtobegepebochkaaGreatDoorSPbo
set_option linter.unusedVariables false
set_option linter.unusedSimpArgs false
namespace Go.Proofs.YtobegepebochkaaGreatDoor
open Go.RowKit Go.Maps
attribute [local go_sem] Oper.semAt_some
structure CI where
  c : Cmd
  d : Bs
  lg : Bool
  kv : Value
  dv : Value
  mv : Value
abbrev ciL (x : CI) : List Value := [.int .i64 x.c.verb, x.kv, .int .u64 x.c.flags, .int .i64 x.c.exp, .int .u64 x.c.tok, .int .u64 x.c.del, x.dv, .bool x.c.nr, .bool x.lg, x.mv, sv x.c.what]
structure CiOk (w : World) (x : CI) : Prop where
  k : Ws w x.kv x.c.keys
  d : Ck w (fun _ => False) x.dv x.d ∨ (x.d = [] ∧ ∃ a c, x.dv = .slice a 0 c)
  m : Fg w x.mv x.c.mt
  r : RngP x.c
  f : x.c.flags ≤ 18446744073709551615
  v1 : x.c.verb ≤ 9223372036854775807
  v2 : -9223372036854775808 ≤ x.c.verb
  dn : x.d.length ≤ 140737488355328
  kn : x.c.keys.length ≤ 140737488355328
  mn : x.c.mt.length ≤ 140737488355328
  kl : ∀ k ∈ x.c.keys, k.length ≤ 140737488355328
  fl : ∀ f ∈ x.c.mt, f.arg.length ≤ 140737488355328
theorem Ws.kf {w : World} {v : Value} {ks : List Bs} (h : Ws w v ks) : Kf w v ks := by
  rcases h with h | ⟨g, o, c, e, _, _, h⟩
  · exact .inl h
  · exact .inr ⟨g, o, c, e, h⟩
theorem CiOk.kept {w w' : World} {x : CI} (h : CiOk w x) (hf : w.grownBy w' none) : CiOk w' x :=
  ⟨h.k.kept0 hf, h.d.imp (fun h => h.kept0 hf) id, h.m.kept hf, h.r, h.f, h.v1, h.v2, h.dn, h.kn, h.mn, h.kl, h.fl⟩
theorem CiOk.by_ {w : World} {x : CI} (h : CiOk w x) (hl : x.d.length ≤ 500) : By w x.dv x.d := by
  rcases h.d with (⟨h1, h2⟩ | ⟨g, o, c, h1, -, -, h4, -, h6⟩) | ⟨h1, a, c, h2⟩
  · exact .inl ⟨h1, _, _, h2⟩
  · exact .inr ⟨g, o, c, h1, by omega, h4, h6⟩
  · exact .inl ⟨h1, _, _, h2⟩
theorem CiOk.dsl {w : World} {x : CI} (h : CiOk w x) : ∃ a c, x.dv = .slice a x.d.length c := by
  rcases h.d with h | ⟨h1, a, c, h2⟩
  · obtain ⟨a, n, c, e, rfl⟩ := h.slice
    exact ⟨a, c, e⟩
  · exact ⟨a, c, by rw [h1]; exact h2⟩
structure CiMay (x : CI) (i : Nat) : Prop where
  lt : i < 24
  v : x.c.verb = (i : Int) + 1
  lg : x.lg = false
  m : MayP i x.c x.d.length
  l : (lnB i x.c x.d.length).length ≤ 2048
theorem bytes_any {w : World} {x : CI} (h : CiOk w x) :
    Calls Tryz.prog 31 #[.agg (ciL x).toArray] w fun e w' => w.grownBy w' none ∧ ∃ va vn vc en, e = .returned (.tuple #[.slice va vn vc, .int .i64 en]) ∧ (en = 7 ∨ (en = 0 ∧ ∃ i, CiMay x i ∧ vn = (bsB i x.c x.d).length ∧ OwC w' w.heap.size (.slice va vn vc) (bsB i x.c x.d))) := by
  by_cases hv : x.c.verb < 1 ∨ 24 < x.c.verb
  · refine (bytes_31_no (vs := (ciL x).toArray) rfl w (fun W _ => may_no hv x.c x.kv x.dv x.mv x.lg rfl W)).mono ?_
    rintro e w' ⟨rfl, g⟩
    exact ⟨g, _, _, _, _, rfl, .inl rfl⟩
  · obtain ⟨i, hi⟩ : ∃ i : Nat, x.c.verb = (i : Int) + 1 := ⟨(x.c.verb - 1).toNat, by omega⟩
    refine (bytes_31 (i := i) (by omega) hi h.r h.f (d := x.d) (lg := x.lg) w h.k.kf h.m h.d h.dn h.kn h.mn h.kl h.fl).mono ?_
    rintro e w' ⟨g, (⟨-, rfl⟩ | ⟨hm, v, rfl, ho⟩)⟩
    · exact ⟨g, _, _, _, _, rfl, .inl rfl⟩
    · obtain ⟨h1, h2, h3⟩ := (mayB_iff hi).1 hm
      obtain ⟨va, vn, vc, rfl, hvn⟩ := (ho.ck (X := fun _ => False) (fun _ _ h => h)).slice
      exact ⟨g, va, vn, vc, 0, rfl, .inr ⟨rfl, i, ⟨by omega, hi, h1, h2, h3⟩, hvn, ho⟩⟩
theorem bsB_len {x : CI} {i : Nat} (h : CiMay x i) (hd : x.d.length ≤ 500) : (bsB i x.c x.d).length ≤ 2554 := by
  have := h.l
  unfold bsB
  split <;> simp <;> omega
structure Cms (w : World) (v : Value) (cs : List CI) : Prop where
  shape : ∃ a c, v = .slice a cs.length c
  len : cs.length ≤ 9223372036854775807
  cell : ∀ k x, cs[k]? = some x → ∃ g o c, v = .slice (some ⟨g, o, none⟩) cs.length c ∧ ∀ j u, (ciL x)[j]? = some u → w.cell? ⟨g, o + k * 11 + j, none⟩ = some u
  ok : ∀ x ∈ cs, CiOk w x
section
variable {w : World} {ops : Array Oper} {rest : List Oper} {op : Oper} {a : Act} {Q : Exit → Act → World → Prop}
theorem loadC (hgd : op.guard = none) (x : Operand) (ho : op.op = .load 41 x) (b o : Nat) (hx : a.eval x = .pointer (some ⟨b, o, none⟩)) (cs : List Value) (hs : cs.length = 11) (hc : ∀ j v, cs[j]? = some v → w.cell? ⟨b, o + j, none⟩ = some v)
    (h : wpList Tryz.prog ops Q rest (a.put op.dst (.agg cs.toArray)) w) : wpList Tryz.prog ops Q (op :: rest) a w :=
  wpList_load_mid hgd 41 x ho b o hx cs _ hc Tryz.underlying41 rfl (by rw [hs]; exact size41) h
end
structure LbI (w : World) (cs : List CI) (k : Nat) (raw : Bs) (q : List Tld) (x5 x6 : Value) (wr : World) : Prop where
  hk : k ≤ cs.length ∧ k ≤ 60
  rl : raw.length ≤ 14600
  row : wr.ownsRow w.heap.size 5 1 x5 raw.length (raw.map b8)
  wnt : wr.ownsRow w.heap.size 86 16 x6 q.length (q.flatMap tldL)
  ql : q.length ≤ k
  sg : ∀ x ∈ q, Sg2 w x.s x.ck x.cd x.cm
  one : ∀ u ∈ q.flatMap tldL, u.oneCell' = true
  run : (fl 500 0).run raw = (fl 500 raw.length, q.map Tld.s)
  gb : w.grownBy wr none
theorem LbI.start (w : World) (cs : List CI) : LbI w cs 0 [] [] (.slice none 0 0) (.slice none 0 0) w :=
  ⟨by omega, by simp, World.ownsRow_nil _ _ _ _, World.ownsRow_nil _ _ _ _, by simp, (fun x h => by cases h), (fun u h => by cases h), rfl, gb_refl _ _⟩
theorem LbI.skip {w wr w' : World} {cs : List CI} {k : Nat} {raw : Bs} {q : List Tld} {x5 x6 : Value} (h : LbI w cs k raw q x5 x6 wr) (hk : k < cs.length ∧ k < 60) (g : wr.grownBy w' none) : LbI w cs (k + 1) raw q x5 x6 w' :=
  ⟨by omega, h.rl, row_kept h.row g (fun _ _ e => by cases e), row_kept h.wnt g (fun _ _ e => by cases e), by have := h.ql; omega, h.sg, h.one, h.run, gb_trans h.gb g⟩
abbrev wTld (x : CI) (a b : Nat) : Tld := ⟨⟨x.c, x.d, false, 0, [], 0, a, b⟩, x.kv, x.dv, x.mv⟩
theorem LbI.take {w wr w3 : World} {cs : List CI} {k : Nat} {raw : Bs} {q : List Tld} {x5 x6 y5 y6 : Value} (h : LbI w cs k raw q x5 x6 wr) (hk : k < cs.length ∧ k < 60) {x : CI} (hx : CiOk w x) {i : Nat} (hm : CiMay x i) (h17 : x.c.verb ≠ 18) (hd : x.d.length ≤ 500) (hr : raw.length ≤ 12000)
    (r5 : w3.ownsRow w.heap.size 5 1 y5 (raw.length + (bsB i x.c x.d).length) (raw.map b8 ++ (bsB i x.c x.d).map b8)) (r6 : w3.ownsRow w.heap.size 86 16 y6 (q.length + 1) (q.flatMap tldL ++ tldL (wTld x raw.length (raw.length + (bsB i x.c x.d).length)))) (g : w.grownBy w3 none) :
    LbI w cs (k + 1) (raw ++ bsB i x.c x.d) (q ++ [wTld x raw.length (raw.length + (bsB i x.c x.d).length)]) y5 y6 w3 := by
  have hb := bsB_len hm hd
  refine ⟨by omega, by simp; omega, by simpa using r5, by simpa using r6, by have := h.ql; simp; omega, ?_, ?_, ?_, g⟩
  · intro y hy
    rcases List.mem_append.1 hy with hy | hy
    · exact h.sg y hy
    · rw [List.mem_singleton.1 hy]
      exact ⟨hx.k, hx.by_ hd, hx.m, by have := hx.kn; show x.c.keys.length ≤ _; omega, by have := hx.mn; show x.c.mt.length ≤ _; omega⟩
  · intro u hu
    rw [List.flatMap_append] at hu
    rcases List.mem_append.1 hu with hu | hu
    · exact h.one u hu
    · obtain ⟨_, _, e2, -⟩ := hx.k.shape
      obtain ⟨_, _, _, e3⟩ := hx.m.shape
      obtain ⟨_, _, e4⟩ := hx.dsl
      simp only [List.flatMap_cons, List.flatMap_nil, List.append_nil, tldL, stpL, List.mem_cons, List.not_mem_nil, or_false] at hu
      obtain ⟨a2, n2, c2, e2⟩ := hx.k.shape
      rw [e2, e3, e4] at hu
      rcases hu with rfl | rfl | rfl | rfl | rfl | rfl | rfl | rfl | rfl | rfl | rfl | rfl | rfl | rfl | rfl | rfl <;> rfl
  · rw [Fd.run_app, h.run, run_back hm.lt (fun e => h17 (by rw [hm.v, e]; rfl)) hm.m hx.r hm.l 500 raw.length hd]
    simp
end Go.Proofs.YtobegepebochkaaGreatDoor
namespace Go.Proofs.YtobegepebochkaaGreatDoor
open Go.RowKit Go.Maps
theorem step_nothing {w : World} {ops : Array Oper} {o : Oper} {a : Act} {K : Act → World → Prop} {Q : Exit → Act → World → Prop} {E : Prop} (hgd : o.guard = none) (s x : Operand)
    (ho : o.op = .call { callee := .builtin .append, args := #[s, x], argTypes := #[38, 38] }) (ad : Addr) (c : Nat) (hs : a.eval s = .slice none 0 0) (hx : a.eval x = .slice (some ad) 0 c) (h : K (a.put o.dst (.slice none 0 0)) w) :
    if Region.wanted o (yielded ops a.tmps) = true then Oper.wp Tryz.prog o a w K Q else E := by
  have hw : Region.wanted o (yielded ops a.tmps) = true := by simp [Region.wanted, hgd]
  rw [if_pos hw]
  obtain ⟨i0, hi, hz0, hz1, hz2⟩ := info_parts Tryz.info5
  have hrun : (Builtin.append_ #[38, 38] o.type #[.slice none 0 0, .slice (some ad) 0 c]).run Tryz.prog w = .ok (.slice none 0 0) w := by
    simp [Builtin.append_, Builtin.lenOf, Builtin.firstCells, run_underlying Tryz.underlying38, sizeOf, typeInfo, hi, storeCells, loadCells, loadCellsFrom]
  unfold Oper.wp
  simp [execOp, ho, resolve, invoke, builtin, hs, hx, hrun, Result.andThen]
  exact h
theorem isf_data {w w4 : World} {fb : Nat} {F : Fd} {kv ck cd cm : Value} {hd lf : Int} (hx : IsFx w fb F kv hd lf ck cd cm) (d : Bs) (dv : Value) (hg : w.grownBy w4 none) (hr : w4.ownsRow 0 5 1 dv d.length (d.map b8)) (hn : ∀ k, dv.ownBlock = some k → w.heap.size ≤ k) (hnd : d = [] → dv = .slice none 0 0) :
    IsFx (w4.setCell ⟨fb, 13, none⟩ dv) fb { F with s := { F.s with data := d } } kv hd lf ck dv cm := by
  have b4 := hx.box.kept hg (by simp)
  have hlt := hx.box.lt
  have g5 : w4.grownBy (w4.setCell ⟨fb, 13, none⟩ dv) (some fb) := gb_setCell (gb_refl _ _) _
  have hk : Kp (XF fb (.slice none 0 0)) w (w4.setCell ⟨fb, 13, none⟩ dv) := (Kp.of hg (F := XF fb (.slice none 0 0))).trans (gb_kp g5) (fun _ h => h) (fun _ h => .inl h)
  have hx0 : ∀ k, k < w.heap.size → XF fb (.slice none 0 0) k → XF fb kv k := fun k _ h => by
    rcases h with rfl | h
    · exact .inl rfl
    · simp [Value.ownBlock] at h
  refine ⟨b4.set 13 _, ?_, ?_⟩
  · have hs := hx.str.kp (Y := XF fb kv) hk hx0 (fun k _ h => h)
    refine ⟨hs.keys, ?_, hs.mt, hs.ak, fun k hb he => ?_, hs.am, hnd⟩
    · refine row_kept hr g5 (fun k hb e => ?_)
      injection e with e
      have := hn k hb
      omega
    · have h1 := hn k hb
      rcases he with rfl | he
      · omega
      · have := row_lt hx.kept k he; omega
  · refine row_kp hx.kept hk (fun k hb he => ?_)
    rcases he with rfl | he
    · exact row_box hx.kept hx.box (by omega) k hb rfl
    · simp [Value.ownBlock] at he
set_option maxRecDepth 100000 in
set_option maxHeartbeats 4000000 in
theorem last_yes {w : World} {fb : Nat} {F : Fd} {kv : Value} (h : IsF w fb F kv) (hok : F.Ok) {v : Value} {l : Bs} (hv : Ck w (XF fb kv) v l) (hl : 0 < l.length) (hl2 : l.length ≤ 1099511627776) (ht : F.taken ≤ 2199023255552) (hst : F.st = 3) (t : Bs) (hbt : l = 10 :: t) :
    Calls Tryz.prog 188 #[.pointer (some ⟨fb, 0, none⟩), v] w fun e w' => StP F l w fb kv e w' := by
  obtain ⟨g, o, c, rfl, hc1, -, -, hc⟩ := hv.by hl
  obtain ⟨hd, lf, ck, cd, cm, hx, hh, -⟩ := h
  have ehd := hh (.inr (.inr hst))
  subst ehd
  have cb : w.cell? ⟨g, o, none⟩ = some (.int .u8 10) := hc 0 10 (by rw [hbt]; rfl)
  obtain ⟨q1, q2⟩ := hok.last hst
  have hkl : F.kept.length ≤ 2199023255552 := by have := hok.taken; omega
  have hend : ∀ w4 dv, w.grownBy w4 none → w4.ownsRow 0 5 1 dv ((F.kept.drop F.head).dropLast).length (((F.kept.drop F.head).dropLast).map b8) → (∀ k, dv.ownBlock = some k → w.heap.size ≤ k) → ((F.kept.drop F.head).dropLast = [] → dv = .slice none 0 0) → StP F l w fb kv (.returned (.tuple #[.int .i64 1, .bool true])) (w4.setCell ⟨fb, 13, none⟩ dv) := by
    intro w4 dv hg hr hn hnd
    have g5 : w4.grownBy (w4.setCell ⟨fb, 13, none⟩ dv) (some fb) := gb_setCell (gb_refl _ _) _
    refine ⟨1, true, { F with s := { F.s with data := (F.kept.drop F.head).dropLast } }, kv, rfl, hl, ⟨_, _, _, _, _, isf_data hx _ dv hg hr hn hnd, fun _ => rfl, fun e => by simp [hst] at e⟩, ?_, fun k hk => .inl hk, fun e => by omega, rfl, rfl, fun e => by simp at e, fun _ v hv => ?_, Kn.same hx.box (isf_data hx _ dv hg hr hn hnd).box, ?_⟩
    · exact (Kp.of hg (F := XF fb kv)).trans (gb_kp (kv := kv) g5) (fun _ h => h) (fun _ h => .inl h)
    · have e13 : (w4.setCell ⟨fb, 13, none⟩ dv).cell? ⟨fb, 13, none⟩ = some dv := (isf_data hx _ dv hg hr hn hnd).box.cell 13
      rw [hv] at e13
      injection e13 with e13
      subst e13
      exact hn
    · refine run_cut ?_
      have ht1 : l.take 1 = [10] := by rw [hbt]; rfl
      rw [ht1, run_last hst]
      rfl
  obtain ⟨ao, cp, rfl, -, hcp, hmx, hpos⟩ := row_shape hx.kept
  obtain ⟨kg, rfl⟩ := hpos (by omega)
  have c4 : w.cell? ⟨fb, 4, none⟩ = some (.slice (some ⟨kg, 0, none⟩) F.kept.length cp) := hx.box.cell 4
  have c5 : w.cell? ⟨fb, 5, none⟩ = some (.int .i64 F.head) := hx.box.cell 5
  obtain ⟨u13, c13⟩ : ∃ u, w.cell? ⟨fb, 13, none⟩ = some u := ⟨_, hx.box.cell 13⟩
  have z13 := hx.box.fz 13
  have hbx := hx.box
  have hrow : ∀ i x, (F.kept.drop F.head).dropLast[i]? = some x → w.cell? ⟨kg, F.head + i, none⟩ = some (b8 x) := by
    intro i x hi
    refine row_cell hx.kept _ _ ?_
    rw [List.getElem?_map]
    rw [List.getElem?_dropLast] at hi
    split at hi
    · rw [List.getElem?_drop] at hi; rw [hi]; rfl
    · cases hi
  obtain ⟨m, hm⟩ : ∃ m, F.kept.length = F.head + m + 1 := ⟨F.kept.length - F.head - 1, by omega⟩
  have hdl : ((F.kept.drop F.head).dropLast).length = m := by rw [List.length_dropLast, List.length_drop]; omega
  obtain ⟨d, hd⟩ : ∃ d, (F.kept.drop F.head).dropLast = d := ⟨_, rfl⟩
  rw [hd] at hrow hdl hend
  obtain ⟨n, hn⟩ : ∃ n, l.length = n + 1 := ⟨t.length, by rw [hbt]; rfl⟩
  rw [hn]
  have d1 : (0 : Int) < ((n + 1 : Nat) : Int) := by omega
  rw [hm] at c4 hcp
  have e1 : wrap64 (((F.head + m + 1 : Nat) : Int) - 1) = ((F.head + m : Nat) : Int) := by unfold wrap64; omega
  have e2 : (F.head : Int) ≤ ((F.head + m : Nat) : Int) := by omega
  have e3 : ((F.head + m : Nat) : Int) ≤ (cp : Int) := by omega
  have e4 : ¬ cp = F.head := by omega
  have e5 : F.head + m - F.head = m := by omega
  have hmb : m ≤ 2199023255552 := by omega
  have hhb : F.head ≤ 2199023255552 := by omega
  clear hx hh hok hv hl hl2 hc hbt hn hd hkl q1 q2
  obtain ⟨i0, hi, hz0, hz1, hz2⟩ := info_parts Tryz.info5
  have hnews : ∀ j u, (d.map b8)[j]? = some u → w.cell? ((⟨kg, F.head, none⟩ : Addr).add j) = some u := by
    intro j u hu
    rw [List.getElem?_map, Option.map_eq_some_iff] at hu
    obtain ⟨y, hj, rfl⟩ := hu
    rw [Addr.add_mid]
    exact hrow j y hj
  have hone : ∀ u ∈ d.map b8, u.oneCell' = true := by
    intro u hu
    obtain ⟨y, _, rfl⟩ := List.mem_map.1 hu
    rfl
  clear hrow
  have gd := gb_drew (gb_refl w none)
  have e6 : IntKind.i64.wrap (F.head : Int) = F.head := by rw [IntKind.wrap_i64]; omega
  have e7 : IntKind.i64.wrap ((F.head : Int) + (m : Int)) = (F.head : Int) + m := by rw [IntKind.wrap_i64]; omega
  have f0 : F.head ≤ cp := by omega
  have f1 : (0 : Int) ≤ (F.head : Int) + (m : Int) := by omega
  have f2 : (F.head : Int) + (m : Int) ≤ (cp : Int) := by omega
  have f3 : F.head ≤ F.head + m := by omega
  have e8 : ((F.head : Int) + (m : Int)).toNat = F.head + m := by omega
  rcases Nat.eq_zero_or_pos m with h0 | h0
  · have hd0 : d = [] := List.length_eq_zero_iff.1 (by omega)
    subst h0 hd0
    have hend0 := hend w.drew (.slice none 0 0) gd (World.ownsRow_nil _ _ _ _) (fun k hk => by simp [Value.ownBlock] at hk) (fun _ => rfl)
    clear hend
    go_enter Tryz.func188, Tryz.ntmps188
    go_wp2
    go_region_law (refine step_nothing (by rfl) _ _ (by rfl) ⟨kg, F.head, none⟩ (cp - F.head) (by rfl) (by rfl) ?_)
    all_goals go_wp2
    all_goals go_ret2
    all_goals exact hend0
  · go_enter Tryz.func188, Tryz.ntmps188
    go_wp2
    go_region_law (refine step_append_lies _ (by rfl) _ _ 38 (by rfl) 0 5 i0 _ 1 1 Tryz.underlying38 hi hz0 hz1 hz2 rfl (by omega) (.slice none 0 0) 0 [] (by rfl) (World.ownsRow_nil _ _ _ _) ⟨kg, F.head, none⟩ m (cp - F.head) (d.map b8) (by rfl) (by simp [hdl]) hnews hone (by omega) (by unfold maxLen; omega) (by omega) (Nat.zero_le _) _ rfl ?_; intro g4 cap4 w4 r4 gg4 a4 lt4; (have g4w : w.grownBy w4 none := gb_trans gd gg4); (have b4 := hbx.kept g4w (by simp)); (obtain ⟨y13, k13⟩ : ∃ u, w4.cell? ⟨fb, 13, none⟩ = some u := ⟨_, b4.cell 13⟩); (have x13 := b4.fz 13))
    all_goals go_wp2
    all_goals go_ret2
    all_goals rw [Nat.zero_add, List.nil_append] at r4
    all_goals refine hend w4 (.slice (some ⟨g4, 0, none⟩) m cap4) g4w (by rw [hdl]; exact r4) (fun k hk => ?_) (fun e => by rw [e] at hdl; simp at hdl; omega)
    all_goals
      simp [Value.ownBlock] at hk
      subst hk
      rcases a4 with a4 | a4
      · simp [Value.ownBlock] at a4
      · rw [a4]; exact Nat.le_refl _
end Go.Proofs.YtobegepebochkaaGreatDoor
