import Derived.Test.YtobegepebochkaaGreatDoorRPag
import Derived.Test.YtobegepebochkaaGreatDoorRPan
import Derived.Test.YtobegepebochkaaGreatDoorRPao
import Derived.Recover
import Derived.Test.YtobegepebochkaaGreatDoorRPam
set_option linter.unusedVariables false
set_option linter.unusedSimpArgs false
set_option maxRecDepth 100000
set_option maxHeartbeats 16000000
namespace Go.Proofs.YtobegepebochkaaGreatDoor
open Go.RowKit Go.Maps
theorem Ck.slice {w : World} {X : Nat -> Prop} {v : Value} {l : Bs} (h : Ck w X v l) : ∃ a n c, v = .slice a n c /\ n = l.length := by
  rcases h with ⟨rfl, rfl⟩ | ⟨g, o, c, rfl, -⟩
  . exact ⟨none, 0, 0, rfl, rfl⟩
  . exact ⟨_, _, c, rfl, rfl⟩
theorem Ck.cutA {X : Nat -> Prop} {w : World} {a : Option Addr} {c : Nat} {l : Bs} (h : Ck w X (.slice a l.length c) l) (n m : Nat) (hn : n + m <= l.length) : Ck w X (.slice (Option.map (fun x => x.add n) a) m (c - n)) ((l.drop n).take m) := by
  rcases h with ⟨rfl, h⟩ | ⟨g, o, c', h1, h2, h3, h4, h5, h6⟩
  . injection h with h1 h2 h3
    subst h1 h3
    simp at hn
    obtain ⟨rfl, rfl⟩ := hn
    exact .inl ⟨rfl, rfl⟩
  . injection h1 with e1 e2 e3
    subst e1 e3
    refine .inr ⟨g, o + n, c - n, ?_, ?_, by omega, h4, h5, fun i x hx => ?_⟩
    . have : ((l.drop n).take m).length = m := by rw [List.length_take, List.length_drop]; omega
      rw [this, Option.map_some, Addr.add_mid]
    . rw [List.length_take, List.length_drop]; omega
    . rw [List.getElem?_take] at hx
      split at hx
      . rw [List.getElem?_drop] at hx
        rw [Nat.add_assoc]
        exact h6 _ x hx
      . cases hx
theorem Ck.dropA {X : Nat -> Prop} {w : World} {a : Option Addr} {c : Nat} {l : Bs} (h : Ck w X (.slice a l.length c) l) (n : Nat) (hn : n <= l.length) : Ck w X (.slice (Option.map (fun x => x.add n) a) (l.length - n) (c - n)) (l.drop n) := by
  have := h.cutA n (l.length - n) (by omega)
  rwa [List.take_of_length_le (by rw [List.length_drop]; omega)] at this
theorem Ck.cutB {X : Nat -> Prop} {w : World} {a : Option Addr} {c : Nat} {l : Bs} (h : Ck w X (.slice a l.length c) l) (n m : Nat) (hn : n + m <= l.length) (hc : c = n) : Ck w X (.slice a m (c - n)) ((l.drop n).take m) := by
  rcases h with ⟨rfl, h⟩ | ⟨g, o, c', h1, h2, h3, h4, h5, h6⟩
  . injection h with h1 h2 h3
    subst h1 h3
    simp at hn
    obtain ⟨rfl, rfl⟩ := hn
    exact .inl ⟨rfl, rfl⟩
  . injection h1 with e1 e2 e3
    subst e1 e3
    have hm : m = 0 := by omega
    subst hm
    refine .inr ⟨g, o, c - n, by simp, by simp, by omega, h4, h5, fun i x hx => by simp at hx⟩
theorem Ck.dropB {X : Nat -> Prop} {w : World} {a : Option Addr} {c : Nat} {l : Bs} (h : Ck w X (.slice a l.length c) l) (n : Nat) (hn : n <= l.length) (hc : c = n) : Ck w X (.slice a (l.length - n) (c - n)) (l.drop n) := by
  have := h.cutB n (l.length - n) (by omega) hc
  rwa [List.take_of_length_le (by rw [List.length_drop]; omega)] at this
theorem Ck.dropB0 {X : Nat -> Prop} {w : World} {a : Option Addr} {c : Nat} {l : Bs} (h : Ck w X (.slice a l.length c) l) (n : Nat) (hn : n <= l.length) (hc : c = n) : Ck w X (.slice a (l.length - n) 0) (l.drop n) := by
  have := h.dropB n hn hc
  rwa [hc, Nat.sub_self] at this
section
variable {w : World} {ops : Array Oper} {rest : List Oper} {o : Oper} {a : Act} {Q : Exit -> Act -> World -> Prop}
theorem moreC (hgd : o.guard = none) (s x : Operand) (ho : o.op = .call { callee := .builtin .append, args := #[s, x], argTypes := #[38, 38] })
    (B : Nat) (v : Value) (n : Nat) (xs : List Value) (hs : a.eval s = v) (hown : w.ownsRow B 5 1 v n xs) (X : Nat -> Prop) (xv : Value) (l : Bs) (hx : a.eval x = xv) (hc : Ck w X xv l) (hn : n + l.length <= 140737488355328) (hB : B <= w.heap.size)
    (h : ∀ v' w', w'.ownsRow B 5 1 v' (n + l.length) (xs ++ l.map b8) -> w.grownBy w' v.ownBlock -> wpList Tryz.prog ops Q rest (a.put o.dst v') w') : wpList Tryz.prog ops Q (o :: rest) a w := by
  obtain ⟨i0, hi, hz0, hz1, hz2⟩ := info_parts Tryz.info5
  rcases hc with ⟨rfl, rfl⟩ | ⟨g0, o0, c0, rfl, h1, -, -, -, h2⟩
  . refine wpList_append_own_none hgd s x 38 ho B 5 i0 1 Tryz.underlying38 hi _ _ _ hs hown hx ?_
    exact h v w (by simpa using hown) (gb_refl _ _)
  . refine wpList_append_own w hgd s x 38 ho B 5 i0 (.int .u8 0) 1 1 Tryz.underlying38 hi hz0 hz1 hz2 rfl (by decide) _ _ _ hs hown ⟨g0, o0, none⟩ l.length c0 (l.map b8) hx (by simp) ?_ ?_ ?_ ?_ hB ?_
    . intro j u hu
      rw [List.getElem?_map, Option.map_eq_some_iff] at hu
      obtain ⟨y, hj, rfl⟩ := hu
      rw [Addr.add_mid]
      exact h2 j y hj
    . intro u hu
      obtain ⟨y, _, rfl⟩ := List.mem_map.1 hu
      rfl
    . unfold maxLen; omega
    . omega
    . intro v' w' hown' hgr _
      exact h v' w' hown' hgr
end
theorem ck_own {w : World} {X : Nat -> Prop} {B : Nat} {v : Value} {l : Bs} (h : w.ownsRow B 5 1 v l.length (l.map b8)) (hX : ∀ k, v.ownBlock = some k -> ¬ X k) : Ck w X v l := by
  rcases h.2 with ⟨hv, hn0⟩ | ⟨g, cap, cur, hv, hb, hg, h1, h2, h3⟩
  . exact .inl ⟨List.eq_nil_of_length_eq_zero hn0, hv⟩
  . subst hv
    refine .inr ⟨g, 0, cap, rfl, h1, by unfold maxLen at h2; omega, row_lt h g rfl, hX g rfl, fun i x hi => ?_⟩
    rw [Nat.zero_add]
    refine row_cell h i _ ?_
    rw [List.getElem?_map, hi]; rfl
theorem made_zeros (N : Nat) : madeCells (Value.int .u8 0).cells N = Array.replicate N (.int .u8 0) := by
  apply Array.ext'
  apply List.ext_getElem?
  intro i
  by_cases h : i < N <;> simp [madeCells, Value.cells, h, Nat.mod_one]
theorem run_make_room (N : Nat) (h : N <= 281474976710656) (w : World) : (Instr.makeSlice 38 (.int .i64 0) (.int .i64 N)).run Tryz.prog w = .ok (.slice (some ⟨w.heap.size, 0, none⟩) 0 N) (w.alloc (.cells (Array.replicate N (.int .u8 0)) 5)) := by
  obtain ⟨i0, hi, hz0, hz1, hz2⟩ := info_parts Tryz.info5
  have := run_make (P := Tryz.prog) w 38 5 i0 (.int .u8 0) Tryz.underlying38 hi hz0 .i64 .i64 0 N (by omega) (by omega) (by rw [hz2]; omega) (by omega)
  rw [this, hz1]
  simp [made_zeros]
theorem copy_54 {w : World} {X : Nat -> Prop} {v : Value} {l : Bs} (hv : Ck w X v l) (hl : l.length <= 1099511627776) :
    Calls Tryz.prog 54 #[v] w fun e w' => ∃ v', e = .returned v' /\ w'.ownsRow w.heap.size 5 1 v' l.length (l.map b8) /\ w.grownBy w' none := by
  obtain ⟨va, vn, vc, rfl, rfl⟩ := hv.slice
  have hmk := run_make_room l.length (by omega) w
  have hm : (w.alloc (.cells (Array.replicate l.length (.int .u8 0)) 5)).ownsRow w.heap.size 5 1 (.slice (some ⟨w.heap.size, 0, none⟩) 0 l.length) 0 [] := World.ownsRow_made w _ l.length (Nat.le_refl _) (by unfold maxLen; omega) (by simp)
  have ga := gb_alloc (gb_refl w none) (.cells (Array.replicate l.length (.int .u8 0)) 5)
  have hv2 : Ck (w.alloc (.cells (Array.replicate l.length (.int .u8 0)) 5)) (fun _ => False) (.slice va l.length vc) l := hv.kp (Kp.of (F := fun _ => False) ga) (fun _ _ h => h.elim) (fun _ _ h => h.elim)
  go_enter Tryz.func54, Tryz.ntmps54
  go_wp2_with (at_builtin; go_must (refine moreC rfl _ _ rfl w.heap.size _ 0 [] (by rfl) hm _ _ l (by rfl) hv2 (by omega) (by simp) ?_); intro v' w' h1 h2)
  go_ret
  refine ⟨v', rfl, ?_, ?_⟩
  . simpa using h1
  . exact gb_mine ga h2 (by simp [Value.ownBlock])
end Go.Proofs.YtobegepebochkaaGreatDoor
namespace Go.Proofs.YtobegepebochkaaGreatDoor
open Go.RowKit Go.Maps
theorem step_nothing {w : World} {ops : Array Oper} {o : Oper} {a : Act} {K : Act -> World -> Prop} {Q : Exit -> Act -> World -> Prop} {E : Prop} (hgd : o.guard = none) (s x : Operand)
    (ho : o.op = .call { callee := .builtin .append, args := #[s, x], argTypes := #[38, 38] }) (ad : Addr) (c : Nat) (hs : a.eval s = .slice none 0 0) (hx : a.eval x = .slice (some ad) 0 c) (h : K (a.put o.dst (.slice none 0 0)) w) :
    if Region.wanted o (yielded ops a.tmps) = true then Oper.wp Tryz.prog o a w K Q else E := by
  have hw : Region.wanted o (yielded ops a.tmps) = true := by simp [Region.wanted, hgd]
  rw [if_pos hw]
  obtain ⟨i0, hi, hz0, hz1, hz2⟩ := info_parts Tryz.info5
  have hrun : (Builtin.append_ #[38, 38] o.type #[.slice none 0 0, .slice (some ad) 0 c]).run Tryz.prog w = .ok (.slice none 0 0) w := by
    simp [Builtin.append_, Builtin.lenOf, Builtin.firstCells, run_underlying Tryz.underlying38, sizeOf, typeInfo, hi, storeCells, loadCells, loadCellsFrom]
  unfold Oper.wp
  simp [execOp, ho, resolve, invoke, builtin, hs, hx, hrun, Result.andThen]
  exact h
theorem isf_data {w w4 : World} {fb : Nat} {F : Fd} {kv ck cd cm : Value} {hd lf : Int} (hx : IsFx w fb F kv hd lf ck cd cm) (d : Bs) (dv : Value) (hg : w.grownBy w4 none) (hr : w4.ownsRow 0 5 1 dv d.length (d.map b8)) (hn : ∀ k, dv.ownBlock = some k -> w.heap.size <= k) (hnd : d = [] -> dv = .slice none 0 0) :
    IsFx (w4.setCell ⟨fb, 13, none⟩ dv) fb { F with s := { F.s with data := d } } kv hd lf ck dv cm := by
  have b4 := hx.box.kept hg (by simp)
  have hlt := hx.box.lt
  have g5 : w4.grownBy (w4.setCell ⟨fb, 13, none⟩ dv) (some fb) := gb_setCell (gb_refl _ _) _
  have hk : Kp (XF fb (.slice none 0 0)) w (w4.setCell ⟨fb, 13, none⟩ dv) := (Kp.of hg (F := XF fb (.slice none 0 0))).trans (gb_kp g5) (fun _ h => h) (fun _ h => .inl h)
  have hx0 : ∀ k, k < w.heap.size -> XF fb (.slice none 0 0) k -> XF fb kv k := fun k _ h => by
    rcases h with rfl | h
    . exact .inl rfl
    . simp [Value.ownBlock] at h
  refine ⟨b4.set 13 _, ?_, ?_⟩
  . have hs := hx.str.kp (Y := XF fb kv) hk hx0 (fun k _ h => h)
    refine ⟨hs.keys, ?_, hs.mt, hs.ak, fun k hb he => ?_, hs.am, hnd⟩
    . refine row_kept hr g5 (fun k hb e => ?_)
      injection e with e
      have := hn k hb
      omega
    . have h1 := hn k hb
      rcases he with rfl | he
      . omega
      . have := row_lt hx.kept k he; omega
  . refine row_kp hx.kept hk (fun k hb he => ?_)
    rcases he with rfl | he
    . exact row_box hx.kept hx.box (by omega) k hb rfl
    . simp [Value.ownBlock] at he
theorem last_yes {w : World} {fb : Nat} {F : Fd} {kv : Value} (h : IsF w fb F kv) (hok : F.Ok) {v : Value} {l : Bs} (hv : Ck w (XF fb kv) v l) (hl : 0 < l.length) (hl2 : l.length <= 1099511627776) (ht : F.taken <= 2199023255552) (hst : F.st = 3) (t : Bs) (hbt : l = 10 :: t) :
    Calls Tryz.prog 188 #[.pointer (some ⟨fb, 0, none⟩), v] w fun e w' => StP F l w fb kv e w' := by
  obtain ⟨g, o, c, rfl, hc1, -, -, hc⟩ := hv.by hl
  obtain ⟨hd, lf, ck, cd, cm, hx, hh, -⟩ := h
  have ehd := hh (.inr (.inr hst))
  subst ehd
  have cb : w.cell? ⟨g, o, none⟩ = some (.int .u8 10) := hc 0 10 (by rw [hbt]; rfl)
  obtain ⟨q1, q2⟩ := hok.last hst
  have hkl : F.kept.length <= 2199023255552 := by have := hok.taken; omega
  have hend : ∀ w4 dv, w.grownBy w4 none -> w4.ownsRow 0 5 1 dv ((F.kept.drop F.head).dropLast).length (((F.kept.drop F.head).dropLast).map b8) -> (∀ k, dv.ownBlock = some k -> w.heap.size <= k) -> ((F.kept.drop F.head).dropLast = [] -> dv = .slice none 0 0) -> StP F l w fb kv (.returned (.tuple #[.int .i64 1, .bool true])) (w4.setCell ⟨fb, 13, none⟩ dv) := by
    intro w4 dv hg hr hn hnd
    have g5 : w4.grownBy (w4.setCell ⟨fb, 13, none⟩ dv) (some fb) := gb_setCell (gb_refl _ _) _
    refine ⟨1, true, { F with s := { F.s with data := (F.kept.drop F.head).dropLast } }, kv, rfl, hl, ⟨_, _, _, _, _, isf_data hx _ dv hg hr hn hnd, fun _ => rfl, fun e => by simp [hst] at e⟩, ?_, fun k hk => .inl hk, fun e => by omega, rfl, rfl, fun e => by simp at e, fun _ v hv => ?_, Kn.same hx.box (isf_data hx _ dv hg hr hn hnd).box, ?_⟩
    . exact (Kp.of hg (F := XF fb kv)).trans (gb_kp (kv := kv) g5) (fun _ h => h) (fun _ h => .inl h)
    . have e13 : (w4.setCell ⟨fb, 13, none⟩ dv).cell? ⟨fb, 13, none⟩ = some dv := (isf_data hx _ dv hg hr hn hnd).box.cell 13
      rw [hv] at e13
      injection e13 with e13
      subst e13
      exact hn
    . refine run_cut ?_
      have ht1 : l.take 1 = [10] := by rw [hbt]; rfl
      rw [ht1, run_last hst]
      rfl
  obtain ⟨ao, cp, rfl, -, hcp, hmx, hpos⟩ := row_shape hx.kept
  obtain ⟨kg, rfl⟩ := hpos (by omega)
  have c4 : w.cell? ⟨fb, 4, none⟩ = some (.slice (some ⟨kg, 0, none⟩) F.kept.length cp) := hx.box.cell 4
  have c5 : w.cell? ⟨fb, 5, none⟩ = some (.int .i64 F.head) := hx.box.cell 5
  obtain ⟨u13, c13⟩ : ∃ u, w.cell? ⟨fb, 13, none⟩ = some u := ⟨_, hx.box.cell 13⟩
  have z13 := hx.box.fz 13
  have hbx := hx.box
  have hrow : ∀ i x, (F.kept.drop F.head).dropLast[i]? = some x -> w.cell? ⟨kg, F.head + i, none⟩ = some (b8 x) := by
    intro i x hi
    refine row_cell hx.kept _ _ ?_
    rw [List.getElem?_map]
    rw [List.getElem?_dropLast] at hi
    split at hi
    . rw [List.getElem?_drop] at hi; rw [hi]; rfl
    . cases hi
  obtain ⟨m, hm⟩ : ∃ m, F.kept.length = F.head + m + 1 := ⟨F.kept.length - F.head - 1, by omega⟩
  have hdl : ((F.kept.drop F.head).dropLast).length = m := by rw [List.length_dropLast, List.length_drop]; omega
  obtain ⟨d, hd⟩ : ∃ d, (F.kept.drop F.head).dropLast = d := ⟨_, rfl⟩
  rw [hd] at hrow hdl hend
  obtain ⟨n, hn⟩ : ∃ n, l.length = n + 1 := ⟨t.length, by rw [hbt]; rfl⟩
  rw [hn]
  have d1 : (0 : Int) < ((n + 1 : Nat) : Int) := by omega
  rw [hm] at c4 hcp
  have e1 : wrap64 (((F.head + m + 1 : Nat) : Int) - 1) = ((F.head + m : Nat) : Int) := by unfold wrap64; omega
  have e2 : (F.head : Int) <= ((F.head + m : Nat) : Int) := by omega
  have e3 : ((F.head + m : Nat) : Int) <= (cp : Int) := by omega
  have e4 : ¬ cp = F.head := by omega
  have e5 : F.head + m - F.head = m := by omega
  have hmb : m <= 2199023255552 := by omega
  have hhb : F.head <= 2199023255552 := by omega
  clear hx hh hok hv hl hl2 hc hbt hn hd hkl q1 q2
  obtain ⟨i0, hi, hz0, hz1, hz2⟩ := info_parts Tryz.info5
  have hnews : ∀ j u, (d.map b8)[j]? = some u -> w.cell? ((⟨kg, F.head, none⟩ : Addr).add j) = some u := by
    intro j u hu
    rw [List.getElem?_map, Option.map_eq_some_iff] at hu
    obtain ⟨y, hj, rfl⟩ := hu
    rw [Addr.add_mid]
    exact hrow j y hj
  have hone : ∀ u ∈ d.map b8, u.oneCell' = true := by
    intro u hu
    obtain ⟨y, _, rfl⟩ := List.mem_map.1 hu
    rfl
  clear hrow
  have gd := gb_drew (gb_refl w none)
  have e6 : IntKind.i64.wrap (F.head : Int) = F.head := by rw [IntKind.wrap_i64]; omega
  have e7 : IntKind.i64.wrap ((F.head : Int) + (m : Int)) = (F.head : Int) + m := by rw [IntKind.wrap_i64]; omega
  have f0 : F.head <= cp := by omega
  have f1 : (0 : Int) <= (F.head : Int) + (m : Int) := by omega
  have f2 : (F.head : Int) + (m : Int) <= (cp : Int) := by omega
  have f3 : F.head <= F.head + m := by omega
  have e8 : ((F.head : Int) + (m : Int)).toNat = F.head + m := by omega
  rcases Nat.eq_zero_or_pos m with h0 | h0
  . have hd0 : d = [] := List.length_eq_zero_iff.1 (by omega)
    subst h0 hd0
    have hend0 := hend w.drew (.slice none 0 0) gd (World.ownsRow_nil _ _ _ _) (fun k hk => by simp [Value.ownBlock] at hk) (fun _ => rfl)
    clear hend
    go_enter Tryz.func188, Tryz.ntmps188
    go_wp2
    go_region_law (refine step_nothing (by rfl) _ _ (by rfl) ⟨kg, F.head, none⟩ (cp - F.head) (by rfl) (by rfl) ?_)
    all_goals go_wp2
    all_goals go_ret2
    all_goals exact hend0
  . go_enter Tryz.func188, Tryz.ntmps188
    go_wp2
    go_region_law (refine step_append_lies _ (by rfl) _ _ 38 (by rfl) 0 5 i0 _ 1 1 Tryz.underlying38 hi hz0 hz1 hz2 rfl (by omega) (.slice none 0 0) 0 [] (by rfl) (World.ownsRow_nil _ _ _ _) ⟨kg, F.head, none⟩ m (cp - F.head) (d.map b8) (by rfl) (by simp [hdl]) hnews hone (by omega) (by unfold maxLen; omega) (by omega) (Nat.zero_le _) _ rfl ?_; intro g4 cap4 w4 r4 gg4 a4 lt4; (have g4w : w.grownBy w4 none := gb_trans gd gg4); (have b4 := hbx.kept g4w (by simp)); (obtain ⟨y13, k13⟩ : ∃ u, w4.cell? ⟨fb, 13, none⟩ = some u := ⟨_, b4.cell 13⟩); (have x13 := b4.fz 13))
    all_goals go_wp2
    all_goals go_ret2
    all_goals rw [Nat.zero_add, List.nil_append] at r4
    all_goals refine hend w4 (.slice (some ⟨g4, 0, none⟩) m cap4) g4w (by rw [hdl]; exact r4) (fun k hk => ?_) (fun e => by rw [e] at hdl; simp at hdl; omega)
    all_goals
      simp [Value.ownBlock] at hk
      subst hk
      rcases a4 with a4 | a4
      . simp [Value.ownBlock] at a4
      . rw [a4]; exact Nat.le_refl _
end Go.Proofs.YtobegepebochkaaGreatDoor
namespace Go.Proofs.YtobegepebochkaaGreatDoor
open Go.RowKit Go.Maps
theorem line_short {w : World} {fb : Nat} {F : Fd} {kv : Value} (h : IsF w fb F kv) (hok : F.Ok) {v : Value} {l : Bs} (hv : Ck w (XF fb kv) v l) (hl : 0 < l.length) (hl2 : l.length <= 1099511627776) (ht : F.taken <= 2199023255552) (hst : F.st = 0) (p : Bs) (hpt : l.take (2050 - F.kept.length) = p) (hp : (10 : UInt8) ∉ p) (hsm : ¬ 2048 < (trim (F.kept ++ p)).length) :
    Calls Tryz.prog 89 #[.pointer (some ⟨fb, 0, none⟩), v] w fun e w' => StP F l w fb kv e w' := by
  obtain ⟨g, o, c, rfl, hc1, -, -, hc⟩ := hv.by hl
  obtain ⟨hd, lf, ck, cd, cm, hx, hh, -⟩ := h
  obtain ⟨ql, -⟩ := hok.line hst
  have hsh := hok.short hst
  obtain ⟨ao, cp, ekv, -, -, -, -⟩ := row_shape hx.kept
  have c4 : w.cell? ⟨fb, 4, none⟩ = some (.slice ao F.kept.length cp) := by rw [<- ekv]; exact hx.box.cell 4
  obtain ⟨u, hu⟩ : ∃ u, min l.length (2050 - F.kept.length) = u := ⟨_, rfl⟩
  have hu1 : u <= l.length := by omega
  have hch : l.take u = p := by rw [<- hpt, <- hu, Nat.min_comm, List.take_eq_take_min (i := 2050 - F.kept.length)]
  have hul : p.length = u := by rw [<- hch, List.length_take]; omega
  have hix : Lib.indexByte p 10 = -1 := by
    rcases indexByte_spec 10 p with ⟨h3, _⟩ | ⟨p', t', h3, _, _⟩
    . exact h3
    . exact absurd (by rw [h3]; simp) hp
  have h118 := ix_118 w g o c p (fun i x hi => by
    rw [<- hch, List.getElem?_take] at hi
    split at hi
    . exact hc i x hi
    . cases hi)
  rw [hix, hul] at h118
  have hkl : F.kept.length <= 4398046511104 := by omega
  have h135 := keep_135 hx.box hx.kept (hv.take u hu1) (by rw [hch]; omega) (by rw [hch]; omega) hkl
  rw [hch] at h135
  have hrun := run_line p hst hsh hp (by omega)
  rw [if_neg hsm] at hrun
  have hend : ∀ w4 g' cap w5, Box w4 136 fb (fdA fb (F.put p) (.slice (some ⟨g', 0, none⟩) (F.kept.length + p.length) cap) hd lf ck cd cm) -> w4.ownsRow 0 5 1 (.slice (some ⟨g', 0, none⟩) (F.kept.length + p.length) cap) (F.kept.length + p.length) (F.kept.map b8 ++ p.map b8) -> Kp (XF fb kv) w w4 -> (kv.ownBlock = some g' \/ w.heap.size <= g') -> w4.grownBy w5 none -> StP F l w fb kv (.returned (.tuple #[.int .i64 (u : Int), .bool false])) w5 := by
    intro w4 g' cap w5 b4 r4 k4 a4 g5
    have hx4 := isf_keep hx b4 r4 k4 a4
    have hx5 : IsFx w5 fb (F.put p) _ hd lf ck cd cm := isfx_kp hx4 (Kp.of g5) (b4.kept g5 (by simp)) rfl (row_kept hx4.kept g5 (by simp)) (fun k hk => .inl hk)
    have h0 : (F.put p).st = 0 := hst
    refine ⟨u, false, F.put p, _, rfl, hu1, ⟨hd, lf, ck, cd, cm, hx5, fun e => by omega, fun e => by omega⟩, k4.trans (Kp.of (F := fun _ => False) g5) (fun i hi => hi) (fun i hi => hi.elim), fun k hk => by simp [Value.ownBlock] at hk; subst hk; exact a4, fun e => by omega, rfl, rfl, fun _ => ?_, (fun e => by cases e), Kn.same hx.box hx5.box, ?_⟩
    . have h3 := ok_run p hok
      rw [hrun, hul] at h3
      exact h3
    . refine run_cut_no ?_
      rw [hch, hrun, hul]
      rfl
  have hmid : ∀ w4 g' cap, Box w4 136 fb (fdA fb (F.put p) (.slice (some ⟨g', 0, none⟩) (F.kept.length + p.length) cap) hd lf ck cd cm) -> w4.ownsRow 0 5 1 (.slice (some ⟨g', 0, none⟩) (F.kept.length + p.length) cap) (F.kept.length + p.length) (F.kept.map b8 ++ p.map b8) -> Kp (XF fb kv) w w4 -> (kv.ownBlock = some g' \/ w.heap.size <= g') -> Calls Tryz.prog 137 #[.slice (some ⟨g', 0, none⟩) (F.kept.length + p.length) cap] w4 fun e w' => e = .returned (.bool false) /\ w4.grownBy w' none := by
    intro w4 g' cap b4 r4 k4 a4
    have hx4 := isf_keep hx b4 r4 k4 a4
    obtain ⟨q1, q2⟩ := kept_by hx4 rfl
    obtain ⟨_, _, e, _, q3, _, _⟩ := row_shape r4
    injection e with _ _ e
    have q4 : (F.put p).kept.length = F.kept.length + p.length := by show (F.kept ++ p).length = _; simp
    have h7 := long_137 (w := w4) (g := g') (o := 0) (c := cap) (l := (F.put p).kept) (by omega) (by omega) q1 q2
    rw [q4] at h7
    have e2 : decide (2048 < (trim (F.put p).kept).length) = false := decide_eq_false hsm
    rw [e2] at h7
    exact h7
  rw [hul] at h135 hend hmid
  have d1 : min (l.length : Int) (2050 - (F.kept.length : Int)) = (u : Int) := by omega
  have d2 : (u : Int) <= (c : Int) := by omega
  clear hx hh hok hv hl hl2 hc hch hul hpt hp hix hkl hsh hu ekv hsm hrun
  go_enter Tryz.func89, Tryz.ntmps89
  go_wp2_with (first | (go_at_call 118; go_must ((with_reducible refine h118.mono ?_); rintro e w4 ⟨rfl, rfl⟩)) | (go_at_call 135; go_must ((with_reducible refine h135.mono ?_); rintro e w4 ⟨rfl, g', cap, b4, r4, k4, a4⟩; (have q4 : w4.cell? ⟨fb, 4, none⟩ = some (.slice (some ⟨g', 0, none⟩) (F.kept.length + u) cap) := b4.cell 4))) | (go_at_call 137; go_must ((with_reducible refine (hmid _ _ _ b4 r4 k4 a4).mono ?_); rintro e w5 ⟨rfl, g5⟩)))
  go_ret2
  exact hend _ _ _ _ b4 r4 k4 a4 g5
end Go.Proofs.YtobegepebochkaaGreatDoor
namespace Go.Proofs.YtobegepebochkaaGreatDoor
open Go.RowKit Go.Maps
theorem assert59 (s : ByteArray) (w : World) : (Instr.typeAssert (.iface 187 (.string s)) 20 187 true).run Tryz.prog w = .ok (.tuple #[.string s, .bool true]) w := by
  simp [Instr.typeAssert, go_sem, Tryz.underlying187, Tryz.underlying20]
abbrev wrv (t : Bs) (p : Int) : Value := .agg #[.int .i64 (if t = [] then 1 else 2), sv t, .int .i64 p]
theorem wrong_15 (t : Bs) (p : Int) (w : World) :
    Calls Tryz.prog 100 #[.iface 187 (sv t), .int .i64 p] w fun e w' => e = .returned (wrv t p) /\ w.grownBy w' none := by
  have hb := Box.new w 43 #[.int .i64 0, .string ⟨#[]⟩, .int .i64 0]
  have hta := assert59
  by_cases ht : t = []
  . subst ht
    go_enter Tryz.func100, Tryz.ntmps100
    go_wp2
    exact ⟨rfl, _, res15 (Box.new w 43 _) _ rfl, by simp, gb_alloc (gb_refl _ _) _⟩
  . have d1 : (t == []) = false := beq_eq_false_iff_ne.2 ht
    have d2 : t.isEmpty = false := by simpa using ht
    go_enter Tryz.func100, Tryz.ntmps100
    go_wp2
    exact ⟨rfl, _, res15 (Box.new w 43 _) _ rfl, by simp [ht], gb_alloc (gb_refl _ _) _⟩
theorem catch_14 {w : World} {pb cb bb wb : Nat} (t : Bs) (p : Int) (older : List PanicEntry) (a1 a2 a3 a4 a5 a6 a7 a8 a9 a10 a11 d e0 e1 e2 : Value) (hp : Box w 3 pb #[.int .i64 p]) (hc : Box w 41 cb #[a1, a2, a3, a4, a5, a6, a7, a8, a9, a10, a11]) (hb : Box w 3 bb #[d]) (hw : Box w 43 wb #[e0, e1, e2]) (hne : bb ≠ pb) :
    CallsD Tryz.prog 99 #[.pointer (some ⟨pb, 0, none⟩), .pointer (some ⟨cb, 0, none⟩), .pointer (some ⟨bb, 0, none⟩), .pointer (some ⟨wb, 0, none⟩)] (.panicking ({ v := .iface 187 (sv t), recovered := false } :: older)) w fun e u' w' =>
      e = .returned (.tuple #[]) /\ u' = .panicking ({ v := .iface 187 (sv t), recovered := true } :: older) /\ Box w' 41 cb (Z31 0 false) /\ Box w' 3 bb #[.int .i64 (-1)] /\ Box w' 43 wb #[.int .i64 (if t = [] then 1 else 2), sv t, .int .i64 p] /\ Kp (fun k => k = cb \/ k = bb \/ k = wb) w w' := by
  have h15 : ∀ W, Calls Tryz.prog 100 #[.iface 187 (sv t), .int .i64 p] W fun e w' => e = .returned (.agg #[.int .i64 (if t = [] then 1 else 2), sv t, .int .i64 p]) /\ W.grownBy w' none := fun W => wrong_15 t p W
  obtain ⟨kd, hkd⟩ : ∃ kd : Int, (if t = [] then (1 : Int) else 2) = kd := ⟨_, rfl⟩
  rw [hkd] at h15 ⊢
  clear hkd
  refine callsD_of_wpS Tryz.func99 rfl fun c₀ cs hu => ?_
  apply wpS_seq
  apply wpS_region
  simp [wpOpsS, go_sem, recoverD, hu, Tryz.ntmps99, Exit.thenS]
  refine wpS_of_wp ?_
  simp only [Array.replicate_succ, Array.replicate_zero, List.push_toArray, List.append_toArray, List.setIfInBounds_toArray, List.set_cons_zero, List.set_cons_succ, List.nil_append, List.cons_append]
  have hp0 : w.cell? ⟨pb, 0, none⟩ = some (.int .i64 p) := hp.cell 0
  have n1 : ¬ cb = bb := ne_of_type hc hb (by decide)
  have n2 : ¬ cb = wb := ne_of_type hc hw (by decide)
  have n3 : ¬ bb = wb := ne_of_type hb hw (by decide)
  have m1 : ¬ bb = cb := fun e => n1 e.symm
  have m2 : ¬ wb = cb := fun e => n2 e.symm
  have m3 : ¬ wb = bb := fun e => n3 e.symm
  go_wp2_with (go_at_call 100; go_must ((with_reducible refine (h15 _).mono ?_); rintro e w2 ⟨rfl, hg2⟩; (have hc1 := hc.kept hg2 (by simp)); (have hb1 := hb.kept hg2 (by simp)); (have hw1 := hw.kept hg2 (by simp)); (have cbz0 := hc1.fz 0); (have cbz1 := hc1.fz 1); (have cbz2 := hc1.fz 2); (have cbz3 := hc1.fz 3); (have cbz4 := hc1.fz 4); (have cbz5 := hc1.fz 5); (have cbz6 := hc1.fz 6); (have cbz7 := hc1.fz 7); (have cbz8 := hc1.fz 8); (have cbz9 := hc1.fz 9); (have cbz10 := hc1.fz 10); (have cbc0 : w2.cell? ⟨cb, 0, none⟩ = some a1 := hc1.cell 0); (have cbc1 : w2.cell? ⟨cb, 1, none⟩ = some a2 := hc1.cell 1); (have cbc2 : w2.cell? ⟨cb, 2, none⟩ = some a3 := hc1.cell 2); (have cbc3 : w2.cell? ⟨cb, 3, none⟩ = some a4 := hc1.cell 3); (have cbc4 : w2.cell? ⟨cb, 4, none⟩ = some a5 := hc1.cell 4); (have cbc5 : w2.cell? ⟨cb, 5, none⟩ = some a6 := hc1.cell 5); (have cbc6 : w2.cell? ⟨cb, 6, none⟩ = some a7 := hc1.cell 6); (have cbc7 : w2.cell? ⟨cb, 7, none⟩ = some a8 := hc1.cell 7); (have cbc8 : w2.cell? ⟨cb, 8, none⟩ = some a9 := hc1.cell 8); (have cbc9 : w2.cell? ⟨cb, 9, none⟩ = some a10 := hc1.cell 9); (have cbc10 : w2.cell? ⟨cb, 10, none⟩ = some a11 := hc1.cell 10); (have bbz0 := hb1.fz 0); (have bbc0 : w2.cell? ⟨bb, 0, none⟩ = some d := hb1.cell 0); (have wbz0 := hw1.fz 0); (have wbz1 := hw1.fz 1); (have wbz2 := hw1.fz 2); (have wbc0 : w2.cell? ⟨wb, 0, none⟩ = some e0 := hw1.cell 0); (have wbc1 : w2.cell? ⟨wb, 1, none⟩ = some e1 := hw1.cell 1); (have wbc2 : w2.cell? ⟨wb, 2, none⟩ = some e2 := hw1.cell 2)))
  obtain ⟨hx1, gx1⟩ := box11 (v0 := (.int .i64 0)) (v1 := (.slice none 0 0)) (v2 := (.int .u64 0)) (v3 := (.int .i64 0)) (v4 := (.int .u64 0)) (v5 := (.int .u64 0)) (v6 := (.slice none 0 0)) (v7 := (.bool false)) (v8 := (.bool false)) (v9 := (.slice none 0 0)) (v10 := (.string ⟨#[]⟩)) hc1
  generalize (((((((((((w2.setCell ⟨cb, 0, none⟩ (.int .i64 0)).setCell ⟨cb, 1, none⟩ (.slice none 0 0)).setCell ⟨cb, 2, none⟩ (.int .u64 0)).setCell ⟨cb, 3, none⟩ (.int .i64 0)).setCell ⟨cb, 4, none⟩ (.int .u64 0)).setCell ⟨cb, 5, none⟩ (.int .u64 0)).setCell ⟨cb, 6, none⟩ (.slice none 0 0)).setCell ⟨cb, 7, none⟩ (.bool false)).setCell ⟨cb, 8, none⟩ (.bool false)).setCell ⟨cb, 9, none⟩ (.slice none 0 0)).setCell ⟨cb, 10, none⟩ (.string ⟨#[]⟩)) = S1 at hx1 gx1 ⊢
  have hb2 := hb1.kept gx1 (by simp [m1])
  have hw2 := hw1.kept gx1 (by simp [m2])
  have hb3 := hb2.set 0 (.int .i64 (-1))
  have gx2 : S1.grownBy (S1.setCell ⟨bb, 0, none⟩ (.int .i64 (-1))) (some bb) := gb_setCell (gb_refl _ _) _
  have hx2 := hx1.kept gx2 (by simp [n1])
  have hw3 := hw2.kept gx2 (by simp [m3])
  simp only [List.setIfInBounds_toArray, List.set_cons_zero] at hb3
  generalize S1.setCell ⟨bb, 0, none⟩ (.int .i64 (-1)) = S2 at hb3 gx2 hx2 hw3 ⊢
  obtain ⟨hw4, gx3⟩ := box3 (v0 := .int .i64 kd) (v1 := .string ⟨t.toArray⟩) (v2 := .int .i64 p) hw3
  have hx3 := hx2.kept gx3 (by simp [n2])
  have hb4 := hb3.kept gx3 (by simp [n3])
  generalize ((S2.setCell ⟨wb, 0, none⟩ (.int .i64 kd)).setCell ⟨wb, 1, none⟩ (.string ⟨t.toArray⟩)).setCell ⟨wb, 2, none⟩ (.int .i64 p) = S3 at hw4 gx3 hx3 hb4 ⊢
  have hkp : Kp (fun k => k = cb \/ k = bb \/ k = wb) w S3 := (((Kp.of hg2).step gx1 (fun i e => by cases e; exact .inl (.inl rfl))).step gx2 (fun i e => by cases e; exact .inl (.inr (.inl rfl)))).step gx3 (fun i e => by cases e; exact .inl (.inr (.inr rfl)))
  simp [bodyPostS, results, Tryz.results99]
  exact ⟨hx3, hb4, hw4, hkp⟩
theorem idle_14 (p1 p2 p3 p4 : Addr) (w : World) :
    CallsD Tryz.prog 99 #[.pointer (some p1), .pointer (some p2), .pointer (some p3), .pointer (some p4)] .returning w fun e u' w' => e = .returned (.tuple #[]) /\ u' = .returning /\ w' = w := by
  refine callsD_of_wpS Tryz.func99 rfl fun c₀ cs hu => ?_
  apply wpS_seq
  apply wpS_region
  simp [wpOpsS, go_sem, recoverD, hu, Tryz.ntmps99, Exit.thenS]
  refine wpS_of_wp ?_
  simp only [Array.replicate_succ, Array.replicate_zero, List.push_toArray, List.append_toArray, List.setIfInBounds_toArray, List.set_cons_zero, List.set_cons_succ, List.nil_append, List.cons_append]
  go_wp2
  cases c₀
  simp_all [bodyPostS, results, Tryz.results99]
end Go.Proofs.YtobegepebochkaaGreatDoor
