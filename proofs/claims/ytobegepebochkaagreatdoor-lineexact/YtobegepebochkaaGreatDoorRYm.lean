import Derived.Deep.RegionHeld3
import Derived.Deep.RegionLaw
import Derived.Test.YtobegepebochkaaGreatDoorRPbh
set_option linter.unusedVariables false
set_option linter.unusedSimpArgs false
set_option maxRecDepth 100000
set_option maxHeartbeats 16000000
namespace Go.Proofs.YtobegepebochkaaGreatDoor
open Go.RowKit Go.Maps
abbrev sqYm0 (p : String) : Oper := { dst := some 120, op := Op.load 41 (Operand.tmp 8), type := 41, pos := p, after := #[], guard := none }
abbrev sqYm1 (p : String) : Oper := { dst := some 121, op := Op.fieldAddr 111 (Operand.tmp 6) 1, type := 0, pos := p, after := #[], guard := none }
abbrev sqYm2 (p : String) : Oper := { dst := some 122, op := Op.load 9 (Operand.tmp 121), type := 9, pos := p, after := #[{ on := 1, ground := Ground.data }], guard := none }
abbrev sqYm3 (p : String) : Oper := { dst := some 123, op := Op.move (Operand.tmp 11), type := 3, pos := p, after := #[], guard := none }
abbrev sqYm4 (p : String) : Oper := { dst := some 124, op := Op.index 9 (Operand.tmp 122) (Operand.tmp 123), type := 5, pos := p, after := #[{ on := 2, ground := Ground.data }, { on := 3, ground := Ground.data }], guard := none }
abbrev sqYm5 (p : String) : Oper := { dst := some 125, op := Op.move (Operand.tmp 5), type := 36, pos := p, after := #[], guard := none }
abbrev sqYm6 (p : String) : Oper := { dst := some 126, op := Op.move (Operand.tmp 10), type := 3, pos := p, after := #[], guard := none }
abbrev sqYm7 (p : String) : Oper := { dst := some 127, op := Op.indexAddr 36 (Operand.tmp 125) (Operand.tmp 126), type := 0, pos := p, after := #[{ on := 5, ground := Ground.data }, { on := 6, ground := Ground.data }], guard := none }
abbrev sqYm8 (p : String) : Oper := { dst := some 128, op := Op.load 9 (Operand.tmp 127), type := 9, pos := p, after := #[{ on := 7, ground := Ground.data }], guard := none }
abbrev sqYm9 (p : String) : Oper := { dst := some 119, op := Op.move (Operand.tmp 129), type := 114, pos := p, after := #[{ on := 9, ground := Ground.data }], guard := none }
abbrev sqYm10 (p : String) : Oper := { dst := some 130, op := Op.extract (Operand.tmp 119) 0, type := 41, pos := p, after := #[{ on := 10, ground := Ground.data }], guard := none }
abbrev sqYm11 (p : String) : Oper := { dst := some 131, op := Op.extract (Operand.tmp 119) 1, type := 3, pos := p, after := #[{ on := 10, ground := Ground.data }, { on := 15, ground := Ground.gcOnly Departure.lateStores }], guard := none }
abbrev sqYm12 (p : String) : Oper := { dst := some 132, op := Op.extract (Operand.tmp 119) 2, type := 9, pos := p, after := #[{ on := 10, ground := Ground.data }, { on := 16, ground := Ground.gcOnly Departure.lateStores }], guard := none }
abbrev sqYm13 (p : String) : Oper := { dst := some 13, op := Op.assign (Operand.tmp 131), type := 3, pos := p, after := #[{ on := 12, ground := Ground.data }, { on := 15, ground := Ground.chain }, { on := 0, ground := Ground.phase }, { on := 1, ground := Ground.phase }, { on := 2, ground := Ground.phase }, { on := 3, ground := Ground.phase }, { on := 4, ground := Ground.phase }, { on := 5, ground := Ground.phase }, { on := 6, ground := Ground.phase }, { on := 7, ground := Ground.phase }, { on := 8, ground := Ground.phase }, { on := 9, ground := Ground.phase }, { on := 10, ground := Ground.phase }, { on := 11, ground := Ground.phase }, { on := 12, ground := Ground.phase }, { on := 13, ground := Ground.textOnly Departure.lateStores }, { on := 14, ground := Ground.phase }, { on := 15, ground := Ground.phase }], guard := none }
abbrev sqYm14 (p : String) : Oper := { dst := some 14, op := Op.assign (Operand.tmp 132), type := 9, pos := p, after := #[{ on := 13, ground := Ground.data }, { on := 16, ground := Ground.chain }, { on := 0, ground := Ground.phase }, { on := 1, ground := Ground.phase }, { on := 2, ground := Ground.phase }, { on := 3, ground := Ground.phase }, { on := 4, ground := Ground.phase }, { on := 5, ground := Ground.phase }, { on := 6, ground := Ground.phase }, { on := 7, ground := Ground.phase }, { on := 8, ground := Ground.phase }, { on := 9, ground := Ground.phase }, { on := 10, ground := Ground.phase }, { on := 11, ground := Ground.phase }, { on := 12, ground := Ground.phase }, { on := 13, ground := Ground.phase }, { on := 14, ground := Ground.phase }, { on := 15, ground := Ground.phase }, { on := 16, ground := Ground.phase }], guard := none }
attribute [local go_sem] Oper.semAt_some
def Wt (W : World) (a : Option Addr) (ws : List Bs) : Prop := ∀ k x, ws[k]? = some x -> ∃ g o, a = some ⟨g, o, none⟩ /\ W.cell? ⟨g, o + k, none⟩ = some (sv x)
theorem Wt.kept {W W' : World} {a : Option Addr} {ws : List Bs} (h : Wt W a ws) (hg : W.grownBy W' none) : Wt W' a ws := fun k x hx => by
  obtain ⟨g, o, e, hc⟩ := h k x hx
  exact ⟨g, o, e, gb_cellN hg hc⟩
theorem Wt.ws {W : World} {a : Option Addr} {ws : List Bs} (h : Wt W a ws) {c : Nat} (hc : ws.length <= c) : Ws W (.slice a ws.length c) ws := by
  cases ws with
  | nil => exact .inl ⟨rfl, a, c, rfl⟩
  | cons x t =>
    obtain ⟨g, o, rfl, h0⟩ := h 0 x rfl
    refine .inr ⟨g, o, c, rfl, hc, World.block_lt_of_cell? _ _ h0, fun k y hk => ?_⟩
    obtain ⟨g', o', e, hc'⟩ := h k y hk
    injection e with e
    injection e with e1 e2
    subst e1 e2
    exact hc'
theorem Wt.take {W : World} {a : Option Addr} {ws : List Bs} (h : Wt W a ws) : Wt W a ws.dropLast := fun k x hx => h k x (by
  rw [List.dropLast_eq_take, List.getElem?_take] at hx
  split at hx
  . exact hx
  . cases hx)
theorem kp_cell {F : Nat -> Prop} {w w' : World} (hk : Kp F w w') {g i : Nat} {v : Value} (h : w.cell? ⟨g, i, none⟩ = some v) (hn : ¬ F g) : w'.cell? ⟨g, i, none⟩ = some v := by
  have hlt := World.block_lt_of_cell? _ _ h
  have h2 := hk.block g hlt hn
  simpa [World.cell?, h2] using h
theorem rt1_bound {c d : Cmd} {a : UInt8} {x : Bs} (h : rt1 c a x = .inl d) (hx : x.length <= 2048) : d.keys.length <= c.keys.length + 1 /\ d.mt.length <= c.mt.length + 1 /\ ((∀ f ∈ c.mt, f.arg.length <= 65536) -> ∀ f ∈ d.mt, f.arg.length <= 65536) := by
  have h1 : ∃ d', take1 c (mpL a) x = .inl d' /\ d' = d := by
    unfold rt1 at h
    split at h
    . rename_i d' hd'
      refine ⟨d', hd', ?_⟩
      split at h
      . split at h
        . injection h
        . cases h
      . injection h
    . cases h
  obtain ⟨d', h2, rfl⟩ := h1
  unfold take1 at h2
  repeat' (split at h2)
  all_goals first
    | (cases h2; done)
    | (injection h2 with h2; subst h2; refine ⟨by simp, by simp, fun hf f hm => ?_⟩; first | exact hf f hm | (simp at hm; rcases hm with hm | rfl; exact hf f hm; simp; omega))
theorem rt1_ne {c : Cmd} {a : UInt8} {x s : Bs} (h : rt1 c a x = .inr s) : s ≠ [] := by
  unfold rt1 at h
  split at h
  . split at h
    . split at h
      . cases h
      . rename_i h1; injection h with h; rw [<- h]; exact h1
    . cases h
  . rename_i e he
    injection h with h
    subst h
    unfold take1 at he
    repeat' (split at he)
    all_goals first
      | (cases he; done)
      | (injection he with he; subst he; decide)
theorem stepT {w : World} {ops : Array Oper} {op : Oper} {a : Act} {K : Act -> World -> Prop} {Q : Exit -> Act -> World -> Prop} {D : Prop} (T n : Nat) (hsz : (Tryz.prog.info? T).map (·.size) = some n) (hgd : op.guard = none) (x y : Operand) (ho : op.op = .store T x y) (t b o : Nat) (vs : Array Value) (hb : Box w t b vs) (hn : o + n <= vs.size)
    (hx : a.eval x = .pointer (some ⟨b, o, none⟩)) (cs : Array Value) (hy : a.eval y = .agg cs) (hs : cs.size = n) (h1 : cs.all (·.oneCell') = true)
    (h : ∀ W, Box W t b (sets vs o cs.toList) -> w.grownBy W (some b) -> K (a.put op.dst undef) W) : if Region.wanted op (yielded ops a.tmps) = true then Oper.wp Tryz.prog op a w K Q else D := by
  have hw : Region.wanted op (yielded ops a.tmps) = true := by simp [Region.wanted, hgd]
  rw [if_pos hw]
  exact wp_store_mid T x y ho b o cs hx hy (by rw [hs]; exact hb.there o n hn) (by rw [hs]; exact hsz) h1 (h _ (hb.sets _ _) (gb_setCells _ _ (gb_refl _ _)))
theorem size111 : (Tryz.prog.info? 111).map (·.size) = some 6 := by kernel_rfl
theorem Tryz.info111 : (Tryz.prog.info? 111).map (fun i => (i.zero, i.size, i.bytes)) = some (some (.agg #[.int .i64 0, .string ⟨#[]⟩, .int .i64 0, .bool false, .bool false, .bool false]), 6, 40) := by kernel_rfl
theorem sets_6 (u0 u1 u2 u3 u4 u5 v0 v1 v2 v3 v4 v5 : Value) : sets #[u0, u1, u2, u3, u4, u5] 0 [v0, v1, v2, v3, v4, v5] = #[v0, v1, v2, v3, v4, v5] := by
  simp only [sets, List.setIfInBounds_toArray, List.set_cons_zero, List.set_cons_succ]
structure L1 (w Y : World) (br bc i : Nat) (sh : Bs) (ls : Nat) (ag rp bl q : Bool) : Prop where
  rs : Rs w Y
  rb : Box Y 111 br #[.int .i64 ((i : Int) + 1), sv sh, .int .i64 (ls : Nat), .bool ag, .bool rp, .bool bl]
  cb : Box Y 41 bc #[.int .i64 ((i : Int) + 1), .slice none 0 0, .int .u64 0, .int .i64 0, .int .u64 0, .int .u64 0, .slice none 0 0, .bool q, .bool false, .slice none 0 0, .string ⟨#[]⟩]
  r1 : w.heap.size + 2 <= br
  r2 : br < bc
theorem rline_read {w : World} (v : Value) (l : Bs) (hB : By w v l) (hl : ¬ 2048 < l.length) (x : Bs) (ws : List Bs) (hspl : spl [] l = x :: ws) (i : Nat) (hi : i < 24) (hv : vbS x = (i : Int) + 1) : Calls Tryz.prog 13 #[v] w fun e w' => DLn l w e w' := by
  have hd : dlineS l = dread i ws := by
    unfold dlineS
    rw [if_neg hl, hspl]
    simp only
    rw [hv, if_neg (by omega), show ((i : Int) + 1 - 1).toNat = i by omega]
  unfold dread at hd
  have hwl : ws.length <= 2049 := by have := spl_lenY l []; rw [hspl] at this; simp at this; omega
  have hwx : ∀ y ∈ x :: ws, y ≠ [] /\ y.length <= 2048 := fun y hy => by
    have := spl_memY l [] y (by rw [hspl]; exact hy)
    exact ⟨this.1, by have := this.2; simp at this; omega⟩
  have h58 := fun W => rowOf_58 i hi W
  have hVF := vf i hi
  have hsl : (dr i).shape.length <= 5 := by
    rcases (by omega : i = 0 \/ i = 1 \/ i = 2 \/ i = 3 \/ i = 4 \/ i = 5 \/ i = 6 \/ i = 7 \/ i = 8 \/ i = 9 \/ i = 10 \/ i = 11 \/ i = 12 \/ i = 13 \/ i = 14 \/ i = 15 \/ i = 16 \/ i = 17 \/ i = 18 \/ i = 19 \/ i = 20 \/ i = 21 \/ i = 22 \/ i = 23) with rfl | rfl | rfl | rfl | rfl | rfl | rfl | rfl | rfl | rfl | rfl | rfl | rfl | rfl | rfl | rfl | rfl | rfl | rfl | rfl | rfl | rfl | rfl | rfl <;> decide
  have hll : (dr i).least <= 5 := by
    rcases (by omega : i = 0 \/ i = 1 \/ i = 2 \/ i = 3 \/ i = 4 \/ i = 5 \/ i = 6 \/ i = 7 \/ i = 8 \/ i = 9 \/ i = 10 \/ i = 11 \/ i = 12 \/ i = 13 \/ i = 14 \/ i = 15 \/ i = 16 \/ i = 17 \/ i = 18 \/ i = 19 \/ i = 20 \/ i = 21 \/ i = 22 \/ i = 23) with rfl | rfl | rfl | rfl | rfl | rfl | rfl | rfl | rfl | rfl | rfl | rfl | rfl | rfl | rfl | rfl | rfl | rfl | rfl | rfl | rfl | rfl | rfl | rfl <;> decide
  obtain ⟨sh, hsh⟩ : ∃ sh, (dr i).shape = sh := ⟨_, rfl⟩
  obtain ⟨ls, hls⟩ : ∃ ls, (dr i).least = ls := ⟨_, rfl⟩
  obtain ⟨ag, hag⟩ : ∃ ag, (dr i).again = ag := ⟨_, rfl⟩
  obtain ⟨rp, hrp⟩ : ∃ rp, (dr i).reply = rp := ⟨_, rfl⟩
  obtain ⟨bl, hbl⟩ : ∃ bl, (dr i).block = bl := ⟨_, rfl⟩
  have hdq : dqt (dr i) ws = (rp && (decide (ls + 1 <= ws.length) && decide (ws.getLast? = some noreply))) := by unfold dqt; rw [hrp, hls]
  have hok := hVF.hok
  have hha := hVF.ha
  simp only [drA, hsh, hls, hag, hrp, hbl, hdq] at h58 hd hsl hll hok hha
  clear hVF hsh hls hag hrp hbl hdq
  obtain ⟨a, c, rfl⟩ : ∃ a c, v = .slice a l.length c := by
    rcases hB with ⟨rfl, a, c, rfl⟩ | ⟨g, o, c, rfl, _⟩
    . exact ⟨a, c, rfl⟩
    . exact ⟨_, c, rfl⟩
  have hrs := rs_new w
  have d1 : ¬ (2048 : Int) < l.length := by omega
  have HD : Hid (dlineS l = _) := hd
  clear hd
  go_enter Tryz.func13, Tryz.ntmps13
  go_upto_region 1 with (fail)
  generalize (w.alloc (.cells Z41 41)).alloc (.cells Z43 43) = X at *
  have hcv := (hB.kept hrs.g).conv
  have h56 := words_56 l (by omega) X
  rw [hspl] at h56
  clear hB
  go_upto_region 4 with (go_at_call 56; go_must ((with_reducible refine h56.mono ?_); rintro e X5 ⟨wv, rfl, hrow, hg5⟩; have r5 := hrs.kept hg5))
  obtain ⟨wa, wc, hdw, _, hwc, _, hpos⟩ := row_shape hrow
  subst hdw
  obtain ⟨g, rfl⟩ := hpos (by simp)
  have c0 : X5.cell? ⟨g, 0, none⟩ = some (sv x) := row_cell hrow 0 _ rfl
  have hWt : Wt X5 (some ⟨g, 1, none⟩) ws := fun k y hk => ⟨g, 1, rfl, row_cell hrow (1 + k) _ (by rw [Nat.add_comm]; simp [hk])⟩
  have h57 := fun W => verbOf_57 x W
  rw [hv] at h57
  obtain ⟨n, hn⟩ : ∃ n, n = ws.length := ⟨_, rfl⟩
  have hxn : (x :: ws).length = n + 1 := by rw [hn]; simp
  rw [hxn] at hwc ⊢
  have hn1 : n <= ws.length := by omega
  have hn2 : ws.length <= n := by omega
  have d3 : (((n : Int) + 1) == 0) = false := by simp; omega
  have d4 : (0 : Int) < ((n : Int) + 1) := by omega
  have e3 : (((i : Int) + 1) == 0) = false := by simp; omega
  clear hrow hxn hn h56 hcv hpos hspl hrs
  obtain ⟨i0, hi0, hz0, hz1, hz2⟩ := info_parts Tryz.info111
  go_upto_region 7 with (first
    | (go_at_call 57; go_must ((first | (with_reducible refine (h57 X5).mono ?_); rintro e X6 ⟨rfl, hg6⟩; have r6 := r5.kept hg6; have c6 := gb_cellN hg6 c0 | (with_reducible refine (h57 X6).mono ?_); rintro e X7 ⟨rfl, hg7⟩; have r7 := r6.kept hg7)))
    | (go_at_call 58; go_must ((with_reducible refine (h58 _).mono ?_); rintro e X8 ⟨rfl, hg8⟩; have r8 := r7.kept hg8))
    | (refine atS 111 X8.heap.size 0 rfl rfl ?_; go_must (refine storeT 111 6 size111 rfl _ _ rfl 111 X8.heap.size 0 _ (Box.new X8 111 #[.int .i64 0, .string ⟨#[]⟩, .int .i64 0, .bool false, .bool false, .bool false]) (by simp) rfl _ rfl rfl (by simp [Value.oneCell']) ?_); intro X9 b9 g9))
  rw [show sets #[.int .i64 0, .string ⟨#[]⟩, .int .i64 0, .bool false, .bool false, .bool false] 0 ((#[.int .i64 ((i : Int) + 1), sv sh, .int .i64 (ls : Nat), .bool ag, .bool rp, .bool bl] : Array Value)).toList = #[.int .i64 ((i : Int) + 1), sv sh, .int .i64 (ls : Nat), .bool ag, .bool rp, .bool bl] from sets_6 _ _ _ _ _ _ _ _ _ _ _ _] at b9
  have G9 : X8.grownBy X9 none := gb_mine (World.grownBy_alloc X8 (.cells #[.int .i64 0, .string ⟨#[]⟩, .int .i64 0, .bool false, .bool false, .bool false] 111) none) g9 (Nat.le_refl _)
  have r9 := r8.kept G9
  have hWt9 := hWt.kept (gb_trans (gb_trans (gb_trans hg6 hg7) hg8) G9)
  have hr8 := r8.s
  have hb9 := b9.lt
  obtain ⟨br, hbr⟩ : ∃ br, br = X8.heap.size := ⟨_, rfl⟩
  rw [<- hbr] at b9 hb9 ⊢
  have hbr1 : w.heap.size + 2 <= br := by omega
  clear hbr g9 G9 hg6 hg7 hg8 r8 r7 r6 r5 hWt c0 c6 hi0 hz0 hz1 hz2 h57 h58 hr8
  try simp only [Act.put, pY]
  go_cut [5] from 42 to 43 (fun v5 wd => ∃ a c, v5 = .slice a n c /\ n <= c /\ Wt X9 a ws /\ wd = X9)
  case first =>
    by_cases hc1 : wc = 1
    . subst hc1
      have hn0 : n = 0 := by omega
      subst hn0
      have hnil : ws = [] := List.length_eq_zero_iff.1 (by omega)
      subst hnil
      go_wp2
      go_meet
      exact ⟨_, _, rfl, by omega, fun k x hk => (by cases hk), rfl⟩
    . have dw : (1 : Int) <= wc := by omega
      have dn : (1 : Int) <= (n : Int) + 1 := by omega
      go_wp2
      go_meet
      exact ⟨_, _, rfl, by omega, hWt9, rfl⟩
  case rest =>
    obtain ⟨wa, wcc, rfl, hncc, hWt, hwd⟩ := hcut
    subst hwd
    have h59 := passOf_59 (.int .i64 ((i : Int) + 1)) (.int .i64 (ls : Nat)) (.bool ag) (.bool rp) (.bool bl) sh (by omega) (.slice wa ws.length wcc) ws (by omega) (fun y hy => by have := (hwx y (by simp [hy])).2; omega) wc (hWt.ws (by omega))
    rw [show ws.length = n by omega] at h59
    have q0 : wc.cell? ⟨br, 0, none⟩ = some (.int .i64 ((i : Int) + 1)) := b9.cell 0
    have q1 : wc.cell? ⟨br, 1, none⟩ = some (sv sh) := b9.cell 1
    have q2 : wc.cell? ⟨br, 2, none⟩ = some (.int .i64 (ls : Nat)) := b9.cell 2
    have q3 : wc.cell? ⟨br, 3, none⟩ = some (.bool ag) := b9.cell 3
    have q4 : wc.cell? ⟨br, 4, none⟩ = some (.bool rp) := b9.cell 4
    have q5 : wc.cell? ⟨br, 5, none⟩ = some (.bool bl) := b9.cell 5
    go_upto_region 9 with (go_at_call 59; go_must ((with_reducible refine h59.mono ?_); rintro e Y0 ⟨rfl, hgY⟩))
    obtain ⟨P, hP⟩ : ∃ P, rpass sh ws = P := ⟨_, rfl⟩
    rw [hP] at HD ⊢
    have rY := r9.kept hgY
    have bY := b9.kept hgY (by simp)
    have hWY := hWt.kept hgY
    have y0 : Y0.cell? ⟨br, 0, none⟩ = some (.int .i64 ((i : Int) + 1)) := bY.cell 0
    clear q0 q1 q2 q3 q4 q5 h59 hP b9 r9 hWt hgY hb9
    go_upto_region 10 with (refine atS 41 Y0.heap.size 0 rfl rfl ?_; go_must (refine storeT 41 11 size41 rfl _ _ rfl 41 Y0.heap.size 0 _ (Box.new Y0 41 Z41) (by simp) rfl _ rfl rfl (by simp [Value.oneCell']) ?_); intro Y1 b1 g1)
    rw [show sets Z41 0 ((#[.int .i64 ((i : Int) + 1), .slice none 0 0, .int .u64 0, .int .i64 0, .int .u64 0, .int .u64 0, .slice none 0 0, .bool false, .bool false, .slice none 0 0, .string ⟨#[]⟩] : Array Value)).toList = #[.int .i64 ((i : Int) + 1), .slice none 0 0, .int .u64 0, .int .i64 0, .int .u64 0, .int .u64 0, .slice none 0 0, .bool false, .bool false, .slice none 0 0, .string ⟨#[]⟩] from sets_41 _ _ _ _ _ _ _ _ _ _ _ _ _ _ _ _ _ _ _ _ _ _] at b1
    have G1 : Y0.grownBy Y1 none := gb_mine (World.grownBy_alloc Y0 (.cells Z41 41) none) g1 (Nat.le_refl _)
    have hbl9 := bY.lt
    obtain ⟨bc, hbc⟩ : ∃ bc, bc = Y0.heap.size := ⟨_, rfl⟩
    rw [<- hbc] at b1 ⊢
    have hbc1 : br < bc := by omega
    have E1 : L1 w Y1 br bc i sh ls ag rp bl false := ⟨rY.kept G1, bY.kept G1 (by simp), b1, hbr1, hbc1⟩
    have hW1 := hWY.kept G1
    have hWlt : ∀ k y, ws[k]? = some y -> ∀ gg oo, wa = some ⟨gg, oo, none⟩ -> gg < bc := fun k y hk gg oo e => by
      obtain ⟨g', o', e', hc⟩ := hWY k y hk
      rw [e] at e'
      injection e' with e'
      injection e' with e1 e2
      subst e1 e2
      have := World.block_lt_of_cell? _ _ hc
      rw [hbc]
      exact this
    have hbcl := b1.lt
    clear hbc g1 G1 bY b1 rY hWY y0 hbl9
    try simp only [Act.put, pY]
    obtain ⟨QQ, hQQ⟩ : ∃ QQ, (rp && (decide (ls + 1 <= ws.length) && decide (ws.getLast? = some noreply))) = QQ := ⟨_, rfl⟩
    rw [hQQ] at HD
    have z1 : Y1.cell? ⟨br, 1, none⟩ = some (sv sh) := E1.rb.cell 1
    have z2 : Y1.cell? ⟨br, 2, none⟩ = some (.int .i64 (ls : Nat)) := E1.rb.cell 2
    have z3 : Y1.cell? ⟨br, 3, none⟩ = some (.bool ag) := E1.rb.cell 3
    have z4 : Y1.cell? ⟨br, 4, none⟩ = some (.bool rp) := E1.rb.cell 4
    have HQ : Hid ((rp && (decide (ls + 1 <= ws.length) && decide (ws.getLast? = some noreply))) = QQ) := hQQ
    clear hQQ
    go_cut [73] from 50 to 73 (fun x73 wd => x73 = .bool QQ /\ wd = Y1)
    case first =>
      cases rp with
      | false =>
        obtain rfl : QQ = false := by rw [<- HQ.out]; rfl
        clear HQ
        go_wp2
        go_meet
        exact ⟨rfl, rfl⟩
      | true =>
        by_cases h1 : ls + 1 <= ws.length
        . obtain ⟨m, hm⟩ : ∃ m, n = m + 1 := ⟨n - 1, by omega⟩
          subst hm
          obtain ⟨y, hy⟩ : ∃ y, ws[m]? = some y := ⟨_, List.getElem?_eq_getElem (by omega)⟩
          have hlast : ws.getLast? = some y := by rw [List.getLast?_eq_getElem?, show ws.length - 1 = m by omega]; exact hy
          obtain ⟨gg, oo, rfl, hcy⟩ := hW1 m y hy
          have e1 : IntKind.i64.wrap (((m + 1 : Nat) : Int) - 1) = m := by rw [IntKind.wrap_i64]; omega
          have e2 : ((m + 1 : Nat) : Int) - 1 = m := by omega
          have e3 : (m : Int) + 1 - 1 = m := by omega
          have d5 : (ls : Int) <= m := by omega
          have d6 : (0 : Int) < ((m + 1 : Nat) : Int) := by omega
          have d7 : (m : Int) < ((m + 1 : Nat) : Int) := by omega
          by_cases hyn : y = noreply
          . subst hyn
            obtain rfl : QQ = true := by rw [<- HQ.out, hlast]; simp [h1]
            clear HQ hlast hy
            go_wp2
            go_meet
            exact ⟨rfl, rfl⟩
          . obtain rfl : QQ = false := by rw [<- HQ.out, hlast]; simp [hyn]
            have hyb : (y == [110, 111, 114, 101, 112, 108, 121]) = false := by simpa using hyn
            clear HQ hlast hy
            go_wp2
            go_meet
            exact ⟨rfl, rfl⟩
        . obtain rfl : QQ = false := by rw [<- HQ.out]; simp [h1]
          have e1 : IntKind.i64.wrap ((n : Int) - 1) = (n : Int) - 1 := by rw [IntKind.wrap_i64]; omega
          have d5 : ¬ (ls : Int) <= (n : Int) - 1 := by omega
          clear HQ
          go_wp2
          go_meet
          exact ⟨rfl, rfl⟩
    case rest =>
      obtain ⟨rfl, hwd⟩ := hcut
      have hwd2 := hwd.symm
      subst hwd2
      try clear wd
      obtain ⟨vs, hvs⟩ : ∃ vs, (if QQ = true then ws.dropLast else ws) = vs := ⟨_, rfl⟩
      rw [hvs] at HD
      have hvl : vs.length = if QQ = true then n - 1 else n := by
        rw [<- hvs]; split
        . rw [List.length_dropLast]; omega
        . omega
      have hWv : Wt Y1 wa vs := by
        rw [<- hvs]; split
        . exact hW1.take
        . exact hW1
      have hvlt : ∀ k y, vs[k]? = some y -> ∀ gg oo, wa = some ⟨gg, oo, none⟩ -> gg < bc := fun k y hk gg oo e => by
        rw [<- hvs] at hk
        split at hk
        . rw [List.dropLast_eq_take, List.getElem?_take] at hk
          split at hk
          . exact hWlt k y hk gg oo e
          . cases hk
        . exact hWlt k y hk gg oo e
      have hvx : ∀ y ∈ vs, y ≠ [] /\ y.length <= 2048 := fun y hy => hwx y (by
        rw [<- hvs] at hy
        split at hy
        . exact List.mem_cons_of_mem _ (List.dropLast_subset _ hy)
        . simp [hy])
      have hq0 : QQ = true -> 1 <= n /\ ∃ gg oo, wa = some ⟨gg, oo, none⟩ := fun h => by
        have h2 := HQ.out
        rw [h] at h2
        simp at h2
        obtain ⟨y, hy⟩ : ∃ y, ws[0]? = some y := ⟨_, List.getElem?_eq_getElem (by omega)⟩
        obtain ⟨gg, oo, e, _⟩ := hW1 0 y hy
        exact ⟨by omega, gg, oo, e⟩
      clear hvs HQ hW1 hwx hWlt
      obtain ⟨N, hN⟩ : ∃ N, (if QQ = true then n - 1 else n) = N := ⟨_, rfl⟩
      rw [hN] at hvl
      go_upto_if 73 with (fail)
      go_cut [5] from 74 to 79 (fun v5 wd => v5 = .slice wa N wcc /\ L1 w wd br bc i sh ls ag rp bl QQ /\ Kp (· = bc) Y1 wd)
      case first =>
        cases QQ with
        | false =>
          obtain rfl : n = N := hN
          go_wp2
          go_meet
          exact ⟨rfl, E1, Kp.refl _ _⟩
        | true =>
          obtain ⟨hn1, gg, oo, rfl⟩ := hq0 rfl
          obtain ⟨m, hm⟩ : ∃ m, n = m + 1 := ⟨n - 1, by omega⟩
          subst hm
          obtain rfl : m = N := by simpa using hN
          have e1 : IntKind.i64.wrap (((m + 1 : Nat) : Int) - 1) = m := by rw [IntKind.wrap_i64]; omega
          have e2 : ((m + 1 : Nat) : Int) - 1 = m := by omega
          have e3 : (m : Int) + 1 - 1 = m := by omega
          have d7 : (m : Int) <= wcc := by omega
          have c7 : Y1.cell? ⟨bc, 7, none⟩ = some (.bool false) := E1.cb.cell 7
          have f7 := E1.cb.fz 7
          have b7 := E1.cb.set 7 (.bool true)
          simp only [List.setIfInBounds_toArray, List.set_cons_zero, List.set_cons_succ] at b7
          have g7 : Y1.grownBy (Y1.setCell ⟨bc, 7, none⟩ (.bool true)) (some bc) := gb_setCell (gb_refl _ _) _
          have hr1 := E1.r1
          have hr2 := E1.r2
          have E2 : L1 w (Y1.setCell ⟨bc, 7, none⟩ (.bool true)) br bc i sh ls ag rp bl true := ⟨⟨Box.kept E1.rs.b g7 (fun e => by have := Option.some.inj e; omega), Box.kept E1.rs.k g7 (fun e => by have := Option.some.inj e; omega), gb_mine E1.rs.g g7 (by omega), by simpa using E1.rs.s⟩, Box.kept E1.rb g7 (fun e => by have := Option.some.inj e; omega), b7, hr1, hr2⟩
          have K2 : Kp (· = bc) Y1 (Y1.setCell ⟨bc, 7, none⟩ (.bool true)) := (Kp.refl _ _).step g7 (fun j h => .inl (Option.some.inj h).symm)
          clear hN g7 b7
          go_wp2
          go_meet
          exact ⟨rfl, E2, K2⟩
      case rest =>
        obtain ⟨rfl, E2, K2⟩ := hcut
        have hWv2 : Wt wc wa vs := fun k y hk => by
          obtain ⟨gg, oo, e, hc⟩ := hWv k y hk
          have := hvlt k y hk gg oo e
          exact ⟨gg, oo, e, kp_cell K2 hc (fun h => by omega)⟩
        clear hWv hq0 K2 E1 z1 z2 z3 z4 hncc
        have z1 : wc.cell? ⟨br, 1, none⟩ = some (sv sh) := E2.rb.cell 1
        have z2 : wc.cell? ⟨br, 2, none⟩ = some (.int .i64 (ls : Nat)) := E2.rb.cell 2
        have z3 : wc.cell? ⟨br, 3, none⟩ = some (.bool ag) := E2.rb.cell 3
        have hss : (ByteArray.mk sh.toArray).size = sh.length := ba_size sh
        have hvl1 : N <= vs.length := by omega
        have hvl2 : vs.length <= N := by omega
        have hNn : N <= 2049 := by rw [<- hN]; split <;> omega
        clear hN hvl
        obtain ⟨BAD, hBAD⟩ : ∃ BAD, (decide (N < ls) || (decide (sh.length < N) && !ag)) = BAD := ⟨_, rfl⟩
        have HBD : Hid ((decide (N < ls) || (decide (sh.length < N) && !ag)) = BAD) := hBAD
        clear hBAD
        go_upto_region 13 with (fail)
        go_cut [97] from 80 to 97 (fun x97 wd => x97 = .bool BAD /\ wd = wc)
        case first =>
          by_cases a1 : N < ls
          . obtain rfl : BAD = true := by rw [<- HBD.out]; simp [a1]
            have a2 : decide (N < ls) = true := decide_eq_true a1
            clear HBD HD
            go_wp2
            all_goals go_meet
            all_goals exact ⟨rfl, rfl⟩
          . have a3 : decide (N < ls) = false := decide_eq_false a1
            by_cases a4 : sh.length < N
            . have a5 : decide (sh.length < N) = true := decide_eq_true a4
              cases ag with
              | false =>
                obtain rfl : BAD = true := by rw [<- HBD.out]; simp [a4]
                clear HBD HD
                go_wp2
                all_goals go_meet
                all_goals exact ⟨rfl, rfl⟩
              | true =>
                obtain rfl : BAD = false := by rw [<- HBD.out]; simp; omega
                clear HBD HD
                go_wp2
                all_goals go_meet
                all_goals exact ⟨rfl, rfl⟩
            . have a5 : decide (sh.length < N) = false := decide_eq_false a4
              obtain rfl : BAD = false := by rw [<- HBD.out]; simp; omega
              clear HBD HD
              go_wp2
              all_goals go_meet
              all_goals exact ⟨rfl, rfl⟩
        case rest =>
          obtain ⟨rfl, hwd⟩ := hcut
          have hwd2 := hwd.symm
          subst hwd2
          clear z2 z3
          cases BAD with
          | true =>
            have hbad : vs.length < ls \/ (sh.length < vs.length /\ ag = false) := by
              have := HBD.out
              simp at this
              rw [show vs.length = N by omega]
              exact this
            have hd := HD.out
            rw [if_pos hbad] at hd
            have h55 := wrong_55 badLine P wc
            have r5 := E2.rs
            have hs := r5.s
            have HE : Hid (dlineS l = _) := hd
            clear hd HD HBD hbad
            go_wp2_with (first
              | (go_at_call 55; go_must ((with_reducible refine h55.mono ?_); rintro e X5 ⟨rfl, hg5⟩; have r5 := r5.kept hg5))
              | (refine atS 41 w.heap.size 0 rfl rfl ?_; go_must (refine storeT 41 11 size41 rfl _ _ rfl 41 w.heap.size 0 _ r5.b (by simp) rfl _ rfl rfl (by simp [Value.oneCell']) ?_); intro X6 b6 g6; (have k6 := Box.kept r5.k g6 (by simp)))
              | (refine atS 43 (w.heap.size + 1) 0 rfl rfl ?_; go_must (refine storeT 43 3 size43 rfl _ _ rfl 43 (w.heap.size + 1) 0 _ k6 (by simp) rfl _ rfl rfl (by simp [Value.oneCell']) ?_); intro X7 k7 g7; (have b7 := Box.kept b6 g7 (by simp))))
            rw [show sets Z41 0 (Z41 : Array Value).toList = Z41 from sets_41 _ _ _ _ _ _ _ _ _ _ _ _ _ _ _ _ _ _ _ _ _ _] at b7
            rw [show sets Z43 0 (#[.int .i64 2, sv badLine, .int .i64 P] : Array Value).toList = #[.int .i64 2, sv badLine, .int .i64 P] from sets_43 _ _ _ _ _ _] at k7
            have G7 : w.grownBy X7 none := gb_mine (gb_mine r5.g g6 (Nat.le_refl _)) g7 (by omega)
            exact ⟨rfl, _, res13 b7 k7 _ rfl rfl rfl, .inr ⟨2, badLine, P, HE.out, rfl⟩, G7⟩
          | false =>
            have hbad : ¬ (vs.length < ls \/ (sh.length < vs.length /\ ag = false)) := by
              have := HBD.out
              simp at this
              rw [show vs.length = N by omega]
              rintro (h | ⟨h, h2⟩)
              . omega
              . have := this.2 h
                rw [h2] at this
                cases this
            have hd := HD.out
            rw [if_neg hbad] at hd
            have hne0 : vs ≠ [] -> sh ≠ [] := fun h e => by
              apply hbad
              right
              rw [e]
              refine ⟨by have := List.length_pos_iff.2 h; simp; omega, ?_⟩
              cases ha : ag
              . rfl
              . exact absurd e (hha ha)
            have hlok : vs ≠ [] -> ∀ k, lOk (dlt sh k) := fun h => by
              rcases hok with e | e
              . exact absurd e (hne0 h)
              . exact e
            have HE : Hid (dlineS l = _) := hd
            clear hd HD HBD hbad hok hha hl hv hwl
            go_wp2
            obtain ⟨wcO, hwcO⟩ : ∃ wcO, wcO = wc := ⟨_, rfl⟩
            obtain ⟨B0, hB0⟩ : ∃ B0, B0 = wc.heap.size := ⟨_, rfl⟩
            have hbcB : bc < B0 := by rw [hB0]; exact E2.cb.lt
            have hwB : w.heap.size + 2 <= B0 := by rw [hB0]; exact E2.rs.s
            have hbrB : br < bc := E2.r2
            obtain ⟨R, hR⟩ : ∃ R, rtL sh 0 (cmd0 ((i : Int) + 1) QQ) (-1) vs = R := ⟨_, rfl⟩
            rw [hR] at HE
            have HL : Hid (L1 w wcO br bc i sh ls ag rp bl QQ) := by rw [hwcO]; exact E2
            have HW : Hid (Wt wcO wa vs /\ ∀ (k : Nat) (y : Bs), vs[k]? = some y -> ∀ (gg oo : Nat), wa = some ⟨gg, oo, none⟩ -> gg < bc) := by rw [hwcO]; exact ⟨hWv2, hvlt⟩
            have HS : Hid (Box wc 41 bc (cmA (cmd0 ((i : Int) + 1) QQ) (.slice none 0 0) (.slice none 0 0))) := E2.cb
            have HX : Hid (∀ y ∈ vs, y ≠ [] /\ y.length <= 2048) := hvx
            have HB0 : Hid (B0 = wcO.heap.size) := by rw [hwcO]; exact hB0
            have HC0 : Hid (Kp (fun q => q = bc \/ B0 <= q) wcO wc) := by rw [hwcO]; exact Kp.refl _ _
            have HR0 : Hid (rtL sh 0 (cmd0 ((i : Int) + 1) QQ) (-1) vs = R) := hR
            clear hR hB0 E2 hWv2 hvlt z1 hvx hwcO
            go_loopw [9, 10] (fun v9 v10 wr => ∃ (k : Nat) (c' : Cmd) (n' : Int) (kv mv : Value), k <= N /\ v10 = .int .i64 k /\ v9 = .int .i64 n' /\ Box wr 41 bc (cmA c' kv mv) /\ Kw wr B0 c' kv mv /\ Kp (fun q => q = bc \/ B0 <= q) wcO wr /\ rtL sh k c' n' (vs.drop k) = R /\ c'.keys.length <= k /\ c'.mt.length <= k /\ (∀ f ∈ c'.mt, f.arg.length <= 65536)) (fun _ v _ => N - (intOf v).toNat)
            case atStart => exact ⟨0, cmd0 ((i : Int) + 1) QQ, -1, .slice none 0 0, .slice none 0 0, by omega, rfl, rfl, HS.out, ⟨⟨rfl, .inl ⟨rfl, rfl⟩⟩, ⟨rfl, .inl ⟨rfl, rfl⟩⟩⟩, HC0.out, by rw [List.drop_zero]; exact HR0.out, by simp [cmd0], by simp [cmd0], by simp [cmd0]⟩
            case round =>
              clear HS HR0
              obtain ⟨k, c', n', kv, mv, hk, rfl, rfl, hbx, hkw, hkp, hrt, hkl, hml, hma⟩ := hrel
              have rbr : Box wr 111 br #[.int .i64 ((i : Int) + 1), sv sh, .int .i64 (ls : Nat), .bool ag, .bool rp, .bool bl] := hkp.box HL.out.rb (fun e => by rcases e with e | e <;> omega)
              have z1 : wr.cell? ⟨br, 1, none⟩ = some (sv sh) := rbr.cell 1
              have hszr := hkp.size
              obtain ⟨ka, kc, hkv, _, _, _, _⟩ := row_shape hkw.k
              subst hkv
              obtain ⟨ma, mc, hmv, _, _, _, _⟩ := row_shape hkw.m
              subst hmv
              rcases (by omega : k < N \/ k = N) with hkN | hkN
              . obtain ⟨y, hy⟩ : ∃ y, vs[k]? = some y := ⟨_, List.getElem?_eq_getElem (by omega)⟩
                obtain ⟨hy1, hy2⟩ := HX.out y (List.mem_of_getElem? hy)
                obtain ⟨gg, oo, rfl, hcy⟩ := HW.out.1 k y hy
                have hgl := HW.out.2 k y hy gg oo rfl
                replace hcy := kp_cell hkp hcy (fun e => by rcases e with e | e <;> omega)
                have hvne : vs ≠ [] := fun e => by rw [e] at hy; cases hy
                have hsne := hne0 hvne
                have hlk := hlok hvne k
                have hdv : vs.drop k = y :: vs.drop (k + 1) := by
                  obtain ⟨h3, h4⟩ := List.getElem?_eq_some_iff.1 hy
                  rw [List.drop_eq_getElem_cons h3, h4]
                rw [hdv] at hrt
                simp only [rtL] at hrt
                have hsp : 0 < sh.length := List.length_pos_iff.2 hsne
                obtain ⟨J, hJ⟩ : ∃ J, J = min k (sh.length - 1) := ⟨_, rfl⟩
                have hJl : J < sh.length := by omega
                have hdJ : dlt sh k = sh.getD J 0 := by unfold dlt; rw [hJ]
                obtain ⟨lt, hlt⟩ : ∃ lt, dlt sh k = lt := ⟨_, rfl⟩
                rw [hlt] at hrt hlk hdJ
                have hgt : ∀ h : J < (ByteArray.mk sh.toArray).size, (ByteArray.mk sh.toArray)[J] = lt := fun h => (ba_get sh J h).trans hdJ.symm
                have dJ : (J : Int) < sh.length := by omega
                have dk : (k : Int) < N := by omega
                have h60 := fun W (hW : wr.grownBy W none) => word_60 (hkw.kept hW) (Nat.le_trans (by have := HB0.out; omega) hW.size) (by omega) (by omega) hma lt hlk y (by omega) hy1
                have hJ1 : k < sh.length -> J = k := fun h => by omega
                have hJ2 : ¬ k < sh.length -> (J : Int) = (sh.length : Int) - 1 := fun h => by omega
                clear hdv hlt hdJ hlk hy hJ hvne hsne
                go_upto_if 114 with (fail)
                go_cut [11] from 114 to 118 (fun v11 wd => v11 = .int .i64 (J : Int) /\ wd = wr)
                case first =>
                  by_cases hks : k < sh.length
                  . obtain rfl := hJ1 hks
                    have e5 : decide (sh.length <= J) = false := decide_eq_false (by omega)
                    have e5b : decide ((sh.length : Int) <= (J : Int)) = false := decide_eq_false (by omega)
                    have e5c : J < sh.length := hks
                    go_wp2
                    all_goals go_meet
                    all_goals exact ⟨rfl, rfl⟩
                  . have e5 : decide (sh.length <= k) = true := decide_eq_true (by omega)
                    have e5b : decide ((sh.length : Int) <= (k : Int)) = true := decide_eq_true (by omega)
                    have e6 := hJ2 hks
                    have e7 : IntKind.i64.wrap ((sh.length : Int) - 1) = (J : Int) := by rw [IntKind.wrap_i64]; omega
                    go_wp2
                    all_goals go_meet
                    all_goals exact ⟨by first | rfl | (rw [e6]), rfl⟩
                case rest =>
                  obtain ⟨rfl, hwd⟩ := hcut
                  have hwd2 := hwd.symm
                  subst hwd2
                  clear hJ1 hJ2
                  have p0 : wr.cell? ⟨bc, 0, none⟩ = some (.int .i64 c'.verb) := hbx.cell 0
                  have p1 : wr.cell? ⟨bc, 1, none⟩ = some (.slice ka c'.keys.length kc) := hbx.cell 1
                  have p2 : wr.cell? ⟨bc, 2, none⟩ = some (.int .u64 c'.flags) := hbx.cell 2
                  have p3 : wr.cell? ⟨bc, 3, none⟩ = some (.int .i64 c'.exp) := hbx.cell 3
                  have p4 : wr.cell? ⟨bc, 4, none⟩ = some (.int .u64 c'.tok) := hbx.cell 4
                  have p5 : wr.cell? ⟨bc, 5, none⟩ = some (.int .u64 c'.del) := hbx.cell 5
                  have p6 : wr.cell? ⟨bc, 6, none⟩ = some (.slice none 0 0) := hbx.cell 6
                  have p7 : wr.cell? ⟨bc, 7, none⟩ = some (.bool c'.nr) := hbx.cell 7
                  have p8 : wr.cell? ⟨bc, 8, none⟩ = some (.bool false) := hbx.cell 8
                  have p9 : wr.cell? ⟨bc, 9, none⟩ = some (.slice ma c'.mt.length mc) := hbx.cell 9
                  have p10 : wr.cell? ⟨bc, 10, none⟩ = some (sv c'.what) := hbx.cell 10
                  have ho1 : ∀ q, (Value.slice ka c'.keys.length kc).ownBlock = some q -> B0 <= q /\ q < wr.heap.size := fun q e => own_lo hkw.k e
                  have ho2 : ∀ q, (Value.slice ma c'.mt.length mc).ownBlock = some q -> B0 <= q /\ q < wr.heap.size := fun q e => own_lo hkw.m e
                  cases hq : rt1 c' lt y with
                  | inl d =>
                    rw [hq] at hrt
                    obtain ⟨hb1, hb2, hb3⟩ := rt1_bound hq hy2
                    have hb4 := hb3 hma
                    have h61 : ∀ W, wr.grownBy W none -> Calls Tryz.prog 60 #[.agg (cmA c' (.slice ka c'.keys.length kc) (.slice ma c'.mt.length mc)), .int .u8 lt.toNat, sv y] W fun e w' => Kp (fun q => (Value.slice ka c'.keys.length kc).ownBlock = some q \/ (Value.slice ma c'.mt.length mc).ownBlock = some q) W w' /\ ∃ ka1 kc1 ma1 mc1, e = .returned (.tuple #[.agg #[.int .i64 d.verb, .slice ka1 d.keys.length kc1, .int .u64 d.flags, .int .i64 d.exp, .int .u64 d.tok, .int .u64 d.del, .slice none 0 0, .bool d.nr, .bool false, .slice ma1 d.mt.length mc1, sv d.what], .int .i64 (blk lt y), sv []]) /\ Kw w' B0 d (.slice ka1 d.keys.length kc1) (.slice ma1 d.mt.length mc1) := fun W hW => (h60 W hW).mono fun e w' he => by
                      obtain ⟨h1, h2⟩ := he
                      rw [hq] at h2
                      obtain ⟨kv1, mv1, he, hkw1⟩ := h2
                      obtain ⟨ka1, kc1, e1, _⟩ := row_shape hkw1.k
                      obtain ⟨ma1, mc1, e2, _⟩ := row_shape hkw1.m
                      subst e1 e2
                      exact ⟨h1, ka1, kc1, ma1, mc1, he, hkw1⟩
                    have HT : Hid (rtL sh (k + 1) d (if 0 <= blk lt y then blk lt y else n') (vs.drop (k + 1)) = R) := hrt
                    obtain ⟨BK, hBK⟩ : ∃ BK, blk lt y = BK := ⟨_, rfl⟩
                    rw [hBK] at HT h61
                    have HK : Hid (Kp (fun q => q = bc \/ B0 <= q) wcO wr) := hkp
                    have HBX : Hid (Box wr 41 bc (cmA c' (.slice ka c'.keys.length kc) (.slice ma c'.mt.length mc))) := hbx
                    have HM : Hid (d.keys.length <= c'.keys.length + 1 /\ d.mt.length <= c'.mt.length + 1 /\ ∀ f ∈ d.mt, f.arg.length <= 65536) := ⟨hb1, hb2, hb4⟩
                    clear h60 hrt hq hBK hkp hbx hkw hb1 hb2 hb3 hb4 hma HX HW HL HE hne0 hlok
                    have pA0 := fun o => gb_cellN (World.grownBy_alloc wr o none) p0
                    have pA1 := fun o => gb_cellN (World.grownBy_alloc wr o none) p1
                    have pA2 := fun o => gb_cellN (World.grownBy_alloc wr o none) p2
                    have pA3 := fun o => gb_cellN (World.grownBy_alloc wr o none) p3
                    have pA4 := fun o => gb_cellN (World.grownBy_alloc wr o none) p4
                    have pA5 := fun o => gb_cellN (World.grownBy_alloc wr o none) p5
                    have pA6 := fun o => gb_cellN (World.grownBy_alloc wr o none) p6
                    have pA7 := fun o => gb_cellN (World.grownBy_alloc wr o none) p7
                    have pA8 := fun o => gb_cellN (World.grownBy_alloc wr o none) p8
                    have pA9 := fun o => gb_cellN (World.grownBy_alloc wr o none) p9
                    have pA10 := fun o => gb_cellN (World.grownBy_alloc wr o none) p10
                    have zA1 := fun o => gb_cellN (World.grownBy_alloc wr o none) z1
                    have yA := fun o => gb_cellN (World.grownBy_alloc wr o none) hcy
                    go_upto_region 22 with (fail)
                    go_cut [12, 13, 14] from 119 to 132 (fun v12 v13 v14 wd => ∃ b12 ka1 kc1 ma1 mc1, v12 = .pointer (some ⟨b12, 0, none⟩) /\ v13 = .int .i64 BK /\ v14 = sv [] /\ wr.heap.size <= b12 /\ Box wd 41 b12 #[.int .i64 d.verb, .slice ka1 d.keys.length kc1, .int .u64 d.flags, .int .i64 d.exp, .int .u64 d.tok, .int .u64 d.del, .slice none 0 0, .bool d.nr, .bool false, .slice ma1 d.mt.length mc1, sv d.what] /\ Kw wd B0 d (.slice ka1 d.keys.length kc1) (.slice ma1 d.mt.length mc1) /\ Kp (fun q => (Value.slice ka c'.keys.length kc).ownBlock = some q \/ (Value.slice ma c'.mt.length mc).ownBlock = some q) wr wd)
                    case first =>
                      have hnF : ¬ (fun q => (Value.slice ka c'.keys.length kc).ownBlock = some q \/ (Value.slice ma c'.mt.length mc).ownBlock = some q) bc /\ ¬ (fun q => (Value.slice ka c'.keys.length kc).ownBlock = some q \/ (Value.slice ma c'.mt.length mc).ownBlock = some q) br /\ ¬ (fun q => (Value.slice ka c'.keys.length kc).ownBlock = some q \/ (Value.slice ma c'.mt.length mc).ownBlock = some q) gg := ⟨fun e => by rcases e with e | e; have := ho1 _ e; omega; have := ho2 _ e; omega, fun e => by rcases e with e | e; have := ho1 _ e; omega; have := ho2 _ e; omega, fun e => by rcases e with e | e; have := ho1 _ e; omega; have := ho2 _ e; omega⟩
                      have hnZ : ¬ (fun q => (Value.slice ka c'.keys.length kc).ownBlock = some q \/ (Value.slice ma c'.mt.length mc).ownBlock = some q) wr.heap.size := fun e => by rcases e with e | e; have := ho1 _ e; omega; have := ho2 _ e; omega
                      have hKd : Kp (fun q => (Value.slice ka c'.keys.length kc).ownBlock = some q \/ (Value.slice ma c'.mt.length mc).ownBlock = some q) wr wr.drew := Kp.of (gb_drew (gb_refl wr none))
                      have hbcr := HBX.out.lt
                      have hbrr := rbr.lt
                      have hggr := World.block_lt_of_cell? _ _ hcy
                      refine wp_region_noPanic ?_
                      refine wp_region_held_drew (S := fun W : World => Box W 41 bc #[.int .i64 c'.verb, .slice ka c'.keys.length kc, .int .u64 c'.flags, .int .i64 c'.exp, .int .u64 c'.tok, .int .u64 c'.del, .slice none 0 0, .bool c'.nr, .bool false, .slice ma c'.mt.length mc, sv c'.what] /\ Box W 111 br #[.int .i64 ((i : Int) + 1), sv sh, .int .i64 (ls : Nat), .bool ag, .bool rp, .bool bl] /\ W.cell? ⟨gg, oo + k, none⟩ = some (sv y)) (by kernel_rfl) ⟨HBX.out.kept (gb_drew (gb_refl wr none)) (by simp), rbr.kept (gb_drew (gb_refl wr none)) (by simp), gb_cellN (gb_drew (gb_refl wr none)) hcy⟩ (fun hS0 => ?_)
                      refine tkZ 0 (sqYm0 _) rfl (by intro W hSw; obtain ⟨s1, s2, s3⟩ := hSw; have x0 := s1.cell 0; simp at x0; have x1 := s1.cell 1; simp at x1; have x2 := s1.cell 2; simp at x2; have x3 := s1.cell 3; simp at x3; have x4 := s1.cell 4; simp at x4; have x5 := s1.cell 5; simp at x5; have x6 := s1.cell 6; simp at x6; have x7 := s1.cell 7; simp at x7; have x8 := s1.cell 8; simp at x8; have x9 := s1.cell 9; simp at x9; have x10 := s1.cell 10; simp at x10; go_simp; (try (with_reducible rfl))) ?_
                      try simp only [Act.put, pY]
                      refine tkZ 1 (sqYm1 _) rfl (by intro W hSw; obtain ⟨s1, s2, s3⟩ := hSw; go_simp; (try (with_reducible rfl))) ?_
                      try simp only [Act.put, pY]
                      refine tkZ 2 (sqYm2 _) rfl (by intro W hSw; obtain ⟨s1, s2, s3⟩ := hSw; have x1 := s2.cell 1; simp at x1; go_simp; (try (with_reducible rfl))) ?_
                      try simp only [Act.put, pY]
                      refine tkZ 3 (sqYm3 _) rfl (by intro W hSw; obtain ⟨s1, s2, s3⟩ := hSw; go_simp; (try (with_reducible rfl))) ?_
                      try simp only [Act.put, pY]
                      refine tkZ 4 (sqYm4 _) rfl (by intro W hSw; obtain ⟨s1, s2, s3⟩ := hSw; go_simp; (try (with_reducible rfl))) ?_
                      try simp only [Act.put, pY]
                      refine tkZ 5 (sqYm5 _) rfl (by intro W hSw; obtain ⟨s1, s2, s3⟩ := hSw; go_simp; (try (with_reducible rfl))) ?_
                      try simp only [Act.put, pY]
                      refine tkZ 6 (sqYm6 _) rfl (by intro W hSw; obtain ⟨s1, s2, s3⟩ := hSw; go_simp; (try (with_reducible rfl))) ?_
                      try simp only [Act.put, pY]
                      refine tkZ 7 (sqYm7 _) rfl (by intro W hSw; obtain ⟨s1, s2, s3⟩ := hSw; go_simp; (try (with_reducible rfl))) ?_
                      try simp only [Act.put, pY]
                      refine tkZ 8 (sqYm8 _) rfl (by intro W hSw; obtain ⟨s1, s2, s3⟩ := hSw; go_simp; (try (with_reducible rfl))) ?_
                      try simp only [Act.put, pY]
                      refine wpAnyH_ready (rs := [9, 14]) (by kernel_rfl) (by simp) ?_
                      refine AllReadyH.cons rfl (fun K hK => ?_) (AllReadyH.cons rfl (fun K hK => ?_) AllReadyH.nil)
                      . go_simp
                        (with_reducible refine (h61 _ (gb_drew (gb_refl _ _))).mono ?_)
                        rintro e X1 ⟨hK1, ka1, kc1, ma1, mc1, rfl, hkw1⟩
                        have s1 := hK1.box (hS0.1) hnF.1
                        have s2 := hK1.box (hS0.2.1) hnF.2.1
                        have s3 := kp_cell hK1 (hS0.2.2) hnF.2.2
                        refine hK.out _ _ ⟨s1, s2, s3⟩ (fun hS => ?_)
                        clear hK K hS
                        try simp only [Act.put, pY]
                        refine tkZ 10 (sqYm9 _) rfl (by intro W hSw; go_simp; (try (with_reducible rfl))) ?_
                        try simp only [Act.put, pY]
                        refine tkZ 11 (sqYm10 _) rfl (by intro W hSw; go_simp; (try (with_reducible rfl))) ?_
                        try simp only [Act.put, pY]
                        refine tkZ 12 (sqYm11 _) rfl (by intro W hSw; go_simp; (try (with_reducible rfl))) ?_
                        try simp only [Act.put, pY]
                        refine tkZ 13 (sqYm12 _) rfl (by intro W hSw; go_simp; (try (with_reducible rfl))) ?_
                        try simp only [Act.put, pY]
                        refine wpAnyH_ready (rs := [14]) (by kernel_rfl) (by simp) ?_
                        refine (AllReadyH.cons rfl (fun K hK => ?_) AllReadyH.nil)
                        go_simp
                        have gA := World.grownBy_alloc X1 (.cells Z41 41) none
                        refine hK.out _ _ ⟨s1.kept gA (by simp), s2.kept gA (by simp), gb_cellN gA s3⟩ (fun hS => ?_)
                        clear hK K hS
                        try simp only [Act.put, pY]
                        refine wpAnyH_ready (rs := [15]) (by kernel_rfl) (by simp) ?_
                        refine (AllReadyH.cons rfl (fun K hK => ?_) AllReadyH.nil)
                        refine stepT 41 11 size41 rfl (.tmp 12) (.tmp 130) rfl 41 X1.heap.size 0 _ (Box.new X1 41 Z41) (by simp) (by rfl) #[.int .i64 d.verb, .slice ka1 d.keys.length kc1, .int .u64 d.flags, .int .i64 d.exp, .int .u64 d.tok, .int .u64 d.del, .slice none 0 0, .bool d.nr, .bool false, .slice ma1 d.mt.length mc1, sv d.what] (by rfl) rfl (by simp [Value.oneCell']) ?_
                        intro X2 b2 g2
                        have hl1 := s1.lt
                        have hl2 := s2.lt
                        have hl3 := World.block_lt_of_cell? _ _ s3
                        refine hK.out _ _ ⟨(s1.kept gA (by simp)).kept g2 (fun e => by have := Option.some.inj e; omega), (s2.kept gA (by simp)).kept g2 (fun e => by have := Option.some.inj e; omega), gb_cell g2 (gb_cellN gA s3) (fun e => by have := Option.some.inj e; simp at this hl3; omega)⟩ (fun hS => ?_)
                        clear hK K
                        try simp only [Act.put, pY]
                        refine tkZ 16 (sqYm13 _) rfl (by intro W hSw; go_simp; (try (with_reducible rfl))) ?_
                        try simp only [Act.put, pY]
                        refine tkZ 17 (sqYm14 _) rfl (by intro W hSw; go_simp; (try (with_reducible rfl))) ?_
                        try simp only [Act.put, pY]
                        refine wpAnyH_done (by kernel_rfl) ?_ _
                        refine NoPanic.normal ?_
                        rw [show sets Z41 0 (#[.int .i64 d.verb, .slice ka1 d.keys.length kc1, .int .u64 d.flags, .int .i64 d.exp, .int .u64 d.tok, .int .u64 d.del, .slice none 0 0, .bool d.nr, .bool false, .slice ma1 d.mt.length mc1, sv d.what] : Array Value).toList = #[.int .i64 d.verb, .slice ka1 d.keys.length kc1, .int .u64 d.flags, .int .i64 d.exp, .int .u64 d.tok, .int .u64 d.del, .slice none 0 0, .bool d.nr, .bool false, .slice ma1 d.mt.length mc1, sv d.what] from sets_41 _ _ _ _ _ _ _ _ _ _ _ _ _ _ _ _ _ _ _ _ _ _] at b2
                        have hG2 : X1.grownBy X2 none := gb_mine gA g2 (Nat.le_refl _)
                        have hsX := hK1.size
                        go_wp2
                        go_meet
                        exact ⟨_, ka1, kc1, ma1, mc1, rfl, rfl, rfl, hsX, b2, hkw1.kept hG2, (hKd.trans hK1 (fun _ h => h) (fun _ h => .inl h)).step hG2 (by simp)⟩
                      . go_simp
                        have gA := gb_alloc (gb_drew (gb_refl wr none)) (.cells Z41 41)
                        have t1 := HBX.out.kept gA (by simp)
                        have t2 := rbr.kept gA (by simp)
                        have t3 := gb_cellN gA hcy
                        refine hK.out _ _ ⟨t1, t2, t3⟩ (fun hS => ?_)
                        clear hK K hS
                        try simp only [Act.put, pY]
                        refine wpAnyH_ready (rs := [9]) (by kernel_rfl) (by simp) ?_
                        refine (AllReadyH.cons rfl (fun K hK => ?_) AllReadyH.nil)
                        go_simp
                        (with_reducible refine (h61 _ (by first | exact gA | exact gb_drew (gb_alloc (gb_refl _ _) _))).mono ?_)
                        rintro e X1 ⟨hK1, ka1, kc1, ma1, mc1, rfl, hkw1⟩
                        have s1 := hK1.box t1 hnF.1
                        have s2 := hK1.box t2 hnF.2.1
                        have s3 := kp_cell hK1 t3 hnF.2.2
                        have bz : Box X1 41 wr.heap.size Z41 := hK1.box (show Box _ 41 wr.heap.size Z41 from Box.new wr 41 Z41) hnZ
                        refine hK.out _ _ ⟨s1, s2, s3⟩ (fun hS => ?_)
                        clear hK K hS
                        try simp only [Act.put, pY]
                        refine tkZ 10 (sqYm9 _) rfl (by intro W hSw; go_simp; (try (with_reducible rfl))) ?_
                        try simp only [Act.put, pY]
                        refine tkZ 11 (sqYm10 _) rfl (by intro W hSw; go_simp; (try (with_reducible rfl))) ?_
                        try simp only [Act.put, pY]
                        refine tkZ 12 (sqYm11 _) rfl (by intro W hSw; go_simp; (try (with_reducible rfl))) ?_
                        try simp only [Act.put, pY]
                        refine tkZ 13 (sqYm12 _) rfl (by intro W hSw; go_simp; (try (with_reducible rfl))) ?_
                        try simp only [Act.put, pY]
                        refine wpAnyH_ready (rs := [15]) (by kernel_rfl) (by simp) ?_
                        refine (AllReadyH.cons rfl (fun K hK => ?_) AllReadyH.nil)
                        refine stepT 41 11 size41 rfl (.tmp 12) (.tmp 130) rfl 41 wr.heap.size 0 _ bz (by simp) (by rfl) #[.int .i64 d.verb, .slice ka1 d.keys.length kc1, .int .u64 d.flags, .int .i64 d.exp, .int .u64 d.tok, .int .u64 d.del, .slice none 0 0, .bool d.nr, .bool false, .slice ma1 d.mt.length mc1, sv d.what] (by rfl) rfl (by simp [Value.oneCell']) ?_
                        intro X2 b2 g2
                        refine hK.out _ _ ⟨s1.kept g2 (fun e => by have := Option.some.inj e; omega), s2.kept g2 (fun e => by have := Option.some.inj e; omega), gb_cell g2 s3 (fun e => by have := Option.some.inj e; simp at this; omega)⟩ (fun hS => ?_)
                        clear hK K
                        try simp only [Act.put, pY]
                        refine tkZ 16 (sqYm13 _) rfl (by intro W hSw; go_simp; (try (with_reducible rfl))) ?_
                        try simp only [Act.put, pY]
                        refine tkZ 17 (sqYm14 _) rfl (by intro W hSw; go_simp; (try (with_reducible rfl))) ?_
                        try simp only [Act.put, pY]
                        refine wpAnyH_done (by kernel_rfl) ?_ _
                        refine NoPanic.normal ?_
                        rw [show sets Z41 0 (#[.int .i64 d.verb, .slice ka1 d.keys.length kc1, .int .u64 d.flags, .int .i64 d.exp, .int .u64 d.tok, .int .u64 d.del, .slice none 0 0, .bool d.nr, .bool false, .slice ma1 d.mt.length mc1, sv d.what] : Array Value).toList = #[.int .i64 d.verb, .slice ka1 d.keys.length kc1, .int .u64 d.flags, .int .i64 d.exp, .int .u64 d.tok, .int .u64 d.del, .slice none 0 0, .bool d.nr, .bool false, .slice ma1 d.mt.length mc1, sv d.what] from sets_41 _ _ _ _ _ _ _ _ _ _ _ _ _ _ _ _ _ _ _ _ _ _] at b2
                        have hown1 : ∀ j, (Value.slice ka1 d.keys.length kc1).ownBlock = some j -> j ≠ wr.heap.size := fun j hj e => by obtain ⟨c0, hc0⟩ := row_block hkw1.k j hj; exact ne_of_type hc0 bz (by decide) e
                        have hown2 : ∀ j, (Value.slice ma1 d.mt.length mc1).ownBlock = some j -> j ≠ wr.heap.size := fun j hj e => by obtain ⟨c0, hc0⟩ := row_block hkw1.m j hj; exact ne_of_type hc0 bz (by decide) e
                        have hKA : Kp (fun q => (Value.slice ka c'.keys.length kc).ownBlock = some q \/ (Value.slice ma c'.mt.length mc).ownBlock = some q) wr X1 := (Kp.of gA).trans hK1 (fun _ h => h) (fun _ h => .inl h)
                        go_wp2
                        go_meet
                        exact ⟨_, ka1, kc1, ma1, mc1, rfl, rfl, rfl, Nat.le_refl _, b2, ⟨row_kept hkw1.k g2 (fun j hj e => hown1 j hj (Option.some.inj e)), row_kept hkw1.m g2 (fun j hj e => hown2 j hj (Option.some.inj e))⟩, hKA.step g2 (fun j e => .inr (by have := Option.some.inj e; omega))⟩
                    case rest =>
                      obtain ⟨b12, ka1, kc1, ma1, mc1, rfl, rfl, rfl, hb12, hbd, hkw1, hK1⟩ := hcut
                      have hbx1 := hK1.box HBX.out (fun e => by rcases e with e | e; have := ho1 _ e; omega; have := ho2 _ e; omega)
                      have hbcr := HBX.out.lt
                      have hKk : Kp (fun q => q = bc \/ B0 <= q) wcO wc := HK.out.trans hK1 (fun _ h => h) (fun q e => .inl (.inr (by rcases e with e | e; exact (ho1 _ e).1; exact (ho2 _ e).1)))
                      have HKK : Hid (Kp (fun q => q = bc \/ B0 <= q) wcO wc) := hKk
                      have HKW : Hid (Kw wc B0 d (.slice ka1 d.keys.length kc1) (.slice ma1 d.mt.length mc1)) := hkw1
                      have hne : b12 ≠ bc := by omega
                      clear hKk hkw1 hK1 HK HBX h61 p0 p1 p2 p3 p4 p5 p6 p7 p8 p9 p10 pA0 pA1 pA2 pA3 pA4 pA5 pA6 pA7 pA8 pA9 pA10 zA1 yA z1 hcy hgt rbr
                      obtain ⟨hm1, hm2, hm3⟩ := HM.out
                      by_cases hBK0 : 0 <= BK
                      . have HT2 := HT.out
                        rw [if_pos hBK0] at HT2
                        have HT3 : Hid (rtL sh (k + 1) d BK (vs.drop (k + 1)) = R) := HT2
                        clear HT HT2
                        go_wp2_with (first
                          | (refine atL 41 b12 0 rfl rfl ?_; go_must (refine load41 rfl _ rfl 41 b12 0 _ hbd rfl [.int .i64 d.verb, .slice ka1 d.keys.length kc1, .int .u64 d.flags, .int .i64 d.exp, .int .u64 d.tok, .int .u64 d.del, .slice none 0 0, .bool d.nr, .bool false, .slice ma1 d.mt.length mc1, sv d.what] rfl (fun j v hv => by simpa using hv) ?_))
                          | (refine atS 41 bc 0 rfl rfl ?_; go_must (refine storeT 41 11 size41 rfl _ _ rfl 41 bc 0 _ hbx1 (by simp) rfl _ rfl rfl (by simp [Value.oneCell']) ?_); intro X9 b9 g9))
                        rw [show sets (cmA c' (.slice ka c'.keys.length kc) (.slice ma c'.mt.length mc)) 0 (#[.int .i64 d.verb, .slice ka1 d.keys.length kc1, .int .u64 d.flags, .int .i64 d.exp, .int .u64 d.tok, .int .u64 d.del, .slice none 0 0, .bool d.nr, .bool false, .slice ma1 d.mt.length mc1, sv d.what] : Array Value).toList = #[.int .i64 d.verb, .slice ka1 d.keys.length kc1, .int .u64 d.flags, .int .i64 d.exp, .int .u64 d.tok, .int .u64 d.del, .slice none 0 0, .bool d.nr, .bool false, .slice ma1 d.mt.length mc1, sv d.what] from sets_41 _ _ _ _ _ _ _ _ _ _ _ _ _ _ _ _ _ _ _ _ _ _] at b9
                        have hk9 := HKK.out.step g9 (fun q e => .inl (.inl (Option.some.inj e).symm))
                        have hw9 : Kw X9 B0 d (.slice ka1 d.keys.length kc1) (.slice ma1 d.mt.length mc1) := ⟨row_kept HKW.out.k g9 (fun q hq e => by have := (own_lo HKW.out.k hq).1; have := Option.some.inj e; omega), row_kept HKW.out.m g9 (fun q hq e => by have := (own_lo HKW.out.m hq).1; have := Option.some.inj e; omega)⟩
                        exact ⟨⟨k + 1, d, BK, _, _, by omega, by go_num, rfl, b9, hw9, hk9, HT3.out, by omega, by omega, hm3⟩, by simp [intOf]; omega⟩
                      . have HT2 := HT.out
                        rw [if_neg hBK0] at HT2
                        have HT3 : Hid (rtL sh (k + 1) d n' (vs.drop (k + 1)) = R) := HT2
                        clear HT HT2
                        go_wp2_with (first
                          | (refine atL 41 b12 0 rfl rfl ?_; go_must (refine load41 rfl _ rfl 41 b12 0 _ hbd rfl [.int .i64 d.verb, .slice ka1 d.keys.length kc1, .int .u64 d.flags, .int .i64 d.exp, .int .u64 d.tok, .int .u64 d.del, .slice none 0 0, .bool d.nr, .bool false, .slice ma1 d.mt.length mc1, sv d.what] rfl (fun j v hv => by simpa using hv) ?_))
                          | (refine atS 41 bc 0 rfl rfl ?_; go_must (refine storeT 41 11 size41 rfl _ _ rfl 41 bc 0 _ hbx1 (by simp) rfl _ rfl rfl (by simp [Value.oneCell']) ?_); intro X9 b9 g9))
                        rw [show sets (cmA c' (.slice ka c'.keys.length kc) (.slice ma c'.mt.length mc)) 0 (#[.int .i64 d.verb, .slice ka1 d.keys.length kc1, .int .u64 d.flags, .int .i64 d.exp, .int .u64 d.tok, .int .u64 d.del, .slice none 0 0, .bool d.nr, .bool false, .slice ma1 d.mt.length mc1, sv d.what] : Array Value).toList = #[.int .i64 d.verb, .slice ka1 d.keys.length kc1, .int .u64 d.flags, .int .i64 d.exp, .int .u64 d.tok, .int .u64 d.del, .slice none 0 0, .bool d.nr, .bool false, .slice ma1 d.mt.length mc1, sv d.what] from sets_41 _ _ _ _ _ _ _ _ _ _ _ _ _ _ _ _ _ _ _ _ _ _] at b9
                        have hk9 := HKK.out.step g9 (fun q e => .inl (.inl (Option.some.inj e).symm))
                        have hw9 : Kw X9 B0 d (.slice ka1 d.keys.length kc1) (.slice ma1 d.mt.length mc1) := ⟨row_kept HKW.out.k g9 (fun q hq e => by have := (own_lo HKW.out.k hq).1; have := Option.some.inj e; omega), row_kept HKW.out.m g9 (fun q hq e => by have := (own_lo HKW.out.m hq).1; have := Option.some.inj e; omega)⟩
                        exact ⟨⟨k + 1, d, n', _, _, by omega, by go_num, rfl, b9, hw9, hk9, HT3.out, by omega, by omega, hm3⟩, by simp [intOf]; omega⟩
                  | inr s =>
                    rw [hq] at hrt
                    have hsne := rt1_ne hq
                    have hsb : (s == []) = false := by simpa using hsne
                    have h61 : ∀ W, wr.grownBy W none -> Calls Tryz.prog 60 #[.agg (cmA c' (.slice ka c'.keys.length kc) (.slice ma c'.mt.length mc)), .int .u8 lt.toNat, sv y] W fun e w' => Kp (fun q => (Value.slice ka c'.keys.length kc).ownBlock = some q \/ (Value.slice ma c'.mt.length mc).ownBlock = some q) W w' /\ ∃ (u0 u1 u2 u3 u4 u5 u6 u7 u8 u9 u10 : Value) (nn : Int), e = .returned (.tuple #[.agg #[u0, u1, u2, u3, u4, u5, u6, u7, u8, u9, u10], .int .i64 nn, sv s]) /\ (#[u0, u1, u2, u3, u4, u5, u6, u7, u8, u9, u10] : Array Value).all (·.oneCell') = true := fun W hW => (h60 W hW).mono fun e w' he => by
                      obtain ⟨h1, h2⟩ := he
                      rw [hq] at h2
                      exact ⟨h1, h2⟩
                    have hd := HE.out
                    rw [<- hrt] at hd
                    have HE2 : Hid (dlineS l = .inr (2, s, P)) := hd
                    have rb := hkp.box HL.out.rs.b (fun e => by rcases e with e | e <;> omega)
                    have rk := hkp.box HL.out.rs.k (fun e => by rcases e with e | e <;> omega)
                    have G : w.grownBy wr none := ((Kp.of (F := fun q => q = bc \/ B0 <= q) HL.out.rs.g).trans hkp (fun _ h => h) (fun _ h => .inl h)).grown (fun q e => by rcases e with e | e <;> omega)
                    have HBX : Hid (Box wr 41 bc (cmA c' (.slice ka c'.keys.length kc) (.slice ma c'.mt.length mc))) := hbx
                    have HRB : Hid (Box wr 41 w.heap.size Z41 /\ Box wr 43 (w.heap.size + 1) Z43 /\ w.grownBy wr none) := ⟨rb, rk, G⟩
                    clear h60 hrt hq hkp hbx hkw hma HX HW HL HE hne0 hlok hd hsne rb rk G
                    go_upto_region 22 with (fail)
                    go_cut [12, 13, 14] from 119 to 132 (fun v12 v13 v14 wd => ∃ (b12 : Nat) (nn : Int), v12 = .pointer (some ⟨b12, 0, none⟩) /\ v13 = .int .i64 nn /\ v14 = sv s /\ Kp (fun q => (Value.slice ka c'.keys.length kc).ownBlock = some q \/ (Value.slice ma c'.mt.length mc).ownBlock = some q) wr wd)
                    case first =>
                      have hnF : ¬ (fun q => (Value.slice ka c'.keys.length kc).ownBlock = some q \/ (Value.slice ma c'.mt.length mc).ownBlock = some q) bc /\ ¬ (fun q => (Value.slice ka c'.keys.length kc).ownBlock = some q \/ (Value.slice ma c'.mt.length mc).ownBlock = some q) br /\ ¬ (fun q => (Value.slice ka c'.keys.length kc).ownBlock = some q \/ (Value.slice ma c'.mt.length mc).ownBlock = some q) gg := ⟨fun e => by rcases e with e | e; have := ho1 _ e; omega; have := ho2 _ e; omega, fun e => by rcases e with e | e; have := ho1 _ e; omega; have := ho2 _ e; omega, fun e => by rcases e with e | e; have := ho1 _ e; omega; have := ho2 _ e; omega⟩
                      have hnZ : ¬ (fun q => (Value.slice ka c'.keys.length kc).ownBlock = some q \/ (Value.slice ma c'.mt.length mc).ownBlock = some q) wr.heap.size := fun e => by rcases e with e | e; have := ho1 _ e; omega; have := ho2 _ e; omega
                      have hKd : Kp (fun q => (Value.slice ka c'.keys.length kc).ownBlock = some q \/ (Value.slice ma c'.mt.length mc).ownBlock = some q) wr wr.drew := Kp.of (gb_drew (gb_refl wr none))
                      have hbcr := HBX.out.lt
                      have hbrr := rbr.lt
                      have hggr := World.block_lt_of_cell? _ _ hcy
                      refine wp_region_noPanic ?_
                      refine wp_region_held_drew (S := fun W : World => Box W 41 bc #[.int .i64 c'.verb, .slice ka c'.keys.length kc, .int .u64 c'.flags, .int .i64 c'.exp, .int .u64 c'.tok, .int .u64 c'.del, .slice none 0 0, .bool c'.nr, .bool false, .slice ma c'.mt.length mc, sv c'.what] /\ Box W 111 br #[.int .i64 ((i : Int) + 1), sv sh, .int .i64 (ls : Nat), .bool ag, .bool rp, .bool bl] /\ W.cell? ⟨gg, oo + k, none⟩ = some (sv y)) (by kernel_rfl) ⟨HBX.out.kept (gb_drew (gb_refl wr none)) (by simp), rbr.kept (gb_drew (gb_refl wr none)) (by simp), gb_cellN (gb_drew (gb_refl wr none)) hcy⟩ (fun hS0 => ?_)
                      refine tkZ 0 (sqYm0 _) rfl (by intro W hSw; obtain ⟨s1, s2, s3⟩ := hSw; have x0 := s1.cell 0; simp at x0; have x1 := s1.cell 1; simp at x1; have x2 := s1.cell 2; simp at x2; have x3 := s1.cell 3; simp at x3; have x4 := s1.cell 4; simp at x4; have x5 := s1.cell 5; simp at x5; have x6 := s1.cell 6; simp at x6; have x7 := s1.cell 7; simp at x7; have x8 := s1.cell 8; simp at x8; have x9 := s1.cell 9; simp at x9; have x10 := s1.cell 10; simp at x10; go_simp; (try (with_reducible rfl))) ?_
                      try simp only [Act.put, pY]
                      refine tkZ 1 (sqYm1 _) rfl (by intro W hSw; obtain ⟨s1, s2, s3⟩ := hSw; go_simp; (try (with_reducible rfl))) ?_
                      try simp only [Act.put, pY]
                      refine tkZ 2 (sqYm2 _) rfl (by intro W hSw; obtain ⟨s1, s2, s3⟩ := hSw; have x1 := s2.cell 1; simp at x1; go_simp; (try (with_reducible rfl))) ?_
                      try simp only [Act.put, pY]
                      refine tkZ 3 (sqYm3 _) rfl (by intro W hSw; obtain ⟨s1, s2, s3⟩ := hSw; go_simp; (try (with_reducible rfl))) ?_
                      try simp only [Act.put, pY]
                      refine tkZ 4 (sqYm4 _) rfl (by intro W hSw; obtain ⟨s1, s2, s3⟩ := hSw; go_simp; (try (with_reducible rfl))) ?_
                      try simp only [Act.put, pY]
                      refine tkZ 5 (sqYm5 _) rfl (by intro W hSw; obtain ⟨s1, s2, s3⟩ := hSw; go_simp; (try (with_reducible rfl))) ?_
                      try simp only [Act.put, pY]
                      refine tkZ 6 (sqYm6 _) rfl (by intro W hSw; obtain ⟨s1, s2, s3⟩ := hSw; go_simp; (try (with_reducible rfl))) ?_
                      try simp only [Act.put, pY]
                      refine tkZ 7 (sqYm7 _) rfl (by intro W hSw; obtain ⟨s1, s2, s3⟩ := hSw; go_simp; (try (with_reducible rfl))) ?_
                      try simp only [Act.put, pY]
                      refine tkZ 8 (sqYm8 _) rfl (by intro W hSw; obtain ⟨s1, s2, s3⟩ := hSw; go_simp; (try (with_reducible rfl))) ?_
                      try simp only [Act.put, pY]
                      refine wpAnyH_ready (rs := [9, 14]) (by kernel_rfl) (by simp) ?_
                      refine AllReadyH.cons rfl (fun K hK => ?_) (AllReadyH.cons rfl (fun K hK => ?_) AllReadyH.nil)
                      . go_simp
                        (with_reducible refine (h61 _ (gb_drew (gb_refl _ _))).mono ?_)
                        rintro e X1 ⟨hK1, u0, u1, u2, u3, u4, u5, u6, u7, u8, u9, u10, nn, rfl, hone⟩
                        have s1 := hK1.box (hS0.1) hnF.1
                        have s2 := hK1.box (hS0.2.1) hnF.2.1
                        have s3 := kp_cell hK1 (hS0.2.2) hnF.2.2
                        refine hK.out _ _ ⟨s1, s2, s3⟩ (fun hS => ?_)
                        clear hK K hS
                        try simp only [Act.put, pY]
                        refine tkZ 10 (sqYm9 _) rfl (by intro W hSw; go_simp; (try (with_reducible rfl))) ?_
                        try simp only [Act.put, pY]
                        refine tkZ 11 (sqYm10 _) rfl (by intro W hSw; go_simp; (try (with_reducible rfl))) ?_
                        try simp only [Act.put, pY]
                        refine tkZ 12 (sqYm11 _) rfl (by intro W hSw; go_simp; (try (with_reducible rfl))) ?_
                        try simp only [Act.put, pY]
                        refine tkZ 13 (sqYm12 _) rfl (by intro W hSw; go_simp; (try (with_reducible rfl))) ?_
                        try simp only [Act.put, pY]
                        refine wpAnyH_ready (rs := [14]) (by kernel_rfl) (by simp) ?_
                        refine (AllReadyH.cons rfl (fun K hK => ?_) AllReadyH.nil)
                        go_simp
                        have gA := World.grownBy_alloc X1 (.cells Z41 41) none
                        refine hK.out _ _ ⟨s1.kept gA (by simp), s2.kept gA (by simp), gb_cellN gA s3⟩ (fun hS => ?_)
                        clear hK K hS
                        try simp only [Act.put, pY]
                        refine wpAnyH_ready (rs := [15]) (by kernel_rfl) (by simp) ?_
                        refine (AllReadyH.cons rfl (fun K hK => ?_) AllReadyH.nil)
                        refine stepT 41 11 size41 rfl (.tmp 12) (.tmp 130) rfl 41 X1.heap.size 0 _ (Box.new X1 41 Z41) (by simp) (by rfl) #[u0, u1, u2, u3, u4, u5, u6, u7, u8, u9, u10] (by rfl) rfl hone ?_
                        intro X2 b2 g2
                        have hl1 := s1.lt
                        have hl2 := s2.lt
                        have hl3 := World.block_lt_of_cell? _ _ s3
                        refine hK.out _ _ ⟨(s1.kept gA (by simp)).kept g2 (fun e => by have := Option.some.inj e; omega), (s2.kept gA (by simp)).kept g2 (fun e => by have := Option.some.inj e; omega), gb_cell g2 (gb_cellN gA s3) (fun e => by have := Option.some.inj e; simp at this hl3; omega)⟩ (fun hS => ?_)
                        clear hK K
                        try simp only [Act.put, pY]
                        refine tkZ 16 (sqYm13 _) rfl (by intro W hSw; go_simp; (try (with_reducible rfl))) ?_
                        try simp only [Act.put, pY]
                        refine tkZ 17 (sqYm14 _) rfl (by intro W hSw; go_simp; (try (with_reducible rfl))) ?_
                        try simp only [Act.put, pY]
                        refine wpAnyH_done (by kernel_rfl) ?_ _
                        refine NoPanic.normal ?_
                        have hG2 : X1.grownBy X2 none := gb_mine gA g2 (Nat.le_refl _)
                        go_wp2
                        go_meet
                        exact ⟨_, _, rfl, rfl, rfl, (hKd.trans hK1 (fun _ h => h) (fun _ h => .inl h)).step hG2 (by simp)⟩
                      . go_simp
                        have gA := gb_alloc (gb_drew (gb_refl wr none)) (.cells Z41 41)
                        have t1 := HBX.out.kept gA (by simp)
                        have t2 := rbr.kept gA (by simp)
                        have t3 := gb_cellN gA hcy
                        refine hK.out _ _ ⟨t1, t2, t3⟩ (fun hS => ?_)
                        clear hK K hS
                        try simp only [Act.put, pY]
                        refine wpAnyH_ready (rs := [9]) (by kernel_rfl) (by simp) ?_
                        refine (AllReadyH.cons rfl (fun K hK => ?_) AllReadyH.nil)
                        go_simp
                        (with_reducible refine (h61 _ (by first | exact gA | exact gb_drew (gb_alloc (gb_refl _ _) _))).mono ?_)
                        rintro e X1 ⟨hK1, u0, u1, u2, u3, u4, u5, u6, u7, u8, u9, u10, nn, rfl, hone⟩
                        have s1 := hK1.box t1 hnF.1
                        have s2 := hK1.box t2 hnF.2.1
                        have s3 := kp_cell hK1 t3 hnF.2.2
                        have bz : Box X1 41 wr.heap.size Z41 := hK1.box (show Box _ 41 wr.heap.size Z41 from Box.new wr 41 Z41) hnZ
                        refine hK.out _ _ ⟨s1, s2, s3⟩ (fun hS => ?_)
                        clear hK K hS
                        try simp only [Act.put, pY]
                        refine tkZ 10 (sqYm9 _) rfl (by intro W hSw; go_simp; (try (with_reducible rfl))) ?_
                        try simp only [Act.put, pY]
                        refine tkZ 11 (sqYm10 _) rfl (by intro W hSw; go_simp; (try (with_reducible rfl))) ?_
                        try simp only [Act.put, pY]
                        refine tkZ 12 (sqYm11 _) rfl (by intro W hSw; go_simp; (try (with_reducible rfl))) ?_
                        try simp only [Act.put, pY]
                        refine tkZ 13 (sqYm12 _) rfl (by intro W hSw; go_simp; (try (with_reducible rfl))) ?_
                        try simp only [Act.put, pY]
                        refine wpAnyH_ready (rs := [15]) (by kernel_rfl) (by simp) ?_
                        refine (AllReadyH.cons rfl (fun K hK => ?_) AllReadyH.nil)
                        refine stepT 41 11 size41 rfl (.tmp 12) (.tmp 130) rfl 41 wr.heap.size 0 _ bz (by simp) (by rfl) #[u0, u1, u2, u3, u4, u5, u6, u7, u8, u9, u10] (by rfl) rfl hone ?_
                        intro X2 b2 g2
                        refine hK.out _ _ ⟨s1.kept g2 (fun e => by have := Option.some.inj e; omega), s2.kept g2 (fun e => by have := Option.some.inj e; omega), gb_cell g2 s3 (fun e => by have := Option.some.inj e; simp at this; omega)⟩ (fun hS => ?_)
                        clear hK K
                        try simp only [Act.put, pY]
                        refine tkZ 16 (sqYm13 _) rfl (by intro W hSw; go_simp; (try (with_reducible rfl))) ?_
                        try simp only [Act.put, pY]
                        refine tkZ 17 (sqYm14 _) rfl (by intro W hSw; go_simp; (try (with_reducible rfl))) ?_
                        try simp only [Act.put, pY]
                        refine wpAnyH_done (by kernel_rfl) ?_ _
                        refine NoPanic.normal ?_
                        have hKA : Kp (fun q => (Value.slice ka c'.keys.length kc).ownBlock = some q \/ (Value.slice ma c'.mt.length mc).ownBlock = some q) wr X1 := (Kp.of gA).trans hK1 (fun _ h => h) (fun _ h => .inl h)
                        go_wp2
                        go_meet
                        exact ⟨_, _, rfl, rfl, rfl, hKA.step g2 (fun j e => .inr (by have := Option.some.inj e; omega))⟩
                    case rest =>
                      obtain ⟨b12, nn, rfl, rfl, rfl, hK1⟩ := hcut
                      have hszw : B0 <= wr.heap.size := by have := HB0.out; omega
                      have rb := hK1.box HRB.out.1 (fun e => by rcases e with e | e; have := ho1 _ e; omega; have := ho2 _ e; omega)
                      have rk := hK1.box HRB.out.2.1 (fun e => by rcases e with e | e; have := ho1 _ e; omega; have := ho2 _ e; omega)
                      have G : w.grownBy wc none := ((Kp.of (F := (fun q => (Value.slice ka c'.keys.length kc).ownBlock = some q \/ (Value.slice ma c'.mt.length mc).ownBlock = some q)) HRB.out.2.2).trans hK1 (fun _ h => h) (fun _ h => .inl h)).grown (fun q e => by rcases e with e | e; have := ho1 _ e; omega; have := ho2 _ e; omega)
                      have h55 := wrong_55 s P wc
                      have hs := hK1.size
                      clear hK1 HBX h61 p0 p1 p2 p3 p4 p5 p6 p7 p8 p9 p10 z1 hcy hgt rbr
                      go_wp2_with (first
                        | (go_at_call 55; go_must ((with_reducible refine h55.mono ?_); rintro e X5 ⟨rfl, hg5⟩; (have rb5 := rb.kept hg5 (by simp)); (have rk5 := rk.kept hg5 (by simp)); (have G5 := gb_trans G hg5)))
                        | (refine atS 41 w.heap.size 0 rfl rfl ?_; go_must (refine storeT 41 11 size41 rfl _ _ rfl 41 w.heap.size 0 _ rb5 (by simp) rfl _ rfl rfl (by simp [Value.oneCell']) ?_); intro X6 b6 g6; (have k6 := Box.kept rk5 g6 (by simp)))
                        | (refine atS 43 (w.heap.size + 1) 0 rfl rfl ?_; go_must (refine storeT 43 3 size43 rfl _ _ rfl 43 (w.heap.size + 1) 0 _ k6 (by simp) rfl _ rfl rfl (by simp [Value.oneCell']) ?_); intro X7 k7 g7; (have b7 := Box.kept b6 g7 (by simp))))
                      rw [show sets Z41 0 (Z41 : Array Value).toList = Z41 from sets_41 _ _ _ _ _ _ _ _ _ _ _ _ _ _ _ _ _ _ _ _ _ _] at b7
                      rw [show sets Z43 0 (#[.int .i64 2, sv s, .int .i64 P] : Array Value).toList = #[.int .i64 2, sv s, .int .i64 P] from sets_43 _ _ _ _ _ _] at k7
                      have G7 : w.grownBy X7 none := gb_mine (gb_mine G5 g6 (Nat.le_refl _)) g7 (by omega)
                      exact ⟨rfl, _, res13 b7 k7 _ rfl rfl rfl, .inr ⟨2, s, P, HE2.out, rfl⟩, G7⟩
              . have hrt' : R = .inl (c', n') := by rw [<- hrt, List.drop_of_length_le (by omega)]; rfl
                have hd := HE.out
                rw [hrt'] at hd
                have HE2 : Hid (dlineS l = .inl (c', n')) := hd
                have rb := hkp.box HL.out.rs.b (fun e => by rcases e with e | e <;> omega)
                have rk := hkp.box HL.out.rs.k (fun e => by rcases e with e | e <;> omega)
                have G : w.grownBy wr none := ((Kp.of (F := fun q => q = bc \/ B0 <= q) HL.out.rs.g).trans hkp (fun _ h => h) (fun _ h => .inl h)).grown (fun q e => by rcases e with e | e <;> omega)
                have hs : w.heap.size + 2 <= wr.heap.size := by have := HB0.out; omega
                have dk : ¬ ((k : Int) < N) := by omega
                clear hd hrt HE HX HW HL hrt'
                go_wp2_with (first
                  | (refine atL 41 bc 0 rfl rfl ?_; go_must (refine load41 rfl _ rfl 41 bc 0 _ hbx rfl [.int .i64 c'.verb, .slice ka c'.keys.length kc, .int .u64 c'.flags, .int .i64 c'.exp, .int .u64 c'.tok, .int .u64 c'.del, .slice none 0 0, .bool c'.nr, .bool false, .slice ma c'.mt.length mc, sv c'.what] rfl (fun j v hv => by simpa using hv) ?_))
                  | (refine atS 41 w.heap.size 0 rfl rfl ?_; go_must (refine storeT 41 11 size41 rfl _ _ rfl 41 w.heap.size 0 _ rb (by simp) rfl _ rfl rfl (by simp [Value.oneCell']) ?_); intro X6 b6 g6; (have k6 := Box.kept rk g6 (by simp)))
                  | (refine atS 43 (w.heap.size + 1) 0 rfl rfl ?_; go_must (refine storeT 43 3 size43 rfl _ _ rfl 43 (w.heap.size + 1) 0 _ k6 (by simp) rfl _ rfl rfl (by simp [Value.oneCell']) ?_); intro X7 k7 g7; (have b7 := Box.kept b6 g7 (by simp))))
                rw [show sets Z41 0 (#[.int .i64 c'.verb, .slice ka c'.keys.length kc, .int .u64 c'.flags, .int .i64 c'.exp, .int .u64 c'.tok, .int .u64 c'.del, .slice none 0 0, .bool c'.nr, .bool false, .slice ma c'.mt.length mc, sv c'.what] : Array Value).toList = #[.int .i64 c'.verb, .slice ka c'.keys.length kc, .int .u64 c'.flags, .int .i64 c'.exp, .int .u64 c'.tok, .int .u64 c'.del, .slice none 0 0, .bool c'.nr, .bool false, .slice ma c'.mt.length mc, sv c'.what] from sets_41 _ _ _ _ _ _ _ _ _ _ _ _ _ _ _ _ _ _ _ _ _ _] at b7
                rw [show sets Z43 0 (#[.int .i64 0, sv [], .int .i64 0] : Array Value).toList = #[.int .i64 0, sv [], .int .i64 0] from sets_43 _ _ _ _ _ _] at k7
                have G7 : w.grownBy X7 none := gb_mine (gb_mine G g6 (Nat.le_refl _)) g7 (by omega)
                have hkw7 : Kw X7 w.heap.size c' (.slice ka c'.keys.length kc) (.slice ma c'.mt.length mc) := by
                  have o1 : ∀ j, (Value.slice ka c'.keys.length kc).ownBlock = some j -> B0 <= j := fun j hj => (own_lo hkw.k hj).1
                  have o2 : ∀ j, (Value.slice ma c'.mt.length mc).ownBlock = some j -> B0 <= j := fun j hj => (own_lo hkw.m hj).1
                  exact ⟨row_base (row_kept (row_kept hkw.k g6 (fun j hj e => by have := o1 j hj; have := Option.some.inj e; omega)) g7 (fun j hj e => by have := o1 j hj; have := Option.some.inj e; omega)) (by omega), row_base (row_kept (row_kept hkw.m g6 (fun j hj e => by have := o2 j hj; have := Option.some.inj e; omega)) g7 (fun j hj e => by have := o2 j hj; have := Option.some.inj e; omega)) (by omega)⟩
                exact ⟨rfl, _, res13 b7 k7 _ rfl rfl rfl, .inl ⟨c', n', _, _, HE2.out, rfl, hkw7⟩, G7⟩
end Go.Proofs.YtobegepebochkaaGreatDoor
