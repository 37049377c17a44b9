import Derived.Test.YtobegepebochkaaGreatDoorSTe
import Derived.Test.YtobegepebochkaaGreatDoorSPar
set_option linter.unusedVariables false
set_option linter.unusedSimpArgs false
namespace Go.Proofs.YtobegepebochkaaGreatDoor
open Go.RowKit Go.Maps
abbrev XF (fb : Nat) (kv : Value) : Nat → Prop := fun k => k = fb ∨ kv.ownBlock = some k
structure IsFx (w : World) (fb : Nat) (F : Fd) (kv : Value) (hd lf : Int) (ck cd cm : Value) : Prop where
  box : Box w 136 fb (fdA fb F kv hd lf ck cd cm)
  str : StR w (XF fb kv) F.s ck cd cm
  kept : w.ownsRow 0 5 1 kv F.kept.length (F.kept.map b8)
def IsF (w : World) (fb : Nat) (F : Fd) (kv : Value) : Prop :=
  ∃ hd lf ck cd cm, IsFx w fb F kv hd lf ck cd cm ∧ (F.st = 1 ∨ F.st = 2 ∨ F.st = 3 → hd = (F.head : Int)) ∧ (F.st = 1 ∨ F.st = 4 → lf = (F.left : Int))
theorem gb_kp {w w' : World} {fb : Nat} {kv : Value} (h : w.grownBy w' (some fb)) : Kp (XF fb kv) w w' :=
  (Kp.refl _ w).step h (fun i hi => by injection hi with hi; exact .inl (.inl hi.symm))
theorem isfx_kp {w w' : World} {fb : Nat} {F G : Fd} {kv kv' : Value} {hd lf hd' lf' : Int} {ck cd cm : Value} (h : IsFx w fb F kv hd lf ck cd cm) (hk : Kp (XF fb kv) w w') (hb : Box w' 136 fb (fdA fb G kv' hd' lf' ck cd cm)) (hs : G.s = F.s) (hr : w'.ownsRow 0 5 1 kv' G.kept.length (G.kept.map b8)) (hn : ∀ k, kv'.ownBlock = some k → kv.ownBlock = some k ∨ w.heap.size ≤ k) : IsFx w' fb G kv' hd' lf' ck cd cm :=
  ⟨hb, by
    rw [hs]
    refine h.str.kp hk (fun k _ hx => hx) (fun k hlt hx => ?_)
    rcases hx with rfl | hx
    · exact .inl rfl
    · rcases hn k hx with h1 | h1
      · exact .inr h1
      · omega, hr⟩
def Pn (w : World) (fb k : Nat) : Prop := (∃ v, w.cell? ⟨fb, 8, none⟩ = some v ∧ v.ownBlock = some k) ∨ ∃ v, w.cell? ⟨fb, 16, none⟩ = some v ∧ v.ownBlock = some k
def Kn (w w' : World) (fb : Nat) : Prop := ∀ k, Pn w' fb k → Pn w fb k ∨ w.heap.size ≤ k
theorem Kn.refl (w : World) (fb : Nat) : Kn w w fb := fun k h => .inl h
theorem Kn.trans {w w1 w2 : World} {fb : Nat} (h1 : Kn w w1 fb) (h2 : Kn w1 w2 fb) (hs : w.heap.size ≤ w1.heap.size) : Kn w w2 fb := fun k h => (h2 k h).elim (h1 k) (fun e => .inr (Nat.le_trans hs e))
theorem pn_box {w : World} {fb k : Nat} {F : Fd} {kv ck cd cm : Value} {hd lf : Int} (h : Box w 136 fb (fdA fb F kv hd lf ck cd cm)) : Pn w fb k ↔ ck.ownBlock = some k ∨ cm.ownBlock = some k := by
  have c8 : w.cell? ⟨fb, 8, none⟩ = some ck := h.cell 8
  have c16 : w.cell? ⟨fb, 16, none⟩ = some cm := h.cell 16
  unfold Pn
  rw [c8, c16]
  simp
theorem Kn.same {w w' : World} {fb : Nat} {F F' : Fd} {kv kv' ck cd cd' cm : Value} {hd lf hd' lf' : Int} (h : Box w 136 fb (fdA fb F kv hd lf ck cd cm)) (h' : Box w' 136 fb (fdA fb F' kv' hd' lf' ck cd' cm)) : Kn w w' fb := fun k hk => .inl ((pn_box h).2 ((pn_box h').1 hk))
theorem Kn.nil {w w' : World} {fb : Nat} {F' : Fd} {kv' cd' : Value} {hd' lf' : Int} (h' : Box w' 136 fb (fdA fb F' kv' hd' lf' (.slice none 0 0) cd' (.slice none 0 0))) : Kn w w' fb := fun k hk => by
  have := (pn_box h').1 hk
  simp [Value.ownBlock] at this
def StP (F : Fd) (l : Bs) (w : World) (fb : Nat) (kv : Value) (e : Ending) (w' : World) : Prop :=
  ∃ u wh F' kv', e = .returned (.tuple #[.int .i64 ((u : Nat) : Int), .bool wh]) ∧ u ≤ l.length ∧ IsF w' fb F' kv' ∧ Kp (XF fb kv) w w' ∧ (∀ k, kv'.ownBlock = some k → kv.ownBlock = some k ∨ w.heap.size ≤ k) ∧ (u = 0 → F'.st = 4 ∧ F.st ≠ 4) ∧ F'.taken = F.taken ∧ F'.limit = F.limit ∧ (wh = false → (F'.tk u).Ok) ∧ (wh = true → ∀ v, w'.cell? ⟨fb, 13, none⟩ = some v → ∀ k, v.ownBlock = some k → w.heap.size ≤ k) ∧ Kn w w' fb ∧
    F.run l = (((if wh then (F'.tk u).tell else (F'.tk u, [])).1.run (l.drop u)).1, (if wh then (F'.tk u).tell else (F'.tk u, [])).2 ++ ((if wh then (F'.tk u).tell else (F'.tk u, [])).1.run (l.drop u)).2)
theorem nd_cell {w' : World} {n fb : Nat} {F : Fd} {kv : Value} (h : IsF w' fb F kv) (hd : F.s.data = []) : ∀ v, w'.cell? ⟨fb, 13, none⟩ = some v → ∀ k, v.ownBlock = some k → n ≤ k := by
  intro v hv k hk
  obtain ⟨_, _, _, cd, _, hx, -, -⟩ := h
  have e : w'.cell? ⟨fb, 13, none⟩ = some cd := hx.box.cell 13
  rw [hv] at e
  injection e with e
  rw [e, hx.str.nd hd] at hk
  simp [Value.ownBlock] at hk
theorem run_cut {F G : Fd} {s : List Stp} {l : Bs} {u : Nat} (h : F.run (l.take u) = (G, s)) : F.run l = ((G.run (l.drop u)).1, s ++ (G.run (l.drop u)).2) := by
  have := Fd.run_app (l.take u) F (l.drop u)
  rw [List.take_append_drop] at this
  rw [this, h]
theorem run_cut_no {F G : Fd} {l : Bs} {u : Nat} (h : F.run (l.take u) = (G, [])) : F.run l = ((G.run (l.drop u)).1, (G.run (l.drop u)).2) := by
  have := run_cut h
  simpa using this
set_option maxRecDepth 100000 in
set_option maxHeartbeats 4000000 in
theorem trim_119 {w : World} {g o c sg sc : Nat} {l : Bs} (hl : l.length ≤ 1099511627776) (hcp : l.length ≤ c) (hg : g < w.heap.size) (hc : ∀ i x, l[i]? = some x → w.cell? ⟨g, o + i, none⟩ = some (b8 x)) (hs : w.cell? ⟨sg, 0, none⟩ = some (.int .u8 13)) :
    Calls Tryz.prog 119 #[.slice (some ⟨g, o, none⟩) l.length c, .slice (some ⟨sg, 0, none⟩) 1 sc] w fun e w' => e = .returned (.slice (some ⟨g, o, none⟩) (trim l).length c) ∧ w' = w := by
  have h148 := suf_148 (sc := sc) hl hcp hg hc hs
  by_cases he : l.getLast? = some 13
  · have e1 : decide (l.getLast? = some 13) = true := decide_eq_true he
    have e2 : (trim l).length = l.length - 1 := by simp [trim, he]
    have h0 : 0 < l.length := by
      cases l with
      | nil => simp at he
      | cons b t => simp
    obtain ⟨k, hk⟩ : ∃ k, l.length = k + 1 := ⟨l.length - 1, by omega⟩
    rw [e1] at h148
    rw [e2]
    rw [hk] at h148 ⊢
    have d1 : wrap64 (((k + 1 : Nat) : Int) - 1) = (k : Int) := by unfold wrap64; omega
    have d2 : ((k : Int) ≤ (c : Int)) := by omega
    clear hc hs e1 e2 he
    go_enter Tryz.func119, Tryz.ntmps119
    go_wp2_with (go_at_call 148; go_must ((with_reducible refine h148.mono ?_); rintro e w4 ⟨rfl, rfl⟩))
    go_ret
    exact ⟨rfl, rfl⟩
  · have e1 : decide (l.getLast? = some 13) = false := decide_eq_false he
    have e2 : trim l = l := by simp [trim, he]
    rw [e1] at h148
    rw [e2]
    clear hc hs e1 e2 he
    go_enter Tryz.func119, Tryz.ntmps119
    go_wp2_with (go_at_call 148; go_must ((with_reducible refine h148.mono ?_); rintro e w4 ⟨rfl, rfl⟩))
    go_ret
    exact ⟨rfl, rfl⟩
set_option maxRecDepth 100000 in
set_option maxHeartbeats 4000000 in
theorem long_137 {w : World} {g o c : Nat} {l : Bs} (hl : l.length ≤ 1099511627776) (hcp : l.length ≤ c) (hg : g < w.heap.size) (hc : ∀ i x, l[i]? = some x → w.cell? ⟨g, o + i, none⟩ = some (b8 x)) :
    Calls Tryz.prog 137 #[.slice (some ⟨g, o, none⟩) l.length c] w fun e w' => e = .returned (.bool (decide (2048 < (trim l).length))) ∧ w.grownBy w' none := by
  have hgA := gb_alloc (gb_refl w none) (.cells #[.int .u8 13] 5)
  have hs : (w.alloc (.cells #[.int .u8 13] 5)).cell? ⟨w.heap.size, 0, none⟩ = some (.int .u8 13) := (Box.new w 5 #[.int .u8 13]).cell 0
  have h119 := trim_119 (w := w.alloc (.cells #[.int .u8 13] 5)) (sc := 1) hl hcp (by simp; omega) (fun i x hx => gb_cellN hgA (hc i x hx)) hs
  clear hc hs
  go_enter Tryz.func137, Tryz.ntmps137
  go_wp2_with (go_at_call 119; go_must ((with_reducible refine h119.mono ?_); rintro e w4 ⟨rfl, rfl⟩))
  go_ret
  refine ⟨?_, hgA⟩
  show Ending.returned (.bool (decide (_ < ((trim l).length : Int)))) = _
  congr 2
  apply decide_eq_decide.2
  omega
end Go.Proofs.YtobegepebochkaaGreatDoor
namespace Go.Proofs.YtobegepebochkaaGreatDoor
open Go.RowKit Go.Maps
theorem IsF.lf {w : World} {fb : Nat} {F : Fd} {kv : Value} (h : IsF w fb F kv) (n : Nat) {w' : World} (hb : ∀ hd lf ck cd cm, Box w 136 fb (fdA fb F kv hd lf ck cd cm) → Box w' 136 fb (fdA fb { F with left := n } kv hd n ck cd cm)) (hg : w.grownBy w' (some fb)) : IsF w' fb { F with left := n } kv := by
  obtain ⟨hd, lf, ck, cd, cm, hx, h1, h2⟩ := h
  refine ⟨hd, n, ck, cd, cm, isfx_kp hx (gb_kp hg) (hb _ _ _ _ _ hx.box) rfl (row_kp hx.kept (gb_kp hg (kv := .slice none 0 0)) (fun k hk he => ?_)) (fun k hk => .inl hk), h1, fun _ => rfl⟩
  rcases he with rfl | he
  · exact row_box hx.kept hx.box (by omega) k hk rfl
  · simp [Value.ownBlock] at he
set_option maxRecDepth 100000 in
set_option maxHeartbeats 4000000 in
theorem over_st {w : World} {fb : Nat} {F : Fd} {kv : Value} (h : IsF w fb F kv) (hok : F.Ok) {v : Value} {l : Bs} (hv : Ck w (XF fb kv) v l) (hl : 0 < l.length) (hl2 : l.length ≤ 1099511627776) (ht : F.taken ≤ 2199023255552) (hst : F.st = 5) :
    Calls Tryz.prog 140 #[.pointer (some ⟨fb, 0, none⟩), v] w fun e w' => StP F l w fb kv e w' := by
  obtain ⟨g, o, c, rfl, -, -, -, -⟩ := hv.by hl
  refine (over_140 w fb _ _ _ _ rfl).mono ?_
  rintro e w' ⟨rfl, rfl⟩
  refine ⟨l.length, false, F, kv, rfl, Nat.le_refl _, h, Kp.refl _ _, fun k hk => .inl hk, fun e => by omega, rfl, rfl, fun _ => ok_tk hok _, (fun e => by cases e), Kn.refl _ _, ?_⟩
  refine run_cut_no ?_
  rw [List.take_length]
  exact run_over hst l
set_option maxRecDepth 100000 in
set_option maxHeartbeats 4000000 in
theorem skip_left {w : World} {fb : Nat} {F : Fd} {kv : Value} (h : IsF w fb F kv) (hok : F.Ok) {v : Value} {l : Bs} (hv : Ck w (XF fb kv) v l) (hl : 0 < l.length) (hl2 : l.length ≤ 1099511627776) (ht : F.taken ≤ 2199023255552) (hst : F.st = 4) (hlf : 0 < F.left) :
    Calls Tryz.prog 158 #[.pointer (some ⟨fb, 0, none⟩), v] w fun e w' => StP F l w fb kv e w' := by
  obtain ⟨g, o, c, rfl, -, -, -, -⟩ := hv.by hl
  have h0 := h
  obtain ⟨hd, lf, ck, cd, cm, hx, -, h2⟩ := h0
  have elf := h2 (.inr hst)
  subst elf
  have c6 : w.cell? ⟨fb, 6, none⟩ = some (.int .i64 F.left) := hx.box.cell 6
  have z6 := hx.box.fz 6
  have hleft := hok.left
  obtain ⟨u, hu⟩ : ∃ u, min F.left l.length = u := ⟨_, rfl⟩
  have hu1 : u ≤ l.length := by omega
  have hu2 : u ≤ F.left := by omega
  have hu3 : 0 < u := by omega
  have d0 : (0 : Int) < (F.left : Int) := by omega
  have hmin : min (F.left : Int) (l.length : Int) = (u : Int) := by omega
  have hsub : wrap64 ((F.left : Int) - (u : Int)) = ((F.left - u : Nat) : Int) := by unfold wrap64; omega
  have esub : (F.left : Int) - (u : Int) = ((F.left - u : Nat) : Int) := by omega
  have hend : ∀ w', w' = w.setCell ⟨fb, 6, none⟩ (.int .i64 ((F.left - u : Nat) : Int)) → StP F l w fb kv (.returned (.tuple #[.int .i64 (u : Int), .bool false])) w' := by
    rintro w' rfl
    have hg : w.grownBy (w.setCell ⟨fb, 6, none⟩ (.int .i64 ((F.left - u : Nat) : Int))) (some fb) := gb_setCell (gb_refl _ _) _
    refine ⟨u, false, { F with left := F.left - u }, kv, rfl, hu1, h.lf _ (fun _ _ _ _ _ hb => hb.set 6 _) hg, gb_kp hg, fun k hk => .inl hk, fun e => by omega, rfl, rfl, fun _ => ?_, (fun e => by cases e), Kn.same hx.box (F' := { F with left := F.left - u }) (kv' := kv) (hd' := hd) (lf' := ((F.left - u : Nat) : Int)) (cd' := cd) (hx.box.set 6 _), ?_⟩
    · have h3 := ok_run (l.take u) hok
      rw [run_left (l.take u) hst (by rw [List.length_take]; omega), List.length_take, Nat.min_eq_left hu1] at h3
      exact h3
    · refine run_cut_no ?_
      rw [run_left (l.take u) hst (by rw [List.length_take]; omega), List.length_take, Nat.min_eq_left hu1]
      rfl
  clear h hx h2 hok hv hu hu1 hu2 hl hl2
  go_enter Tryz.func158, Tryz.ntmps158
  go_wp2
  go_ret2
  exact hend _ rfl
set_option maxRecDepth 100000 in
set_option maxHeartbeats 4000000 in
theorem skip_end {w : World} {fb : Nat} {F : Fd} {kv : Value} (h : IsF w fb F kv) (hok : F.Ok) {v : Value} {l : Bs} (hv : Ck w (XF fb kv) v l) (hl : 0 < l.length) (hl2 : l.length ≤ 1099511627776) (ht : F.taken ≤ 2199023255552) (hst : F.st = 4) (hlf : F.left = 0) :
    Calls Tryz.prog 158 #[.pointer (some ⟨fb, 0, none⟩), v] w fun e w' => StP F l w fb kv e w' := by
  obtain ⟨g, o, c, rfl, -, -, -, hc⟩ := hv.by hl
  have h0 := h
  obtain ⟨hd, lf, ck, cd, cm, hx, -, h2⟩ := h0
  have elf := h2 (.inr hst)
  rw [hlf] at elf
  subst elf
  have c6 : w.cell? ⟨fb, 6, none⟩ = some (.int .i64 0) := hx.box.cell 6
  have h118 := ix_118 w g o c l hc
  rcases indexByte_spec 10 l with ⟨h3, h4⟩ | ⟨p, t, h3, h4, h5⟩
  · rw [h3] at h118
    have hend : StP F l w fb kv (.returned (.tuple #[.int .i64 (l.length : Int), .bool false])) w := by
      refine ⟨l.length, false, F, kv, rfl, Nat.le_refl _, h, Kp.refl _ _, fun k hk => .inl hk, fun e => by omega, rfl, rfl, fun _ => ok_tk hok _, (fun e => by cases e), Kn.refl _ _, ?_⟩
      refine run_cut_no ?_
      rw [List.take_length]
      exact run_skip l hst hlf h4
    clear h hx h2 hok hv hl hl2 hc h3 h4
    go_enter Tryz.func158, Tryz.ntmps158
    go_wp2_with (go_at_call 118; go_must ((with_reducible refine h118.mono ?_); rintro e w4 ⟨rfl, rfl⟩))
    go_ret2
    exact hend
  · rw [h5] at h118
    have hpl : p.length + 1 ≤ l.length := by rw [h3]; simp
    have hend : StP F l w fb kv (.returned (.tuple #[.int .i64 ((p.length : Int) + 1), .bool true])) w := by
      refine ⟨p.length + 1, true, F, kv, by simp, hpl, h, Kp.refl _ _, fun k hk => .inl hk, fun e => by omega, rfl, rfl, fun e => by simp at e, fun _ => nd_cell h hok.dn, Kn.refl _ _, ?_⟩
      refine run_cut ?_
      have e1 : l.take (p.length + 1) = p ++ [10] := by
        rw [h3, List.take_append, List.take_of_length_le (by omega)]
        simp
      rw [e1]
      exact run_skip_end hst hlf p h4
    have d1 : ¬ ((p.length : Int) < 0) := by omega
    have d2 : (p.length : Int) ≤ 1099511627776 := by omega
    clear h hx h2 hok hv hl hl2 hc h3 h4 h5 hpl
    go_enter Tryz.func158, Tryz.ntmps158
    go_wp2_with (go_at_call 118; go_must ((with_reducible refine h118.mono ?_); rintro e w4 ⟨rfl, rfl⟩))
    go_ret2
    exact hend
theorem isf_nil {w : World} {fb : Nat} {F : Fd} {hd lf : Int} (hb : Box w 136 fb (fdA fb F (.slice none 0 0) hd lf (.slice none 0 0) (.slice none 0 0) (.slice none 0 0))) (hk : F.kept = []) (h1 : F.s.cmd.keys = []) (h2 : F.s.data = []) (h3 : F.s.cmd.mt = []) : IsFx w fb F (.slice none 0 0) hd lf (.slice none 0 0) (.slice none 0 0) (.slice none 0 0) :=
  ⟨hb, StR.nil _ _ _ h1 h2 h3, by rw [hk]; exact World.ownsRow_nil _ _ _ _⟩
theorem spoil_st {w w' : World} {fb : Nat} {F : Fd} {kv : Value} {hd : Int} (hok : F.Ok) {l : Bs} (hl : 0 < l.length) (hst : F.st = 2 ∨ F.st = 3) (hr : F.run l = F.spoil.run l) (hb : Box w' 136 fb (fdA fb F.spoil (.slice none 0 0) hd 0 (.slice none 0 0) (.slice none 0 0) (.slice none 0 0))) (hg : w.grownBy w' (some fb)) :
    StP F l w fb kv (.returned (.tuple #[.int .i64 0, .bool false])) w' := by
  refine ⟨0, false, F.spoil, .slice none 0 0, rfl, Nat.zero_le _, ⟨hd, 0, _, _, _, isf_nil hb rfl rfl rfl rfl, fun h => by simp [Fd.spoil, Fd.pass] at h, fun _ => rfl⟩, gb_kp hg, fun k hk => by simp [Value.ownBlock] at hk, fun _ => ⟨rfl, by omega⟩, rfl, rfl, fun _ => ok_spoil hok 0, (fun e => by cases e), Kn.nil hb, ?_⟩
  rw [hr]
  simp [Fd.tk_zero]
set_option maxRecDepth 100000 in
set_option maxHeartbeats 4000000 in
theorem block_st {w : World} {fb : Nat} {F : Fd} {kv : Value} (h : IsF w fb F kv) (hok : F.Ok) {v : Value} {l : Bs} (hv : Ck w (XF fb kv) v l) (hl : 0 < l.length) (hl2 : l.length ≤ 1099511627776) (ht : F.taken ≤ 2199023255552) (hst : F.st = 1) :
    Calls Tryz.prog 171 #[.pointer (some ⟨fb, 0, none⟩), v] w fun e w' => StP F l w fb kv e w' := by
  obtain ⟨g, o, c, rfl, hc1, -, -, hc⟩ := hv.by hl
  have h0 := h
  obtain ⟨hd, lf, ck, cd, cm, hx, hh, h2⟩ := h0
  have elf := h2 (.inl hst)
  have ehd := hh (.inl hst)
  subst elf ehd
  have c6 : w.cell? ⟨fb, 6, none⟩ = some (.int .i64 F.left) := hx.box.cell 6
  have hleft := hok.left
  obtain ⟨p1, p2, p3⟩ := hok.block hst
  obtain ⟨u, hu⟩ : ∃ u, min F.left l.length = u := ⟨_, rfl⟩
  have hu1 : u ≤ l.length := by omega
  have hu2 : u ≤ F.left := by omega
  have hu3 : 0 < u := by omega
  have htl : (l.take u).length = u := by rw [List.length_take]; omega
  have hmin : min (F.left : Int) (l.length : Int) = (u : Int) := by omega
  have hsub : (F.left : Int) - (u : Int) = ((F.left - u : Nat) : Int) := by omega
  have hkl : F.kept.length ≤ 4398046511104 := by have := hok.taken; omega
  have h135 := keep_135 hx.box hx.kept (hv.take u hu1) (by omega) (by omega) hkl
  have hend : ∀ w4 g' cap w5, Box w4 136 fb (fdA fb (F.put (l.take u)) (.slice (some ⟨g', 0, none⟩) (F.kept.length + (l.take u).length) cap) F.head F.left ck cd cm) → w4.ownsRow 0 5 1 (.slice (some ⟨g', 0, none⟩) (F.kept.length + (l.take u).length) cap) (F.kept.length + (l.take u).length) (F.kept.map b8 ++ (l.take u).map b8) → Kp (XF fb kv) w w4 → (kv.ownBlock = some g' ∨ w.heap.size ≤ g') → Box w5 136 fb (fdA fb ((F.put (l.take u)).await (F.left - u)) (.slice (some ⟨g', 0, none⟩) (F.kept.length + (l.take u).length) cap) F.head ((F.left - u : Nat) : Int) ck cd cm) → w4.grownBy w5 (some fb) → StP F l w fb kv (.returned (.tuple #[.int .i64 (u : Int), .bool false])) w5 := by
    intro w4 g' cap w5 b4 r4 k4 a4 b5 g5
    have hrun := run_block (l.take u) hst p1 (by omega)
    rw [htl] at hrun
    have hkk : ((F.put (l.take u)).await (F.left - u)).kept.length = F.kept.length + (l.take u).length := by show (F.kept ++ l.take u).length = _; rw [List.length_append]
    have hx4 : IsFx w4 fb (F.put (l.take u)) _ F.head F.left ck cd cm := isfx_kp hx k4 b4 rfl (by
      show w4.ownsRow 0 5 1 _ (F.kept ++ l.take u).length ((F.kept ++ l.take u).map b8)
      rw [List.length_append, List.map_append]; exact r4) (fun k hk => by simp [Value.ownBlock] at hk; subst hk; exact a4)
    have hx5 := isfx_kp (G := (F.put (l.take u)).await (F.left - u)) hx4 (gb_kp g5) b5 rfl (row_kp hx4.kept (gb_kp g5 (kv := .slice none 0 0)) (fun k hk he => by
      rcases he with rfl | he
      · exact row_box hx4.kept hx4.box (by omega) k hk rfl
      · simp [Value.ownBlock] at he)) (fun k hk => .inl hk)
    refine ⟨u, false, (F.put (l.take u)).await (F.left - u), _, rfl, hu1, ⟨_, _, _, _, _, hx5, fun _ => rfl, fun _ => rfl⟩, ?_, fun k hk => by simp [Value.ownBlock] at hk; subst hk; exact a4, fun e => by omega, rfl, rfl, fun _ => ?_, (fun e => by cases e), Kn.same hx.box b5, ?_⟩
    · exact k4.trans (gb_kp (kv := .slice none 0 0) g5) (fun i hi => hi) (fun i hi => by
        rcases hi with rfl | hi
        · exact .inl (.inl rfl)
        · simp [Value.ownBlock] at hi)
    · have h3 := ok_run (l.take u) hok
      rw [hrun] at h3
      exact h3
    · refine run_cut_no ?_
      rw [hrun]
      rfl
  have huc : (u : Int) ≤ (c : Int) := by omega
  rw [htl] at h135 hend
  clear h hx h2 hh hok hv hu hl hl2 hc p2 p3 htl hkl
  go_enter Tryz.func171, Tryz.ntmps171
  go_wp2_with (first | (go_at_call 135; go_must ((with_reducible refine h135.mono ?_); rintro e w4 ⟨rfl, g', cap, b4, r4, k4, a4⟩; (have q6 : w4.cell? ⟨fb, 6, none⟩ = some (.int .i64 F.left) := b4.cell 6))) | (go_at_call 157; go_must ((with_reducible refine (await_157 b4 (F.left - u)).mono ?_); rintro e w5 ⟨rfl, b5, g5⟩)))
  go_ret2
  exact hend _ _ _ _ b4 r4 k4 a4 b5 g5
end Go.Proofs.YtobegepebochkaaGreatDoor
