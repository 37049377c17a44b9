import Derived.Test.YtobegepebochkaaGreatDoorRPam
set_option linter.unusedVariables false
set_option linter.unusedSimpArgs false
set_option maxRecDepth 100000
set_option maxHeartbeats 16000000
namespace Go.Proofs.YtobegepebochkaaGreatDoor
open Go.RowKit Go.Maps
theorem IsF.lf {w : World} {fb : Nat} {F : Fd} {kv : Value} (h : IsF w fb F kv) (n : Nat) {w' : World} (hb : ∀ hd lf ck cd cm, Box w 136 fb (fdA fb F kv hd lf ck cd cm) -> Box w' 136 fb (fdA fb { F with left := n } kv hd n ck cd cm)) (hg : w.grownBy w' (some fb)) : IsF w' fb { F with left := n } kv := by
  obtain ⟨hd, lf, ck, cd, cm, hx, h1, h2⟩ := h
  refine ⟨hd, n, ck, cd, cm, isfx_kp hx (gb_kp hg) (hb _ _ _ _ _ hx.box) rfl (row_kp hx.kept (gb_kp hg (kv := .slice none 0 0)) (fun k hk he => ?_)) (fun k hk => .inl hk), h1, fun _ => rfl⟩
  rcases he with rfl | he
  . exact row_box hx.kept hx.box (by omega) k hk rfl
  . simp [Value.ownBlock] at he
theorem over_st {w : World} {fb : Nat} {F : Fd} {kv : Value} (h : IsF w fb F kv) (hok : F.Ok) {v : Value} {l : Bs} (hv : Ck w (XF fb kv) v l) (hl : 0 < l.length) (hl2 : l.length <= 1099511627776) (ht : F.taken <= 2199023255552) (hst : F.st = 5) :
    Calls Tryz.prog 140 #[.pointer (some ⟨fb, 0, none⟩), v] w fun e w' => StP F l w fb kv e w' := by
  obtain ⟨g, o, c, rfl, -, -, -, -⟩ := hv.by hl
  refine (over_140 w fb _ _ _ _ rfl).mono ?_
  rintro e w' ⟨rfl, rfl⟩
  refine ⟨l.length, false, F, kv, rfl, Nat.le_refl _, h, Kp.refl _ _, fun k hk => .inl hk, fun e => by omega, rfl, rfl, fun _ => ok_tk hok _, (fun e => by cases e), Kn.refl _ _, ?_⟩
  refine run_cut_no ?_
  rw [List.take_length]
  exact run_over hst l
theorem skip_left {w : World} {fb : Nat} {F : Fd} {kv : Value} (h : IsF w fb F kv) (hok : F.Ok) {v : Value} {l : Bs} (hv : Ck w (XF fb kv) v l) (hl : 0 < l.length) (hl2 : l.length <= 1099511627776) (ht : F.taken <= 2199023255552) (hst : F.st = 4) (hlf : 0 < F.left) :
    Calls Tryz.prog 158 #[.pointer (some ⟨fb, 0, none⟩), v] w fun e w' => StP F l w fb kv e w' := by
  obtain ⟨g, o, c, rfl, -, -, -, -⟩ := hv.by hl
  have h0 := h
  obtain ⟨hd, lf, ck, cd, cm, hx, -, h2⟩ := h0
  have elf := h2 (.inr hst)
  subst elf
  have c6 : w.cell? ⟨fb, 6, none⟩ = some (.int .i64 F.left) := hx.box.cell 6
  have z6 := hx.box.fz 6
  have hleft := hok.left
  obtain ⟨u, hu⟩ : ∃ u, min F.left l.length = u := ⟨_, rfl⟩
  have hu1 : u <= l.length := by omega
  have hu2 : u <= F.left := by omega
  have hu3 : 0 < u := by omega
  have d0 : (0 : Int) < (F.left : Int) := by omega
  have hmin : min (F.left : Int) (l.length : Int) = (u : Int) := by omega
  have hsub : wrap64 ((F.left : Int) - (u : Int)) = ((F.left - u : Nat) : Int) := by unfold wrap64; omega
  have esub : (F.left : Int) - (u : Int) = ((F.left - u : Nat) : Int) := by omega
  have hend : ∀ w', w' = w.setCell ⟨fb, 6, none⟩ (.int .i64 ((F.left - u : Nat) : Int)) -> StP F l w fb kv (.returned (.tuple #[.int .i64 (u : Int), .bool false])) w' := by
    rintro w' rfl
    have hg : w.grownBy (w.setCell ⟨fb, 6, none⟩ (.int .i64 ((F.left - u : Nat) : Int))) (some fb) := gb_setCell (gb_refl _ _) _
    refine ⟨u, false, { F with left := F.left - u }, kv, rfl, hu1, h.lf _ (fun _ _ _ _ _ hb => hb.set 6 _) hg, gb_kp hg, fun k hk => .inl hk, fun e => by omega, rfl, rfl, fun _ => ?_, (fun e => by cases e), Kn.same hx.box (F' := { F with left := F.left - u }) (kv' := kv) (hd' := hd) (lf' := ((F.left - u : Nat) : Int)) (cd' := cd) (hx.box.set 6 _), ?_⟩
    . have h3 := ok_run (l.take u) hok
      rw [run_left (l.take u) hst (by rw [List.length_take]; omega), List.length_take, Nat.min_eq_left hu1] at h3
      exact h3
    . refine run_cut_no ?_
      rw [run_left (l.take u) hst (by rw [List.length_take]; omega), List.length_take, Nat.min_eq_left hu1]
      rfl
  clear h hx h2 hok hv hu hu1 hu2 hl hl2
  go_enter Tryz.func158, Tryz.ntmps158
  go_wp2
  go_ret2
  exact hend _ rfl
theorem skip_end {w : World} {fb : Nat} {F : Fd} {kv : Value} (h : IsF w fb F kv) (hok : F.Ok) {v : Value} {l : Bs} (hv : Ck w (XF fb kv) v l) (hl : 0 < l.length) (hl2 : l.length <= 1099511627776) (ht : F.taken <= 2199023255552) (hst : F.st = 4) (hlf : F.left = 0) :
    Calls Tryz.prog 158 #[.pointer (some ⟨fb, 0, none⟩), v] w fun e w' => StP F l w fb kv e w' := by
  obtain ⟨g, o, c, rfl, -, -, -, hc⟩ := hv.by hl
  have h0 := h
  obtain ⟨hd, lf, ck, cd, cm, hx, -, h2⟩ := h0
  have elf := h2 (.inr hst)
  rw [hlf] at elf
  subst elf
  have c6 : w.cell? ⟨fb, 6, none⟩ = some (.int .i64 0) := hx.box.cell 6
  have h118 := ix_118 w g o c l hc
  rcases indexByte_spec 10 l with ⟨h3, h4⟩ | ⟨p, t, h3, h4, h5⟩
  . rw [h3] at h118
    have hend : StP F l w fb kv (.returned (.tuple #[.int .i64 (l.length : Int), .bool false])) w := by
      refine ⟨l.length, false, F, kv, rfl, Nat.le_refl _, h, Kp.refl _ _, fun k hk => .inl hk, fun e => by omega, rfl, rfl, fun _ => ok_tk hok _, (fun e => by cases e), Kn.refl _ _, ?_⟩
      refine run_cut_no ?_
      rw [List.take_length]
      exact run_skip l hst hlf h4
    clear h hx h2 hok hv hl hl2 hc h3 h4
    go_enter Tryz.func158, Tryz.ntmps158
    go_wp2_with (go_at_call 118; go_must ((with_reducible refine h118.mono ?_); rintro e w4 ⟨rfl, rfl⟩))
    go_ret2
    exact hend
  . rw [h5] at h118
    have hpl : p.length + 1 <= l.length := by rw [h3]; simp
    have hend : StP F l w fb kv (.returned (.tuple #[.int .i64 ((p.length : Int) + 1), .bool true])) w := by
      refine ⟨p.length + 1, true, F, kv, by simp, hpl, h, Kp.refl _ _, fun k hk => .inl hk, fun e => by omega, rfl, rfl, fun e => by simp at e, fun _ => nd_cell h hok.dn, Kn.refl _ _, ?_⟩
      refine run_cut ?_
      have e1 : l.take (p.length + 1) = p ++ [10] := by
        rw [h3, List.take_append, List.take_of_length_le (by omega)]
        simp
      rw [e1]
      exact run_skip_end hst hlf p h4
    have d1 : ¬ ((p.length : Int) < 0) := by omega
    have d2 : (p.length : Int) <= 1099511627776 := by omega
    clear h hx h2 hok hv hl hl2 hc h3 h4 h5 hpl
    go_enter Tryz.func158, Tryz.ntmps158
    go_wp2_with (go_at_call 118; go_must ((with_reducible refine h118.mono ?_); rintro e w4 ⟨rfl, rfl⟩))
    go_ret2
    exact hend
theorem isf_nil {w : World} {fb : Nat} {F : Fd} {hd lf : Int} (hb : Box w 136 fb (fdA fb F (.slice none 0 0) hd lf (.slice none 0 0) (.slice none 0 0) (.slice none 0 0))) (hk : F.kept = []) (h1 : F.s.cmd.keys = []) (h2 : F.s.data = []) (h3 : F.s.cmd.mt = []) : IsFx w fb F (.slice none 0 0) hd lf (.slice none 0 0) (.slice none 0 0) (.slice none 0 0) :=
  ⟨hb, StR.nil _ _ _ h1 h2 h3, by rw [hk]; exact World.ownsRow_nil _ _ _ _⟩
theorem spoil_st {w w' : World} {fb : Nat} {F : Fd} {kv : Value} {hd : Int} (hok : F.Ok) {l : Bs} (hl : 0 < l.length) (hst : F.st = 2 \/ F.st = 3) (hr : F.run l = F.spoil.run l) (hb : Box w' 136 fb (fdA fb F.spoil (.slice none 0 0) hd 0 (.slice none 0 0) (.slice none 0 0) (.slice none 0 0))) (hg : w.grownBy w' (some fb)) :
    StP F l w fb kv (.returned (.tuple #[.int .i64 0, .bool false])) w' := by
  refine ⟨0, false, F.spoil, .slice none 0 0, rfl, Nat.zero_le _, ⟨hd, 0, _, _, _, isf_nil hb rfl rfl rfl rfl, fun h => by simp [Fd.spoil, Fd.pass] at h, fun _ => rfl⟩, gb_kp hg, fun k hk => by simp [Value.ownBlock] at hk, fun _ => ⟨rfl, by omega⟩, rfl, rfl, fun _ => ok_spoil hok 0, (fun e => by cases e), Kn.nil hb, ?_⟩
  rw [hr]
  simp [Fd.tk_zero]
theorem block_st {w : World} {fb : Nat} {F : Fd} {kv : Value} (h : IsF w fb F kv) (hok : F.Ok) {v : Value} {l : Bs} (hv : Ck w (XF fb kv) v l) (hl : 0 < l.length) (hl2 : l.length <= 1099511627776) (ht : F.taken <= 2199023255552) (hst : F.st = 1) :
    Calls Tryz.prog 171 #[.pointer (some ⟨fb, 0, none⟩), v] w fun e w' => StP F l w fb kv e w' := by
  obtain ⟨g, o, c, rfl, hc1, -, -, hc⟩ := hv.by hl
  have h0 := h
  obtain ⟨hd, lf, ck, cd, cm, hx, hh, h2⟩ := h0
  have elf := h2 (.inl hst)
  have ehd := hh (.inl hst)
  subst elf ehd
  have c6 : w.cell? ⟨fb, 6, none⟩ = some (.int .i64 F.left) := hx.box.cell 6
  have hleft := hok.left
  obtain ⟨p1, p2, p3⟩ := hok.block hst
  obtain ⟨u, hu⟩ : ∃ u, min F.left l.length = u := ⟨_, rfl⟩
  have hu1 : u <= l.length := by omega
  have hu2 : u <= F.left := by omega
  have hu3 : 0 < u := by omega
  have htl : (l.take u).length = u := by rw [List.length_take]; omega
  have hmin : min (F.left : Int) (l.length : Int) = (u : Int) := by omega
  have hsub : (F.left : Int) - (u : Int) = ((F.left - u : Nat) : Int) := by omega
  have hkl : F.kept.length <= 4398046511104 := by have := hok.taken; omega
  have h135 := keep_135 hx.box hx.kept (hv.take u hu1) (by omega) (by omega) hkl
  have hend : ∀ w4 g' cap w5, Box w4 136 fb (fdA fb (F.put (l.take u)) (.slice (some ⟨g', 0, none⟩) (F.kept.length + (l.take u).length) cap) F.head F.left ck cd cm) -> w4.ownsRow 0 5 1 (.slice (some ⟨g', 0, none⟩) (F.kept.length + (l.take u).length) cap) (F.kept.length + (l.take u).length) (F.kept.map b8 ++ (l.take u).map b8) -> Kp (XF fb kv) w w4 -> (kv.ownBlock = some g' \/ w.heap.size <= g') -> Box w5 136 fb (fdA fb ((F.put (l.take u)).await (F.left - u)) (.slice (some ⟨g', 0, none⟩) (F.kept.length + (l.take u).length) cap) F.head ((F.left - u : Nat) : Int) ck cd cm) -> w4.grownBy w5 (some fb) -> StP F l w fb kv (.returned (.tuple #[.int .i64 (u : Int), .bool false])) w5 := by
    intro w4 g' cap w5 b4 r4 k4 a4 b5 g5
    have hrun := run_block (l.take u) hst p1 (by omega)
    rw [htl] at hrun
    have hkk : ((F.put (l.take u)).await (F.left - u)).kept.length = F.kept.length + (l.take u).length := by show (F.kept ++ l.take u).length = _; rw [List.length_append]
    have hx4 : IsFx w4 fb (F.put (l.take u)) _ F.head F.left ck cd cm := isfx_kp hx k4 b4 rfl (by
      show w4.ownsRow 0 5 1 _ (F.kept ++ l.take u).length ((F.kept ++ l.take u).map b8)
      rw [List.length_append, List.map_append]; exact r4) (fun k hk => by simp [Value.ownBlock] at hk; subst hk; exact a4)
    have hx5 := isfx_kp (G := (F.put (l.take u)).await (F.left - u)) hx4 (gb_kp g5) b5 rfl (row_kp hx4.kept (gb_kp g5 (kv := .slice none 0 0)) (fun k hk he => by
      rcases he with rfl | he
      . exact row_box hx4.kept hx4.box (by omega) k hk rfl
      . simp [Value.ownBlock] at he)) (fun k hk => .inl hk)
    refine ⟨u, false, (F.put (l.take u)).await (F.left - u), _, rfl, hu1, ⟨_, _, _, _, _, hx5, fun _ => rfl, fun _ => rfl⟩, ?_, fun k hk => by simp [Value.ownBlock] at hk; subst hk; exact a4, fun e => by omega, rfl, rfl, fun _ => ?_, (fun e => by cases e), Kn.same hx.box b5, ?_⟩
    . exact k4.trans (gb_kp (kv := .slice none 0 0) g5) (fun i hi => hi) (fun i hi => by
        rcases hi with rfl | hi
        . exact .inl (.inl rfl)
        . simp [Value.ownBlock] at hi)
    . have h3 := ok_run (l.take u) hok
      rw [hrun] at h3
      exact h3
    . refine run_cut_no ?_
      rw [hrun]
      rfl
  have huc : (u : Int) <= (c : Int) := by omega
  rw [htl] at h135 hend
  clear h hx h2 hh hok hv hu hl hl2 hc p2 p3 htl hkl
  go_enter Tryz.func171, Tryz.ntmps171
  go_wp2_with (first | (go_at_call 135; go_must ((with_reducible refine h135.mono ?_); rintro e w4 ⟨rfl, g', cap, b4, r4, k4, a4⟩; (have q6 : w4.cell? ⟨fb, 6, none⟩ = some (.int .i64 F.left) := b4.cell 6))) | (go_at_call 157; go_must ((with_reducible refine (await_157 b4 (F.left - u)).mono ?_); rintro e w5 ⟨rfl, b5, g5⟩)))
  go_ret2
  exact hend _ _ _ _ b4 r4 k4 a4 b5 g5
end Go.Proofs.YtobegepebochkaaGreatDoor
namespace Go.Proofs.YtobegepebochkaaGreatDoor
open Go.RowKit Go.Maps
theorem toNat_ne {b : UInt8} {n : Nat} (hn : n < 256) (h : b ≠ UInt8.ofNat n) : ¬ ((b.toNat : Int) = (n : Int)) := by
  intro e
  apply h
  have : b.toNat = n := by omega
  apply UInt8.toNat_inj.1
  rw [this]
  simp [UInt8.toNat_ofNat, Nat.mod_eq_of_lt hn]
theorem behind_no {w : World} {fb : Nat} {F : Fd} {kv : Value} (h : IsF w fb F kv) (hok : F.Ok) {v : Value} {l : Bs} (hv : Ck w (XF fb kv) v l) (hl : 0 < l.length) (hl2 : l.length <= 1099511627776) (ht : F.taken <= 2199023255552) (hst : F.st = 2) (b : UInt8) (t : Bs) (hbt : l = b :: t) (hb : b ≠ 13) :
    Calls Tryz.prog 172 #[.pointer (some ⟨fb, 0, none⟩), v] w fun e w' => StP F l w fb kv e w' := by
  obtain ⟨g, o, c, rfl, hc1, -, -, hc⟩ := hv.by hl
  obtain ⟨hd, lf, ck, cd, cm, hx, -, -⟩ := h
  have cb : w.cell? ⟨g, o, none⟩ = some (.int .u8 b.toNat) := hc 0 b (by rw [hbt]; rfl)
  have hne := toNat_ne (n := 13) (by omega) (b := b) (by simpa using hb)
  have h187 := spoil_187 hx.box
  have hend : ∀ w4, Box w4 136 fb (fdA fb F.spoil (.slice none 0 0) hd 0 (.slice none 0 0) (.slice none 0 0) (.slice none 0 0)) -> w.grownBy w4 (some fb) -> StP F l w fb kv (.returned (.tuple #[.int .i64 0, .bool false])) w4 := fun w4 b4 g4 =>
    spoil_st hok hl (by omega) (by rw [hbt]; exact run_spoil (.inl hst) b t (fun _ => hb) (fun e => by omega)) b4 g4
  obtain ⟨n, hn⟩ : ∃ n, l.length = n + 1 := ⟨t.length, by rw [hbt]; rfl⟩
  rw [hn]
  have d1 : (0 : Int) < ((n + 1 : Nat) : Int) := by omega
  clear hx hok hv hl hl2 hc hbt hb hn
  go_enter Tryz.func172, Tryz.ntmps172
  go_wp2_with (go_at_call 187; go_must ((with_reducible refine h187.mono ?_); rintro e w4 ⟨rfl, b4, g4⟩))
  go_ret2
  exact hend _ b4 g4
theorem last_no {w : World} {fb : Nat} {F : Fd} {kv : Value} (h : IsF w fb F kv) (hok : F.Ok) {v : Value} {l : Bs} (hv : Ck w (XF fb kv) v l) (hl : 0 < l.length) (hl2 : l.length <= 1099511627776) (ht : F.taken <= 2199023255552) (hst : F.st = 3) (b : UInt8) (t : Bs) (hbt : l = b :: t) (hb : b ≠ 10) :
    Calls Tryz.prog 188 #[.pointer (some ⟨fb, 0, none⟩), v] w fun e w' => StP F l w fb kv e w' := by
  obtain ⟨g, o, c, rfl, hc1, -, -, hc⟩ := hv.by hl
  obtain ⟨hd, lf, ck, cd, cm, hx, -, -⟩ := h
  have cb : w.cell? ⟨g, o, none⟩ = some (.int .u8 b.toNat) := hc 0 b (by rw [hbt]; rfl)
  have hne := toNat_ne (n := 10) (by omega) (b := b) (by simpa using hb)
  have h187 := spoil_187 hx.box
  have hend : ∀ w4, Box w4 136 fb (fdA fb F.spoil (.slice none 0 0) hd 0 (.slice none 0 0) (.slice none 0 0) (.slice none 0 0)) -> w.grownBy w4 (some fb) -> StP F l w fb kv (.returned (.tuple #[.int .i64 0, .bool false])) w4 := fun w4 b4 g4 =>
    spoil_st hok hl (by omega) (by rw [hbt]; exact run_spoil (.inr hst) b t (fun e => by omega) (fun _ => hb)) b4 g4
  obtain ⟨n, hn⟩ : ∃ n, l.length = n + 1 := ⟨t.length, by rw [hbt]; rfl⟩
  rw [hn]
  have d1 : (0 : Int) < ((n + 1 : Nat) : Int) := by omega
  clear hx hok hv hl hl2 hc hbt hb hn
  go_enter Tryz.func188, Tryz.ntmps188
  go_wp2_with (go_at_call 187; go_must ((with_reducible refine h187.mono ?_); rintro e w4 ⟨rfl, b4, g4⟩))
  go_ret2
  exact hend _ b4 g4
theorem behind_yes {w : World} {fb : Nat} {F : Fd} {kv : Value} (h : IsF w fb F kv) (hok : F.Ok) {v : Value} {l : Bs} (hv : Ck w (XF fb kv) v l) (hl : 0 < l.length) (hl2 : l.length <= 1099511627776) (ht : F.taken <= 2199023255552) (hst : F.st = 2) (t : Bs) (hbt : l = 13 :: t) :
    Calls Tryz.prog 172 #[.pointer (some ⟨fb, 0, none⟩), v] w fun e w' => StP F l w fb kv e w' := by
  have hmf : ∀ (fn : Fn) (first cap : Array Value) (w : World), (Instr.makeFunc fn first cap).run Tryz.prog w = .ok (.func fn first cap) w := fun _ _ _ _ => rfl
  obtain ⟨g, o, c, rfl, hc1, -, -, hc⟩ := hv.by hl
  obtain ⟨hd, lf, ck, cd, cm, hx, hh, -⟩ := h
  have ehd := hh (.inr (.inl hst))
  subst ehd
  have cb : w.cell? ⟨g, o, none⟩ = some (.int .u8 13) := hc 0 13 (by rw [hbt]; rfl)
  have hkl : F.kept.length <= 4398046511104 := by have := hok.taken; omega
  have ht1 : l.take 1 = [13] := by rw [hbt]; rfl
  have h135 := keep_135 hx.box hx.kept (hv.take 1 hl) (by rw [ht1]; simp) (by rw [ht1]; simp) hkl
  rw [ht1] at h135
  have hend : ∀ w4 g' cap w5, Box w4 136 fb (fdA fb (F.put [13]) (.slice (some ⟨g', 0, none⟩) (F.kept.length + 1) cap) F.head lf ck cd cm) -> w4.ownsRow 0 5 1 (.slice (some ⟨g', 0, none⟩) (F.kept.length + 1) cap) (F.kept.length + 1) (F.kept.map b8 ++ [13].map b8) -> Kp (XF fb kv) w w4 -> (kv.ownBlock = some g' \/ w.heap.size <= g') -> w5 = w4.setCell ⟨fb, 23, none⟩ (stV fb 3) -> StP F l w fb kv (.returned (.tuple #[.int .i64 1, .bool false])) w5 := by
    rintro w4 g' cap _ b4 r4 k4 a4 rfl
    have g5 : w4.grownBy (w4.setCell ⟨fb, 23, none⟩ (stV fb 3)) (some fb) := gb_setCell (gb_refl _ _) _
    have hx4 : IsFx w4 fb (F.put [13]) _ F.head lf ck cd cm := isfx_kp hx k4 b4 rfl (by
      show w4.ownsRow 0 5 1 _ (F.kept ++ [13]).length ((F.kept ++ [13]).map b8)
      rw [List.length_append, List.map_append]; exact r4) (fun k hk => by simp [Value.ownBlock] at hk; subst hk; exact a4)
    have hx5 := isfx_kp (G := { F.put [13] with st := 3 }) hx4 (gb_kp g5) (b4.set 23 _) rfl (row_kp hx4.kept (gb_kp g5 (kv := .slice none 0 0)) (fun k hk he => by
      rcases he with rfl | he
      . exact row_box hx4.kept hx4.box (by omega) k hk rfl
      . simp [Value.ownBlock] at he)) (fun k hk => .inl hk)
    refine ⟨1, false, { F.put [13] with st := 3 }, _, rfl, hl, ⟨_, _, _, _, _, hx5, fun _ => rfl, fun e => by simp at e⟩, ?_, fun k hk => by simp [Value.ownBlock] at hk; subst hk; exact a4, fun e => by omega, rfl, rfl, fun _ => ?_, (fun e => by cases e), Kn.same hx.box hx5.box, ?_⟩
    . exact k4.trans (gb_kp (kv := .slice none 0 0) g5) (fun i hi => hi) (fun i hi => by
        rcases hi with rfl | hi
        . exact .inl (.inl rfl)
        . simp [Value.ownBlock] at hi)
    . have h3 := ok_run [13] hok
      rw [run_behind hst] at h3
      exact h3
    . refine run_cut_no ?_
      rw [ht1, run_behind hst]
      rfl
  obtain ⟨n, hn⟩ : ∃ n, l.length = n + 1 := ⟨t.length, by rw [hbt]; rfl⟩
  rw [hn]
  have d1 : (0 : Int) < ((n + 1 : Nat) : Int) := by omega
  have d2 : (1 : Int) <= (c : Int) := by omega
  clear hx hh hok hv hl hl2 hc hbt ht1 hkl hn
  go_enter Tryz.func172, Tryz.ntmps172
  go_wp2_with (go_at_call 135; go_must ((with_reducible refine h135.mono ?_); rintro e w4 ⟨rfl, g', cap, b4, r4, k4, a4⟩; (obtain ⟨u23, c23⟩ : ∃ u, w4.cell? ⟨fb, 23, none⟩ = some u := ⟨_, b4.cell 23⟩); (have z23 := b4.fz 23)))
  go_ret2
  exact hend _ _ _ _ b4 r4 k4 a4 rfl
end Go.Proofs.YtobegepebochkaaGreatDoor
namespace Go.Proofs.YtobegepebochkaaGreatDoor
open Go.RowKit Go.Maps
theorem step_nothing {w : World} {ops : Array Oper} {o : Oper} {a : Act} {K : Act -> World -> Prop} {Q : Exit -> Act -> World -> Prop} {E : Prop} (hgd : o.guard = none) (s x : Operand)
    (ho : o.op = .call { callee := .builtin .append, args := #[s, x], argTypes := #[38, 38] }) (ad : Addr) (c : Nat) (hs : a.eval s = .slice none 0 0) (hx : a.eval x = .slice (some ad) 0 c) (h : K (a.put o.dst (.slice none 0 0)) w) :
    if Region.wanted o (yielded ops a.tmps) = true then Oper.wp Tryz.prog o a w K Q else E := by
  have hw : Region.wanted o (yielded ops a.tmps) = true := by simp [Region.wanted, hgd]
  rw [if_pos hw]
  obtain ⟨i0, hi, hz0, hz1, hz2⟩ := info_parts Tryz.info5
  have hrun : (Builtin.append_ #[38, 38] o.type #[.slice none 0 0, .slice (some ad) 0 c]).run Tryz.prog w = .ok (.slice none 0 0) w := by
    simp [Builtin.append_, Builtin.lenOf, Builtin.firstCells, run_underlying Tryz.underlying38, sizeOf, typeInfo, hi, storeCells, loadCells, loadCellsFrom]
  unfold Oper.wp
  simp [execOp, ho, resolve, invoke, builtin, hs, hx, hrun, Result.andThen]
  exact h
theorem isf_data {w w4 : World} {fb : Nat} {F : Fd} {kv ck cd cm : Value} {hd lf : Int} (hx : IsFx w fb F kv hd lf ck cd cm) (d : Bs) (dv : Value) (hg : w.grownBy w4 none) (hr : w4.ownsRow 0 5 1 dv d.length (d.map b8)) (hn : ∀ k, dv.ownBlock = some k -> w.heap.size <= k) (hnd : d = [] -> dv = .slice none 0 0) :
    IsFx (w4.setCell ⟨fb, 13, none⟩ dv) fb { F with s := { F.s with data := d } } kv hd lf ck dv cm := by
  have b4 := hx.box.kept hg (by simp)
  have hlt := hx.box.lt
  have g5 : w4.grownBy (w4.setCell ⟨fb, 13, none⟩ dv) (some fb) := gb_setCell (gb_refl _ _) _
  have hk : Kp (XF fb (.slice none 0 0)) w (w4.setCell ⟨fb, 13, none⟩ dv) := (Kp.of hg (F := XF fb (.slice none 0 0))).trans (gb_kp g5) (fun _ h => h) (fun _ h => .inl h)
  have hx0 : ∀ k, k < w.heap.size -> XF fb (.slice none 0 0) k -> XF fb kv k := fun k _ h => by
    rcases h with rfl | h
    . exact .inl rfl
    . simp [Value.ownBlock] at h
  refine ⟨b4.set 13 _, ?_, ?_⟩
  . have hs := hx.str.kp (Y := XF fb kv) hk hx0 (fun k _ h => h)
    refine ⟨hs.keys, ?_, hs.mt, hs.ak, fun k hb he => ?_, hs.am, hnd⟩
    . refine row_kept hr g5 (fun k hb e => ?_)
      injection e with e
      have := hn k hb
      omega
    . have h1 := hn k hb
      rcases he with rfl | he
      . omega
      . have := row_lt hx.kept k he; omega
  . refine row_kp hx.kept hk (fun k hb he => ?_)
    rcases he with rfl | he
    . exact row_box hx.kept hx.box (by omega) k hb rfl
    . simp [Value.ownBlock] at he
theorem last_yes {w : World} {fb : Nat} {F : Fd} {kv : Value} (h : IsF w fb F kv) (hok : F.Ok) {v : Value} {l : Bs} (hv : Ck w (XF fb kv) v l) (hl : 0 < l.length) (hl2 : l.length <= 1099511627776) (ht : F.taken <= 2199023255552) (hst : F.st = 3) (t : Bs) (hbt : l = 10 :: t) :
    Calls Tryz.prog 188 #[.pointer (some ⟨fb, 0, none⟩), v] w fun e w' => StP F l w fb kv e w' := by
  obtain ⟨g, o, c, rfl, hc1, -, -, hc⟩ := hv.by hl
  obtain ⟨hd, lf, ck, cd, cm, hx, hh, -⟩ := h
  have ehd := hh (.inr (.inr hst))
  subst ehd
  have cb : w.cell? ⟨g, o, none⟩ = some (.int .u8 10) := hc 0 10 (by rw [hbt]; rfl)
  obtain ⟨q1, q2⟩ := hok.last hst
  have hkl : F.kept.length <= 2199023255552 := by have := hok.taken; omega
  have hend : ∀ w4 dv, w.grownBy w4 none -> w4.ownsRow 0 5 1 dv ((F.kept.drop F.head).dropLast).length (((F.kept.drop F.head).dropLast).map b8) -> (∀ k, dv.ownBlock = some k -> w.heap.size <= k) -> ((F.kept.drop F.head).dropLast = [] -> dv = .slice none 0 0) -> StP F l w fb kv (.returned (.tuple #[.int .i64 1, .bool true])) (w4.setCell ⟨fb, 13, none⟩ dv) := by
    intro w4 dv hg hr hn hnd
    have g5 : w4.grownBy (w4.setCell ⟨fb, 13, none⟩ dv) (some fb) := gb_setCell (gb_refl _ _) _
    refine ⟨1, true, { F with s := { F.s with data := (F.kept.drop F.head).dropLast } }, kv, rfl, hl, ⟨_, _, _, _, _, isf_data hx _ dv hg hr hn hnd, fun _ => rfl, fun e => by simp [hst] at e⟩, ?_, fun k hk => .inl hk, fun e => by omega, rfl, rfl, fun e => by simp at e, fun _ v hv => ?_, Kn.same hx.box (isf_data hx _ dv hg hr hn hnd).box, ?_⟩
    . exact (Kp.of hg (F := XF fb kv)).trans (gb_kp (kv := kv) g5) (fun _ h => h) (fun _ h => .inl h)
    . have e13 : (w4.setCell ⟨fb, 13, none⟩ dv).cell? ⟨fb, 13, none⟩ = some dv := (isf_data hx _ dv hg hr hn hnd).box.cell 13
      rw [hv] at e13
      injection e13 with e13
      subst e13
      exact hn
    . refine run_cut ?_
      have ht1 : l.take 1 = [10] := by rw [hbt]; rfl
      rw [ht1, run_last hst]
      rfl
  obtain ⟨ao, cp, rfl, -, hcp, hmx, hpos⟩ := row_shape hx.kept
  obtain ⟨kg, rfl⟩ := hpos (by omega)
  have c4 : w.cell? ⟨fb, 4, none⟩ = some (.slice (some ⟨kg, 0, none⟩) F.kept.length cp) := hx.box.cell 4
  have c5 : w.cell? ⟨fb, 5, none⟩ = some (.int .i64 F.head) := hx.box.cell 5
  obtain ⟨u13, c13⟩ : ∃ u, w.cell? ⟨fb, 13, none⟩ = some u := ⟨_, hx.box.cell 13⟩
  have z13 := hx.box.fz 13
  have hbx := hx.box
  have hrow : ∀ i x, (F.kept.drop F.head).dropLast[i]? = some x -> w.cell? ⟨kg, F.head + i, none⟩ = some (b8 x) := by
    intro i x hi
    refine row_cell hx.kept _ _ ?_
    rw [List.getElem?_map]
    rw [List.getElem?_dropLast] at hi
    split at hi
    . rw [List.getElem?_drop] at hi; rw [hi]; rfl
    . cases hi
  obtain ⟨m, hm⟩ : ∃ m, F.kept.length = F.head + m + 1 := ⟨F.kept.length - F.head - 1, by omega⟩
  have hdl : ((F.kept.drop F.head).dropLast).length = m := by rw [List.length_dropLast, List.length_drop]; omega
  obtain ⟨d, hd⟩ : ∃ d, (F.kept.drop F.head).dropLast = d := ⟨_, rfl⟩
  rw [hd] at hrow hdl hend
  obtain ⟨n, hn⟩ : ∃ n, l.length = n + 1 := ⟨t.length, by rw [hbt]; rfl⟩
  rw [hn]
  have d1 : (0 : Int) < ((n + 1 : Nat) : Int) := by omega
  rw [hm] at c4 hcp
  have e1 : wrap64 (((F.head + m + 1 : Nat) : Int) - 1) = ((F.head + m : Nat) : Int) := by unfold wrap64; omega
  have e2 : (F.head : Int) <= ((F.head + m : Nat) : Int) := by omega
  have e3 : ((F.head + m : Nat) : Int) <= (cp : Int) := by omega
  have e4 : ¬ cp = F.head := by omega
  have e5 : F.head + m - F.head = m := by omega
  have hmb : m <= 2199023255552 := by omega
  have hhb : F.head <= 2199023255552 := by omega
  clear hx hh hok hv hl hl2 hc hbt hn hd hkl q1 q2
  obtain ⟨i0, hi, hz0, hz1, hz2⟩ := info_parts Tryz.info5
  have hnews : ∀ j u, (d.map b8)[j]? = some u -> w.cell? ((⟨kg, F.head, none⟩ : Addr).add j) = some u := by
    intro j u hu
    rw [List.getElem?_map, Option.map_eq_some_iff] at hu
    obtain ⟨y, hj, rfl⟩ := hu
    rw [Addr.add_mid]
    exact hrow j y hj
  have hone : ∀ u ∈ d.map b8, u.oneCell' = true := by
    intro u hu
    obtain ⟨y, _, rfl⟩ := List.mem_map.1 hu
    rfl
  clear hrow
  have gd := gb_drew (gb_refl w none)
  have e6 : IntKind.i64.wrap (F.head : Int) = F.head := by rw [IntKind.wrap_i64]; omega
  have e7 : IntKind.i64.wrap ((F.head : Int) + (m : Int)) = (F.head : Int) + m := by rw [IntKind.wrap_i64]; omega
  have f0 : F.head <= cp := by omega
  have f1 : (0 : Int) <= (F.head : Int) + (m : Int) := by omega
  have f2 : (F.head : Int) + (m : Int) <= (cp : Int) := by omega
  have f3 : F.head <= F.head + m := by omega
  have e8 : ((F.head : Int) + (m : Int)).toNat = F.head + m := by omega
  rcases Nat.eq_zero_or_pos m with h0 | h0
  . have hd0 : d = [] := List.length_eq_zero_iff.1 (by omega)
    subst h0 hd0
    have hend0 := hend w.drew (.slice none 0 0) gd (World.ownsRow_nil _ _ _ _) (fun k hk => by simp [Value.ownBlock] at hk) (fun _ => rfl)
    clear hend
    go_enter Tryz.func188, Tryz.ntmps188
    go_wp2
    go_region_law (refine step_nothing (by rfl) _ _ (by rfl) ⟨kg, F.head, none⟩ (cp - F.head) (by rfl) (by rfl) ?_)
    all_goals go_wp2
    all_goals go_ret2
    all_goals exact hend0
  . go_enter Tryz.func188, Tryz.ntmps188
    go_wp2
    go_region_law (refine step_append_lies _ (by rfl) _ _ 38 (by rfl) 0 5 i0 _ 1 1 Tryz.underlying38 hi hz0 hz1 hz2 rfl (by omega) (.slice none 0 0) 0 [] (by rfl) (World.ownsRow_nil _ _ _ _) ⟨kg, F.head, none⟩ m (cp - F.head) (d.map b8) (by rfl) (by simp [hdl]) hnews hone (by omega) (by unfold maxLen; omega) (by omega) (Nat.zero_le _) _ rfl ?_; intro g4 cap4 w4 r4 gg4 a4 lt4; (have g4w : w.grownBy w4 none := gb_trans gd gg4); (have b4 := hbx.kept g4w (by simp)); (obtain ⟨y13, k13⟩ : ∃ u, w4.cell? ⟨fb, 13, none⟩ = some u := ⟨_, b4.cell 13⟩); (have x13 := b4.fz 13))
    all_goals go_wp2
    all_goals go_ret2
    all_goals rw [Nat.zero_add, List.nil_append] at r4
    all_goals refine hend w4 (.slice (some ⟨g4, 0, none⟩) m cap4) g4w (by rw [hdl]; exact r4) (fun k hk => ?_) (fun e => by rw [e] at hdl; simp at hdl; omega)
    all_goals
      simp [Value.ownBlock] at hk
      subst hk
      rcases a4 with a4 | a4
      . simp [Value.ownBlock] at a4
      . rw [a4]; exact Nat.le_refl _
end Go.Proofs.YtobegepebochkaaGreatDoor
