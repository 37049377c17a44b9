import Derived.Test.YtobegepebochkaaGreatDoorRPaq
import Derived.Test.YtobegepebochkaaGreatDoorRPao
import Derived.Test.YtobegepebochkaaGreatDoorRPap
import Derived.Deep.LoopGhost
import Derived.Deep.CutRange
set_option linter.unusedVariables false
set_option linter.unusedSimpArgs false
set_option maxRecDepth 100000
set_option maxHeartbeats 16000000
namespace Go.Proofs.YtobegepebochkaaGreatDoor
open Go.RowKit Go.Maps
theorem By.len {w : World} {v : Value} {l : Bs} (h : By w v l) : l.length <= 1099511627776 := by
  rcases h with ⟨rfl, _⟩ | ⟨g, o, c, _, h1, h2, _⟩
  . simp
  . omega
theorem line_10 {w : World} {gb : Nat} (hG : GM w gb rowL) (hE : Er w) (v : Value) (l : Bs) (hB : By w v l) :
    Calls Tryz.prog 63 #[.map (some gb), v] w fun e w' => LnP l w e w' := by
  rcases Nat.lt_or_ge 2048 l.length with hl | hl
  . exact line_up gb v l hB tooLong (by rw [if_neg (by decide)]; simp only [lineS, hl, if_true]) (fun W hW => begin_long gb v l (hB.kept hW) hl)
  . have h1 : ¬ 2048 < l.length := by omega
    cases hs : spl [] l with
    | nil => exact line_up gb v l hB [] (by rw [if_pos rfl]; simp only [lineS, h1, if_false, hs]) (fun W hW => begin_none gb v l (hB.kept hW) hl hs)
    | cons x ws =>
      cases hr : rowS x with
      | none => exact line_up gb v l hB [] (by rw [if_pos rfl]; simp only [lineS, h1, if_false, hs, hr]) (fun W hW => begin_no (hG.kept hW (by simp)) v l (hB.kept hW) hl x ws hs hr)
      | some r => exact line_read hG hE v l hB hl x ws hs r hr
theorem Line_6 {w : World} (hE : Er w) (v : Value) (l : Bs) (hB : By w v l) :
    Calls Tryz.prog 15 #[v] w fun e w' => LnP l w e w' := by
  obtain ⟨W2, hW2⟩ : ∃ W2, (w.alloc (.cells (Z31 0 false) 41)).alloc (.cells #[.int .i64 0, .string ⟨#[]⟩, .int .i64 0] 43) = W2 := ⟨_, rfl⟩
  have q1 : Box W2 41 w.heap.size (Z31 0 false) := by rw [<- hW2]; exact (Box.new w 41 _).kept (gb_alloc (gb_refl _ none) _) (by simp)
  have q2 : Box W2 43 (w.heap.size + 1) #[.int .i64 0, .string ⟨#[]⟩, .int .i64 0] := by
    have := Box.new (w.alloc (.cells (Z31 0 false) 41)) 43 #[.int .i64 0, .string ⟨#[]⟩, .int .i64 0]
    simp only [World.size_alloc] at this
    rw [<- hW2]; exact this
  have q3 : w.grownBy W2 none := by rw [<- hW2]; exact gb_alloc (gb_alloc (gb_refl w none) _) _
  have h9 := rows_9 W2
  rw [show W2.heap.size = w.heap.size + 1 + 1 by rw [<- hW2]; simp] at h9
  have h10 := fun W gb (hG : GM W gb rowL) hE (hB : By W v l) => line_10 hG hE v l hB
  obtain ⟨a, c0, rfl⟩ := hB.shape
  subst hW2
  go_enter Tryz.func15, Tryz.ntmps15
  go_wp2_with (first | (go_at_call 62; go_must ((with_reducible refine h9.mono ?_); rintro e w3 ⟨rfl, hG3, hg3⟩; (have hgw3 := gb_trans q3 hg3))) | (go_at_call 63; go_must ((with_reducible refine (h10 _ _ hG3 (hE.kept hgw3) (hB.kept hgw3)).mono ?_); rintro e w4 ⟨hL, hg4⟩; (have hg24 := gb_trans hg3 hg4); (have y1 := q1.kept hg24 (by simp)); (have y2 := q2.kept hg24 (by simp)); (have hs3 := hg3.size); (have cc0 : w4.cell? ⟨w.heap.size, 0, none⟩ = some (.int .i64 0) := y1.cell 0); (have cf0 := y1.fz 0); (have cc1 : w4.cell? ⟨w.heap.size, 1, none⟩ = some (.slice none 0 0) := y1.cell 1); (have cf1 := y1.fz 1); (have cc2 : w4.cell? ⟨w.heap.size, 2, none⟩ = some (.int .u64 0) := y1.cell 2); (have cf2 := y1.fz 2); (have cc3 : w4.cell? ⟨w.heap.size, 3, none⟩ = some (.int .i64 0) := y1.cell 3); (have cf3 := y1.fz 3); (have cc4 : w4.cell? ⟨w.heap.size, 4, none⟩ = some (.int .u64 0) := y1.cell 4); (have cf4 := y1.fz 4); (have cc5 : w4.cell? ⟨w.heap.size, 5, none⟩ = some (.int .u64 0) := y1.cell 5); (have cf5 := y1.fz 5); (have cc6 : w4.cell? ⟨w.heap.size, 6, none⟩ = some (.slice none 0 0) := y1.cell 6); (have cf6 := y1.fz 6); (have cc7 : w4.cell? ⟨w.heap.size, 7, none⟩ = some (.bool false) := y1.cell 7); (have cf7 := y1.fz 7); (have cc8 : w4.cell? ⟨w.heap.size, 8, none⟩ = some (.bool false) := y1.cell 8); (have cf8 := y1.fz 8); (have cc9 : w4.cell? ⟨w.heap.size, 9, none⟩ = some (.slice none 0 0) := y1.cell 9); (have cf9 := y1.fz 9); (have cc10 : w4.cell? ⟨w.heap.size, 10, none⟩ = some (.string ⟨#[]⟩) := y1.cell 10); (have cf10 := y1.fz 10); (have ec0 : w4.cell? ⟨w.heap.size + 1, 0, none⟩ = some (.int .i64 0) := y2.cell 0); (have ef0 := y2.fz 0); (have ec1 : w4.cell? ⟨w.heap.size + 1, 1, none⟩ = some (.string ⟨#[]⟩) := y2.cell 1); (have ef1 := y2.fz 1); (have ec2 : w4.cell? ⟨w.heap.size + 1, 2, none⟩ = some (.int .i64 0) := y2.cell 2); (have ef2 := y2.fz 2); rcases hL with ⟨c, n, kv, mv, hl, rfl, kr, mr⟩ | ⟨k, t, p, hl, rfl⟩; obtain ⟨ka, kc, rfl, -, -, -, -⟩ := row_shape kr; obtain ⟨ma, mc, rfl, -, -, -, -⟩ := row_shape mr)))
  . obtain ⟨x1, gx1⟩ := box11 (v0 := (.int .i64 c.verb)) (v1 := (.slice ka c.keys.length kc)) (v2 := (.int .u64 c.flags)) (v3 := (.int .i64 c.exp)) (v4 := (.int .u64 c.tok)) (v5 := (.int .u64 c.del)) (v6 := (.slice none 0 0)) (v7 := (.bool c.nr)) (v8 := (.bool false)) (v9 := (.slice ma c.mt.length mc)) (v10 := (.string ⟨c.what.toArray⟩)) y1
    have hkr := row_kept kr gx1 (fun k hk e => by injection e with e; have := (World.ownsRow.lt kr k hk).1; simp at hs3; omega)
    have hmr := row_kept mr gx1 (fun k hk e => by injection e with e; have := (World.ownsRow.lt mr k hk).1; simp at hs3; omega)
    have x2 := y2.kept gx1 (by simp)
    generalize (((((((((((w4.setCell ⟨w.heap.size, 0, none⟩ (.int .i64 c.verb)).setCell ⟨w.heap.size, 1, none⟩ (.slice ka c.keys.length kc)).setCell ⟨w.heap.size, 2, none⟩ (.int .u64 c.flags)).setCell ⟨w.heap.size, 3, none⟩ (.int .i64 c.exp)).setCell ⟨w.heap.size, 4, none⟩ (.int .u64 c.tok)).setCell ⟨w.heap.size, 5, none⟩ (.int .u64 c.del)).setCell ⟨w.heap.size, 6, none⟩ (.slice none 0 0)).setCell ⟨w.heap.size, 7, none⟩ (.bool c.nr)).setCell ⟨w.heap.size, 8, none⟩ (.bool false)).setCell ⟨w.heap.size, 9, none⟩ (.slice ma c.mt.length mc)).setCell ⟨w.heap.size, 10, none⟩ (.string ⟨c.what.toArray⟩)) = S1 at x1 gx1 hkr hmr x2 ⊢
    obtain ⟨z2, gz2⟩ := box3 (v0 := .int .i64 0) (v1 := .string ⟨#[]⟩) (v2 := .int .i64 0) x2
    have z1 := x1.kept gz2 (by simp)
    have hkr2 := row_kept hkr gz2 (fun k hk e => by injection e with e; have := (World.ownsRow.lt kr k hk).1; simp at hs3; omega)
    have hmr2 := row_kept hmr gz2 (fun k hk e => by injection e with e; have := (World.ownsRow.lt mr k hk).1; simp at hs3; omega)
    refine ⟨rfl, _, res6 z1 z2 _ rfl rfl rfl, .inl ⟨c, n, .slice ka c.keys.length kc, .slice ma c.mt.length mc, hl, rfl, row_base hkr2 (by simp at hs3; omega), row_base hmr2 (by simp at hs3; omega)⟩, ?_⟩
    exact gb_mine (gb_mine (gb_trans hgw3 hg4) gx1 (by omega)) gz2 (by omega)
  . obtain ⟨x1, gx1⟩ := box11 (v0 := (.int .i64 0)) (v1 := (.slice none 0 0)) (v2 := (.int .u64 0)) (v3 := (.int .i64 0)) (v4 := (.int .u64 0)) (v5 := (.int .u64 0)) (v6 := (.slice none 0 0)) (v7 := (.bool false)) (v8 := (.bool false)) (v9 := (.slice none 0 0)) (v10 := (.string ⟨#[]⟩)) y1
    have x2 := y2.kept gx1 (by simp)
    generalize (((((((((((w4.setCell ⟨w.heap.size, 0, none⟩ (.int .i64 0)).setCell ⟨w.heap.size, 1, none⟩ (.slice none 0 0)).setCell ⟨w.heap.size, 2, none⟩ (.int .u64 0)).setCell ⟨w.heap.size, 3, none⟩ (.int .i64 0)).setCell ⟨w.heap.size, 4, none⟩ (.int .u64 0)).setCell ⟨w.heap.size, 5, none⟩ (.int .u64 0)).setCell ⟨w.heap.size, 6, none⟩ (.slice none 0 0)).setCell ⟨w.heap.size, 7, none⟩ (.bool false)).setCell ⟨w.heap.size, 8, none⟩ (.bool false)).setCell ⟨w.heap.size, 9, none⟩ (.slice none 0 0)).setCell ⟨w.heap.size, 10, none⟩ (.string ⟨#[]⟩)) = S1 at x1 gx1 x2 ⊢
    obtain ⟨z2, gz2⟩ := box3 (v0 := .int .i64 k) (v1 := .string ⟨t.toArray⟩) (v2 := .int .i64 p) x2
    have z1 := x1.kept gz2 (by simp)
    refine ⟨rfl, _, res6 z1 z2 _ rfl rfl rfl, .inr ⟨k, t, p, hl, rfl⟩, ?_⟩
    exact gb_mine (gb_mine (gb_trans hgw3 hg4) gx1 (by omega)) gz2 (by omega)
end Go.Proofs.YtobegepebochkaaGreatDoor
namespace Go.Proofs.YtobegepebochkaaGreatDoor
open Go.RowKit Go.Maps
theorem line_long {w : World} {fb : Nat} {F : Fd} {kv : Value} (h : IsF w fb F kv) (hok : F.Ok) {v : Value} {l : Bs} (hv : Ck w (XF fb kv) v l) (hl : 0 < l.length) (hl2 : l.length <= 1099511627776) (ht : F.taken <= 2199023255552) (hst : F.st = 0) (p : Bs) (hpt : l.take (2050 - F.kept.length) = p) (hp : (10 : UInt8) ∉ p) (hE : Er w) (hX : ¬ XF fb kv 2 /\ ¬ XF fb kv 3) (hsm : 2048 < (trim (F.kept ++ p)).length) :
    Calls Tryz.prog 89 #[.pointer (some ⟨fb, 0, none⟩), v] w fun e w' => StP F l w fb kv e w' := by
  obtain ⟨g, o, c, rfl, hc1, -, -, hc⟩ := hv.by hl
  obtain ⟨hd, lf, ck, cd, cm, hx, hh, -⟩ := h
  obtain ⟨ql, -⟩ := hok.line hst
  have hsh := hok.short hst
  obtain ⟨ao, cp, ekv, -, -, -, -⟩ := row_shape hx.kept
  have c4 : w.cell? ⟨fb, 4, none⟩ = some (.slice ao F.kept.length cp) := by rw [<- ekv]; exact hx.box.cell 4
  obtain ⟨u, hu⟩ : ∃ u, min l.length (2050 - F.kept.length) = u := ⟨_, rfl⟩
  have hu1 : u <= l.length := by omega
  have hch : l.take u = p := by rw [<- hpt, <- hu, Nat.min_comm, List.take_eq_take_min (i := 2050 - F.kept.length)]
  have hul : p.length = u := by rw [<- hch, List.length_take]; omega
  have hix : Lib.indexByte p 10 = -1 := by
    rcases indexByte_spec 10 p with ⟨h3, _⟩ | ⟨p', t', h3, _, _⟩
    . exact h3
    . exact absurd (by rw [h3]; simp) hp
  have h118 := ix_118 w g o c p (fun i x hi => by
    rw [<- hch, List.getElem?_take] at hi
    split at hi
    . exact hc i x hi
    . cases hi)
  rw [hix, hul] at h118
  have hkl : F.kept.length <= 4398046511104 := by omega
  have h135 := keep_135 hx.box hx.kept (hv.take u hu1) (by rw [hch]; omega) (by rw [hch]; omega) hkl
  rw [hch] at h135
  have hrun := run_line p hst hsh hp (by omega)
  rw [if_pos hsm] at hrun
  have hend : ∀ w4 g' cap w7 w8, Box w4 136 fb (fdA fb (F.put p) (.slice (some ⟨g', 0, none⟩) (F.kept.length + p.length) cap) hd lf ck cd cm) -> Kp (XF fb kv) w w4 -> (kv.ownBlock = some g' \/ w.heap.size <= g') -> w4.grownBy w7 none -> Box w8 136 fb (fdA fb ((F.put p).pass (stpW 2 tooLong (-1)) 0) (.slice none 0 0) hd 0 (.slice none 0 0) (.slice none 0 0) (.slice none 0 0)) -> w7.grownBy w8 (some fb) -> StP F l w fb kv (.returned (.tuple #[.int .i64 (u : Int), .bool false])) w8 := by
    intro w4 g' cap w7 w8 b4 k4 a4 g7 b8 g8
    refine ⟨u, false, (F.put p).pass (stpW 2 tooLong (-1)) 0, _, rfl, hu1, ⟨hd, 0, _, _, _, isf_nil b8 rfl rfl rfl rfl, fun e => by simp [Fd.pass] at e, fun _ => rfl⟩, ?_, fun k hk => by simp [Value.ownBlock] at hk, fun e => by omega, rfl, rfl, fun _ => ?_, (fun e => by cases e), Kn.nil b8, ?_⟩
    . exact (k4.trans (Kp.of (F := fun _ => False) g7) (fun i hi => hi) (fun i hi => hi.elim)).trans (gb_kp (kv := .slice none 0 0) g8) (fun i hi => hi) (fun i hi => by
        rcases hi with rfl | hi
        . exact .inl (.inl rfl)
        . simp [Value.ownBlock] at hi)
    . have h3 := ok_run p hok
      rw [hrun, hul] at h3
      exact h3
    . refine run_cut_no ?_
      rw [hch, hrun, hul]
      rfl
  have hmid : ∀ w4 g' cap, Box w4 136 fb (fdA fb (F.put p) (.slice (some ⟨g', 0, none⟩) (F.kept.length + p.length) cap) hd lf ck cd cm) -> w4.ownsRow 0 5 1 (.slice (some ⟨g', 0, none⟩) (F.kept.length + p.length) cap) (F.kept.length + p.length) (F.kept.map b8 ++ p.map b8) -> Kp (XF fb kv) w w4 -> (kv.ownBlock = some g' \/ w.heap.size <= g') -> Calls Tryz.prog 137 #[.slice (some ⟨g', 0, none⟩) (F.kept.length + p.length) cap] w4 fun e w' => e = .returned (.bool true) /\ w4.grownBy w' none := by
    intro w4 g' cap b4 r4 k4 a4
    have hx4 := isf_keep hx b4 r4 k4 a4
    obtain ⟨q1, q2⟩ := kept_by hx4 rfl
    obtain ⟨_, _, e, _, q3, _, _⟩ := row_shape r4
    injection e with _ _ e
    have q4 : (F.put p).kept.length = F.kept.length + p.length := by show (F.kept ++ p).length = _; simp
    have h7 := long_137 (w := w4) (g := g') (o := 0) (c := cap) (l := (F.put p).kept) (by omega) (by omega) q1 q2
    rw [q4] at h7
    have e2 : decide (2048 < (trim (F.put p).kept).length) = true := decide_eq_true hsm
    rw [e2] at h7
    exact h7
  have h15 : ∀ w4 g' cap w5, Box w4 136 fb (fdA fb (F.put p) (.slice (some ⟨g', 0, none⟩) (F.kept.length + p.length) cap) hd lf ck cd cm) -> w4.ownsRow 0 5 1 (.slice (some ⟨g', 0, none⟩) (F.kept.length + p.length) cap) (F.kept.length + p.length) (F.kept.map b8 ++ p.map b8) -> Kp (XF fb kv) w w4 -> (kv.ownBlock = some g' \/ w.heap.size <= g') -> w4.grownBy w5 none -> Calls Tryz.prog 15 #[.slice (some ⟨g', 0, none⟩) (F.kept.length + p.length) cap] w5 fun e w' => e = .returned (.tuple #[.agg (Z31 0 false), .int .i64 (-1), .agg #[.int .i64 2, sv tooLong, .int .i64 (-1)]]) /\ w5.grownBy w' none := by
    intro w4 g' cap w5 b4 r4 k4 a4 g5
    have hx4 := isf_keep hx b4 r4 k4 a4
    obtain ⟨q1, q2⟩ := kept_by hx4 rfl
    have q4 : (F.put p).kept.length = F.kept.length + p.length := by show (F.kept ++ p).length = _; simp
    have hB : By w5 (.slice (some ⟨g', 0, none⟩) (F.kept.length + p.length) cap) (F.put p).kept := .inr ⟨g', 0, cap, by rw [q4], by rw [q4]; omega, Nat.lt_of_lt_of_le q1 g5.size, fun i x hi => gb_cellN g5 (q2 i x hi)⟩
    refine (Line_6 ((hE.kp k4 hX.1 hX.2).kept g5) _ _ hB).mono ?_
    rintro e w' ⟨hL, hg⟩
    have hlong : lineS (F.put p).kept = .inr (2, tooLong, -1) := lineS_long (Nat.lt_of_lt_of_le hsm (trim_len _).2)
    rcases hL with ⟨c', n', kv', mv', hl', _⟩ | ⟨k', t', p', hl', rfl⟩
    . rw [hlong] at hl'; cases hl'
    . rw [hlong] at hl'
      injection hl' with hl'
      injection hl' with h1 h2
      injection h2 with h2 h3
      subst h1 h2 h3
      exact ⟨rfl, hg⟩
  have h138 : ∀ W kv' hd lf ck cd cm, Box W 136 fb (fdA fb (F.put p) kv' hd lf ck cd cm) -> Calls Tryz.prog 138 #[.pointer (some ⟨fb, 0, none⟩), .agg #[.int .i64 0, .slice none 0 0, .int .u64 0, .int .i64 0, .int .u64 0, .int .u64 0, .slice none 0 0, .bool false, .bool false, .slice none 0 0, .string ⟨#[]⟩, .int .i64 2, sv tooLong, .int .i64 (-1), .int .i64 0, .int .i64 0], .int .i64 0] W fun e w' => e = .returned (.tuple #[]) /\ Box w' 136 fb (fdA fb ((F.put p).pass (stpW 2 tooLong (-1)) 0) (.slice none 0 0) hd 0 (.slice none 0 0) (.slice none 0 0) (.slice none 0 0)) /\ W.grownBy w' (some fb) :=
    fun W kv' hd lf ck cd cm hb => pass_138 hb (stpW 2 tooLong (-1)) (ka := none) (kn := 0) (kc := 0) (da := none) (dn := 0) (dc := 0) (ma := none) (mn := 0) (mc := 0) 0
  rw [hul] at h135 hend hmid h15
  have d1 : min (l.length : Int) (2050 - (F.kept.length : Int)) = (u : Int) := by omega
  have d2 : (u : Int) <= (c : Int) := by omega
  clear hx hh hok hv hl hl2 hc hch hul hpt hp hix hkl hsh hu ekv hsm hrun hE hX
  go_enter Tryz.func89, Tryz.ntmps89
  go_wp2_with (first | (go_at_call 118; go_must ((with_reducible refine h118.mono ?_); rintro e w4 ⟨rfl, rfl⟩)) | (go_at_call 135; go_must ((with_reducible refine h135.mono ?_); rintro e w4 ⟨rfl, g', cap, b4, r4, k4, a4⟩; (have q4 : w4.cell? ⟨fb, 4, none⟩ = some (.slice (some ⟨g', 0, none⟩) (F.kept.length + u) cap) := b4.cell 4))) | (go_at_call 137; go_must ((with_reducible refine (hmid _ _ _ b4 r4 k4 a4).mono ?_); rintro e w5 ⟨rfl, g5⟩; (have q5 := gb_cellN g5 q4))) | (go_at_call 15; go_must ((with_reducible refine (h15 _ _ _ _ b4 r4 k4 a4 g5).mono ?_); rintro e w6 ⟨rfl, g6⟩; (have b6 := b4.kept (gb_trans g5 g6) (by simp)))) | (go_at_call 138; go_must ((with_reducible refine (h138 _ _ _ _ _ _ _ (b6.kept (gb_alloc (gb_alloc (gb_refl w6 none) _) _) (by simp))).mono ?_); rintro e w8 ⟨rfl, b8, g8⟩)))
  go_ret2
  exact hend _ _ _ _ _ b4 k4 a4 (gb_trans (gb_trans g5 g6) (gb_alloc (gb_alloc (gb_refl w6 none) _) _)) b8 g8
end Go.Proofs.YtobegepebochkaaGreatDoor
namespace Go.Proofs.YtobegepebochkaaGreatDoor
open Go.RowKit Go.Maps
def Rd136 (fb : Nat) : Prop := ∀ (G : Fd) (w4 : World) (kv4 : Value), IsF w4 fb G kv4 -> G.st = 0 -> Er w4 -> G.kept.length <= 2050 -> (∃ q, G.kept = q ++ [10]) -> (∃ g n c, kv4 = .slice (some ⟨g, 0, none⟩) n c) -> Calls Tryz.prog 136 #[.pointer (some ⟨fb, 0, none⟩)] w4 fun e w' => RdF G w4 fb kv4 e w'
theorem state_any {w : World} {fb : Nat} {F : Fd} {kv : Value} (h : IsF w fb F kv) (hok : F.Ok) {v : Value} {l : Bs} (hv : Ck w (XF fb kv) v l) (hl : 0 < l.length) (hl2 : l.length <= 1099511627776) (ht : F.taken <= 2199023255552) (hE : Er w) (hX : ¬ XF fb kv 2 /\ ¬ XF fb kv 3) (h136 : Rd136 fb) :
    Calls Tryz.prog (stF F.st) #[.pointer (some ⟨fb, 0, none⟩), v] w fun e w' => StP F l w fb kv e w' := by
  obtain ⟨b, t, hbt⟩ : ∃ b t, l = b :: t := by
    cases l with
    | nil => simp at hl
    | cons b t => exact ⟨b, t, rfl⟩
  have h5 := hok.st
  have hc : F.st = 0 \/ F.st = 1 \/ F.st = 2 \/ F.st = 3 \/ F.st = 4 \/ F.st = 5 := by omega
  rcases hc with e | e | e | e | e | e
  . have e' : stF F.st = 89 := by rw [e]; rfl
    rw [e']
    obtain ⟨ql, -⟩ := hok.line e
    rcases indexByte_spec 10 (l.take (2050 - F.kept.length)) with ⟨-, h4⟩ | ⟨p, t', h3, h4, -⟩
    . by_cases hs : 2048 < (trim (F.kept ++ l.take (2050 - F.kept.length))).length
      . exact line_long h hok hv hl hl2 ht e _ rfl h4 hE hX hs
      . exact line_short h hok hv hl hl2 ht e _ rfl h4 hs
    . refine line_end h hok hv hl hl2 ht e hE hX p t' h3 h4 (fun w4 kv4 hi hE4 hs4 => h136 _ _ _ hi e hE4 ?_ ⟨F.kept ++ p, by simp [Fd.put]⟩ hs4)
      have h6 : (p ++ 10 :: t').length <= 2050 - F.kept.length := by rw [<- h3, List.length_take]; omega
      show (F.kept ++ (p ++ [10])).length <= 2050
      simp at h6 ⊢
      omega
  . have e' : stF F.st = 171 := by rw [e]; rfl
    rw [e']
    exact block_st h hok hv hl hl2 ht e
  . have e' : stF F.st = 172 := by rw [e]; rfl
    rw [e']
    by_cases hb : b = 13
    . subst hb; exact behind_yes h hok hv hl hl2 ht e t hbt
    . exact behind_no h hok hv hl hl2 ht e b t hbt hb
  . have e' : stF F.st = 188 := by rw [e]; rfl
    rw [e']
    by_cases hb : b = 10
    . subst hb; exact last_yes h hok hv hl hl2 ht e t hbt
    . exact last_no h hok hv hl hl2 ht e b t hbt hb
  . have e' : stF F.st = 158 := by rw [e]; rfl
    rw [e']
    rcases Nat.eq_zero_or_pos F.left with h0 | h0
    . exact skip_end h hok hv hl hl2 ht e h0
    . exact skip_left h hok hv hl hl2 ht e h0
  . have e' : stF F.st = 140 := by rw [e]; rfl
    rw [e']
    exact over_st h hok hv hl hl2 ht e
end Go.Proofs.YtobegepebochkaaGreatDoor
namespace Go.Proofs.YtobegepebochkaaGreatDoor
open Go.RowKit Go.Maps
theorem Tryz.info86b : (Tryz.prog.info? 86).map (fun i => (i.zero, i.size, i.bytes)) = some (some (.agg Z86), 16, 184) := by kernel_rfl
theorem call_st (st : Nat) (args : Array Value) (w : World) : Sem.run Tryz.prog (callFunc (stF st) args) w = .ok (.enter (stF st) args) w := by
  unfold stF
  repeat' split
  all_goals go_simp
section
variable {w : World} {ops : Array Oper} {rest : List Oper} {o : Oper} {a : Act} {Q : Exit -> Act -> World -> Prop}
theorem push86 (hgd : o.guard = none) (s x : Operand) (ho : o.op = .call { callee := .builtin .append, args := #[s, x], argTypes := #[57, 57] })
    (B : Nat) (v : Value) (n : Nat) (xs : List Value) (hs : a.eval s = v) (hown : w.ownsRow B 86 16 v n xs) (us : List Value) (hul : us.length = 16) (hu : ∀ u ∈ us, u.oneCell' = true) (hx : a.eval x = .slice (some ⟨w.heap.size, 0, none⟩) 1 1) (hn : n <= 100000000000) (hB : B <= w.heap.size)
    (h : ∀ g cap w', w'.ownsRow B 86 16 (.slice (some ⟨g, 0, none⟩) (n + 1) cap) (n + 1) (xs ++ us) -> w.grownBy w' v.ownBlock -> (v.ownBlock = some g \/ w.heap.size <= g) -> wpList Tryz.prog ops Q rest (a.put o.dst (.slice (some ⟨g, 0, none⟩) (n + 1) cap)) w') : wpList Tryz.prog ops Q (o :: rest) a (w.alloc (.cells us.toArray 86)) := by
  obtain ⟨i0, hi, hz0, hz1, hz2⟩ := info_parts Tryz.info86b
  exact wpList_pushN hgd s x 57 ho 86 i0 _ 16 184 Tryz.underlying57 hi hz0 hz1 hz2 rfl (by omega) (by omega) B v n xs hs hown us hul hu hx hn hB h
end
theorem feed_45 {w : World} {fb : Nat} {F : Fd} {kv : Value} (h : IsF w fb F kv) (hok : F.Ok) {v : Value} {l : Bs} (hv : Ck w (XF fb kv) v l) (hl2 : l.length <= 34359738368) (ht : F.taken + l.length <= 2199023255552) (hE : Er w) (hX : ¬ XF fb kv 2 /\ ¬ XF fb kv 3) (h136 : Rd136 fb) :
    Calls Tryz.prog 45 #[.pointer (some ⟨fb, 0, none⟩), v] w fun e w' => FdP F l w fb kv e w' := by
  have start := FdI.start h hok hv
  obtain ⟨va, vn, vc, rfl, -⟩ := hv.slice
  clear h hv hok
  go_enter Tryz.func45, Tryz.ntmps45
  go_wp2
  go_loopg [1, 5, 6, 7] (2 * l.length + 1) (fun gk x1 x5 x6 x7 wr => ∃ l1 F1 kv1 q, FdI F l w fb kv gk x1 x5 wr l1 F1 kv1 q)
  case atStart => exact ⟨l, F, kv, [], start⟩
  case round =>
    clear start
    obtain ⟨l1, F1, kv1, q, hI⟩ := hrel
    obtain ⟨ra, rc, hrv, -, -, -, -⟩ := row_shape hI.ss.row
    subst hrv
    obtain ⟨ca, cn, cc, hcv, hcn⟩ := hI.ck.slice
    subst hcv
    by_cases hl : l1 = []
    . have hE2 := hI.done hl
      have hcn0 : cn = 0 := by rw [hcn, hl]; rfl
      subst hcn0
      clear hI hl hcn h136 hE hX
      go_wp2
      go_ret
      exact hE2
    . have hl0 : 0 < l1.length := List.length_pos_iff.2 hl
      have hll := hI.ll
      have htk := hI.tk
      obtain ⟨hEr, hX1⟩ := hI.er hE hX
      have hS := state_any hI.isf hI.ok hI.ck hl0 (by omega) (by omega) hEr hX1 h136
      obtain ⟨g, o, c, ecv, hc1, hc2, -, -⟩ := hI.ck.by hl0
      injection ecv with ea en ec
      subst ea en ec
      have c23 : wr.cell? ⟨fb, 23, none⟩ = some (.func (.func (stF F1.st)) #[.pointer (some ⟨fb, 0, none⟩)] #[]) := by
        obtain ⟨_, _, _, _, _, hx, -, -⟩ := hI.isf
        exact hx.box.cell 23
      obtain ⟨N, hN⟩ : ∃ N, stF F1.st = N := ⟨_, rfl⟩
      have hcf := call_st F1.st
      rw [hN] at c23 hS hcf
      have t0 : (0 : Int) < (l1.length : Int) := by omega
      clear h136 hEr hX1 hN hE hX hcn hl
      go_upto_region 4 with (fail)
      refine hS.mono ?_
      rintro e w4 ⟨u, wh, F2, kv2, rfl, hu, i4, k4, o4, z4, t4, m4, ok4, nw4, n4, r4⟩
      go_upto_region 4 with (fail)
      obtain ⟨hd, lf, ck, cd, cm, hx4, hh4, hl4⟩ := i4
      obtain ⟨ka, kc, rfl, -, -, -, -⟩ := row_shape hx4.str.keys
      obtain ⟨da, dc, rfl, -, -, -, -⟩ := row_shape hx4.str.data
      obtain ⟨ma, mc, rfl, -, -, -, -⟩ := row_shape hx4.str.mt
      have d1 : w4.cell? ⟨fb, 1, none⟩ = some (.int .i64 F2.taken) := hx4.box.cell 1
      have z1 := hx4.box.fz 1
      obtain ⟨T, hT⟩ : ∃ T, F2.taken + u = T := ⟨_, rfl⟩
      have e1 : IntKind.i64.wrap ((F2.taken : Int) + (u : Int)) = (T : Int) := by rw [IntKind.wrap_i64]; omega
      have b5 : Box (w4.setCell ⟨fb, 1, none⟩ (.int .i64 (T : Int))) 136 fb (fdA fb (F2.tk u) kv2 hd lf (.slice ka F2.s.cmd.keys.length kc) (.slice da F2.s.data.length dc) (.slice ma F2.s.cmd.mt.length mc)) := by rw [<- hT]; exact hx4.box.set 1 _
      have g45 : w4.grownBy (w4.setCell ⟨fb, 1, none⟩ (.int .i64 (T : Int))) (some fb) := gb_setCell (gb_refl _ _) _
      have i5 : IsFx (w4.setCell ⟨fb, 1, none⟩ (.int .i64 (T : Int))) fb (F2.tk u) kv2 hd lf (.slice ka F2.s.cmd.keys.length kc) (.slice da F2.s.data.length dc) (.slice ma F2.s.cmd.mt.length mc) := isfx_kp hx4 (gb_kp g45) b5 rfl (row_kept hx4.kept g45 (row_box hx4.kept hx4.box (by decide))) (fun k hk => .inl hk)
      have cvA := hI.ck.drop u hu
      have ovA : ∀ g' o' n' c', Value.slice (some ⟨g, o + u, none⟩) (l1.length - u) (cc - u) = .slice (some ⟨g', o', none⟩) n' c' -> g' < w.heap.size := by
        intro g' o' n' c' e
        injection e with e
        injection e with e
        injection e with e
        subst e
        exact hI.old _ _ _ _ rfl
      have cvB : cc = u -> Ck wr (XF fb kv1) (.slice (some ⟨g, o, none⟩) (l1.length - u) 0) (l1.drop u) := fun e => hI.ck.dropB0 u hu e
      have ovB : ∀ g' o' n' c', Value.slice (some ⟨g, o, none⟩) (l1.length - u) 0 = .slice (some ⟨g', o', none⟩) n' c' -> g' < w.heap.size := by
        intro g' o' n' c' e
        injection e with e
        injection e with e
        injection e with e
        subst e
        exact hI.old _ _ _ _ rfl
      have b0 : u <= cc := by omega
      cases wh with
      | false =>
        have hno : ∀ v', Ck wr (XF fb kv1) v' (l1.drop u) -> (∀ g' o' n' c', v' = .slice (some ⟨g', o', none⟩) n' c' -> g' < w.heap.size) -> ∃ gk', gk' < gk /\ FdI F l w fb kv gk' v' (.slice ra q.length rc) (w4.setCell ⟨fb, 1, none⟩ (.int .i64 (T : Int))) (l1.drop u) (F2.tk u) kv2 q :=
          fun v' cv ov => FdI.no hI cv ov hu ⟨hd, lf, _, _, _, hx4, hh4, hl4⟩ k4 o4 z4 t4 (ok4 rfl) (by simpa using r4) g45 ⟨hd, lf, _, _, _, i5, hh4, hl4⟩
        clear r4 i5 hx4 hh4 hl4 k4 o4 z4 t4 ok4 nw4 n4 hI hS b5 g45 hT m4 htk
        go_wp2
        . obtain ⟨gk', hlt, hI'⟩ := hno _ (cvB (by assumption)) ovB
          go_roundg gk'
          case measure => exact hlt
          case rel => exact ⟨_, _, _, _, hI'⟩
        . obtain ⟨gk', hlt, hI'⟩ := hno _ cvA ovA
          go_roundg gk'
          case measure => exact hlt
          case rel => exact ⟨_, _, _, _, hI'⟩
      | true =>
        have hlm : F2.limit <= 9223372036854775807 := by rw [m4]; exact hI.ok.limit
        have row6 : ∀ w6, (w4.setCell ⟨fb, 1, none⟩ (.int .i64 (T : Int))).grownBy w6 (some fb) -> w6.ownsRow w.heap.size 86 16 (.slice ra q.length rc) q.length (q.flatMap tldL) := by
          intro w6 g6
          obtain ⟨_, _, _, _, _, hx, -, -⟩ := hI.isf
          exact row_kp hI.ss.row ((k4.step g45 (fun i hi => by injection hi with hi; exact .inl (.inl hi.symm))).step g6 (fun i hi => by injection hi with hi; exact .inl (.inl hi.symm))) (row_xf hI.ss.row (by decide) hx)
        have hql : q.length <= 100000000000 := by have := hI.ql; omega
        have hsz : ∀ w6, (w4.setCell ⟨fb, 1, none⟩ (.int .i64 (T : Int))).grownBy w6 (some fb) -> w.heap.size <= w6.heap.size := fun w6 g6 => Nat.le_trans hI.kp.size (Nat.le_trans k4.size (Nat.le_trans g45.size g6.size))
        have h93 := tell_93 b5
        have hyes : ∀ v', Ck wr (XF fb kv1) v' (l1.drop u) -> (∀ g' o' n' c', v' = .slice (some ⟨g', o', none⟩) n' c' -> g' < w.heap.size) -> ∀ w6 w7 g7 cap, (w4.setCell ⟨fb, 1, none⟩ (.int .i64 (T : Int))).grownBy w6 (some fb) -> Box w6 136 fb (fdA fb (F2.tk u).tell.1 (.slice none 0 0) hd lf (.slice none 0 0) (.slice none 0 0) (.slice none 0 0)) -> w7.ownsRow w.heap.size 86 16 (.slice (some ⟨g7, 0, none⟩) (q.length + 1) cap) (q.length + 1) (q.flatMap tldL ++ stpL ⟨(F2.tk u).s.cmd, (F2.tk u).s.data, (F2.tk u).s.large, (F2.tk u).s.wk, (F2.tk u).s.wt, (F2.tk u).s.wp, (F2.tk u).frm, (F2.tk u).taken⟩ (.slice ka F2.s.cmd.keys.length kc) (.slice da F2.s.data.length dc) (.slice ma F2.s.cmd.mt.length mc)) -> w6.grownBy w7 (Value.slice ra q.length rc).ownBlock -> ∃ gk' q', gk' < gk /\ FdI F l w fb kv gk' v' (.slice (some ⟨g7, 0, none⟩) (q.length + 1) cap) w7 (l1.drop u) (F2.tk u).tell.1 (.slice none 0 0) q' :=
          fun v' cv ov w6 w7 g7 cap h1 h2 h3 h4 => (FdI.yesq hI cv ov hu k4 o4 t4 hlm (by simpa using r4) g45 i5 h1 h2 h3 h4 (nw4 rfl _ (hx4.box.cell 13))).elim fun gk' h => ⟨gk', _, h⟩
        clear r4 i5 hx4 hh4 hl4 k4 o4 z4 t4 ok4 nw4 n4 hI hS b5 g45 m4 htk
        go_wp2_with (first | (go_at_call 93; go_must ((with_reducible refine h93.mono ?_); rintro e w6 ⟨rfl, b6, g6⟩; (have r6 := row6 _ g6); (have s6 := hsz _ g6))) | (at_builtin; go_must (refine push86 rfl _ _ rfl w.heap.size _ q.length _ (by rfl) r6 _ rfl (by simp [Value.oneCell']) (by rfl) hql s6 ?_); intro g7 cap w7 r7 g67 _))
        . obtain ⟨gk', q', hlt, hI'⟩ := hyes _ (cvB (by assumption)) ovB _ _ _ _ g6 b6 r7 g67
          go_roundg gk'
          case measure => exact hlt
          case rel => exact ⟨_, _, _, _, hI'⟩
        . obtain ⟨gk', q', hlt, hI'⟩ := hyes _ cvA ovA _ _ _ _ g6 b6 r7 g67
          go_roundg gk'
          case measure => exact hlt
          case rel => exact ⟨_, _, _, _, hI'⟩
end Go.Proofs.YtobegepebochkaaGreatDoor
