import Derived.Test.YtobegepebochkaaGreatDoorSPbo
import Derived.Test.YtobegepebochkaaGreatDoorSPay
import Derived.Test.YtobegepebochkaaGreatDoorSPbr
set_option linter.unusedVariables false
set_option linter.unusedSimpArgs false
namespace Go.Proofs.YtobegepebochkaaGreatDoor
open Go.RowKit Go.Maps
set_option maxRecDepth 100000 in
set_option maxHeartbeats 4000000 in
theorem line_short {w : World} {fb : Nat} {F : Fd} {kv : Value} (h : IsF w fb F kv) (hok : F.Ok) {v : Value} {l : Bs} (hv : Ck w (XF fb kv) v l) (hl : 0 < l.length) (hl2 : l.length ≤ 1099511627776) (ht : F.taken ≤ 2199023255552) (hst : F.st = 0) (p : Bs) (hpt : l.take (2050 - F.kept.length) = p) (hp : (10 : UInt8) ∉ p) (hsm : ¬ 2048 < (trim (F.kept ++ p)).length) :
    Calls Tryz.prog 89 #[.pointer (some ⟨fb, 0, none⟩), v] w fun e w' => StP F l w fb kv e w' := by
  obtain ⟨g, o, c, rfl, hc1, -, -, hc⟩ := hv.by hl
  obtain ⟨hd, lf, ck, cd, cm, hx, hh, -⟩ := h
  obtain ⟨ql, -⟩ := hok.line hst
  have hsh := hok.short hst
  obtain ⟨ao, cp, ekv, -, -, -, -⟩ := row_shape hx.kept
  have c4 : w.cell? ⟨fb, 4, none⟩ = some (.slice ao F.kept.length cp) := by rw [← ekv]; exact hx.box.cell 4
  obtain ⟨u, hu⟩ : ∃ u, min l.length (2050 - F.kept.length) = u := ⟨_, rfl⟩
  have hu1 : u ≤ l.length := by omega
  have hch : l.take u = p := by rw [← hpt, ← hu, Nat.min_comm, List.take_eq_take_min (i := 2050 - F.kept.length)]
  have hul : p.length = u := by rw [← hch, List.length_take]; omega
  have hix : Lib.indexByte p 10 = -1 := by
    rcases indexByte_spec 10 p with ⟨h3, _⟩ | ⟨p', t', h3, _, _⟩
    · exact h3
    · exact absurd (by rw [h3]; simp) hp
  have h118 := ix_118 w g o c p (fun i x hi => by
    rw [← hch, List.getElem?_take] at hi
    split at hi
    · exact hc i x hi
    · cases hi)
  rw [hix, hul] at h118
  have hkl : F.kept.length ≤ 4398046511104 := by omega
  have h135 := keep_135 hx.box hx.kept (hv.take u hu1) (by rw [hch]; omega) (by rw [hch]; omega) hkl
  rw [hch] at h135
  have hrun := run_line p hst hsh hp (by omega)
  rw [if_neg hsm] at hrun
  have hend : ∀ w4 g' cap w5, Box w4 136 fb (fdA fb (F.put p) (.slice (some ⟨g', 0, none⟩) (F.kept.length + p.length) cap) hd lf ck cd cm) → w4.ownsRow 0 5 1 (.slice (some ⟨g', 0, none⟩) (F.kept.length + p.length) cap) (F.kept.length + p.length) (F.kept.map b8 ++ p.map b8) → Kp (XF fb kv) w w4 → (kv.ownBlock = some g' ∨ w.heap.size ≤ g') → w4.grownBy w5 none → StP F l w fb kv (.returned (.tuple #[.int .i64 (u : Int), .bool false])) w5 := by
    intro w4 g' cap w5 b4 r4 k4 a4 g5
    have hx4 := isf_keep hx b4 r4 k4 a4
    have hx5 : IsFx w5 fb (F.put p) _ hd lf ck cd cm := isfx_kp hx4 (Kp.of g5) (b4.kept g5 (by simp)) rfl (row_kept hx4.kept g5 (by simp)) (fun k hk => .inl hk)
    have h0 : (F.put p).st = 0 := hst
    refine ⟨u, false, F.put p, _, rfl, hu1, ⟨hd, lf, ck, cd, cm, hx5, fun e => by omega, fun e => by omega⟩, k4.trans (Kp.of (F := fun _ => False) g5) (fun i hi => hi) (fun i hi => hi.elim), fun k hk => by simp [Value.ownBlock] at hk; subst hk; exact a4, fun e => by omega, rfl, rfl, fun _ => ?_, (fun e => by cases e), Kn.same hx.box hx5.box, ?_⟩
    · have h3 := ok_run p hok
      rw [hrun, hul] at h3
      exact h3
    · refine run_cut_no ?_
      rw [hch, hrun, hul]
      rfl
  have hmid : ∀ w4 g' cap, Box w4 136 fb (fdA fb (F.put p) (.slice (some ⟨g', 0, none⟩) (F.kept.length + p.length) cap) hd lf ck cd cm) → w4.ownsRow 0 5 1 (.slice (some ⟨g', 0, none⟩) (F.kept.length + p.length) cap) (F.kept.length + p.length) (F.kept.map b8 ++ p.map b8) → Kp (XF fb kv) w w4 → (kv.ownBlock = some g' ∨ w.heap.size ≤ g') → Calls Tryz.prog 137 #[.slice (some ⟨g', 0, none⟩) (F.kept.length + p.length) cap] w4 fun e w' => e = .returned (.bool false) ∧ w4.grownBy w' none := by
    intro w4 g' cap b4 r4 k4 a4
    have hx4 := isf_keep hx b4 r4 k4 a4
    obtain ⟨q1, q2⟩ := kept_by hx4 rfl
    obtain ⟨_, _, e, _, q3, _, _⟩ := row_shape r4
    injection e with _ _ e
    have q4 : (F.put p).kept.length = F.kept.length + p.length := by show (F.kept ++ p).length = _; simp
    have h7 := long_137 (w := w4) (g := g') (o := 0) (c := cap) (l := (F.put p).kept) (by omega) (by omega) q1 q2
    rw [q4] at h7
    have e2 : decide (2048 < (trim (F.put p).kept).length) = false := decide_eq_false hsm
    rw [e2] at h7
    exact h7
  rw [hul] at h135 hend hmid
  have d1 : min (l.length : Int) (2050 - (F.kept.length : Int)) = (u : Int) := by omega
  have d2 : (u : Int) ≤ (c : Int) := by omega
  clear hx hh hok hv hl hl2 hc hch hul hpt hp hix hkl hsh hu ekv hsm hrun
  go_enter Tryz.func89, Tryz.ntmps89
  go_wp2_with (first | (go_at_call 118; go_must ((with_reducible refine h118.mono ?_); rintro e w4 ⟨rfl, rfl⟩)) | (go_at_call 135; go_must ((with_reducible refine h135.mono ?_); rintro e w4 ⟨rfl, g', cap, b4, r4, k4, a4⟩; (have q4 : w4.cell? ⟨fb, 4, none⟩ = some (.slice (some ⟨g', 0, none⟩) (F.kept.length + u) cap) := b4.cell 4))) | (go_at_call 137; go_must ((with_reducible refine (hmid _ _ _ b4 r4 k4 a4).mono ?_); rintro e w5 ⟨rfl, g5⟩)))
  go_ret2
  exact hend _ _ _ _ b4 r4 k4 a4 g5
end Go.Proofs.YtobegepebochkaaGreatDoor
namespace Go.Proofs.YtobegepebochkaaGreatDoor
open Go.RowKit Go.Maps
set_option maxRecDepth 100000 in
set_option maxHeartbeats 4000000 in
theorem line_long {w : World} {fb : Nat} {F : Fd} {kv : Value} (h : IsF w fb F kv) (hok : F.Ok) {v : Value} {l : Bs} (hv : Ck w (XF fb kv) v l) (hl : 0 < l.length) (hl2 : l.length ≤ 1099511627776) (ht : F.taken ≤ 2199023255552) (hst : F.st = 0) (p : Bs) (hpt : l.take (2050 - F.kept.length) = p) (hp : (10 : UInt8) ∉ p) (hE : Er w) (hX : ¬ XF fb kv 2 ∧ ¬ XF fb kv 3) (hsm : 2048 < (trim (F.kept ++ p)).length) :
    Calls Tryz.prog 89 #[.pointer (some ⟨fb, 0, none⟩), v] w fun e w' => StP F l w fb kv e w' := by
  obtain ⟨g, o, c, rfl, hc1, -, -, hc⟩ := hv.by hl
  obtain ⟨hd, lf, ck, cd, cm, hx, hh, -⟩ := h
  obtain ⟨ql, -⟩ := hok.line hst
  have hsh := hok.short hst
  obtain ⟨ao, cp, ekv, -, -, -, -⟩ := row_shape hx.kept
  have c4 : w.cell? ⟨fb, 4, none⟩ = some (.slice ao F.kept.length cp) := by rw [← ekv]; exact hx.box.cell 4
  obtain ⟨u, hu⟩ : ∃ u, min l.length (2050 - F.kept.length) = u := ⟨_, rfl⟩
  have hu1 : u ≤ l.length := by omega
  have hch : l.take u = p := by rw [← hpt, ← hu, Nat.min_comm, List.take_eq_take_min (i := 2050 - F.kept.length)]
  have hul : p.length = u := by rw [← hch, List.length_take]; omega
  have hix : Lib.indexByte p 10 = -1 := by
    rcases indexByte_spec 10 p with ⟨h3, _⟩ | ⟨p', t', h3, _, _⟩
    · exact h3
    · exact absurd (by rw [h3]; simp) hp
  have h118 := ix_118 w g o c p (fun i x hi => by
    rw [← hch, List.getElem?_take] at hi
    split at hi
    · exact hc i x hi
    · cases hi)
  rw [hix, hul] at h118
  have hkl : F.kept.length ≤ 4398046511104 := by omega
  have h135 := keep_135 hx.box hx.kept (hv.take u hu1) (by rw [hch]; omega) (by rw [hch]; omega) hkl
  rw [hch] at h135
  have hrun := run_line p hst hsh hp (by omega)
  rw [if_pos hsm] at hrun
  have hend : ∀ w4 g' cap w7 w8, Box w4 136 fb (fdA fb (F.put p) (.slice (some ⟨g', 0, none⟩) (F.kept.length + p.length) cap) hd lf ck cd cm) → Kp (XF fb kv) w w4 → (kv.ownBlock = some g' ∨ w.heap.size ≤ g') → w4.grownBy w7 none → Box w8 136 fb (fdA fb ((F.put p).pass (stpW 2 tooLong (-1)) 0) (.slice none 0 0) hd 0 (.slice none 0 0) (.slice none 0 0) (.slice none 0 0)) → w7.grownBy w8 (some fb) → StP F l w fb kv (.returned (.tuple #[.int .i64 (u : Int), .bool false])) w8 := by
    intro w4 g' cap w7 w8 b4 k4 a4 g7 b8 g8
    refine ⟨u, false, (F.put p).pass (stpW 2 tooLong (-1)) 0, _, rfl, hu1, ⟨hd, 0, _, _, _, isf_nil b8 rfl rfl rfl rfl, fun e => by simp [Fd.pass] at e, fun _ => rfl⟩, ?_, fun k hk => by simp [Value.ownBlock] at hk, fun e => by omega, rfl, rfl, fun _ => ?_, (fun e => by cases e), Kn.nil b8, ?_⟩
    · exact (k4.trans (Kp.of (F := fun _ => False) g7) (fun i hi => hi) (fun i hi => hi.elim)).trans (gb_kp (kv := .slice none 0 0) g8) (fun i hi => hi) (fun i hi => by
        rcases hi with rfl | hi
        · exact .inl (.inl rfl)
        · simp [Value.ownBlock] at hi)
    · have h3 := ok_run p hok
      rw [hrun, hul] at h3
      exact h3
    · refine run_cut_no ?_
      rw [hch, hrun, hul]
      rfl
  have hmid : ∀ w4 g' cap, Box w4 136 fb (fdA fb (F.put p) (.slice (some ⟨g', 0, none⟩) (F.kept.length + p.length) cap) hd lf ck cd cm) → w4.ownsRow 0 5 1 (.slice (some ⟨g', 0, none⟩) (F.kept.length + p.length) cap) (F.kept.length + p.length) (F.kept.map b8 ++ p.map b8) → Kp (XF fb kv) w w4 → (kv.ownBlock = some g' ∨ w.heap.size ≤ g') → Calls Tryz.prog 137 #[.slice (some ⟨g', 0, none⟩) (F.kept.length + p.length) cap] w4 fun e w' => e = .returned (.bool true) ∧ w4.grownBy w' none := by
    intro w4 g' cap b4 r4 k4 a4
    have hx4 := isf_keep hx b4 r4 k4 a4
    obtain ⟨q1, q2⟩ := kept_by hx4 rfl
    obtain ⟨_, _, e, _, q3, _, _⟩ := row_shape r4
    injection e with _ _ e
    have q4 : (F.put p).kept.length = F.kept.length + p.length := by show (F.kept ++ p).length = _; simp
    have h7 := long_137 (w := w4) (g := g') (o := 0) (c := cap) (l := (F.put p).kept) (by omega) (by omega) q1 q2
    rw [q4] at h7
    have e2 : decide (2048 < (trim (F.put p).kept).length) = true := decide_eq_true hsm
    rw [e2] at h7
    exact h7
  have h15 : ∀ w4 g' cap w5, Box w4 136 fb (fdA fb (F.put p) (.slice (some ⟨g', 0, none⟩) (F.kept.length + p.length) cap) hd lf ck cd cm) → w4.ownsRow 0 5 1 (.slice (some ⟨g', 0, none⟩) (F.kept.length + p.length) cap) (F.kept.length + p.length) (F.kept.map b8 ++ p.map b8) → Kp (XF fb kv) w w4 → (kv.ownBlock = some g' ∨ w.heap.size ≤ g') → w4.grownBy w5 none → Calls Tryz.prog 15 #[.slice (some ⟨g', 0, none⟩) (F.kept.length + p.length) cap] w5 fun e w' => e = .returned (.tuple #[.agg (Z31 0 false), .int .i64 (-1), .agg #[.int .i64 2, sv tooLong, .int .i64 (-1)]]) ∧ w5.grownBy w' none := by
    intro w4 g' cap w5 b4 r4 k4 a4 g5
    have hx4 := isf_keep hx b4 r4 k4 a4
    obtain ⟨q1, q2⟩ := kept_by hx4 rfl
    have q4 : (F.put p).kept.length = F.kept.length + p.length := by show (F.kept ++ p).length = _; simp
    have hB : By w5 (.slice (some ⟨g', 0, none⟩) (F.kept.length + p.length) cap) (F.put p).kept := .inr ⟨g', 0, cap, by rw [q4], by rw [q4]; omega, Nat.lt_of_lt_of_le q1 g5.size, fun i x hi => gb_cellN g5 (q2 i x hi)⟩
    refine (Line_6 ((hE.kp k4 hX.1 hX.2).kept g5) _ _ hB).mono ?_
    rintro e w' ⟨hL, hg⟩
    have hlong : lineS (F.put p).kept = .inr (2, tooLong, -1) := lineS_long (Nat.lt_of_lt_of_le hsm (trim_len _).2)
    rcases hL with ⟨c', n', kv', mv', hl', _⟩ | ⟨k', t', p', hl', rfl⟩
    · rw [hlong] at hl'; cases hl'
    · rw [hlong] at hl'
      injection hl' with hl'
      injection hl' with h1 h2
      injection h2 with h2 h3
      subst h1 h2 h3
      exact ⟨rfl, hg⟩
  have h138 : ∀ W kv' hd lf ck cd cm, Box W 136 fb (fdA fb (F.put p) kv' hd lf ck cd cm) → Calls Tryz.prog 138 #[.pointer (some ⟨fb, 0, none⟩), .agg #[.int .i64 0, .slice none 0 0, .int .u64 0, .int .i64 0, .int .u64 0, .int .u64 0, .slice none 0 0, .bool false, .bool false, .slice none 0 0, .string ⟨#[]⟩, .int .i64 2, sv tooLong, .int .i64 (-1), .int .i64 0, .int .i64 0], .int .i64 0] W fun e w' => e = .returned (.tuple #[]) ∧ Box w' 136 fb (fdA fb ((F.put p).pass (stpW 2 tooLong (-1)) 0) (.slice none 0 0) hd 0 (.slice none 0 0) (.slice none 0 0) (.slice none 0 0)) ∧ W.grownBy w' (some fb) :=
    fun W kv' hd lf ck cd cm hb => pass_138 hb (stpW 2 tooLong (-1)) (ka := none) (kn := 0) (kc := 0) (da := none) (dn := 0) (dc := 0) (ma := none) (mn := 0) (mc := 0) 0
  rw [hul] at h135 hend hmid h15
  have d1 : min (l.length : Int) (2050 - (F.kept.length : Int)) = (u : Int) := by omega
  have d2 : (u : Int) ≤ (c : Int) := by omega
  clear hx hh hok hv hl hl2 hc hch hul hpt hp hix hkl hsh hu ekv hsm hrun hE hX
  go_enter Tryz.func89, Tryz.ntmps89
  go_wp2_with (first | (go_at_call 118; go_must ((with_reducible refine h118.mono ?_); rintro e w4 ⟨rfl, rfl⟩)) | (go_at_call 135; go_must ((with_reducible refine h135.mono ?_); rintro e w4 ⟨rfl, g', cap, b4, r4, k4, a4⟩; (have q4 : w4.cell? ⟨fb, 4, none⟩ = some (.slice (some ⟨g', 0, none⟩) (F.kept.length + u) cap) := b4.cell 4))) | (go_at_call 137; go_must ((with_reducible refine (hmid _ _ _ b4 r4 k4 a4).mono ?_); rintro e w5 ⟨rfl, g5⟩; (have q5 := gb_cellN g5 q4))) | (go_at_call 15; go_must ((with_reducible refine (h15 _ _ _ _ b4 r4 k4 a4 g5).mono ?_); rintro e w6 ⟨rfl, g6⟩; (have b6 := b4.kept (gb_trans g5 g6) (by simp)))) | (go_at_call 138; go_must ((with_reducible refine (h138 _ _ _ _ _ _ _ (b6.kept (gb_alloc (gb_alloc (gb_refl w6 none) _) _) (by simp))).mono ?_); rintro e w8 ⟨rfl, b8, g8⟩)))
  go_ret2
  exact hend _ _ _ _ _ b4 k4 a4 (gb_trans (gb_trans g5 g6) (gb_alloc (gb_alloc (gb_refl w6 none) _) _)) b8 g8
end Go.Proofs.YtobegepebochkaaGreatDoor
namespace Go.Proofs.YtobegepebochkaaGreatDoor
open Go.RowKit Go.Maps
def Rd136 (fb : Nat) : Prop := ∀ (G : Fd) (w4 : World) (kv4 : Value), IsF w4 fb G kv4 → G.st = 0 → Er w4 → G.kept.length ≤ 2050 → (∃ q, G.kept = q ++ [10]) → (∃ g n c, kv4 = .slice (some ⟨g, 0, none⟩) n c) → Calls Tryz.prog 136 #[.pointer (some ⟨fb, 0, none⟩)] w4 fun e w' => RdF G w4 fb kv4 e w'
theorem state_any {w : World} {fb : Nat} {F : Fd} {kv : Value} (h : IsF w fb F kv) (hok : F.Ok) {v : Value} {l : Bs} (hv : Ck w (XF fb kv) v l) (hl : 0 < l.length) (hl2 : l.length ≤ 1099511627776) (ht : F.taken ≤ 2199023255552) (hE : Er w) (hX : ¬ XF fb kv 2 ∧ ¬ XF fb kv 3) (h136 : Rd136 fb) :
    Calls Tryz.prog (stF F.st) #[.pointer (some ⟨fb, 0, none⟩), v] w fun e w' => StP F l w fb kv e w' := by
  obtain ⟨b, t, hbt⟩ : ∃ b t, l = b :: t := by
    cases l with
    | nil => simp at hl
    | cons b t => exact ⟨b, t, rfl⟩
  have h5 := hok.st
  have hc : F.st = 0 ∨ F.st = 1 ∨ F.st = 2 ∨ F.st = 3 ∨ F.st = 4 ∨ F.st = 5 := by omega
  rcases hc with e | e | e | e | e | e
  · have e' : stF F.st = 89 := by rw [e]; rfl
    rw [e']
    obtain ⟨ql, -⟩ := hok.line e
    rcases indexByte_spec 10 (l.take (2050 - F.kept.length)) with ⟨-, h4⟩ | ⟨p, t', h3, h4, -⟩
    · by_cases hs : 2048 < (trim (F.kept ++ l.take (2050 - F.kept.length))).length
      · exact line_long h hok hv hl hl2 ht e _ rfl h4 hE hX hs
      · exact line_short h hok hv hl hl2 ht e _ rfl h4 hs
    · refine line_end h hok hv hl hl2 ht e hE hX p t' h3 h4 (fun w4 kv4 hi hE4 hs4 => h136 _ _ _ hi e hE4 ?_ ⟨F.kept ++ p, by simp [Fd.put]⟩ hs4)
      have h6 : (p ++ 10 :: t').length ≤ 2050 - F.kept.length := by rw [← h3, List.length_take]; omega
      show (F.kept ++ (p ++ [10])).length ≤ 2050
      simp at h6 ⊢
      omega
  · have e' : stF F.st = 171 := by rw [e]; rfl
    rw [e']
    exact block_st h hok hv hl hl2 ht e
  · have e' : stF F.st = 172 := by rw [e]; rfl
    rw [e']
    by_cases hb : b = 13
    · subst hb; exact behind_yes h hok hv hl hl2 ht e t hbt
    · exact behind_no h hok hv hl hl2 ht e b t hbt hb
  · have e' : stF F.st = 188 := by rw [e]; rfl
    rw [e']
    by_cases hb : b = 10
    · subst hb; exact last_yes h hok hv hl hl2 ht e t hbt
    · exact last_no h hok hv hl hl2 ht e b t hbt hb
  · have e' : stF F.st = 158 := by rw [e]; rfl
    rw [e']
    rcases Nat.eq_zero_or_pos F.left with h0 | h0
    · exact skip_end h hok hv hl hl2 ht e h0
    · exact skip_left h hok hv hl hl2 ht e h0
  · have e' : stF F.st = 140 := by rw [e]; rfl
    rw [e']
    exact over_st h hok hv hl hl2 ht e
end Go.Proofs.YtobegepebochkaaGreatDoor
