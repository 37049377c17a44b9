import Derived.Test.YtobegepebochkaaGreatDoorTw
import Derived.Test.YtobegepebochkaaGreatDoorTn
import Derived.Test.YtobegepebochkaaGreatDoorM
import Derived.Lib.SlBytesConst
import Derived.Deep.CutRange
/-
  wakes.
-/
namespace Go.Proofs.YtobegepebochkaaGreatDoor
open Go.RowKit Go.Maps
set_option linter.unusedVariables false
set_option linter.unusedSimpArgs false

set_option maxRecDepth 100000 in
set_option maxHeartbeats 4000000 in
theorem wakes_48 {w : World} (hE : Er w) : Calls Tryz.prog 48 #[] w fun e w' => e = .returned (.bool true) ∧ w.grownBy w' none := by
  have h3 : 3 < w.heap.size := by
    obtain ⟨-, c, d, e2⟩ := hE
    exact lt_of_cell e2
  have h41 := new_41 w 9 (by omega) (by omega)
  have ok0 : (fd0 9).Ok := fd0_ok (by omega)
  have ok1 : wkF1.Ok := ok_run _ ok0
  have ok2 : wkF2.Ok := ok_run _ ok1
  go_enter Tryz.func48, Tryz.ntmps48
  go_upto_region 4 with (go_at_call 41; go_must ((with_reducible refine h41.mono ?_); rintro e w1 ⟨rfl, i1, g1⟩))
  have f1 : FW w.heap.size w1 w.heap.size (fd0 9) := ⟨_, i1, Nat.le_refl _, fun k hk => by simp [Value.ownBlock] at hk⟩
  have hE1 := hE.kept g1
  have c1 : Calls Tryz.prog 45 #[.pointer (some ⟨w.heap.size, 0, none⟩), .slice (some ⟨w1.heap.size, 0, none⟩) 14 14] (w1.alloc (.cells #[.int .u8 115, .int .u8 101, .int .u8 116, .int .u8 32, .int .u8 97, .int .u8 32, .int .u8 48, .int .u8 32, .int .u8 48, .int .u8 32, .int .u8 49, .int .u8 13, .int .u8 10, .int .u8 120] 5 (14, 15))) fun e w' => ∃ rv q, e = .returned rv ∧ FW w.heap.size w' w.heap.size wkF1 ∧ (∃ X, Ss w' (w1.heap.size + 1) X rv q) ∧ q.map Tld.s = [] ∧ Kp (fun k => w.heap.size ≤ k) w1 w' ∧ Er w' := f1.feedN h3 ok0 wk1 (by decide) (by decide) hE1 rfl
  have hcv1 := Lib.run_convert_bytes_const (P := Tryz.prog) w1 38 5 #[.int .u8 115, .int .u8 101, .int .u8 116, .int .u8 32, .int .u8 97, .int .u8 32, .int .u8 48, .int .u8 32, .int .u8 48, .int .u8 32, .int .u8 49, .int .u8 13, .int .u8 10, .int .u8 120] 14 14 Tryz.underlying38 Tryz.underlying5
  clear i1 h41
  go_upto_region 5 with (go_at_call 45; go_must ((with_reducible refine c1.mono ?_); rintro e w2 ⟨rv1, q1, rfl, f2, ⟨X1, s1⟩, t1, k1, hE2⟩; (obtain ⟨a1, cp1, rfl⟩ := s1.none t1)))
  have h50 := f2.held wk_k1
  have c2 : Calls Tryz.prog 45 #[.pointer (some ⟨w.heap.size, 0, none⟩), .slice (some ⟨w2.heap.size, 0, none⟩) 1 1] (w2.alloc (.cells #[.int .u8 13] 5)) fun e w' => ∃ rv q, e = .returned rv ∧ FW w.heap.size w' w.heap.size wkF2 ∧ (∃ X, Ss w' (w2.heap.size + 1) X rv q) ∧ q.map Tld.s = [] ∧ Kp (fun k => w.heap.size ≤ k) w2 w' ∧ Er w' := f2.feedN h3 ok1 [13] (by decide) (by rw [wk_t1]; decide) hE2 rfl
  clear c1 s1 t1 f1 hcv1
  go_upto_region 6 with (go_at_call 50; go_must ((with_reducible refine h50.mono ?_); rintro e w9 ⟨rfl, rfl⟩))
  go_upto_region 7 with (go_at_call 45; go_must ((with_reducible refine c2.mono ?_); rintro e w3 ⟨rv2, q2, rfl, f3, ⟨X2, s2⟩, t2, k2, hE3⟩; (obtain ⟨a2, cp2, rfl⟩ := s2.none t2)))
  have c3 : Calls Tryz.prog 45 #[.pointer (some ⟨w.heap.size, 0, none⟩), .slice (some ⟨w3.heap.size, 0, none⟩) 1 1] (w3.alloc (.cells #[.int .u8 10] 5)) fun e w' => ∃ rv q, e = .returned rv ∧ FW w.heap.size w' w.heap.size wkF3 ∧ (∃ X, Ss w' (w3.heap.size + 1) X rv q) ∧ q.map Tld.s = [⟨⟨5, [[97]], 0, 0, 0, 0, false, [], []⟩, [120], false, 0, [], 0, 0, 16⟩] ∧ Kp (fun k => w.heap.size ≤ k) w3 w' ∧ Er w' := f3.feedN h3 ok2 [10] (by decide) (by rw [wk_t2]; decide) hE3 rfl
  clear c2 s2 t2 h50
  go_upto_region 8 with (go_at_call 45; go_must ((with_reducible refine c3.mono ?_); rintro e w4 ⟨rv3, q3, rfl, f4, ⟨X3, s3⟩, t3, k3, hE4⟩; (obtain ⟨g, cp, ck, cd, cm, rfl, hcp, hcl, hst⟩ := s3.one t3)))
  have j50 := f4.held wk_k3
  have j52 := f4.taken
  have j51 := f4.ended
  rw [wk_t3] at j52
  rw [wk_e3] at j51
  have d0 : w4.cell? ⟨g, 0, none⟩ = some (.int .i64 5) := hcl 0 _ rfl
  have d6 : w4.cell? ⟨g, 6, none⟩ = some cd := hcl 6 _ rfl
  have d14 : w4.cell? ⟨g, 14, none⟩ = some (.int .i64 0) := hcl 14 _ rfl
  have d15 : w4.cell? ⟨g, 15, none⟩ = some (.int .i64 16) := hcl 15 _ rfl
  have hby : By w4 cd [120] := by
    have hd := hst.data
    obtain ⟨ao, c, e, -, h2, -, h4⟩ := row_shape hd
    obtain ⟨dg, rfl⟩ := h4 (by simp)
    subst e
    refine .inr ⟨dg, 0, c, rfl, by decide, row_lt hd dg rfl, fun i x hi => ?_⟩
    rw [Nat.zero_add]
    refine row_cell hd i _ ?_
    rw [List.getElem?_map, hi]; rfl
  have hcv := hby.conv
  have hend : w.grownBy w4 none := by
    have k := ((Kp.of (F := fun k => w.heap.size ≤ k) g1).trans k1 (fun i h => h) (fun i h => .inl h)).trans (k2.trans k3 (fun i h => h) (fun i h => .inl h)) (fun i h => h) (fun i h => .inl h)
    exact k.grown (fun i h => h)
  obtain ⟨da, dn, dc, rfl⟩ : ∃ a n c, cd = .slice a n c := by
    obtain ⟨ao, c, e, -⟩ := row_shape hst.data
    exact ⟨_, _, _, e⟩
  clear c3 s3 t3 f2 f3 f4 hst hby hcl k1 k2 k3 hE2 hE3 hE4 hE1 hE g1 ok0 ok1 ok2
  go_wp2_with (first | (go_at_call 50; go_must ((with_reducible refine j50.mono ?_); rintro e w9 ⟨rfl, rfl⟩)) | (go_at_call 52; go_must ((with_reducible refine j52.mono ?_); rintro e w9 ⟨rfl, rfl⟩)) | (go_at_call 51; go_must ((with_reducible refine j51.mono ?_); rintro e w9 ⟨rfl, rfl⟩)))
  go_ret
  exact ⟨rfl, hend⟩
end Go.Proofs.YtobegepebochkaaGreatDoor
/-
  Feeders and what is written.
-/
namespace Go.Proofs.YtobegepebochkaaGreatDoor
open Go.RowKit Go.Maps
set_option linter.unusedVariables false
set_option linter.unusedSimpArgs false

/-- A Feeder at fb whose other block is at or above B. -/
def FX (B : Nat) (w : World) (fb : Nat) (F : Fd) : Prop := ∃ kv, IsF w fb F kv ∧ ∀ k, kv.ownBlock = some k → B ≤ k
theorem FX.kept0 {B : Nat} {w w' : World} {fb : Nat} {F : Fd} (h : FX B w fb F) (hf : w.grownBy w' none) : FX B w' fb F := by
  obtain ⟨kv, h1, h3⟩ := h
  exact ⟨kv, h1.kept0 hf, h3⟩
theorem FX.lt {B : Nat} {w : World} {fb : Nat} {F : Fd} (h : FX B w fb F) : fb < w.heap.size := by
  obtain ⟨kv, ⟨_, _, _, _, _, hx, -, -⟩, -⟩ := h
  exact hx.box.lt
theorem FX.held {B : Nat} {w : World} {fb : Nat} {F : Fd} (h : FX B w fb F) :
    Calls Tryz.prog 50 #[.pointer (some ⟨fb, 0, none⟩)] w fun e w' => e = .returned (.int .i64 (F.kept.length : Int)) ∧ w' = w := by
  obtain ⟨kv, ⟨hd, lf, ck, cd, cm, hx, -, -⟩, -⟩ := h
  obtain ⟨ao, cp, e, -, -, -, -⟩ := row_shape hx.kept
  exact held_50 hx.box e
theorem FX.taken {B : Nat} {w : World} {fb : Nat} {F : Fd} (h : FX B w fb F) :
    Calls Tryz.prog 52 #[.pointer (some ⟨fb, 0, none⟩)] w fun e w' => e = .returned (.int .i64 F.taken) ∧ w' = w := by
  obtain ⟨kv, ⟨hd, lf, ck, cd, cm, hx, -, -⟩, -⟩ := h
  exact taken_52 hx.box
theorem FX.ended {B : Nat} {w : World} {fb : Nat} {F : Fd} (h : FX B w fb F) :
    Calls Tryz.prog 51 #[.pointer (some ⟨fb, 0, none⟩)] w fun e w' => e = .returned (.bool F.ended) ∧ w' = w := by
  obtain ⟨kv, ⟨hd, lf, ck, cd, cm, hx, -, -⟩, -⟩ := h
  exact ended_51 hx.box
/-- The blocks that a Feeder writes, or that are new. -/
abbrev XB (B fb : Nat) : Nat → Prop := fun k => k = fb ∨ B ≤ k
theorem FX.feed {B : Nat} {w : World} {fb : Nat} {F : Fd} (h : FX B w fb F) (hB : 3 < B) (hfb : 3 < fb) (hBw : B ≤ w.heap.size) (hok : F.Ok) {v : Value} {l : Bs} (hv : Ck w (XB B fb) v l) (hl2 : l.length ≤ 34359738368) (ht : F.taken + l.length ≤ 2199023255552) (hE : Er w) :
    Calls Tryz.prog 45 #[.pointer (some ⟨fb, 0, none⟩), v] w fun e w' => ∃ rv q, e = .returned rv ∧ FX B w' fb (F.run l).1 ∧ (∃ X, Ss w' w.heap.size X rv q) ∧ q.map Tld.s = (F.run l).2 ∧ Kp (XB B fb) w w' ∧ Er w' := by
  obtain ⟨kv, hF, h3⟩ := id h
  have hX : ∀ n, n ≤ 3 → ¬ XF fb kv n := by
    rintro n hn (e | e)
    · omega
    · have := h3 n e; omega
  have hXX : ∀ k, XF fb kv k → XB B fb k := by
    rintro k (e | e)
    · exact .inl e
    · exact .inr (h3 k e)
  refine (feed_45 hF hok (hv.kp (Kp.refl (fun _ => False) w) (fun _ _ h => h.elim) (fun k _ h => hXX k h)) hl2 ht hE ⟨hX 2 (by omega), hX 3 (by omega)⟩ (read_136 fb)).mono ?_
  rintro e w' ⟨rv, kv', q, rfl, q1, q2, q3, q4, q5, -⟩
  have k4 : Kp (XB B fb) w w' := q4.mono (fun i hi => .inl (hXX i hi))
  refine ⟨rv, q, rfl, ⟨kv', q1, fun k hk => ?_⟩, ⟨_, q2⟩, q3, k4, hE.kp k4 ?_ ?_⟩
  · rcases q5 k hk with e | e
    · exact h3 k e
    · omega
  · rintro (e | e) <;> omega
  · rintro (e | e) <;> omega
end Go.Proofs.YtobegepebochkaaGreatDoor
