import Derived.Test.YtobegepebochkaaGreatDoorZg
import Derived.Test.YtobegepebochkaaGreatDoorTt
import Derived.Test.YtobegepebochkaaGreatDoorUh
import Derived.Test.YtobegepebochkaaGreatDoorZl
import Derived.Deep.LoopGhost
import Derived.Deep.CutRange
/-
  All: its rounds.
-/
namespace Go.Proofs.YtobegepebochkaaGreatDoor
open Go.RowKit Go.Maps
set_option linter.unusedVariables false
set_option linter.unusedSimpArgs false

/-- Steps that lie one behind the other. -/
def Tile : Nat → List Tld → Nat → Prop
  | a, [], b => a = b
  | a, x :: q, b => x.s.frm = a ∧ a < x.s.to ∧ Tile x.s.to q b
theorem Tile.snoc : ∀ {q : List Tld} {a b : Nat} {x : Tld}, Tile a q b → x.s.frm = b → b < x.s.to → Tile a (q ++ [x]) x.s.to
  | [], a, b, x, h, h1, h2 => by
    have h : a = b := h
    subst h
    exact ⟨h1, h2, rfl⟩
  | y :: q, a, b, x, h, h1, h2 => ⟨h.1, h.2.1, Tile.snoc h.2.2 h1 h2⟩
theorem Tile.le : ∀ {q : List Tld} {a b : Nat}, Tile a q b → a + q.length ≤ b
  | [], a, b, h => by
    have h : a = b := h
    simp [h]
  | y :: q, a, b, h => by
    have := Tile.le h.2.2
    have h2 := h.2.1
    simp
    omega
/-- The steps ahead of a place, and those behind it. -/
theorem Tile.cut : ∀ {q : List Tld} {a b : Nat} (k : Nat), Tile a q b → ∃ m, Tile a (q.take k) m ∧ Tile m (q.drop k) b
  | q, a, b, 0, h => ⟨a, rfl, h⟩
  | [], a, b, k + 1, h => ⟨b, h, rfl⟩
  | y :: q, a, b, k + 1, h => by
    obtain ⟨m, h1, h2⟩ := Tile.cut k h.2.2
    exact ⟨m, ⟨h.1, h.2.1, h1⟩, h2⟩
/-- Where All stands. -/
structure AlI (w : World) (L : Nat) (raw : Bs) (at_ : Nat) (q : List Tld) (v : Value) (wr : World) : Prop where
  le : at_ ≤ raw.length
  ss : Ss wr w.heap.size (fun _ => False) v q
  tile : Tile 0 q at_
  run : (fl L 0).run raw = (((fl L at_).run (raw.drop at_)).1, q.map Tld.s ++ ((fl L at_).run (raw.drop at_)).2)
  gb : w.grownBy wr none
/-- What All answers. -/
structure AlR (w : World) (L : Nat) (raw : Bs) (q : List Tld) (v : Value) (left : Int) (wr : World) : Prop where
  ss : Ss wr w.heap.size (fun _ => False) v q
  run : ((fl L 0).run raw).2 = q.map Tld.s
  tile : ∃ b, b ≤ raw.length ∧ Tile 0 q b ∧ ((((fl L 0).run raw).1.ended = true ∧ left = 0 ∧ ((fl L 0).run raw).1.kept = []) ∨ (((fl L 0).run raw).1.ended = false ∧ left = ((raw.length - b : Nat) : Int) ∧ (((fl L 0).run raw).1.kept = [] ∨ ((fl L 0).run raw).1.kept.length = raw.length - b)))
  gb : w.grownBy wr none
theorem AlI.start (w : World) (L : Nat) (raw : Bs) {wr : World} (hg : w.grownBy wr none) : AlI w L raw 0 [] (.slice none 0 0) wr :=
  ⟨Nat.zero_le _, Ss.nil _ _ _, rfl, by simp, hg⟩
theorem AlI.done {w : World} {L : Nat} {raw : Bs} {at_ : Nat} {q : List Tld} {v : Value} {wr w2 : World} (h : AlI w L raw at_ q v wr) (hN : StepN L at_ (raw.drop at_)) (hg : wr.grownBy w2 none) : AlR w L raw q v ((raw.length - at_ : Nat) : Int) w2 := by
  obtain ⟨G, h1, h2, h3⟩ := hN
  have hr := h.run
  rw [h1] at hr
  refine ⟨ss_kept0 h.ss hg, by rw [hr]; simp, ⟨at_, h.le, h.tile, .inr ⟨by rw [hr]; exact h2, rfl, ?_⟩⟩, gb_trans h.gb hg⟩
  rw [hr]
  rw [List.length_drop] at h3
  exact h3
theorem AlI.push {w : World} {L : Nat} {raw : Bs} {at_ : Nat} {q : List Tld} {v : Value} {wr w2 w3 w4 : World} (h : AlI w L raw at_ q v wr) {s : Stp} {ck cd cm : Value} (hg : wr.grownBy w2 none)
    (hk : w2.ownsRow wr.heap.size 9 1 ck s.cmd.keys.length (s.cmd.keys.map sv)) (hd : w2.ownsRow wr.heap.size 5 1 cd s.data.length (s.data.map b8)) (hm : w2.ownsRow wr.heap.size 79 3 cm s.cmd.mt.length (fcs s.cmd.mt)) (hn : s.data = [] → cd = .slice none 0 0)
    (hg3 : w2.grownBy w3 none) {g cap : Nat} (hr : w4.ownsRow w.heap.size 86 16 (.slice (some ⟨g, 0, none⟩) (q.length + 1) cap) (q.length + 1) (q.flatMap tldL ++ stpL s ck cd cm)) (hg4 : w3.grownBy w4 v.ownBlock) :
    Ss w4 w.heap.size (fun _ => False) (.slice (some ⟨g, 0, none⟩) (q.length + 1) cap) (q ++ [⟨s, ck, cd, cm⟩]) ∧ w.grownBy w4 none := by
  have hg3' := gb_trans hg hg3
  have s3 := ss_kept0 h.ss hg3'
  have n3 : StR w3 (fun _ => False) s ck cd cm := by
    have e : ∀ {B t z m : Nat} {u : Value} {xs : List Value}, w2.ownsRow B t z u m xs → w3.ownsRow 0 t z u m xs := fun hh => row_base (row_kept hh hg3 (fun k _ e => by cases e)) (Nat.zero_le _)
    exact ⟨e hk, e hd, e hm, fun _ _ => id, fun _ _ => id, fun _ _ => id, hn⟩
  have k4 : Kp (fun k => False ∨ v.ownBlock = some k) w3 w4 := (Kp.refl _ w3).step hg4 (fun i hi => .inl (.inr hi))
  refine ⟨⟨?_, ?_⟩, ?_⟩
  · rw [List.length_append, List.flatMap_append]
    simpa using hr
  · intro x hx
    rcases List.mem_append.1 hx with hx | hx
    · exact ((s3.all x hx).wide s3.row).kp k4 (fun k _ hf => hf) (fun _ _ hf => hf.elim)
    · simp at hx
      subst hx
      exact (n3.wide s3.row).kp k4 (fun k _ hf => hf) (fun _ _ hf => hf.elim)
  · exact gb_far (gb_trans h.gb hg3') hg4 (fun i hi => (World.ownsRow.lt h.ss.row i hi).1) (Nat.le_refl _)
theorem AlI.run_step {w : World} {L : Nat} {raw : Bs} {at_ : Nat} {q : List Tld} {v : Value} {wr : World} (h : AlI w L raw at_ q v wr) {s : Stp} {n : Nat} (hY : StepY L at_ (raw.drop at_) s n) :
    ∃ G, (s.cmd.verb ≠ 18 → G = fl L (at_ + n)) ∧ (s.cmd.verb = 18 → G.st = 5 ∧ G.ended = true ∧ G.kept = []) ∧ (fl L 0).run raw = ((G.run (raw.drop (at_ + n))).1, q.map Tld.s ++ s :: (G.run (raw.drop (at_ + n))).2) ∧ at_ + n ≤ raw.length := by
  obtain ⟨G, h1, h2, h3⟩ := hY.run
  refine ⟨G, h2, h3, ?_, ?_⟩
  · rw [h.run]
    have e : raw.drop at_ = (raw.drop at_).take n ++ raw.drop (at_ + n) := by rw [← List.drop_drop, List.take_append_drop]
    rw [e, Fd.run_app, h1]
    simp
  · have := hY.le
    rw [List.length_drop] at this
    have := h.le
    omega
theorem AlI.next {w : World} {L : Nat} {raw : Bs} {at_ : Nat} {q : List Tld} {v : Value} {wr w2 w3 w4 : World} (h : AlI w L raw at_ q v wr) {s : Stp} {n : Nat} {ck cd cm : Value} (hY : StepY L at_ (raw.drop at_) s n) (hg : wr.grownBy w2 none)
    (hk : w2.ownsRow wr.heap.size 9 1 ck s.cmd.keys.length (s.cmd.keys.map sv)) (hd : w2.ownsRow wr.heap.size 5 1 cd s.data.length (s.data.map b8)) (hm : w2.ownsRow wr.heap.size 79 3 cm s.cmd.mt.length (fcs s.cmd.mt)) (hn : s.data = [] → cd = .slice none 0 0)
    (hg3 : w2.grownBy w3 none) {g cap : Nat} (hr : w4.ownsRow w.heap.size 86 16 (.slice (some ⟨g, 0, none⟩) (q.length + 1) cap) (q.length + 1) (q.flatMap tldL ++ stpL s ck cd cm)) (hg4 : w3.grownBy w4 v.ownBlock) (hv : s.cmd.verb ≠ 18) :
    AlI w L raw s.to (q ++ [⟨s, ck, cd, cm⟩]) (.slice (some ⟨g, 0, none⟩) (q.length + 1) cap) w4 := by
  obtain ⟨h1, h2⟩ := h.push hg hk hd hm hn hg3 hr hg4
  obtain ⟨G, h3, -, h4, h5⟩ := h.run_step hY
  have ht := hY.to
  have hp := hY.pos
  refine ⟨by omega, h1, Tile.snoc h.tile hY.frm (by show at_ < s.to; omega), ?_, h2⟩
  rw [h4, h3 hv, ht]
  simp
theorem AlI.quit {w : World} {L : Nat} {raw : Bs} {at_ : Nat} {q : List Tld} {v : Value} {wr w2 w3 w4 : World} (h : AlI w L raw at_ q v wr) {s : Stp} {n : Nat} {ck cd cm : Value} (hY : StepY L at_ (raw.drop at_) s n) (hg : wr.grownBy w2 none)
    (hk : w2.ownsRow wr.heap.size 9 1 ck s.cmd.keys.length (s.cmd.keys.map sv)) (hd : w2.ownsRow wr.heap.size 5 1 cd s.data.length (s.data.map b8)) (hm : w2.ownsRow wr.heap.size 79 3 cm s.cmd.mt.length (fcs s.cmd.mt)) (hn : s.data = [] → cd = .slice none 0 0)
    (hg3 : w2.grownBy w3 none) {g cap : Nat} (hr : w4.ownsRow w.heap.size 86 16 (.slice (some ⟨g, 0, none⟩) (q.length + 1) cap) (q.length + 1) (q.flatMap tldL ++ stpL s ck cd cm)) (hg4 : w3.grownBy w4 v.ownBlock) (hv : s.cmd.verb = 18) :
    AlR w L raw (q ++ [⟨s, ck, cd, cm⟩]) (.slice (some ⟨g, 0, none⟩) (q.length + 1) cap) 0 w4 := by
  obtain ⟨h1, h2⟩ := h.push hg hk hd hm hn hg3 hr hg4
  obtain ⟨G, -, h3, h4, h5⟩ := h.run_step hY
  have ht := hY.to
  have hp := hY.pos
  obtain ⟨g1, g2, g3⟩ := h3 hv
  rw [run_over g1] at h4
  refine ⟨h1, by rw [h4]; simp, ⟨s.to, by omega, Tile.snoc h.tile hY.frm (by show at_ < s.to; omega), .inl ⟨by rw [h4]; exact g2, rfl, by rw [h4]; exact g3⟩⟩, h2⟩
end Go.Proofs.YtobegepebochkaaGreatDoor
/-
  All.
-/
namespace Go.Proofs.YtobegepebochkaaGreatDoor
open Go.RowKit Go.Maps
set_option linter.unusedVariables false
set_option linter.unusedSimpArgs false

/-- A step, whatever the bytes are. -/
theorem step_76 {w : World} {gb g o c : Nat} {raw : Bs} (hG : GM w gb rowL) (hE : Er w) (hR : Ra w g o c raw) {at_ lim : Nat} (hat : at_ ≤ raw.length) (hlim : lim ≤ 9223372036854775807) :
    Calls Tryz.prog 76 #[.map (some gb), .slice (some ⟨g, o, none⟩) raw.length c, .int .i64 at_, .int .i64 lim] w fun e w' => StQ lim at_ (raw.drop at_) w e w' := by
  rcases indexByte_spec 10 (raw.drop at_) with ⟨_, h1⟩ | ⟨p, t, h1, h2, _⟩
  · exact step_noLF hR hat h1
  · cases hl : lineS (trim p) with
    | inl x => exact step_inl hG hE hR hat hlim p t h1 h2 x.1 x.2 hl
    | inr x => exact step_inr hG hE hR hat hlim p t h1 h2 x.1 x.2.1 x.2.2 hl
set_option maxRecDepth 100000 in
set_option maxHeartbeats 4000000 in
theorem all_some {w : World} (hE : Er w) {g o c : Nat} {raw : Bs} (hR : Ra w g o c raw) (hlen : raw.length ≤ 34359738368) (lim : Int) (hm1 : lim ≤ 9223372036854775807) (hm2 : -9223372036854775808 ≤ lim) :
    Calls Tryz.prog 27 #[.slice (some ⟨g, o, none⟩) raw.length c, .int .i64 lim] w fun e w' => ∃ rv q left, e = .returned (.tuple #[rv, .int .i64 left]) ∧ AlR w lim.toNat raw q rv left w' := by
  have h62 := rows_9 w
  obtain ⟨L, hL⟩ : ∃ L, lim.toNat = L := ⟨_, rfl⟩
  have hLm : L ≤ 9223372036854775807 := by omega
  have hmax : max lim 0 = (L : Int) := by omega
  have start := fun {W : World} (hg : w.grownBy W none) => AlI.start w L raw hg
  obtain ⟨R, hRl⟩ : ∃ R, raw.length = R := ⟨_, rfl⟩
  rw [hRl] at hlen
  rw [hL]
  have A : Aside (raw.length = R) := hRl
  rw [hRl]
  clear hRl hL
  go_enter Tryz.func27, Tryz.ntmps27
  go_wp2_with (go_at_call 62; go_must ((with_reducible refine h62.mono ?_); rintro e w1 ⟨rfl, hG1, hg1⟩))
  have hRr := A.out
  go_loopg [7, 8] R (fun gk x7 x8 wr => ∃ (at_ : Nat) (q : List Tld), gk + at_ = R ∧ x8 = .int .i64 (at_ : Int) ∧ AlI w L raw at_ q x7 wr ∧ GM wr w.heap.size rowL)
  case atStart => exact ⟨0, [], rfl, rfl, start hg1, hG1⟩
  case round =>
    obtain ⟨at_, q, hgk, rfl, hI, hGr⟩ := hrel
    have hatl := hI.le
    have h76 := step_76 hGr (hE.kept hI.gb) (hR.kept0 hI.gb) hI.le hLm
    rw [A.out] at h76
    obtain ⟨ra, rc, hrv, -, -, -, -⟩ := row_shape hI.ss.row
    subst hrv
    have ssr := hI.ss.row
    have hql : q.length ≤ 100000000000 := by have := hI.tile.le; omega
    have hsz0 := hI.gb.size
    have hlt : ∀ k, (Value.slice ra q.length rc).ownBlock = some k → k < wr.heap.size := fun k hk => (World.ownsRow.lt ssr k hk).2
    have hne : (Value.slice ra q.length rc).ownBlock ≠ some w.heap.size := by
      intro e
      obtain ⟨cur, hc⟩ := row_block ssr _ e
      have hG2 := hGr
      unfold GM at hG2
      rw [hG2] at hc
      cases hc
    have hAt : at_ ≤ R := by omega
    have eL : IntKind.i64.wrap ((R : Int) - (at_ : Int)) = ((raw.length - at_ : Nat) : Int) := by rw [A.out, IntKind.wrap_i64]; omega
    have AL : Aside (IntKind.i64.wrap ((R : Int) - (at_ : Int)) = ((raw.length - at_ : Nat) : Int) ∧ (R : Int) - (at_ : Int) = ((raw.length - at_ : Nat) : Int)) := ⟨eL, by rw [A.out]; omega⟩
    clear start h62 hE hR hG1 eL
    go_upto_region 6 with (first
      | (go_at_call 76; go_must ((with_reducible refine h76.mono ?_); rintro e w2 ⟨hg2, hQ⟩; (rcases hQ with ⟨rfl, hN⟩ | ⟨s, n, ck, cd, cm, rfl, hY, hk, hd, hm, hnd⟩; rotate_left; (obtain ⟨ka, kc, rfl, -⟩ := row_shape hk); (obtain ⟨da, dc, rfl, -⟩ := row_shape hd); (obtain ⟨ma, mc, rfl, -⟩ := row_shape hm); rotate_left)))
      | (refine atS 86 w2.heap.size 0 rfl rfl ?_; go_must (refine storeT 86 16 size86 rfl _ _ rfl 86 w2.heap.size 0 _ (Box.new w2 86 Z86) (by simp) rfl _ rfl rfl (by simp [Value.oneCell']) ?_); intro W3 b3 hg3; (simp only [sets_0] at b3)))
    · have hg23 : w2.grownBy W3 none := gb_mine (gb_alloc (gb_refl w2 none) _) hg3 (Nat.le_refl _)
      have hfin := hI.done hN (gb_trans hg2 hg23)
      clear h76 hI hN
      go_wp2
      go_ret2
      refine ⟨_, q, _, rfl, ?_⟩
      first | (rw [← AL.out.1] at hfin; exact hfin) | (rw [← AL.out.2] at hfin; exact hfin)
    · have hg23 : w2.grownBy W3 none := gb_mine (gb_alloc (gb_refl w2 none) _) hg3 (Nat.le_refl _)
      have hg3' := gb_trans hg2 hg23
      have r3 := row_kept ssr hg3' (fun k _ e => by cases e)
      have s3 : w.heap.size ≤ W3.heap.size := Nat.le_trans hsz0 hg3'.size
      have s2 := hg2.size
      clear h76
      go_upto_region 9 with (first
        | (refine atL 86 w2.heap.size 0 rfl rfl ?_; go_must (refine load86 rfl _ rfl 86 w2.heap.size 0 _ b3 rfl (stpL s (.slice ka s.cmd.keys.length kc) (.slice da s.data.length dc) (.slice ma s.cmd.mt.length mc)) rfl (fun j v hv => by simpa using hv) ?_))
        | (at_builtin; go_must (refine push86 rfl _ _ rfl w.heap.size _ q.length _ (by rfl) r3 _ rfl (by simp [Value.oneCell']) (by rfl) hql s3 ?_); intro g7 cap w7 r7 g37 _))
      have b7 := b3.kept g37 (fun e => by have := hlt _ e.symm; omega)
      have c0 : w7.cell? ⟨w2.heap.size, 0, none⟩ = some (.int .i64 s.cmd.verb) := b7.cell 0
      have c15 : w7.cell? ⟨w2.heap.size, 15, none⟩ = some (.int .i64 (s.to : Int)) := b7.cell 15
      by_cases hv : s.cmd.verb = 18
      · have hfin := hI.quit hY hg2 hk hd hm hnd hg23 r7 g37 hv
        have dv : (s.cmd.verb == 18) = true := by simpa using hv
        clear hI hY hk hd hm hnd r7 g37 b3 b7 hv
        go_wp2
        go_ret2
        exact ⟨_, _, _, rfl, hfin⟩
      · have hfin := hI.next hY hg2 hk hd hm hnd hg23 r7 g37 hv
        have dv : (s.cmd.verb == 18) = false := by simpa using hv
        have hG7 : GM w7 w.heap.size rowL := (hGr.kept hg3' (by simp)).kept g37 (fun e => hne e.symm)
        have hto := hfin.le
        have hpos : at_ < s.to := by have h1 := hY.to; have h2 := hY.pos; omega
        clear hI hY hk hd hm hnd r7 g37 b3 b7 hv
        go_wp2
        go_roundg (R - s.to)
        case measure => omega
        case rel => exact ⟨s.to, _, by omega, rfl, hfin, hG7⟩
end Go.Proofs.YtobegepebochkaaGreatDoor
/-
  All, of no bytes too.
-/
namespace Go.Proofs.YtobegepebochkaaGreatDoor
open Go.RowKit Go.Maps
set_option linter.unusedVariables false
set_option linter.unusedSimpArgs false

set_option maxRecDepth 100000 in
set_option maxHeartbeats 4000000 in
theorem ix_nil (w : World) : Calls Tryz.prog 118 #[.slice none 0 0, .int .u8 10] w fun e w' => e = .returned (.int .i64 (-1)) ∧ w' = w := by
  have h := Lib.run_indexByteNil (P := Tryz.prog) w 0 0 10
  go_enter Tryz.func118, Tryz.ntmps118
  go_wp2
  rw [run_callFunc_extern Tryz.func147 (by kernel_rfl) (by kernel_rfl) (by kernel_rfl) (e := Extern.BytealgIndexByte.indexByte) (by kernel_rfl), h]
  simp only [Result.andThen]
  rw [Oper.upon_value]
  go_wp2
  go_ret
  exact ⟨rfl, rfl⟩
set_option maxRecDepth 100000 in
set_option maxHeartbeats 4000000 in
theorem step_nil {w : World} {gb lim : Nat} :
    Calls Tryz.prog 76 #[.map (some gb), .slice none 0 0, .int .i64 0, .int .i64 lim] w fun e w' => e = .returned (.tuple #[.agg Z86, .bool false]) ∧ w.grownBy w' none := by
  have ga := gb_alloc (gb_refl w none) (.cells Z86 86)
  have bx := Box.new w 86 Z86
  have h118 := ix_nil (w.alloc (.cells Z86 86))
  go_enter Tryz.func76, Tryz.ntmps76
  go_wp2_with (first | (go_at_call 118; go_must ((with_reducible refine h118.mono ?_); rintro e w4 ⟨rfl, rfl⟩)) | (refine atS 86 w.heap.size 0 rfl rfl ?_; go_must (refine storeT 86 16 size86 rfl _ _ rfl 86 w.heap.size 0 _ bx (by simp) rfl _ rfl rfl (by simp [Value.oneCell']) ?_); intro W4 hb4 hg4; (simp only [sets_0] at hb4)))
  exact ⟨rfl, _, res76 hb4 _ rfl rfl, rfl, gb_mine ga hg4 (Nat.le_refl _)⟩
set_option maxRecDepth 100000 in
set_option maxHeartbeats 4000000 in
theorem all_nil {w : World} (lim : Int) (hm1 : lim ≤ 9223372036854775807) (hm2 : -9223372036854775808 ≤ lim) :
    Calls Tryz.prog 27 #[.slice none 0 0, .int .i64 lim] w fun e w' => ∃ rv q left, e = .returned (.tuple #[rv, .int .i64 left]) ∧ AlR w lim.toNat [] q rv left w' := by
  have h62 := rows_9 w
  obtain ⟨L, hL⟩ : ∃ L, lim.toNat = L := ⟨_, rfl⟩
  have hmax : max lim 0 = (L : Int) := by omega
  have hfin := fun {W W2 : World} (hg : w.grownBy W none) (hg2 : W.grownBy W2 none) => AlI.done (AlI.start w L [] hg) (step_none (by simp)) hg2
  rw [hL]
  clear hL
  go_enter Tryz.func27, Tryz.ntmps27
  go_wp2_with (go_at_call 62; go_must ((with_reducible refine h62.mono ?_); rintro e w1 ⟨rfl, hG1, hg1⟩))
  go_loopg [7, 8] 0 (fun gk x7 x8 wr => x7 = .slice none 0 0 ∧ x8 = .int .i64 0 ∧ wr = w1)
  case atStart => exact ⟨rfl, rfl, rfl⟩
  case round =>
    obtain ⟨rfl, rfl, rfl⟩ := hrel
    have h76 := step_nil (w := wr) (gb := w.heap.size) (lim := L)
    go_wp2_with (first
      | (go_at_call 76; go_must ((with_reducible refine h76.mono ?_); rintro e w2 ⟨rfl, hg2⟩))
      | (refine atS 86 w2.heap.size 0 rfl rfl ?_; go_must (refine storeT 86 16 size86 rfl _ _ rfl 86 w2.heap.size 0 _ (Box.new w2 86 Z86) (by simp) rfl _ rfl rfl (by simp [Value.oneCell']) ?_); intro W3 b3 hg3; (simp only [sets_0] at b3)))
    have h3 := hfin hg1 (gb_trans hg2 (gb_mine (gb_alloc (gb_refl w2 none) _) hg3 (Nat.le_refl _)))
    go_ret2
    exact ⟨_, _, _, rfl, h3⟩
theorem all_27 {w : World} (hE : Er w) {v : Value} {raw : Bs} (hv : Ck w (fun _ => False) v raw) (hlen : raw.length ≤ 34359738368) (lim : Int) (hm1 : lim ≤ 9223372036854775807) (hm2 : -9223372036854775808 ≤ lim) :
    Calls Tryz.prog 27 #[v, .int .i64 lim] w fun e w' => ∃ rv q left, e = .returned (.tuple #[rv, .int .i64 left]) ∧ AlR w lim.toNat raw q rv left w' := by
  rcases hv with ⟨rfl, rfl⟩ | ⟨g, o, c, rfl, h2, h3, h4, -, h6⟩
  · exact all_nil lim hm1 hm2
  · exact all_some hE ⟨h2, h3, h4, h6, by omega⟩ hlen lim hm1 hm2
end Go.Proofs.YtobegepebochkaaGreatDoor
