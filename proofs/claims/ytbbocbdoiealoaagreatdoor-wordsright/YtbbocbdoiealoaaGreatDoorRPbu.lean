import Derived.Deep.LoopGhost
import Derived.Deep.CutRange
import Derived.Test.YtbbocbdoiealoaaGreatDoorRXg
import Derived.Test.YtbbocbdoiealoaaGreatDoorRPbo
import Derived.ArgAppend
import Derived.Deep.RegionLaw
import Derived.Test.YtbbocbdoiealoaaGreatDoorRPbp
import Derived.Test.YtbbocbdoiealoaaGreatDoorRPbr
import Derived.Test.YtbbocbdoiealoaaGreatDoorRPbj
import Derived.Test.YtbbocbdoiealoaaGreatDoorRPaa
set_option linter.unusedVariables false
set_option linter.unusedSimpArgs false
namespace Go.Proofs.YtbbocbdoiealoaaGreatDoor
open Go.RowKit Go.Maps
theorem step_76 {w : World} {gb g o c : Nat} {raw : Bs} (hG : GM w gb rowL) (hE : Er w) (hR : Ra w g o c raw) {at_ lim : Nat} (hat : at_ ≤ raw.length) (hlim : lim ≤ 9223372036854775807) :
    Calls Tryz.prog 81 #[.map (some gb), .slice (some ⟨g, o, none⟩) raw.length c, .int .i64 at_, .int .i64 lim] w fun e w' => StQ lim at_ (raw.drop at_) w e w' := by
  rcases indexByte_spec 10 (raw.drop at_) with ⟨_, h1⟩ | ⟨p, t, h1, h2, _⟩
  · exact step_noLF hR hat h1
  · cases hl : lineS (trim p) with
    | inl x => exact step_inl hG hE hR hat hlim p t h1 h2 x.1 x.2 hl
    | inr x => exact step_inr hG hE hR hat hlim p t h1 h2 x.1 x.2.1 x.2.2 hl
set_option maxRecDepth 100000 in
set_option maxHeartbeats 4000000 in
theorem all_some {w : World} (hE : Er w) {g o c : Nat} {raw : Bs} (hR : Ra w g o c raw) (hlen : raw.length ≤ 34359738368) (lim : Int) (hm1 : lim ≤ 9223372036854775807) (hm2 : -9223372036854775808 ≤ lim) :
    Calls Tryz.prog 29 #[.slice (some ⟨g, o, none⟩) raw.length c, .int .i64 lim] w fun e w' => ∃ rv q left, e = .returned (.tuple #[rv, .int .i64 left]) ∧ AlR w lim.toNat raw q rv left w' := by
  have h62 := rows_9 w
  obtain ⟨L, hL⟩ : ∃ L, lim.toNat = L := ⟨_, rfl⟩
  have hLm : L ≤ 9223372036854775807 := by omega
  have hmax : max lim 0 = (L : Int) := by omega
  have start := fun {W : World} (hg : w.grownBy W none) => AlI.start w L raw hg
  obtain ⟨R, hRl⟩ : ∃ R, raw.length = R := ⟨_, rfl⟩
  rw [hRl] at hlen
  rw [hL]
  have A : Aside (raw.length = R) := hRl
  rw [hRl]
  clear hRl hL
  go_enter Tryz.func29, Tryz.ntmps29
  go_wp2_with (go_at_call 67; go_must ((with_reducible refine h62.mono ?_); rintro e w1 ⟨rfl, hG1, hg1⟩))
  have hRr := A.out
  go_loopg [7, 8] R (fun gk x7 x8 wr => ∃ (at_ : Nat) (q : List Tld), gk + at_ = R ∧ x8 = .int .i64 (at_ : Int) ∧ AlI w L raw at_ q x7 wr ∧ GM wr w.heap.size rowL)
  case atStart => exact ⟨0, [], rfl, rfl, start hg1, hG1⟩
  case round =>
    obtain ⟨at_, q, hgk, rfl, hI, hGr⟩ := hrel
    have hatl := hI.le
    have h76 := step_76 hGr (hE.kept hI.gb) (hR.kept0 hI.gb) hI.le hLm
    rw [A.out] at h76
    obtain ⟨ra, rc, hrv, -, -, -, -⟩ := row_shape hI.ss.row
    subst hrv
    have ssr := hI.ss.row
    have hql : q.length ≤ 100000000000 := by have := hI.tile.le; omega
    have hsz0 := hI.gb.size
    have hlt : ∀ k, (Value.slice ra q.length rc).ownBlock = some k → k < wr.heap.size := fun k hk => (World.ownsRow.lt ssr k hk).2
    have hne : (Value.slice ra q.length rc).ownBlock ≠ some w.heap.size := by
      intro e
      obtain ⟨cur, hc⟩ := row_block ssr _ e
      have hG2 := hGr
      unfold GM at hG2
      rw [hG2] at hc
      cases hc
    have hAt : at_ ≤ R := by omega
    have eL : IntKind.i64.wrap ((R : Int) - (at_ : Int)) = ((raw.length - at_ : Nat) : Int) := by rw [A.out, IntKind.wrap_i64]; omega
    have AL : Aside (IntKind.i64.wrap ((R : Int) - (at_ : Int)) = ((raw.length - at_ : Nat) : Int) ∧ (R : Int) - (at_ : Int) = ((raw.length - at_ : Nat) : Int)) := ⟨eL, by rw [A.out]; omega⟩
    clear start h62 hE hR hG1 eL
    go_upto_region 6 with (first
      | (go_at_call 81; go_must ((with_reducible refine h76.mono ?_); rintro e w2 ⟨hg2, hQ⟩; (rcases hQ with ⟨rfl, hN⟩ | ⟨s, n, ck, cd, cm, rfl, hY, hk, hd, hm, hnd⟩; rotate_left; (obtain ⟨ka, kc, rfl, -⟩ := row_shape hk); (obtain ⟨da, dc, rfl, -⟩ := row_shape hd); (obtain ⟨ma, mc, rfl, -⟩ := row_shape hm); rotate_left)))
      | (refine atS 85 w2.heap.size 0 rfl rfl ?_; go_must (refine storeT 85 16 size86 rfl _ _ rfl 85 w2.heap.size 0 _ (Box.new w2 85 Z86) (by simp) rfl _ rfl rfl (by simp [Value.oneCell']) ?_); intro W3 b3 hg3; (simp only [sets_0] at b3)))
    · have hg23 : w2.grownBy W3 none := gb_mine (gb_alloc (gb_refl w2 none) _) hg3 (Nat.le_refl _)
      have hfin := hI.done hN (gb_trans hg2 hg23)
      clear h76 hI hN
      go_wp2
      go_ret2
      refine ⟨_, q, _, rfl, ?_⟩
      first | (rw [← AL.out.1] at hfin; exact hfin) | (rw [← AL.out.2] at hfin; exact hfin)
    · have hg23 : w2.grownBy W3 none := gb_mine (gb_alloc (gb_refl w2 none) _) hg3 (Nat.le_refl _)
      have hg3' := gb_trans hg2 hg23
      have r3 := row_kept ssr hg3' (fun k _ e => by cases e)
      have s3 : w.heap.size ≤ W3.heap.size := Nat.le_trans hsz0 hg3'.size
      have s2 := hg2.size
      clear h76
      go_upto_region 9 with (first
        | (refine atL 85 w2.heap.size 0 rfl rfl ?_; go_must (refine load86 rfl _ rfl 85 w2.heap.size 0 _ b3 rfl (stpL s (.slice ka s.cmd.keys.length kc) (.slice da s.data.length dc) (.slice ma s.cmd.mt.length mc)) rfl (fun j v hv => by simpa using hv) ?_))
        | (at_builtin; go_must (refine push86 rfl _ _ rfl w.heap.size _ q.length _ (by rfl) r3 _ rfl (by simp [Value.oneCell']) (by rfl) hql s3 ?_); intro g7 cap w7 r7 g37 _))
      have b7 := b3.kept g37 (fun e => by have := hlt _ e.symm; omega)
      have c0 : w7.cell? ⟨w2.heap.size, 0, none⟩ = some (.int .i64 s.cmd.verb) := b7.cell 0
      have c15 : w7.cell? ⟨w2.heap.size, 15, none⟩ = some (.int .i64 (s.to : Int)) := b7.cell 15
      by_cases hv : s.cmd.verb = 18
      · have hfin := hI.quit hY hg2 hk hd hm hnd hg23 r7 g37 hv
        have dv : (s.cmd.verb == 18) = true := by simpa using hv
        clear hI hY hk hd hm hnd r7 g37 b3 b7 hv
        go_wp2
        go_ret2
        exact ⟨_, _, _, rfl, hfin⟩
      · have hfin := hI.next hY hg2 hk hd hm hnd hg23 r7 g37 hv
        have dv : (s.cmd.verb == 18) = false := by simpa using hv
        have hG7 : GM w7 w.heap.size rowL := (hGr.kept hg3' (by simp)).kept g37 (fun e => hne e.symm)
        have hto := hfin.le
        have hpos : at_ < s.to := by have h1 := hY.to; have h2 := hY.pos; omega
        clear hI hY hk hd hm hnd r7 g37 b3 b7 hv
        go_wp2
        go_roundg (R - s.to)
        case measure => omega
        case rel => exact ⟨s.to, _, by omega, rfl, hfin, hG7⟩
end Go.Proofs.YtbbocbdoiealoaaGreatDoor
namespace Go.Proofs.YtbbocbdoiealoaaGreatDoor
open Go.RowKit Go.Maps
set_option maxRecDepth 100000 in
set_option maxHeartbeats 4000000 in
theorem ix_nil (w : World) : Calls Tryz.prog 123 #[.slice none 0 0, .int .u8 10] w fun e w' => e = .returned (.int .i64 (-1)) ∧ w' = w := by
  have h := Lib.run_indexByteNil (P := Tryz.prog) w 0 0 10
  go_enter Tryz.func123, Tryz.ntmps123
  go_wp2
  rw [run_callFunc_extern Tryz.func152 (by kernel_rfl) (by kernel_rfl) (by kernel_rfl) (e := Extern.BytealgIndexByte.indexByte) (by kernel_rfl), h]
  simp only [Result.andThen]
  rw [Oper.upon_value]
  go_wp2
  go_ret
  exact ⟨rfl, rfl⟩
set_option maxRecDepth 100000 in
set_option maxHeartbeats 4000000 in
theorem step_nil {w : World} {gb lim : Nat} :
    Calls Tryz.prog 81 #[.map (some gb), .slice none 0 0, .int .i64 0, .int .i64 lim] w fun e w' => e = .returned (.tuple #[.agg Z86, .bool false]) ∧ w.grownBy w' none := by
  have ga := gb_alloc (gb_refl w none) (.cells Z86 85)
  have bx := Box.new w 85 Z86
  have h118 := ix_nil (w.alloc (.cells Z86 85))
  go_enter Tryz.func81, Tryz.ntmps81
  go_wp2_with (first | (go_at_call 123; go_must ((with_reducible refine h118.mono ?_); rintro e w4 ⟨rfl, rfl⟩)) | (refine atS 85 w.heap.size 0 rfl rfl ?_; go_must (refine storeT 85 16 size86 rfl _ _ rfl 85 w.heap.size 0 _ bx (by simp) rfl _ rfl rfl (by simp [Value.oneCell']) ?_); intro W4 hb4 hg4; (simp only [sets_0] at hb4)))
  exact ⟨rfl, _, res76 hb4 _ rfl rfl, rfl, gb_mine ga hg4 (Nat.le_refl _)⟩
set_option maxRecDepth 100000 in
set_option maxHeartbeats 4000000 in
theorem all_nil {w : World} (lim : Int) (hm1 : lim ≤ 9223372036854775807) (hm2 : -9223372036854775808 ≤ lim) :
    Calls Tryz.prog 29 #[.slice none 0 0, .int .i64 lim] w fun e w' => ∃ rv q left, e = .returned (.tuple #[rv, .int .i64 left]) ∧ AlR w lim.toNat [] q rv left w' := by
  have h62 := rows_9 w
  obtain ⟨L, hL⟩ : ∃ L, lim.toNat = L := ⟨_, rfl⟩
  have hmax : max lim 0 = (L : Int) := by omega
  have hfin := fun {W W2 : World} (hg : w.grownBy W none) (hg2 : W.grownBy W2 none) => AlI.done (AlI.start w L [] hg) (step_none (by simp)) hg2
  rw [hL]
  clear hL
  go_enter Tryz.func29, Tryz.ntmps29
  go_wp2_with (go_at_call 67; go_must ((with_reducible refine h62.mono ?_); rintro e w1 ⟨rfl, hG1, hg1⟩))
  go_loopg [7, 8] 0 (fun gk x7 x8 wr => x7 = .slice none 0 0 ∧ x8 = .int .i64 0 ∧ wr = w1)
  case atStart => exact ⟨rfl, rfl, rfl⟩
  case round =>
    obtain ⟨rfl, rfl, rfl⟩ := hrel
    have h76 := step_nil (w := wr) (gb := w.heap.size) (lim := L)
    go_wp2_with (first
      | (go_at_call 81; go_must ((with_reducible refine h76.mono ?_); rintro e w2 ⟨rfl, hg2⟩))
      | (refine atS 85 w2.heap.size 0 rfl rfl ?_; go_must (refine storeT 85 16 size86 rfl _ _ rfl 85 w2.heap.size 0 _ (Box.new w2 85 Z86) (by simp) rfl _ rfl rfl (by simp [Value.oneCell']) ?_); intro W3 b3 hg3; (simp only [sets_0] at b3)))
    have h3 := hfin hg1 (gb_trans hg2 (gb_mine (gb_alloc (gb_refl w2 none) _) hg3 (Nat.le_refl _)))
    go_ret2
    exact ⟨_, _, _, rfl, h3⟩
theorem all_27 {w : World} (hE : Er w) {v : Value} {raw : Bs} (hv : Ck w (fun _ => False) v raw) (hlen : raw.length ≤ 34359738368) (lim : Int) (hm1 : lim ≤ 9223372036854775807) (hm2 : -9223372036854775808 ≤ lim) :
    Calls Tryz.prog 29 #[v, .int .i64 lim] w fun e w' => ∃ rv q left, e = .returned (.tuple #[rv, .int .i64 left]) ∧ AlR w lim.toNat raw q rv left w' := by
  rcases hv with ⟨rfl, rfl⟩ | ⟨g, o, c, rfl, h2, h3, h4, -, h6⟩
  · exact all_nil lim hm1 hm2
  · exact all_some hE ⟨h2, h3, h4, h6, by omega⟩ hlen lim hm1 hm2
end Go.Proofs.YtbbocbdoiealoaaGreatDoor
namespace Go.Proofs.YtbbocbdoiealoaaGreatDoor
open Go.RowKit Go.Maps
theorem OwC.len {w : World} {B n c : Nat} {a : Option Addr} {l : Bs} (h : OwC w B (.slice a n c) l) : n = l.length := by
  rcases h with ⟨e, rfl⟩ | ⟨g, cap, cur, fz, e, _⟩
  · injection e
  · injection e
theorem bsX_len {x : CI} (hd : x.d.length ≤ 65536) : (bsX x).length ≤ 70000 := by
  unfold bsX
  split
  · next h =>
    unfold mayX at h
    rw [Bool.and_eq_true, decide_eq_true_eq] at h
    have h3 := ((mayB_iff (i := (x.c.verb - 1).toNat) (by omega)).1 h.2).2.2
    generalize (x.c.verb - 1).toNat = i at *
    unfold bsB
    split <;> simp <;> omega
  · simp
theorem StR.sg {w : World} {X : Nat → Prop} {s : Stp} {ck cd cm : Value} (h : StR w X s ck cd cm) (hd : s.data.length ≤ 65536) : Sg2 w s ck cd cm := by
  have hr := h.sr (by omega)
  exact ⟨hr.k, hr.d, hr.m.fg, hr.kn, hr.mn⟩
abbrev stc (c : Cmd) (ck cd cm : Value) (a b : Int) : Array Value := #[.int .i64 c.verb, ck, .int .u64 c.flags, .int .i64 c.exp, .int .u64 c.tok, .int .u64 c.del, cd, .bool c.nr, .bool false, cm, sv c.what, .int .i64 0, .string ⟨#[]⟩, .int .i64 0, .int .i64 a, .int .i64 b]
theorem wbytes_x {w : World} (hE : Er w) (hp : Pw w) {x : CI} (h : CiOk w x) (hkn : x.c.keys.length ≤ 10000000) (hmn : x.c.mt.length ≤ 1000000) (hfl : ∀ f ∈ x.c.mt, f.arg.length ≤ 1099511627776) (hLn : ∀ i, i < 24 → (lnB i x.c x.d.length).length ≤ 1000000000) {en : Int} {L : Bs} (hen : (if mayX x then (0 : Int) else 7) = en) (hL : bsX x = L) :
    Calls Tryz.prog 35 #[.agg (ciL x).toArray] w fun e w' => w.grownBy w' none ∧ ∃ va vn vc, e = .returned (.tuple #[.slice va vn vc, .int .i64 en]) ∧ OwC w' w.heap.size (.slice va vn vc) L := by
  refine (wbytes_doc hE hp h hkn (by omega) hfl hLn).mono ?_
  rintro e w' ⟨g, va, vn, vc, rfl, ho⟩
  exact ⟨g, va, vn, vc, by rw [hen], by rw [← hL]; exact ho⟩
theorem all_x {w : World} (hE : Er w) {v : Value} {x : CI} (hm : mayX x = true) (hr : RngP x.c) (hd : x.d.length ≤ 65536) (hv : Ck w (fun _ => False) v (bsX x)) :
    Calls Tryz.prog 29 #[v, .int .i64 (x.d.length : Int)] w fun e w' => ∃ g c ck cd cm, e = .returned (.tuple #[.slice (some ⟨g, 0, none⟩) 1 c, .int .i64 0]) ∧ w.grownBy w' none ∧ (∀ j u, (stc x.c ck cd cm 0 ((bsX x).length : Int)).toList[j]? = some u → w'.cell? ⟨g, j, none⟩ = some u) ∧ Sg2 w' (stpX x 0) ck cd cm := by
  have hb := bsX_len hd
  refine (all_27 hE hv (by omega) (x.d.length : Int) (by omega) (by omega)).mono ?_
  rintro e w' ⟨rv, q, left, rfl, hA⟩
  have hraw : bsX x = rawX [x] := by simp [rawX]
  rw [Int.toNat_natCast, hraw] at hA
  obtain ⟨e1, rfl, e3⟩ := hA.back (fun y hy => by rw [List.mem_singleton.1 hy]; exact ⟨hm, hr, Nat.le_refl _⟩) (fun y hy => by simp at hy)
  obtain ⟨t, rfl⟩ : ∃ t, q = [t] := by
    rcases q with _ | ⟨t, _ | ⟨t2, q⟩⟩
    · simp at e3
    · exact ⟨t, rfl⟩
    · simp at e3
  have es : t.s = stpX x 0 := by simpa [stsX] using e1
  obtain ⟨ao, c, rfl, -, -, -, hpos⟩ := row_shape hA.ss.row
  obtain ⟨g, rfl⟩ := hpos (by simp)
  have hst := hA.ss.all t (by simp)
  refine ⟨g, c, t.ck, t.cd, t.cm, rfl, hA.gb, fun j u hu => ?_, ?_⟩
  · refine row_cell hA.ss.row j u ?_
    have : [t].flatMap tldL = stpL t.s t.ck t.cd t.cm := by simp
    rw [this, es, show stpL (stpX x 0) t.ck t.cd t.cm = (stc x.c t.ck t.cd t.cm 0 ((bsX x).length : Int)).toList by unfold stpX; rw [Nat.zero_add]; rfl]
    exact hu
  · rw [es] at hst
    exact hst.sg hd
end Go.Proofs.YtbbocbdoiealoaaGreatDoor
