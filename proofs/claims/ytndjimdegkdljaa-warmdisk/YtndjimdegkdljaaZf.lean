import Derived.Test.YtndjimdegkdljaaZb
import Derived.Test.YtndjimdegkdljaaZ
import Derived.Laws.CopyOwn
import Derived.Laws.OwnMore
import Derived.Deep.RegionWith
/-
  A file cut at a restart.
-/
namespace Go.Proofs.Ytndjimdegkdljaa
open Go.RowKit Go.MapKept
set_option linter.unusedVariables false
set_option linter.unusedSimpArgs false
attribute [local go_sem] Oper.semAt_some

/-- make([]byte, c). -/
theorem make_38 (w : World) (c : Nat) (hc : c ≤ 1000000000) : ∃ w' cur, (Instr.makeSlice 38 (.int .i64 (c : Int)) (.int .i64 (c : Int))).run Try.prog w = .ok (.slice (some ⟨w.heap.size, 0, none⟩) c c) w' ∧
    w'.heap[w.heap.size]? = some (.cells (List.toArray cur) 5 (0, 0)) ∧ cur.length = c ∧ w.grownBy w' none := by
  obtain ⟨ti, T⟩ := ty38
  obtain ⟨w', h1, h2, h3⟩ := run_make_full (P := Try.prog) w w.heap.size 38 5 ti (.int .u8 0) 1 T.u T.i T.z T.s .i64 .i64 c (by rw [T.b]; omega) (by unfold maxLen; omega) (Nat.le_refl _)
  rcases h2.2 with ⟨e, _⟩ | ⟨g, cap, cur, e, _, hh, _, _, hs, _⟩
  · cases e
  · injection e with e1 e2 e3
    injection e1 with e1
    injection e1 with e1
    subst e1
    refine ⟨w', cur.toList, h1, by simpa using hh, ?_, h3⟩
    have : cur.size = cap * 1 := hs
    rw [Array.length_toList, this, ← e3]
    omega
/-- copy of bytes into a row of its own. -/
theorem copy_38 {w0 w : World} {g dLen dCap sLen sCap : Nat} {sp : Option Addr} {cur cs : List Value} (hg : w.heap[g]? = some (.cells cur.toArray 5 (0, 0))) (hn : cs.length = Nat.min sLen dLen)
    (hpos : 0 < cs.length → ∃ ad, sp = some ad ∧ ∀ j v, cs[j]? = some v → w.cell? (ad.add j) = some v) (hfit : cs.length ≤ cur.length) (h1 : ∀ v ∈ cs, v.oneCell' = true) (B : Nat) (hb : Below B w0 w) (hBg : B ≤ g) :
    ∃ n w', (Builtin.copy_ #[38, 38] 3 #[.slice (some ⟨g, 0, none⟩) dLen dCap, .slice sp sLen sCap]).run Try.prog w = .ok (goInt n) w' ∧ w'.heap[g]? = some (.cells (splice cur 0 cs).toArray 5 (0, 0)) ∧ Below B w0 w' := by
  have hsz : (Try.prog.info? 5).map (·.size) = some 1 := by kernel_rfl
  by_cases h0 : cs.length = 0
  · obtain rfl : cs = [] := List.eq_nil_of_length_eq_zero h0
    exact ⟨0, w, run_copy_none (P := Try.prog) w 38 38 3 5 _ sp dLen dCap sLen sCap Try.underlying38 hsz (by simpa using hn.symm), by simpa [splice] using hg, hb⟩
  · obtain ⟨ad, rfl, hsrc⟩ := hpos (by omega)
    exact ⟨_, _, run_copy_row (P := Try.prog) w 38 38 3 5 g 0 dLen dCap ad sLen sCap cur.toArray 5 cs Try.underlying38 hsz hg hn hsrc (by simpa using hfit) h1, by simpa [splice] using setRow_heap w g _ _ 5 _ hg, below_setRow hb hBg _⟩
/-- How many bytes of a file stay: what is safe, and of the others as many as l says. -/
def cutN (f : Bs × Nat) (l : Option Int) : Nat := f.2 + (match l with | some x => (btw x ((f.1.length : Int) - (f.2 : Int))).toNat | none => 0)
theorem btw_in (x m : Int) (hm : 0 ≤ m) : 0 ≤ btw x m ∧ btw x m ≤ m := by
  have hb : btw x m = min (max x 0) m := by unfold btw; (repeat' split) <;> omega
  rw [hb]
  omega
theorem cutN_le (f : Bs × Nat) (l : Option Int) (h : f.2 ≤ f.1.length) : cutN f l ≤ f.1.length := by
  unfold cutN
  cases l with
  | none => simpa using h
  | some x =>
    have := btw_in x ((f.1.length : Int) - (f.2 : Int)) (by omega)
    simp only
    omega
/-- The worlds of a cut: the new row made, the bytes copied, the file's box turned. -/
theorem cut_lay {w : World} {p : Pl} {M : Md} (h : RP w p M) {k : Nat} (hr : Reach M k) {f : Bs × Nat} (hf : M.file k = f) {ao : Option Addr} {cp : Nat} (e : p.rv k = .slice ao f.1.length cp) (hbd : f.1.length ≤ 1000000000) (c : Nat) (hcl : c ≤ f.1.length) :
    ∃ w1 w2 nn, (Instr.makeSlice 38 (.int .i64 (c : Int)) (.int .i64 (c : Int))).run Try.prog w = .ok (.slice (some ⟨w.heap.size, 0, none⟩) c c) w1 ∧ w1.cell? ⟨p.fb k, 1, none⟩ = some (.slice ao f.1.length cp) ∧
      (Builtin.copy_ #[38, 38] 3 #[.slice (some ⟨w.heap.size, 0, none⟩) c c, .slice ao f.1.length cp]).run Try.prog w1 = .ok (goInt nn) w2 ∧
      w2.cell? ⟨p.fb k, 1, none⟩ = some (.slice ao f.1.length cp) ∧ w2.cell? ⟨p.fb k, 2, none⟩ = some (.int .i64 (f.2 : Int)) ∧ w2.frozen? ⟨p.fb k, 1, none⟩ = false ∧ w2.frozen? ⟨p.fb k, 2, none⟩ = false ∧
      (∃ v, (RP ((w2.setCell ⟨p.fb k, 1, none⟩ (.slice (some ⟨w.heap.size, 0, none⟩) c c)).setCell ⟨p.fb k, 2, none⟩ (.int .i64 (c : Int))) (p.put k v) (M.put k (f.1.take c, c)) ∧ Aft w ((w2.setCell ⟨p.fb k, 1, none⟩ (.slice (some ⟨w.heap.size, 0, none⟩) c c)).setCell ⟨p.fb k, 2, none⟩ (.int .i64 (c : Int))) p (p.put k v)) ∧ Kp (fun b => b = p.fb k) w ((w2.setCell ⟨p.fb k, 1, none⟩ (.slice (some ⟨w.heap.size, 0, none⟩) c c)).setCell ⟨p.fb k, 2, none⟩ (.int .i64 (c : Int)))) := by
  have hk := reach_lt h.ok hr
  have hfl := h.fl k _ hr (file_some hk)
  have hnb := h.ok.nb _ (List.mem_of_getElem? (file_some hk))
  rw [hf] at hfl hnb
  have hpos : 0 < f.1.length → ∃ g, ao = some ⟨g, 0, none⟩ := by
    obtain ⟨ao', cp', e', -, -, -, hpos⟩ := row_shape hfl.row
    rw [e] at e'
    injection e' with e1 _ _
    subst e1
    exact hpos
  have hbox := hfl.box
  rw [e] at hbox
  have hrow := hfl.row
  rw [e] at hrow
  obtain ⟨w1, cur, hmk, hcur, hcl1, g1⟩ := make_38 w c (by omega)
  have hfbl := hbox.lt
  have hb1 := hbox.kept g1 (by simp)
  have r1 : w1.cell? ⟨p.fb k, 1, none⟩ = some (.slice ao f.1.length cp) := hb1.cell 1
  have hrow1 := row_kept hrow g1 (by simp)
  have hone := b8_one (f.1.take c)
  have hlen : ((f.1.take c).map b8).length = Nat.min f.1.length c := by
    rw [List.length_map, List.length_take]
    show min c _ = min _ c
    omega
  have hsrc : 0 < ((f.1.take c).map b8).length → ∃ ad, ao = some ad ∧ ∀ j v, ((f.1.take c).map b8)[j]? = some v → w1.cell? (ad.add j) = some v := fun hp => by
    have hp2 : 0 < f.1.length := by
      rw [List.length_map, List.length_take] at hp
      omega
    obtain ⟨gg, rfl⟩ := hpos hp2
    refine ⟨_, rfl, fun j v hj => ?_⟩
    rw [Addr.add_mid, Nat.zero_add]
    refine row_cell hrow1 j v ?_
    rw [List.map_take] at hj
    rw [List.getElem?_take] at hj
    split at hj
    · exact hj
    · cases hj
  have hsp : splice cur 0 ((f.1.take c).map b8) = (f.1.take c).map b8 := by
    unfold splice
    rw [List.take_zero, List.nil_append, Nat.zero_add, List.drop_eq_nil_of_le (by rw [hlen]; show cur.length ≤ min _ c; omega), List.append_nil]
  obtain ⟨ys, hys⟩ : ∃ ys, (f.1.take c).map b8 = ys := ⟨_, rfl⟩
  rw [hys] at hone hlen hsrc hsp
  have BX : ∀ w2 : World, Below w.heap.size w1 w2 → Box w2 109 (p.fb k) #[.int .i64 (k : Int), .slice ao f.1.length cp, .int .i64 (f.2 : Int)] := fun w2 hb2 => by
    obtain ⟨_, _, _, _, d5⟩ := hb2
    exact (d5 _ hfbl).trans hb1
  have FIN : ∀ w2 : World, w2.heap[w.heap.size]? = some (.cells (splice cur 0 ys).toArray 5 (0, 0)) → Below w.heap.size w1 w2 →
      ∃ v, (RP ((w2.setCell ⟨p.fb k, 1, none⟩ (.slice (some ⟨w.heap.size, 0, none⟩) c c)).setCell ⟨p.fb k, 2, none⟩ (.int .i64 (c : Int))) (p.put k v) (M.put k (f.1.take c, c)) ∧ Aft w ((w2.setCell ⟨p.fb k, 1, none⟩ (.slice (some ⟨w.heap.size, 0, none⟩) c c)).setCell ⟨p.fb k, 2, none⟩ (.int .i64 (c : Int))) p (p.put k v)) ∧ Kp (fun b => b = p.fb k) w ((w2.setCell ⟨p.fb k, 1, none⟩ (.slice (some ⟨w.heap.size, 0, none⟩) c c)).setCell ⟨p.fb k, 2, none⟩ (.int .i64 (c : Int))) := by
    intro w2 h2 hb2
    have bx := BX w2 hb2
    obtain ⟨d1, d2, d3, d4, d5⟩ := hb2
    have K0 : Kp (fun b => b = p.fb k) w w2 := ⟨d1.trans g1.os, d2.trans g1.tape, d3.trans g1.output, Nat.le_trans g1.size d4, fun i hi _ => (d5 i hi).trans (g1.block i hi (by simp))⟩
    have gd : w2.grownBy ((w2.setCell ⟨p.fb k, 1, none⟩ (.slice (some ⟨w.heap.size, 0, none⟩) c c)).setCell ⟨p.fb k, 2, none⟩ (.int .i64 (c : Int))) (some (p.fb k)) := gb_setCell (gb_setCell (gb_refl _ _) _) _
    have K1 := K0.step gd (fun i hi => .inl (Option.some.inj hi).symm)
    rw [hsp] at h2
    have hlt : (f.1.take c).length = c := by rw [List.length_take]; omega
    have hown : w2.ownsRow 0 5 1 (.slice (some ⟨w.heap.size, 0, none⟩) c c) c ys := by
      have hyl : ys.length = c := by rw [hlen]; show min _ c = c; omega
      exact ⟨by omega, .inr ⟨w.heap.size, c, ys.toArray, rfl, Nat.zero_le _, h2, Nat.le_refl _, by unfold maxLen; omega, by simp [hyl], by rw [Nat.mul_one, ← hyl]; simp⟩⟩
    refine ⟨.slice (some ⟨w.heap.size, 0, none⟩) c c, h.filed (f := (f.1.take c, c)) hr (by simp only [hlt]; omega) (by simp only [hlt]; omega) ((bx.set 1 _).set 2 _) ?_ (K1.mono (fun i hi => .inl (.inl hi))) (fun b hb => ?_), K1⟩
    · simp only [hlt]
      rw [hys]
      exact row_kept hown gd (fun x hx e2 => by
        simp only [Value.ownBlock, Option.some.injEq] at hx
        have := Option.some.inj e2
        omega)
    · simp only [Value.ownBlock, Option.some.injEq] at hb
      exact .inr (by omega)
  have hfit : ys.length ≤ cur.length := by rw [hlen, hcl1]; show min _ c ≤ c; omega
  obtain ⟨nn, w2, hcp, h2, hb2⟩ := copy_38 (dLen := c) (dCap := c) (sLen := f.1.length) (sCap := cp) hcur hlen hsrc hfit hone w.heap.size (Below.refl w.heap.size w1) (Nat.le_refl _)
  have bx := BX w2 hb2
  have s1 : w2.cell? ⟨p.fb k, 1, none⟩ = some (.slice ao f.1.length cp) := bx.cell 1
  have s2 : w2.cell? ⟨p.fb k, 2, none⟩ = some (.int .i64 (f.2 : Int)) := bx.cell 2
  have z1 : w2.frozen? ⟨p.fb k, 1, none⟩ = false := bx.fz 1
  have z2 : w2.frozen? ⟨p.fb k, 2, none⟩ = false := bx.fz 2
  exact ⟨w1, w2, nn, hmk, r1, hcp, s1, s2, z1, z2, FIN w2 h2 hb2⟩
set_option maxRecDepth 100000 in
set_option maxHeartbeats 4000000 in
theorem cut_48 {w : World} {p : Pl} {M : Md} (h : RP w p M) {k : Nat} (hr : Reach M k) {lv : Value} {ls : List Int} (hlv : w.ownsRow 0 3 1 lv ls.length (ls.map (Value.int .i64))) (hbd : (M.file k).1.length ≤ 1000000000) :
    Calls Try.prog 48 #[pv (p.fb k), lv] w fun e w' => e = .returned (.tuple #[]) ∧ ∃ v, (RP w' (p.put k v) (M.put k ((M.file k).1.take (cutN (M.file k) ls[k]?), cutN (M.file k) ls[k]?)) ∧ Aft w w' p (p.put k v)) ∧ Kp (fun b => b = p.fb k) w w' := by
  have hk := reach_lt h.ok hr
  have hfl := h.fl k _ hr (file_some hk)
  have hfle := h.ok.fl _ (List.mem_of_getElem? (file_some hk))
  have hnb := h.ok.nb _ (List.mem_of_getElem? (file_some hk))
  have hkf : k < 100000 := by have := h.ok.nf; have := h.ok.na; omega
  obtain ⟨f, hf⟩ : ∃ f, M.file k = f := ⟨_, rfl⟩
  rw [hf] at hfl hfle hbd hnb ⊢
  obtain ⟨ao, cp, e, -, -, -, hpos⟩ := row_shape hfl.row
  obtain ⟨la, lc, el, -, -, -, hlp⟩ := row_shape hlv
  have hcl := cutN_le f ls[k]? hfle
  obtain ⟨c, hc⟩ : ∃ c, cutN f ls[k]? = c := ⟨_, rfl⟩
  rw [hc] at hcl ⊢
  have hbox := hfl.box
  rw [e] at hbox
  have hrow := hfl.row
  rw [e] at hrow
  have q0 : w.cell? ⟨p.fb k, 0, none⟩ = some (.int .i64 (k : Int)) := hbox.cell 0
  have q1 : w.cell? ⟨p.fb k, 1, none⟩ = some (.slice ao f.1.length cp) := hbox.cell 1
  have q2 : w.cell? ⟨p.fb k, 2, none⟩ = some (.int .i64 (f.2 : Int)) := hbox.cell 2
  have LAY := Lib.hid (fun (W : World) (hW : RP W p M) => cut_lay hW hr hf e hbd c hcl)
  have HH := Lib.hid h
  have hfl' := hfl
  subst el
  by_cases hkn : k < ls.length
  · obtain ⟨x, hx⟩ : ∃ x, ls[k]? = some x := ⟨_, List.getElem?_eq_getElem hkn⟩
    obtain ⟨lg, rfl⟩ := hlp (by omega)
    have q3 : w.cell? ⟨lg, k, none⟩ = some (.int .i64 x) := row_cell hlv k _ (by rw [List.getElem?_map, hx]; rfl)
    have hbt := btw_in x ((f.1.length : Int) - (f.2 : Int)) (by omega)
    have h46 := fun W => within_46 x ((f.1.length : Int) - (f.2 : Int)) (by omega) W
    obtain ⟨mo, hmo⟩ : ∃ mo : Nat, btw x ((f.1.length : Int) - (f.2 : Int)) = (mo : Int) := ⟨_, (Int.toNat_of_nonneg hbt.1).symm⟩
    rw [hmo] at h46 hbt
    have hcz : c = f.2 + mo := by
      rw [← hc, hx]
      unfold cutN
      simp only [hmo, Int.toNat_natCast]
    have hkn2 : (k : Int) < ((ls.length : Nat) : Int) := by omega
    have hk0 : (0 : Int) ≤ (k : Int) := by omega
    have hw1 : IntKind.i64.wrap ((f.1.length : Int) - (f.2 : Int)) = (f.1.length : Int) - (f.2 : Int) := by rw [IntKind.wrap_i64]; omega
    have hw2 : IntKind.i64.wrap ((f.2 : Int) + (mo : Int)) = ((f.2 + mo : Nat) : Int) := by rw [IntKind.wrap_i64]; omega
    have hcc : ((f.2 + mo : Nat) : Int) = (f.2 : Int) + (mo : Int) := by omega
    subst hcz
    clear h hfl hfl' hrow hbox hlv hc hpos hlp hf hr hk e hx hmo
    generalize hgk : p.fb k = gk at *
    generalize hnl : ls.length = nl at *
    go_enter Try.func48, Try.ntmps48
    go_upto_region 2 with fail
    go_quiet ((go_at_call 46; exact Calls.quiet_of_same (h46 _)))
    have hWn : RP (w.drewN nq) p M := HH.out.gb (gb_drewN (gb_refl _ _) _)
    obtain ⟨w1, w2, nn, hmk, r1, hcp, s1, s2, z1, z2, FIN⟩ := LAY.out (w.drewN nq) hWn
    have hszz : (w.drewN nq).heap.size = w.heap.size := rfl
    rw [hszz] at hmk hcp FIN
    have HF := Lib.hid FIN
    rw [hcc] at hmk
    clear hszz
    clear FIN hWn LAY
    go_wp2_with fail
    go_end0
    obtain ⟨v, ⟨f1, f2⟩, f3⟩ := HF.out
    rw [hcc] at f1 f2 f3
    exact ⟨rfl, v, ⟨f1, (Aft.of (gb_drewN (gb_refl _ _) _)).trans f2⟩, (Kp.of (gb_drewN (gb_refl w none) nq)).trans f3 (fun _ h => h) (fun _ h => .inl h)⟩
  · have hcz : c = f.2 := by
      rw [← hc, List.getElem?_eq_none (by omega)]
      rfl
    have hkn2 : ((ls.length : Nat) : Int) ≤ (k : Int) := by omega
    subst hcz
    obtain ⟨w1, w2, nn, hmk, r1, hcp, s1, s2, z1, z2, FIN⟩ := LAY.out w HH.out
    have HF := Lib.hid FIN
    clear h hfl hfl' hrow hbox hlv hc hpos hlp hf hr hk e FIN LAY HH
    generalize hgk : p.fb k = gk at *
    generalize hnl : ls.length = nl at *
    go_enter Try.func48, Try.ntmps48
    go_wp2_with fail
    go_end0
    exact ⟨rfl, HF.out⟩
end Go.Proofs.Ytndjimdegkdljaa
