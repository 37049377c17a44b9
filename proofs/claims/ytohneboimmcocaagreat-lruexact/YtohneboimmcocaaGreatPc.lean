import Derived.Test.YtohneboimmcocaaGreatOm
import Derived.Test.YtohneboimmcocaaGreatPb
/-
  The law's deads.
-/
namespace Go.Proofs.YtohneboimmcocaaGreat
open Go.RowKit
set_option linter.unusedVariables false

section
variable {w : World} {P : Nat → Prop} {wb N : Nat} {hot warm : Nat} {D0 : Wd}
set_option maxRecDepth 100000 in
set_option maxHeartbeats 1000000 in
theorem deads_39 (hG : GS w P wb N hot warm D0) (bt : Int) : Calls Tryz.prog 39 #[.pointer (some ⟨wb, 0, none⟩), .int .i64 bt] w fun y w' => ∃ (v : Value) (ds : List Nat), ds.length ≤ 300 ∧ y = .returned v ∧ w.grownBy w' none ∧ w'.ownsRow w.heap.size 27 1 v ds.length (uvs ds) := by
  obtain ⟨ao, n, cc, hn, hC6, hcell⟩ := hG.told
  clear hG
  go_enter Tryz.func39, Tryz.ntmps39
  go_wp2
  go_loopw [5, 6] (fun ov iv wr => ∃ (i : Nat) (ds : List Nat), i ≤ n ∧ ds.length ≤ i ∧ iv = .int .i64 i ∧ wr.ownsRow w.heap.size 27 1 ov ds.length (uvs ds) ∧ w.grownBy wr none) (fun _ iv _ => n - (intOf iv).toNat)
  case atStart => exact ⟨0, [], by omega, by simp, rfl, World.ownsRow_nil _ _ _ _, gb_refl _ _⟩
  case round =>
    obtain ⟨i, ds, hi, hd, rfl, ho, hg⟩ := hrel
    have c6 := hC6 wr hg
    obtain ⟨oa, oc, rfl, _, _, _, _⟩ := row_shape ho
    by_cases hlt : i < n
    · have e1 : decide ((i : Int) < n) = true := decide_eq_true (by omega)
      have e1' : (i : Int) < n := by omega
      obtain ⟨g, H, rfl, h64, hcl⟩ := hcell i hlt
      have ch := hcl wr hg
      have cb : ∀ o, (wr.alloc o).cell? ⟨g, i, none⟩ = some (.int .u64 H) := fun o => gb_cellN (World.grownBy_alloc wr o none) ch
      have c6b : ∀ o, (wr.alloc o).cell? ⟨wb, 6, none⟩ = some (.slice (some ⟨g, 0, none⟩) n cc) := fun o => gb_cellN (World.grownBy_alloc wr o none) c6
      have hsz := hg.size
      have hlo : ∀ bk, (Value.slice oa ds.length oc).ownBlock = some bk → w.heap.size ≤ bk := fun bk hb => (ho.lt bk hb).1
      clear hcell hcl
      rcases hb : (bits BinOp.and IntKind.i64 (bt / 2 ^ (i % 62)) 1 == 1) with _ | _
      · go_wp2_with fail
        exact ⟨⟨i + 1, ds, by omega, by omega, by go_num, ho, hg⟩, by simp [intOf]; omega⟩
      · go_wp2_with (first | (at_builtin; go_must (refine push26 rfl _ _ rfl w.heap.size (.slice oa ds.length oc) ds.length (uvs ds) (by rfl) ho (H : Int) (by rfl) (by omega) hsz ?_); intro g1 cap1 w4 ho4 hg4 hat4) | fail)
        exact ⟨⟨i + 1, ds ++ [H], by omega, by simp; omega, by go_num, by rw [uvs_app, List.length_append]; exact ho4, gb_far hg hg4 hlo (Nat.le_refl _)⟩, by simp [intOf]; omega⟩
    · obtain rfl : i = n := by omega
      have e1 : decide ((i : Int) < i) = false := decide_eq_false (by omega)
      clear hcell
      go_wp2
      go_ret
      exact ⟨_, ds, by omega, rfl, hg, ho⟩
end
end Go.Proofs.YtohneboimmcocaaGreat
/-
  LruExact: the row of any class, the program's and the document's.
-/
namespace Go.Proofs.YtohneboimmcocaaGreat
open Go.RowKit Go.Shelf
set_option linter.unusedVariables false

/-- A row R of items of T, with the marks mk: the program's iterator and the document's Row. -/
structure GR (w : World) (xb mb : Nat) (C : Int) (R T : List Nat) (mk : Nat → Nat) : Prop where
  ln : R.length ≤ 5000
  seq : ∀ (W : World) (Bl Bc m : Nat), 1 ≤ m → w.heap.size ≤ W.heap.size → Bl < W.heap.size → Bc < W.heap.size → W.cell? ⟨Bl, 0, none⟩ = some (.pointer (some ⟨xb, 0, none⟩)) → W.cell? ⟨Bc, 0, none⟩ = some (.int .i64 C) → Below w.heap.size w W → SeqStopsK Fence.wide m Tryz.prog 116 #[.pointer (some ⟨Bl, 0, none⟩), .pointer (some ⟨Bc, 0, none⟩)] (fun x : { H : Nat // H ∈ T } => #[Value.int .u64 (x.1 : Nat)]) (KI w.heap.size Bl Bc) (fun ys => ys.map Subtype.val = R) (fun pre => pre.map Subtype.val <+: R) R.length W
  act : ∀ W H, Below w.heap.size w W → H ∈ T → Calls Tryz.prog 81 #[.pointer (some ⟨xb, 0, none⟩), .int .u64 (H : Nat)] W fun y w' => y = .returned (.bool (decide (mk H % 2 = 1))) ∧ W.grownBy w' none
  row : ∀ W, w.grownBy W none → Calls Tryz.prog 82 #[.pointer (some ⟨mb, 0, none⟩), .int .i64 C] W fun y w' => ∃ v, y = .returned v ∧ W.grownBy w' none ∧ w'.ownsRow W.heap.size 27 1 v R.length (uvs R)
  is : ∀ W H, w.grownBy W none → H ∈ R → Calls Tryz.prog 45 #[.pointer (some ⟨mb, 0, none⟩), .int .u64 (H : Nat)] W fun y w' => y = .returned (.bool (decide (mk H % 2 = 1))) ∧ W = w'
theorem gs_row {w : World} {P : Nat → Prop} {wb N hot warm : Nat} {D0 : Wd} (hG : GS w P wb N hot warm D0) (C : Int) : ∃ (R T : List Nat) (mk : Nat → Nat), GR w D0.xb D0.mb C R T mk := by
  obtain ⟨D, lsb, vs, Y, S, cl, hs, hW⟩ := hG
  obtain ⟨bs, p, n, s, hX⟩ := hW.gx
  have hN := hW.nN
  have hlt := hX.lt (by omega)
  have hLQ := hX.lq hW.ms (by omega)
  have hLB := hLQ.lb
  obtain ⟨szb, szc, hds⟩ := hW.ms.ds hX.rf hX.rn
  have e1 : D.xb = D0.xb := hs.2.2.1
  have e2 : D.mb = D0.mb := hs.2.2.2.2.2
  rw [← e1, ← e2]
  by_cases hC : 0 ≤ C ∧ C < 3
  · obtain ⟨c, rfl⟩ : ∃ c : Nat, C = (c : Int) := ⟨C.toNat, by omega⟩
    have hc : c < 3 := by omega
    have hY : rowN (fun ci k => Y (3 * ci + k)) c = rowN S.X c := by
      unfold rowN
      dsimp only
      rw [hW.dm.ys c 2 hc (by omega), hW.dm.ys c 1 hc (by omega), hW.dm.ys c 0 hc (by omega)]
    have ht : tot (fun ci k => Y (3 * ci + k)) c < 900 := by
      have := hlt.ln c
      unfold tot at *
      dsimp only
      rw [hW.dm.ys c 2 hc (by omega), hW.dm.ys c 1 hc (by omega), hW.dm.ys c 0 hc (by omega)]
      exact this
    refine ⟨rowN S.X c, D.xl, S.ma, ?_, ?_, ?_, ?_, ?_⟩
    · have := hlt.ln c
      unfold tot at this
      simp only [rowN, List.length_append, List.length_reverse]
      omega
    · intro W Bl Bc m hm hn hBl hBc c1 c2 hB
      exact row_stops (n₀ := w.heap.size) m hm Bl Bc (by rw [hX.n3]; exact hc) hn hBl hBc c1 c2 (hLB.below hB)
    · intro W H hB hH
      exact active_81 (hLB.below hB).lq hH
    · intro W hf
      have := d_row (hds.kept0 hf) hc ht
      rw [hY] at this
      exact this
    · intro W H hf hH
      have hHT : H ∈ D.xl := by
        simp only [rowN, List.mem_append, List.mem_reverse] at hH
        rcases hH with (h | h) | h <;> exact (hlt.sub _ _ _ h).1
      have := ris_45 (hds.kept0 hf).mbx (hds.kept0 hf).arow (by omega) H
      rw [show decide (H ∈ D.xa) = decide (S.ma H % 2 = 1) from decide_eq_decide.2 (hW.dm.ac H hHT)] at this
      exact this
  · refine ⟨[], [], fun _ => 0, by simp, ?_, ?_, ?_, ?_⟩
    · intro W Bl Bc m hm hn hBl hBc c1 c2 hB l J Jx W' hW' hJ hJx hY h0
      have hB' : Below w.heap.size w W' := hB.trans (hW'.mono hn)
      have hbx : ∀ W1, Below w.heap.size W' W1 → Box W1 169 D.qb #[.pointer (some ⟨D.sb, 0, none⟩), .slice (some ⟨D.gl, 0, none⟩) D.A.n D.gc] := fun W1 h1 => by
        obtain ⟨p', n', s', L', ⟨zs', hz', hq'⟩, hI'⟩ := (hLB.below (hB'.trans h1)).lq.ql.ex
        exact hq'.box
      have h3 := hX.n3
      exact row1_no (n₀ := w.heap.size) (qb := D.qb) m hm l Bl Bc J Jx W' (Nat.le_trans hn hW'.size) (Nat.lt_of_lt_of_le hBl hW'.size) (Nat.lt_of_lt_of_le hBc hW'.size) hJ ((hW'.cell (p := ⟨Bl, 0, none⟩) hBl).trans c1) ((hW'.cell (p := ⟨Bc, 0, none⟩) hBc).trans c2)
        (fun W1 h1 => (hLB.below (hB'.trans h1)).lq.bx.cell 1)
        (fun W1 k h1 => q_tailNo (hbx W1 h1) (by omega) (by omega) k)
        (fun W1 k h1 => q_lenNo (hbx W1 h1) (by omega) (by omega) k) h0
    · intro W H hB hH
      simp at hH
    · intro W hf
      refine (d_row_no (hds.kept0 hf) hC).mono ?_
      rintro y w' ⟨rfl, rfl⟩
      exact ⟨_, rfl, gb_refl _ _, World.ownsRow_nil _ _ _ _⟩
    · intro W H hf hH
      simp at hH
end Go.Proofs.YtohneboimmcocaaGreat
