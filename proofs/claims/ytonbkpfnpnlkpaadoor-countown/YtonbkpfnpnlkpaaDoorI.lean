/-
  Names, and what Stats tells.
-/
import Derived.Test.YtonbkpfnpnlkpaaDoorE
import Derived.Test.YtonbkpfnpnlkpaaDoorH
import Derived.Deep.MidRow
import Derived.Great.BuildSlice
namespace Go.Proofs.YtonbkpfnpnlkpaaDoor
open Go.RowKit Go.MuLone
set_option linter.unusedVariables false
set_option linter.unusedSimpArgs false
attribute [local go_sem] Oper.semAt_some

/-- The words of the names; the first is no name's. -/
def wrds : List Bs := [[], [99, 109, 100, 95, 103, 101, 116], [99, 109, 100, 95, 115, 101, 116], [99, 109, 100, 95, 116, 111, 117, 99, 104], [99, 109, 100, 95, 102, 108, 117, 115, 104], [99, 109, 100, 95, 109, 101, 116, 97], [103, 101, 116, 95, 104, 105, 116, 115], [103, 101, 116, 95, 109, 105, 115, 115, 101, 115], [103, 101, 116, 95, 101, 120, 112, 105, 114, 101, 100], [103, 101, 116, 95, 102, 108, 117, 115, 104, 101, 100], [100, 101, 108, 101, 116, 101, 95, 104, 105, 116, 115], [100, 101, 108, 101, 116, 101, 95, 109, 105, 115, 115, 101, 115], [105, 110, 99, 114, 95, 104, 105, 116, 115], [105, 110, 99, 114, 95, 109, 105, 115, 115, 101, 115], [100, 101, 99, 114, 95, 104, 105, 116, 115], [100, 101, 99, 114, 95, 109, 105, 115, 115, 101, 115], [99, 97, 115, 95, 104, 105, 116, 115], [99, 97, 115, 95, 98, 97, 100, 118, 97, 108], [99, 97, 115, 95, 109, 105, 115, 115, 101, 115], [116, 111, 117, 99, 104, 95, 104, 105, 116, 115], [116, 111, 117, 99, 104, 95, 109, 105, 115, 115, 101, 115], [101, 118, 105, 99, 116, 105, 111, 110, 115], [114, 101, 99, 108, 97, 105, 109, 101, 100], [114, 101, 102, 117, 115, 101, 100], [116, 111, 116, 97, 108, 95, 105, 116, 101, 109, 115], [99, 117, 114, 114, 95, 105, 116, 101, 109, 115], [98, 121, 116, 101, 115], [116, 111, 116, 97, 108, 95, 99, 111, 110, 110, 101, 99, 116, 105, 111, 110, 115], [99, 117, 114, 114, 95, 99, 111, 110, 110, 101, 99, 116, 105, 111, 110, 115], [99, 114, 97, 119, 108, 101, 100], [98, 97, 100, 95, 108, 105, 110, 101, 115]]
def wrd (i : Nat) : Bs := wrds.getD i []
/-- The table of words lies in its block. -/
def Wo (w : World) : Prop := ∀ i, i < 31 → w.cell? ⟨0, i, none⟩ = some (sv (wrd i))
theorem Wo.kept {w w' : World} (h : Wo w) {F : Nat → Prop} (hk : Kp F w w') (h0 : ¬ F 0) : Wo w' := fun i hi => hk.cell (h i hi) h0
def nmW (n : Int) : Bs := if nm n then wrd n.toNat else []
set_option maxRecDepth 100000 in
set_option maxHeartbeats 4000000 in
theorem name_25 (n : Int) (w : World) (hW : Wo w) : Calls Tryd.prog 25 #[.int .i64 n] w fun e w' => e = .returned (sv (nmW n)) ∧ w' = w := by
  have h38 := fun W => isName_38 n W
  cases hn : nm n
  · rw [hn] at h38
    have er : nmW n = [] := by simp [nmW, hn]
    rw [er]
    clear er hn
    go_enter Tryd.func25, Tryd.ntmps25
    go_wp2_with (go_at_call 38; (with_reducible refine (h38 _).mono ?_); rintro e w1 ⟨rfl, h1⟩; (have h2 := h1.symm); subst h2)
    go_ret
    exact ⟨rfl, rfl⟩
  · rw [hn] at h38
    obtain ⟨i, hi, rfl⟩ := nm_yes hn
    have hc := hW (i + 1) (by omega)
    have er : nmW ((i : Int) + 1) = wrd (i + 1) := by simp only [nmW, hn, if_true]; congr 1
    rw [er]
    generalize wrd (i + 1) = x at *
    have hi2 : (i : Int) + 1 < 31 := by omega
    have hi0 : (0 : Int) ≤ (i : Int) + 1 := by omega
    clear er hn
    go_enter Tryd.func25, Tryd.ntmps25
    go_wp2_with (go_at_call 38; (with_reducible refine (h38 _).mono ?_); rintro e w1 ⟨rfl, h1⟩; (have h2 := h1.symm); subst h2)
    go_ret
    exact ⟨rfl, rfl⟩

/-- The lines of the first n names. -/
def stF (N : Cn) : Nat → List Value := fun i => [sv (wrd (i + 1)), .int .u64 (N (i + 1) : Nat)]
def stL (N : Cn) (n : Nat) : List Value := rng n (stF N)
theorem stF_len (N : Cn) (i : Nat) : (stF N i).length = 2 := rfl
/-- Thirty lines, in memory of its own from B on. -/
def StP (B : Nat) (N : Cn) (v : Value) (w : World) : Prop := ∃ g cap, v = .slice (some ⟨g, 0, none⟩) 30 cap ∧ w.ownsRow B 60 2 (.slice (some ⟨g, 0, none⟩) 30 cap) 30 (stL N 30)
theorem Tryd.info60 : (Tryd.prog.info? 60).map (fun i => (i.zero, i.size, i.bytes)) = some (some (.agg #[.string ⟨#[]⟩, .int .u64 0]), 2, 24) := by kernel_rfl
theorem info_parts {P : Program} {t : TypeId} {z : Value} {n m : Nat} (h : (P.info? t).map (fun i => (i.zero, i.size, i.bytes)) = some (some z, n, m)) : ∃ i, P.info? t = some i ∧ i.zero = some z ∧ i.size = n ∧ i.bytes = m := by
  cases hi : P.info? t with
  | none => simp [hi] at h
  | some i => simp [hi] at h; exact ⟨i, rfl, h.1, h.2.1, h.2.2⟩
section
variable {w : World} {ops : Array Oper} {rest : List Oper} {o op : Oper} {a : Act} {Q : Exit → Act → World → Prop}
theorem push60 (hgd : o.guard = none) (s x : Operand) (ho : o.op = .call { callee := .builtin .append, args := #[s, x], argTypes := #[37, 37] })
    (B : Nat) (v : Value) (n : Nat) (xs : List Value) (hs : a.eval s = v) (hown : w.ownsRow B 60 2 v n xs) (u : ByteArray) (z : Int) (hx : a.eval x = .slice (some ⟨w.heap.size, 0, none⟩) 1 1) (hn : n ≤ 100000000000) (hB : B ≤ w.heap.size)
    (h : ∀ g cap w', w'.ownsRow B 60 2 (.slice (some ⟨g, 0, none⟩) (n + 1) cap) (n + 1) (xs ++ [.string u, .int .u64 z]) → w.grownBy w' v.ownBlock → (v.ownBlock = some g ∨ w.heap.size ≤ g) → wpList Tryd.prog ops Q rest (a.put o.dst (.slice (some ⟨g, 0, none⟩) (n + 1) cap)) w') : wpList Tryd.prog ops Q (o :: rest) a (w.alloc (.cells #[.string u, .int .u64 z] 60)) := by
  obtain ⟨i0, hi, hz0, hz1, hz2⟩ := info_parts Tryd.info60
  exact wpList_pushN hgd s x 37 ho 60 i0 _ 2 24 Tryd.underlying37 hi hz0 hz1 hz2 rfl (by omega) (by omega) B v n xs hs hown [.string u, .int .u64 z] rfl (by simp [Value.oneCell']) hx hn hB h
theorem size88 : (Tryd.prog.info? 88).map (·.size) = some 30 := by kernel_rfl
def tlA (N : Cn) : List Value := (List.range 30).map (fun i => Value.int .u64 (N (i + 1) : Nat))
theorem atL88 {x : Operand} (b o : Nat) (ho : op.op = .load 88 x) (hx : a.eval x = .pointer (some ⟨b, o, none⟩)) (h : wpList Tryd.prog ops Q (op :: rest) a w) : wpList Tryd.prog ops Q (op :: rest) a w := h
theorem load88 (hgd : op.guard = none) (x : Operand) (ho : op.op = .load 88 x) (b : Nat) (k : Int) (N : Cn) (hb : Bd w b k N) (hx : a.eval x = .pointer (some ⟨b, 2, none⟩))
    (h : wpList Tryd.prog ops Q rest (a.put op.dst (.agg (tlA N).toArray)) w) : wpList Tryd.prog ops Q (op :: rest) a w :=
  wpList_load_mid hgd 88 x ho b 2 hx (tlA N) _ (fun j v hv => by
    have hj : j < 30 := by have := (List.getElem?_eq_some_iff.1 hv).1; simpa [tlA] using this
    rw [hb.get hj]
    simp [tlA, hj] at hv
    rw [hv]) Tryd.underlying88 rfl (by rw [size88]; rfl) h
end
theorem idx_any (ts : List Value) (i : Nat) (v : Value) (hi : i < 30) (hv : ts[i]? = some v) (W : World) : (Instr.index 88 (.agg ts.toArray) (.int .i64 i)).run Tryd.prog W = .ok v W := by
  have h1 : (0 : Int) ≤ (i : Int) ∧ (i : Int) < 30 := by omega
  simp [Instr.index, run_underlying Tryd.underlying88, asIntOf, h1, go_sem, hv]
  omega
theorem idx_88 (N : Cn) (i : Nat) (hi : i < 30) (W : World) : (Instr.index 88 (.agg (tlA N).toArray) (.int .i64 i)).run Tryd.prog W = .ok (.int .u64 (N (i + 1) : Nat)) W :=
  idx_any _ i _ hi (by simp [tlA, hi]) W
theorem make60 (w : World) : ∃ cur : Array Value, cur.size = 60 ∧ (Instr.makeSlice 37 (.int .i64 0) (.int .i64 30)).run Tryd.prog w = .ok (.slice (some ⟨w.heap.size, 0, none⟩) 0 30) (w.alloc (.cells cur 60)) := by
  obtain ⟨i0, hi, hz0, hz1, hz2⟩ := info_parts Tryd.info60
  have := run_make (P := Tryd.prog) w 37 60 i0 _ Tryd.underlying37 hi hz0 .i64 .i64 0 30 (by omega) (by omega) (by rw [hz2]; omega) (by omega)
  exact ⟨_, by rw [size_madeCells, hz1]; rfl, this⟩
set_option maxRecDepth 100000 in
set_option maxHeartbeats 4000000 in
theorem stats_15 (b : Nat) (N : Cn) (w : World) (hB : Bd w b 0 N) (hW : Wo w) (hb0 : b ≠ 0) :
    Calls Tryd.prog 15 #[.pointer (some ⟨b, 0, none⟩)] w fun e w' => ∃ v, e = .returned v ∧ StP w.heap.size N v w' ∧ Bd w' b 0 N ∧ Kp (· = b) w w' := by
  have hl := hB.lock
  have hf := hB.fz 0
  have hB1 := hB.setLock 1
  have hK1 := Kp.setCell w b 0 (.int .i32 1)
  have hW1 := hW.kept hK1 (fun e => hb0 e.symm)
  have hs1 : (w.setCell ⟨b, 0, none⟩ (.int .i32 1)).heap.size = w.heap.size := by simp
  obtain ⟨cur, hcur, hmk⟩ := make60 (w.setCell ⟨b, 0, none⟩ (.int .i32 1))
  go_enter_defers Tryd.func15, Tryd.ntmps15
  have hg2 := World.grownBy_alloc (w.setCell ⟨b, 0, none⟩ (.int .i32 1)) (.cells cur 60) none
  have hB2 : Bd ((w.setCell ⟨b, 0, none⟩ (.int .i32 1)).alloc (.cells cur 60)) b 1 N := Box.kept hB1 hg2 (by simp)
  have hK2 := hK1.then (Kp.of (F := (· = b)) hg2)
  have hW2 := hW1.kept (Kp.of (F := (· = b)) hg2) (fun e => hb0 e.symm)
  have hrow : ((w.setCell ⟨b, 0, none⟩ (.int .i32 1)).alloc (.cells cur 60)).ownsRow w.heap.size 60 2 (.slice (some ⟨w.heap.size, 0, none⟩) 0 30) 0 [] := by
    have := World.ownsRow_made (base := w.heap.size) (e := 60) (size := 2) (w.setCell ⟨b, 0, none⟩ (.int .i32 1)) cur 30 (by rw [hs1]; exact Nat.le_refl _) (by unfold maxLen; omega) (by rw [hcur])
    rw [hs1] at this
    exact this
  go_wp2_with (first | (go_at_call 36; refine (lock_free Tryd.muLib ⟨b, 0, none⟩ _ hl hf).mono ?_; rintro e w' ⟨rfl, rfl⟩) | (refine atL88 b 2 rfl rfl ?_; go_must (refine load88 rfl _ rfl b 1 N hB2 rfl ?_)))
  generalize (w.setCell ⟨b, 0, none⟩ (.int .i32 1)).alloc (.cells cur 60) = W at *
  go_loopw [3, 18] (fun u v wr => ∃ i : Nat, i ≤ 30 ∧ v = .int .i64 i ∧ (∃ g cap, u = .slice (some ⟨g, 0, none⟩) i cap ∧ wr.ownsRow w.heap.size 60 2 (.slice (some ⟨g, 0, none⟩) i cap) i (stL N i)) ∧ Bd wr b 1 N ∧ Wo wr ∧ Kp (· = b) w wr) (fun _ v _ => 30 - (intOf v).toNat)
  case atStart => exact ⟨0, by omega, rfl, ⟨_, _, rfl, hrow⟩, hB2, hW2, hK2⟩
  case round =>
    obtain ⟨i, hi, rfl, ⟨g, cap, rfl, hr⟩, hb, hw, hk⟩ := hrel
    rcases (by omega : i < 30 ∨ i = 30) with hlt | rfl
    · have h25 := name_25 ((i : Int) + 1) wr hw
      have er : nmW ((i : Int) + 1) = wrd (i + 1) := by
        simp only [nmW]; rw [if_pos (by simp [nm]; omega)]; congr 1
      rw [er] at h25
      have hrl := World.ownsRow.lt hr g rfl
      have hix := idx_88 N i hlt wr
      have d1 : (i : Int) < 30 := by omega
      have hgb : g ≠ b := by have := hB.lt; omega
      clear hmk er
      go_wp2_with (first | (go_at_call 25; (with_reducible refine h25.mono ?_); rintro e w1 ⟨rfl, h1⟩; (have h2 := h1.symm); subst h2) | (at_builtin; go_must (refine push60 rfl _ _ rfl w.heap.size _ i _ (by rfl) hr ⟨(wrd (i + 1)).toArray⟩ (N (i + 1) : Nat) (by rfl) (by omega) (by omega) ?_); intro g2 cap2 W2 hr2 hg2 hgg))
      have hk2 : Kp (· = b) w W2 := hk.step hg2 (fun j hj => .inr (by simp [Value.ownBlock] at hj; omega))
      refine ⟨⟨i + 1, by omega, by simp, ⟨g2, cap2, rfl, ?_⟩, ?_, ?_, hk2⟩, ?_⟩
      · rw [stL, rng_succ]; exact hr2
      · exact Box.kept hb hg2 (by simp [Value.ownBlock]; omega)
      · intro j hj
        exact gb_cell hg2 (hw j hj) (by have := hB.lt; simp [Value.ownBlock]; omega)
      · simp only [intOf]; omega
    · have hl2 := hb.lock
      have hf2 := hb.fz 0
      go_wp2
      refine leaves_cons (f := 37) (args := #[.pointer (some ⟨b, 0, none⟩)]) (by simp) (by simp [go_sem]) ?_
      refine (unlock_deferred Tryd.muLib ⟨b, 0, none⟩ .returning _ hl2 hf2).mono ?_
      rintro e u' w'' ⟨rfl, rfl, rfl⟩
      refine ⟨_, results_tmp rfl _ _ _, _, rfl, ⟨g, cap, rfl, ?_⟩, hb.setLock 0, hk.then (Kp.setCell _ b 0 _)⟩
      have hrl := World.ownsRow.lt hr g rfl
      exact row_kept hr (gb_setCell (gb_refl _ (some b)) _) (fun k hk => by simp [Value.ownBlock] at hk; have := hB.lt; simp; omega)
end Go.Proofs.YtonbkpfnpnlkpaaDoor
