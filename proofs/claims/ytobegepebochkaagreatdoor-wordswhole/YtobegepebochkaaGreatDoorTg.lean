import Derived.Test.YtobegepebochkaaGreatDoorZm
import Derived.Test.YtobegepebochkaaGreatDoorTf
/-
  What states do.
-/
namespace Go.Proofs.YtobegepebochkaaGreatDoor
open Go.RowKit Go.Maps
set_option linter.unusedVariables false
set_option linter.unusedSimpArgs false

/-- The blocks that a Feeder writes. -/
abbrev XF (fb : Nat) (kv : Value) : Nat → Prop := fun k => k = fb ∨ kv.ownBlock = some k
/-- A Feeder in memory; hd, lf: its head and what is left. -/
structure IsFx (w : World) (fb : Nat) (F : Fd) (kv : Value) (hd lf : Int) (ck cd cm : Value) : Prop where
  box : Box w 136 fb (fdA fb F kv hd lf ck cd cm)
  str : StR w (XF fb kv) F.s ck cd cm
  kept : w.ownsRow 0 5 1 kv F.kept.length (F.kept.map b8)
def IsF (w : World) (fb : Nat) (F : Fd) (kv : Value) : Prop :=
  ∃ hd lf ck cd cm, IsFx w fb F kv hd lf ck cd cm ∧ (F.st = 1 ∨ F.st = 2 ∨ F.st = 3 → hd = (F.head : Int)) ∧ (F.st = 1 ∨ F.st = 4 → lf = (F.left : Int))
theorem gb_kp {w w' : World} {fb : Nat} {kv : Value} (h : w.grownBy w' (some fb)) : Kp (XF fb kv) w w' :=
  (Kp.refl _ w).step h (fun i hi => by injection hi with hi; exact .inl (.inl hi.symm))
theorem isfx_kp {w w' : World} {fb : Nat} {F G : Fd} {kv kv' : Value} {hd lf hd' lf' : Int} {ck cd cm : Value} (h : IsFx w fb F kv hd lf ck cd cm) (hk : Kp (XF fb kv) w w') (hb : Box w' 136 fb (fdA fb G kv' hd' lf' ck cd cm)) (hs : G.s = F.s) (hr : w'.ownsRow 0 5 1 kv' G.kept.length (G.kept.map b8)) (hn : ∀ k, kv'.ownBlock = some k → kv.ownBlock = some k ∨ w.heap.size ≤ k) : IsFx w' fb G kv' hd' lf' ck cd cm :=
  ⟨hb, by
    rw [hs]
    refine h.str.kp hk (fun k _ hx => hx) (fun k hlt hx => ?_)
    rcases hx with rfl | hx
    · exact .inl rfl
    · rcases hn k hx with h1 | h1
      · exact .inr h1
      · omega, hr⟩
/-- What a state function does with a chunk. -/
def StP (F : Fd) (l : Bs) (w : World) (fb : Nat) (kv : Value) (e : Ending) (w' : World) : Prop :=
  ∃ u wh F' kv', e = .returned (.tuple #[.int .i64 ((u : Nat) : Int), .bool wh]) ∧ u ≤ l.length ∧ IsF w' fb F' kv' ∧ Kp (XF fb kv) w w' ∧ (∀ k, kv'.ownBlock = some k → kv.ownBlock = some k ∨ w.heap.size ≤ k) ∧ (u = 0 → F'.st = 4 ∧ F.st ≠ 4) ∧ F'.taken = F.taken ∧ F'.limit = F.limit ∧ (wh = false → (F'.tk u).Ok) ∧ (wh = true → ∀ v, w'.cell? ⟨fb, 13, none⟩ = some v → ∀ k, v.ownBlock = some k → w.heap.size ≤ k) ∧
    F.run l = (((if wh then (F'.tk u).tell else (F'.tk u, [])).1.run (l.drop u)).1, (if wh then (F'.tk u).tell else (F'.tk u, [])).2 ++ ((if wh then (F'.tk u).tell else (F'.tk u, [])).1.run (l.drop u)).2)
/-- A step without data holds no block of data. -/
theorem nd_cell {w' : World} {n fb : Nat} {F : Fd} {kv : Value} (h : IsF w' fb F kv) (hd : F.s.data = []) : ∀ v, w'.cell? ⟨fb, 13, none⟩ = some v → ∀ k, v.ownBlock = some k → n ≤ k := by
  intro v hv k hk
  obtain ⟨_, _, _, cd, _, hx, -, -⟩ := h
  have e : w'.cell? ⟨fb, 13, none⟩ = some cd := hx.box.cell 13
  rw [hv] at e
  injection e with e
  rw [e, hx.str.nd hd] at hk
  simp [Value.ownBlock] at hk
theorem run_cut {F G : Fd} {s : List Stp} {l : Bs} {u : Nat} (h : F.run (l.take u) = (G, s)) : F.run l = ((G.run (l.drop u)).1, s ++ (G.run (l.drop u)).2) := by
  have := Fd.run_app (l.take u) F (l.drop u)
  rw [List.take_append_drop] at this
  rw [this, h]
theorem run_cut_no {F G : Fd} {l : Bs} {u : Nat} (h : F.run (l.take u) = (G, [])) : F.run l = ((G.run (l.drop u)).1, (G.run (l.drop u)).2) := by
  have := run_cut h
  simpa using this
set_option maxRecDepth 100000 in
set_option maxHeartbeats 4000000 in
theorem trim_119 {w : World} {g o c sg sc : Nat} {l : Bs} (hl : l.length ≤ 1099511627776) (hcp : l.length ≤ c) (hg : g < w.heap.size) (hc : ∀ i x, l[i]? = some x → w.cell? ⟨g, o + i, none⟩ = some (b8 x)) (hs : w.cell? ⟨sg, 0, none⟩ = some (.int .u8 13)) :
    Calls Tryz.prog 119 #[.slice (some ⟨g, o, none⟩) l.length c, .slice (some ⟨sg, 0, none⟩) 1 sc] w fun e w' => e = .returned (.slice (some ⟨g, o, none⟩) (trim l).length c) ∧ w' = w := by
  have h148 := suf_148 (sc := sc) hl hcp hg hc hs
  by_cases he : l.getLast? = some 13
  · have e1 : decide (l.getLast? = some 13) = true := decide_eq_true he
    have e2 : (trim l).length = l.length - 1 := by simp [trim, he]
    have h0 : 0 < l.length := by
      cases l with
      | nil => simp at he
      | cons b t => simp
    obtain ⟨k, hk⟩ : ∃ k, l.length = k + 1 := ⟨l.length - 1, by omega⟩
    rw [e1] at h148
    rw [e2]
    rw [hk] at h148 ⊢
    have d1 : wrap64 (((k + 1 : Nat) : Int) - 1) = (k : Int) := by unfold wrap64; omega
    have d2 : ((k : Int) ≤ (c : Int)) := by omega
    clear hc hs e1 e2 he
    go_enter Tryz.func119, Tryz.ntmps119
    go_wp2_with (go_at_call 148; go_must ((with_reducible refine h148.mono ?_); rintro e w4 ⟨rfl, rfl⟩))
    go_ret
    exact ⟨rfl, rfl⟩
  · have e1 : decide (l.getLast? = some 13) = false := decide_eq_false he
    have e2 : trim l = l := by simp [trim, he]
    rw [e1] at h148
    rw [e2]
    clear hc hs e1 e2 he
    go_enter Tryz.func119, Tryz.ntmps119
    go_wp2_with (go_at_call 148; go_must ((with_reducible refine h148.mono ?_); rintro e w4 ⟨rfl, rfl⟩))
    go_ret
    exact ⟨rfl, rfl⟩
set_option maxRecDepth 100000 in
set_option maxHeartbeats 4000000 in
theorem long_137 {w : World} {g o c : Nat} {l : Bs} (hl : l.length ≤ 1099511627776) (hcp : l.length ≤ c) (hg : g < w.heap.size) (hc : ∀ i x, l[i]? = some x → w.cell? ⟨g, o + i, none⟩ = some (b8 x)) :
    Calls Tryz.prog 137 #[.slice (some ⟨g, o, none⟩) l.length c] w fun e w' => e = .returned (.bool (decide (2048 < (trim l).length))) ∧ w.grownBy w' none := by
  have hgA := gb_alloc (gb_refl w none) (.cells #[.int .u8 13] 5)
  have hs : (w.alloc (.cells #[.int .u8 13] 5)).cell? ⟨w.heap.size, 0, none⟩ = some (.int .u8 13) := (Box.new w 5 #[.int .u8 13]).cell 0
  have h119 := trim_119 (w := w.alloc (.cells #[.int .u8 13] 5)) (sc := 1) hl hcp (by simp; omega) (fun i x hx => gb_cellN hgA (hc i x hx)) hs
  clear hc hs
  go_enter Tryz.func137, Tryz.ntmps137
  go_wp2_with (go_at_call 119; go_must ((with_reducible refine h119.mono ?_); rintro e w4 ⟨rfl, rfl⟩))
  go_ret
  refine ⟨?_, hgA⟩
  show Ending.returned (.bool (decide (_ < ((trim l).length : Int)))) = _
  congr 2
  apply decide_eq_decide.2
  omega
end Go.Proofs.YtobegepebochkaaGreatDoor
