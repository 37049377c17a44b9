import Derived.Test.YtobegepebochkaaGreatDoorTr
import Derived.Test.YtobegepebochkaaGreatDoorTt
import Derived.Test.YtobegepebochkaaGreatDoorTv
/-
  Feeders that wake.
-/
namespace Go.Proofs.YtobegepebochkaaGreatDoor
open Go.RowKit Go.Maps
set_option linter.unusedVariables false
set_option linter.unusedSimpArgs false

theorem IsF.kept0 {w w' : World} {fb : Nat} {F : Fd} {kv : Value} (h : IsF w fb F kv) (hf : w.grownBy w' none) : IsF w' fb F kv := by
  obtain ⟨hd, lf, ck, cd, cm, hx, h1, h2⟩ := h
  exact ⟨hd, lf, ck, cd, cm, ⟨hx.box.kept hf (by simp), hx.str.kp (Kp.of (F := fun _ => False) hf) (fun _ _ h => h.elim) (fun _ _ h => h), row_kept hx.kept hf (by simp)⟩, h1, h2⟩
/-- A Feeder whose blocks are at or above B0. -/
def FW (B0 : Nat) (w : World) (fb : Nat) (F : Fd) : Prop := ∃ kv, IsF w fb F kv ∧ B0 ≤ fb ∧ ∀ k, kv.ownBlock = some k → B0 ≤ k
theorem FW.kept0 {B0 : Nat} {w w' : World} {fb : Nat} {F : Fd} (h : FW B0 w fb F) (hf : w.grownBy w' none) : FW B0 w' fb F := by
  obtain ⟨kv, h1, h2, h3⟩ := h
  exact ⟨kv, h1.kept0 hf, h2, h3⟩
theorem FW.held {B0 : Nat} {w : World} {fb : Nat} {F : Fd} (h : FW B0 w fb F) {n : Nat} (hn : F.kept.length = n) :
    Calls Tryz.prog 50 #[.pointer (some ⟨fb, 0, none⟩)] w fun e w' => e = .returned (.int .i64 n) ∧ w' = w := by
  obtain ⟨kv, ⟨hd, lf, ck, cd, cm, hx, -, -⟩, -, -⟩ := h
  obtain ⟨ao, cp, e, -, -, -, -⟩ := row_shape hx.kept
  rw [hn] at e
  exact held_50 hx.box e
theorem FW.taken {B0 : Nat} {w : World} {fb : Nat} {F : Fd} (h : FW B0 w fb F) :
    Calls Tryz.prog 52 #[.pointer (some ⟨fb, 0, none⟩)] w fun e w' => e = .returned (.int .i64 F.taken) ∧ w' = w := by
  obtain ⟨kv, ⟨hd, lf, ck, cd, cm, hx, -, -⟩, -, -⟩ := h
  exact taken_52 hx.box
theorem FW.ended {B0 : Nat} {w : World} {fb : Nat} {F : Fd} (h : FW B0 w fb F) :
    Calls Tryz.prog 51 #[.pointer (some ⟨fb, 0, none⟩)] w fun e w' => e = .returned (.bool F.ended) ∧ w' = w := by
  obtain ⟨kv, ⟨hd, lf, ck, cd, cm, hx, -, -⟩, -, -⟩ := h
  exact ended_51 hx.box
/-- Feed, of bytes that lie in none of the Feeder's blocks. -/
theorem FW.feed {B0 : Nat} {w : World} {fb : Nat} {F : Fd} (h : FW B0 w fb F) (hB : 3 < B0) (hok : F.Ok) {v : Value} {l : Bs} (hv : ∀ X : Nat → Prop, (∀ k, X k → k = fb ∨ (B0 ≤ k ∧ ∃ kv, IsF w fb F kv ∧ kv.ownBlock = some k)) → Ck w X v l) (hl2 : l.length ≤ 34359738368) (ht : F.taken + l.length ≤ 2199023255552) (hE : Er w) :
    Calls Tryz.prog 45 #[.pointer (some ⟨fb, 0, none⟩), v] w fun e w' => ∃ rv q, e = .returned rv ∧ FW B0 w' fb (F.run l).1 ∧ (∃ X, Ss w' w.heap.size X rv q) ∧ q.map Tld.s = (F.run l).2 ∧ Kp (fun k => B0 ≤ k) w w' := by
  obtain ⟨kv, hF, h2, h3⟩ := id h
  have hX : ∀ n, n ≤ 3 → ¬ XF fb kv n := by
    rintro n hn (e | e)
    · omega
    · have := h3 n e; omega
  obtain ⟨_, _, _, _, _, hx, -, -⟩ := id hF
  have hfb := hx.box.lt
  refine (feed_45 hF hok (hv _ ?_) hl2 ht hE ⟨hX 2 (by omega), hX 3 (by omega)⟩ (read_136 fb)).mono ?_
  · rintro k (e | e)
    · exact .inl e
    · exact .inr ⟨h3 k e, kv, hF, e⟩
  · rintro e w' ⟨rv, kv', q, rfl, q1, q2, q3, q4, q5, -⟩
    refine ⟨rv, q, rfl, ⟨kv', q1, h2, fun k hk => ?_⟩, ⟨_, q2⟩, q3, q4.mono ?_⟩
    · rcases q5 k hk with e | e
      · exact h3 k e
      · omega
    · rintro i (e | e)
      · subst e; exact .inl h2
      · exact .inl (h3 i e)
/-- Feed, of bytes that were made behind the Feeder. -/
theorem FW.feedN {B0 : Nat} {w : World} {fb : Nat} {F : Fd} (h : FW B0 w fb F) (hB : 3 < B0) (hok : F.Ok) (l : Bs) (hl2 : l.length ≤ 34359738368) (ht : F.taken + l.length ≤ 2199023255552) (hE : Er w) {C : Array Value} {fr : Nat × Nat} (hC : C = (l.map b8).toArray) :
    Calls Tryz.prog 45 #[.pointer (some ⟨fb, 0, none⟩), .slice (some ⟨w.heap.size, 0, none⟩) l.length l.length] (w.alloc (.cells C 5 fr)) fun e w' => ∃ rv q, e = .returned rv ∧ FW B0 w' fb (F.run l).1 ∧ (∃ X, Ss w' (w.heap.size + 1) X rv q) ∧ q.map Tld.s = (F.run l).2 ∧ Kp (fun k => B0 ≤ k) w w' ∧ Er w' := by
  have ga := gb_alloc (gb_refl w none) (.cells C 5 fr)
  have hs : (w.alloc (.cells C 5 fr)).heap.size = w.heap.size + 1 := by simp
  have h0 := h
  obtain ⟨kv0, ⟨_, _, _, _, _, hx, -, -⟩, hb0, -⟩ := h0
  have hfb := hx.box.lt
  have hc := (h.kept0 ga).feed hB hok (v := .slice (some ⟨w.heap.size, 0, none⟩) l.length l.length) (l := l) ?_ hl2 ht (hE.kept ga)
  · rw [hs] at hc
    refine hc.mono ?_
    rintro e w' ⟨rv, q, rfl, q1, q2, q3, q4⟩
    refine ⟨rv, q, rfl, q1, q2, q3, (Kp.of ga).trans q4 (fun i h => h) (fun i h => .inl h), (hE.kept ga).kp q4 (by omega) (by omega)⟩
  · intro X hX
    refine .inr ⟨w.heap.size, 0, l.length, rfl, Nat.le_refl _, by omega, by simp, fun hx' => ?_, fun i x hi => ?_⟩
    · rcases hX _ hx' with e | ⟨-, kv, ⟨_, _, _, _, _, hy, -, -⟩, e⟩
      · omega
      · have c1 : (w.alloc (.cells C 5 fr)).cell? ⟨fb, 4, none⟩ = some kv := hy.box.cell 4
        have c2 : (w.alloc (.cells C 5 fr)).cell? ⟨fb, 4, none⟩ = some kv0 := gb_cellN ga (hx.box.cell 4)
        rw [c2] at c1
        injection c1 with c1
        subst c1
        have := row_lt hx.kept _ e
        omega
    · rw [Nat.zero_add, cell_of_row _ _ _ _ _ _ (heap_alloc_new w (.cells C 5 fr)), hC]
      simp [hi]
abbrev wk1 : Bs := [115, 101, 116, 32, 97, 32, 48, 32, 48, 32, 49, 13, 10, 120]
def wkF1 : Fd := ((fd0 9).run wk1).1
def wkF2 : Fd := (wkF1.run [13]).1
def wkF3 : Fd := (wkF2.run [10]).1
theorem wk_s1 : ((fd0 9).run wk1).2 = [] := by rfl
theorem wk_s2 : (wkF1.run [13]).2 = [] := by rfl
theorem wk_s3 : (wkF2.run [10]).2 = [⟨⟨5, [[97]], 0, 0, 0, 0, false, [], []⟩, [120], false, 0, [], 0, 0, 16⟩] := by rfl
theorem wk_k1 : wkF1.kept.length = 14 := by rfl
theorem wk_k3 : wkF3.kept.length = 0 := by rfl
theorem wk_t1 : wkF1.taken = 14 := by rfl
theorem wk_t2 : wkF2.taken = 15 := by rfl
theorem wk_t3 : wkF3.taken = 16 := by rfl
theorem wk_e3 : wkF3.ended = false := by rfl
/-- One step alone, in memory. -/
theorem Ss.one {w : World} {B : Nat} {X : Nat → Prop} {v : Value} {q : List Tld} {s : Stp} (h : Ss w B X v q) (hs : q.map Tld.s = [s]) : ∃ g cp ck cd cm, v = .slice (some ⟨g, 0, none⟩) 1 cp ∧ 1 ≤ cp ∧ (∀ (i : Nat) (u : Value), (stpL s ck cd cm)[i]? = some u → w.cell? ⟨g, i, none⟩ = some u) ∧ StR w X s ck cd cm := by
  obtain ⟨x, rfl⟩ : ∃ x, q = [x] := by
    cases q with
    | nil => cases hs
    | cons x t => cases t with
      | nil => exact ⟨x, rfl⟩
      | cons y t => simp at hs
  simp at hs
  subst hs
  have hr := h.row
  obtain ⟨ao, c, e, -, h2, -, h3⟩ := row_shape hr
  obtain ⟨g, rfl⟩ := h3 (by simp)
  subst e
  refine ⟨g, c, x.ck, x.cd, x.cm, rfl, h2, fun i u hu => row_cell hr i u (by simpa using hu), h.all x (by simp)⟩
theorem Ss.none {w : World} {B : Nat} {X : Nat → Prop} {v : Value} {q : List Tld} (h : Ss w B X v q) (hs : q.map Tld.s = []) : ∃ a c, v = .slice a 0 c := by
  have : q = [] := by simpa using hs
  subst this
  obtain ⟨ao, c, e, -⟩ := row_shape h.row
  exact ⟨ao, c, e⟩
end Go.Proofs.YtobegepebochkaaGreatDoor
