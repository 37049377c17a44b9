import Derived.Test.YtobegepebochkaaGreatDoorTt
/-
  Feeders that are fed pieces.
-/
namespace Go.Proofs.YtobegepebochkaaGreatDoor
open Go.RowKit Go.Maps
set_option linter.unusedVariables false
set_option linter.unusedSimpArgs false

section
variable {w : World} {ops : Array Oper} {rest : List Oper} {o : Oper} {a : Act} {Q : Exit → Act → World → Prop}
/-- append(l, r...) of steps. -/
theorem more86 (hgd : o.guard = none) (s x : Operand) (ho : o.op = .call { callee := .builtin .append, args := #[s, x], argTypes := #[57, 57] })
    (B : Nat) (v : Value) (n : Nat) (xs : List Value) (hs : a.eval s = v) (hown : w.ownsRow B 86 16 v n xs) (B2 : Nat) (uv : Value) (m : Nat) (us : List Value) (hx : a.eval x = uv) (hu : w.ownsRow B2 86 16 uv m us) (h1 : ∀ u ∈ us, u.oneCell' = true) (hn : n + m ≤ 100000000000) (hB : B ≤ w.heap.size)
    (h : ∀ v' w', w'.ownsRow B 86 16 v' (n + m) (xs ++ us) → w.grownBy w' v.ownBlock → wpList Tryz.prog ops Q rest (a.put o.dst v') w') : wpList Tryz.prog ops Q (o :: rest) a w := by
  obtain ⟨i0, hi, hz0, hz1, hz2⟩ := info_parts Tryz.info86b
  have hul := hu.1
  rcases hu.2 with ⟨hv, hn0⟩ | ⟨g, cap, cur, hv, hb, hg, h2, h3, h4⟩
  · subst hv
    subst hn0
    obtain rfl : us = [] := List.eq_nil_of_length_eq_zero (by simpa using hul)
    refine wpList_append_own_none hgd s x 57 ho B 86 i0 16 Tryz.underlying57 hi _ _ _ hs hown hx ?_
    exact h v w (by simpa using hown) (gb_refl _ _)
  · subst hv
    refine wpList_append_own w hgd s x 57 ho B 86 i0 (.agg Z86) 16 184 Tryz.underlying57 hi hz0 hz1 hz2 rfl (by decide) _ _ _ hs hown ⟨g, 0, none⟩ m cap us hx hul ?_ h1 ?_ ?_ hB ?_
    · intro j u hj
      rw [Addr.add_mid, Nat.zero_add]
      exact row_cell hu j u hj
    · unfold maxLen; omega
    · omega
    · intro v' w' hown' hgr _
      exact h v' w' hown' hgr
end
/-- A block of another type than all of a Feeder's. -/
def Oth (w : World) (b : Nat) : Prop := ∃ c t fr, w.heap[b]? = some (.cells c t fr) ∧ t ≠ 136 ∧ t ≠ 5 ∧ t ≠ 9 ∧ t ≠ 79
theorem row_oth {w w' : World} {B e s n : Nat} {v : Value} {xs : List Value} (h : w.ownsRow B e s v n xs) (he : e = 5 ∨ e = 9 ∨ e = 79) {row : Option Nat} (hf : w.grownBy w' row) (hr : ∀ j, row = some j → Oth w j) : w'.ownsRow B e s v n xs :=
  row_kept h hf (fun k hk hkr => by
    obtain ⟨c, t, fr, h1, h2, h3, h4, h5⟩ := hr k hkr.symm
    obtain ⟨c2, h6⟩ := row_block h k hk
    rw [h1] at h6
    injection h6 with h6
    injection h6 with _ h6
    subst h6
    rcases he with e | e | e
    · exact h3 e
    · exact h4 e
    · exact h5 e)
theorem StR.oth {w w' : World} {X : Nat → Prop} {s : Stp} {ck cd cm : Value} (h : StR w X s ck cd cm) {row : Option Nat} (hf : w.grownBy w' row) (hr : ∀ j, row = some j → Oth w j) : StR w' X s ck cd cm :=
  ⟨row_oth h.keys (by omega) hf hr, row_oth h.data (by omega) hf hr, row_oth h.mt (by omega) hf hr, h.ak, h.ad, h.am, h.nd⟩
theorem IsF.oth {w w' : World} {fb : Nat} {F : Fd} {kv : Value} (h : IsF w fb F kv) {row : Option Nat} (hf : w.grownBy w' row) (hr : ∀ j, row = some j → Oth w j) : IsF w' fb F kv := by
  obtain ⟨hd, lf, ck, cd, cm, hx, h1, h2⟩ := h
  refine ⟨hd, lf, ck, cd, cm, ⟨hx.box.kept hf (fun e => ?_), hx.str.oth hf hr, row_oth hx.kept (by omega) hf hr⟩, h1, h2⟩
  obtain ⟨c, t, fr, h1, h2, -⟩ := hr fb e.symm
  have h3 : w.heap[fb]? = _ := hx.box
  rw [h1] at h3
  injection h3 with h3
  injection h3 with _ h3
  exact h2 h3
theorem oth_row {w : World} {B n : Nat} {v : Value} {xs : List Value} (h : w.ownsRow B 86 16 v n xs) : ∀ j, v.ownBlock = some j → Oth w j := by
  intro j hj
  obtain ⟨c, h1⟩ := row_block h j hj
  exact ⟨c, 86, _, h1, by decide, by decide, by decide, by decide⟩
theorem oth_box {w : World} {b : Nat} {vs : Array Value} (h : Box w 3 b vs) : Oth w b := ⟨vs, 3, _, h, by decide, by decide, by decide, by decide⟩
theorem one_all {w : World} {X : Nat → Prop} {q : List Tld} (h : ∀ x ∈ q, StR w X x.s x.ck x.cd x.cm) : ∀ u ∈ q.flatMap tldL, u.oneCell' = true := by
  intro u hu
  obtain ⟨x, hx, hu⟩ := List.mem_flatMap.1 hu
  have hs := h x hx
  obtain ⟨_, _, e1, -⟩ := row_shape hs.keys
  obtain ⟨_, _, e2, -⟩ := row_shape hs.data
  obtain ⟨_, _, e3, -⟩ := row_shape hs.mt
  simp only [tldL, stpL, e1, e2, e3, List.mem_cons, List.not_mem_nil, or_false] at hu
  rcases hu with rfl | rfl | rfl | rfl | rfl | rfl | rfl | rfl | rfl | rfl | rfl | rfl | rfl | rfl | rfl | rfl <;> rfl
theorem fb_len (F : Fd) (b : UInt8) : (F.fb b).2.length ≤ 1 := by
  have hsk : ∀ G : Fd, (G.skip b).2.length ≤ 1 := by
    intro G
    unfold Fd.skip
    split
    · simp
    · split <;> simp [Fd.tell]
  unfold Fd.fb
  repeat' split
  all_goals first | exact hsk _ | (simp [Fd.tell]) | skip
  all_goals (unfold Fd.end1; split <;> simp [Fd.tell])
theorem run_len : ∀ (l : Bs) (F : Fd), (F.run l).2.length ≤ l.length
  | [], F => by simp [Fd.run]
  | b :: t, F => by
    simp only [Fd.run, List.length_append, List.length_cons]
    have := run_len t (F.fb b).1
    have := fb_len F b
    omega
theorem flat_take {ps : List Bs} {k : Nat} {p : Bs} (h : ps[k]? = some p) : (ps.take (k + 1)).flatten = (ps.take k).flatten ++ p := by
  rw [List.take_add_one, h]
  simp
theorem flat_pre (ps : List Bs) (k : Nat) : ps.flatten.take ((ps.take k).flatten.length) = (ps.take k).flatten := by
  have : ps.flatten = (ps.take k).flatten ++ (ps.drop k).flatten := by rw [← List.flatten_append, List.take_append_drop]
  rw [this, List.take_left]
theorem flat_le (ps : List Bs) (k : Nat) : ((ps.take k).flatten).length ≤ ps.flatten.length := by
  have : ps.flatten = (ps.take k).flatten ++ (ps.drop k).flatten := by rw [← List.flatten_append, List.take_append_drop]
  rw [this, List.length_append]
  omega
/-- What holds ahead of each piece. -/
structure FeI (w3 : World) (fb hb : Nat) (lim : Int) (ps : List Bs) (k : Nat) (F : Fd) (kv rv : Value) (q : List Tld) (hs : List Int) (wr : World) : Prop where
  hk : k ≤ ps.length
  isf : IsF wr fb F kv
  kvB : ∀ j, kv.ownBlock = some j → w3.heap.size ≤ j
  ok : F.Ok
  run : (fd0 lim).run ((ps.take k).flatten) = (F, q.map Tld.s)
  ss : Ss wr w3.heap.size (XF fb kv) rv q
  hbx : Box wr 3 hb (hs.map (Value.int .i64)).toArray
  hl : hs.length = ps.flatten.length + 1
  hsp : ∀ i h, hs[i]? = some h → h = -1 ∨ h = (((fd0 lim).run (ps.flatten.take i)).1.kept.length : Int)
  kp : Kp (fun j => j = fb ∨ j = hb ∨ w3.heap.size ≤ j) w3 wr
  er : Er wr
theorem FeI.ql {w3 wr : World} {fb hb : Nat} {lim : Int} {ps : List Bs} {k : Nat} {F : Fd} {kv rv : Value} {q : List Tld} {hs : List Int} (h : FeI w3 fb hb lim ps k F kv rv q hs wr) : q.length ≤ ps.flatten.length := by
  have h1 := run_len ((ps.take k).flatten) (fd0 lim)
  rw [h.run] at h1
  have h2 := flat_le ps k
  simp only [List.length_map] at h1
  omega
theorem FeI.tk {w3 wr : World} {fb hb : Nat} {lim : Int} {ps : List Bs} {k : Nat} {F : Fd} {kv rv : Value} {q : List Tld} {hs : List Int} (h : FeI w3 fb hb lim ps k F kv rv q hs wr) : F.taken = ((ps.take k).flatten).length := by
  have h1 := (run_facts ((ps.take k).flatten) (fd0 lim)).1
  rw [h.run] at h1
  have h2 : (fd0 lim).taken = 0 := rfl
  rw [h2] at h1
  simpa using h1
/-- What becomes of it with one piece more. -/
theorem FeI.next {w3 wr w4 w5 w6 : World} {fb hb : Nat} {lim : Int} {ps : List Bs} {k : Nat} {F : Fd} {kv rv : Value} {q : List Tld} {hs : List Int} (h : FeI w3 fb hb lim ps k F kv rv q hs wr) (hhb : hb < w3.heap.size) (hne : hb ≠ fb) (h3 : 3 < fb ∧ 3 < w3.heap.size ∧ 3 < hb) {p : Bs} (hp : ps[k]? = some p)
    {kv' rv2 v' : Value} {q2 : List Tld} (i4 : IsF w4 fb (F.run p).1 kv') (s4 : Ss w4 wr.heap.size (XF fb kv') rv2 q2) (e4 : q2.map Tld.s = (F.run p).2) (k4 : Kp (XF fb kv) wr w4) (o4 : ∀ j, kv'.ownBlock = some j → kv.ownBlock = some j ∨ wr.heap.size ≤ j)
    (r5 : w5.ownsRow w3.heap.size 86 16 v' (q.length + q2.length) (q.flatMap tldL ++ q2.flatMap tldL)) (g5 : w4.grownBy w5 rv.ownBlock) (e6 : w6 = w5.setCell ⟨hb, ((ps.take (k + 1)).flatten).length, none⟩ (.int .i64 ((F.run p).1.kept.length : Int))) :
    FeI w3 fb hb lim ps (k + 1) (F.run p).1 kv' v' (q ++ q2) (hs.set ((ps.take (k + 1)).flatten).length ((F.run p).1.kept.length : Int)) w6 := by
  have hk := (List.getElem?_eq_some_iff.1 hp).1
  obtain ⟨_, _, _, _, _, hx, -, -⟩ := id h.isf
  have hXF : ∀ j, XF fb kv j → j = fb ∨ w3.heap.size ≤ j := by
    rintro j (e | e)
    · exact .inl e
    · exact .inr (h.kvB j e)
  have hbX : ¬ XF fb kv hb := fun e => by rcases hXF hb e with e | e <;> omega
  have row4 := row_kp h.ss.row k4 (row_xf h.ss.row (by decide) hx)
  have box4 := k4.box h.hbx hbX
  have box5 : Box w5 3 hb (hs.map (Value.int .i64)).toArray := box4.kept g5 (fun e => row_box row4 box4 (by decide) hb e.symm rfl)
  have g6 : w5.grownBy w6 (some hb) := by rw [e6]; exact gb_setCell (gb_refl _ _) _
  have ho5 : ∀ j, some hb = some j → Oth w5 j := fun j e => by injection e with e; subst e; exact oth_box box5
  have hsz : w3.heap.size ≤ wr.heap.size := h.kp.size
  have all4 : ∀ x ∈ q, StR w4 (XF fb kv') x.s x.ck x.cd x.cm := fun x hx2 => (h.ss.all x hx2).kp k4 (fun j _ hf => hf) (by
    rintro j hj (e | e)
    · exact .inl e
    · rcases o4 j e with e | e
      · exact .inr e
      · omega)
  have kk : Kp (fun j => j = fb ∨ j = hb ∨ w3.heap.size ≤ j) w3 w6 := by
    refine ((h.kp.trans k4 (fun i hi => hi) (fun i hi => ?_)).step g5 (fun i hi => ?_)).step g6 (fun i hi => ?_)
    · rcases hXF i hi with e | e
      · exact .inl (.inl e)
      · exact .inl (.inr (.inr e))
    · exact .inl (.inr (.inr (World.ownsRow.lt h.ss.row i hi).1))
    · injection hi with hi
      exact .inl (.inr (.inl hi.symm))
  refine ⟨by omega, (i4.oth g5 (oth_row row4)).oth g6 ho5, ?_, ok_run p h.ok, ?_, ⟨?_, ?_⟩, ?_, ?_, ?_, kk, ?_⟩
  · intro j hj
    rcases o4 j hj with e | e
    · exact h.kvB j e
    · omega
  · rw [flat_take hp, Fd.run_app, h.run]
    simp [e4]
  · rw [List.length_append, List.flatMap_append]
    exact row_kept r5 g6 (fun j hj e => by injection e with e; subst e; exact row_box r5 box5 (by decide) _ hj rfl)
  · intro x hx2
    rcases List.mem_append.1 hx2 with hx2 | hx2
    · exact ((all4 x hx2).oth g5 (oth_row row4)).oth g6 ho5
    · exact ((s4.all x hx2).oth g5 (oth_row row4)).oth g6 ho5
  · rw [e6]
    have := box5.set ((ps.take (k + 1)).flatten).length (.int .i64 ((F.run p).1.kept.length : Int))
    rw [List.map_set]
    simpa using this
  · rw [List.length_set]; exact h.hl
  · intro i v hv
    rw [List.getElem?_set] at hv
    split at hv
    · rename_i e
      split at hv
      · injection hv with hv
        right
        rw [← hv, ← e, flat_pre, flat_take hp, Fd.run_app, h.run]
      · cases hv
    · exact h.hsp i v hv
  · have hE6 : Er w6 := (h.er.kp (X := fun j => 3 < j) (((k4.mono (G := fun j => 3 < j) (fun i hi => ?_)).step g5 (fun i hi => ?_)).step g6 (fun i hi => ?_)) (by omega) (by omega))
    · exact hE6
    · rcases hXF i hi with e | e
      · left; omega
      · left; omega
    · have := (World.ownsRow.lt h.ss.row i hi).1
      left; omega
    · injection hi with hi
      left; omega
end Go.Proofs.YtobegepebochkaaGreatDoor
/-
  Data of steps; a row that is filled.
-/
namespace Go.Proofs.YtobegepebochkaaGreatDoor
open Go.RowKit Go.Maps
set_option linter.unusedVariables false
set_option linter.unusedSimpArgs false

/-- No data lies in a step that is not whole yet. -/
def Fd.Dn (F : Fd) : Prop := F.s.data = []
theorem dn_rd (F : Fd) : F.rd.1.Dn := by
  unfold Fd.rd
  cases lineS (trim F.kept.dropLast) with
  | inl x =>
    obtain ⟨c, n⟩ := x
    dsimp only
    split
    · rfl
    · split <;> rfl
  | inr x =>
    obtain ⟨k, t, p⟩ := x
    dsimp only
    split <;> rfl
theorem dn_tell (F : Fd) (n : Nat) (h : F.s.data.length ≤ n) : F.tell.1.Dn ∧ ∀ s ∈ F.tell.2, s.data.length ≤ n := by
  refine ⟨rfl, fun s hs => ?_⟩
  simp [Fd.tell] at hs
  subst hs
  exact h
theorem dn_skip (F : Fd) (n : Nat) (b : UInt8) (h : F.Dn) : (F.skip b).1.Dn ∧ ∀ s ∈ (F.skip b).2, s.data.length ≤ n := by
  unfold Fd.skip
  split
  · exact ⟨h, fun s hs => by simp at hs⟩
  · split
    · exact dn_tell F n (by rw [h]; simp)
    · exact ⟨h, fun s hs => by simp at hs⟩
theorem dn_fb {F : Fd} (hok : F.Ok) (h : F.Dn) (b : UInt8) : (F.fb b).1.Dn ∧ ∀ s ∈ (F.fb b).2, s.data.length ≤ F.taken := by
  have hk := (held_le hok).2
  unfold Fd.fb
  split
  · split
    · unfold Fd.end1
      split
      · exact dn_tell _ _ (by rw [dn_rd]; simp)
      · exact ⟨dn_rd _, fun s hs => by simp at hs⟩
    · split
      · exact ⟨rfl, fun s hs => by simp at hs⟩
      · exact ⟨h, fun s hs => by simp at hs⟩
  · split
    · exact ⟨h, fun s hs => by simp at hs⟩
    · split
      · split
        · exact ⟨h, fun s hs => by simp at hs⟩
        · exact dn_skip _ _ _ rfl
      · split
        · split
          · refine dn_tell _ _ ?_
            show ((F.kept.drop F.head).dropLast).length ≤ F.taken
            rw [List.length_dropLast, List.length_drop]
            omega
          · exact dn_skip _ _ _ rfl
        · split
          · exact dn_skip _ _ _ h
          · exact ⟨h, fun s hs => by simp at hs⟩
theorem dn_run : ∀ (l : Bs) {F : Fd}, F.Ok → F.Dn → ∀ s ∈ (F.run l).2, s.data.length ≤ F.taken + l.length
  | [], F, _, _ => by simp [Fd.run]
  | b :: t, F, hok, h => by
    intro s hs
    simp only [Fd.run] at hs
    obtain ⟨h1, h2⟩ := dn_fb hok h b
    rcases List.mem_append.1 hs with hs | hs
    · have := h2 s hs
      simp; omega
    · have := dn_run t (ok_fb hok b) h1 s hs
      rw [(fb_facts F b).1] at this
      simp; omega
/-- A row that is filled with -1 up to k. -/
def fil (n k : Nat) : List Int := List.replicate k (-1) ++ List.replicate (n - k) 0
theorem fil_len (n k : Nat) (h : k ≤ n) : (fil n k).length = n := by simp [fil]; omega
theorem fil_set (n k : Nat) (h : k < n) : (fil n k).set k (-1) = fil n (k + 1) := by
  unfold fil
  obtain ⟨m, hm⟩ : ∃ m, n - k = m + 1 := ⟨n - k - 1, by omega⟩
  have hm2 : n - (k + 1) = m := by omega
  rw [hm, hm2, List.replicate_succ (n := m), List.set_append, if_neg (by simp), List.replicate_succ' (n := k)]
  simp
theorem fil_zero (n : Nat) : fil n 0 = List.replicate n 0 := by simp [fil]
theorem fil_all (n : Nat) : fil n n = List.replicate n (-1) := by simp [fil]
theorem made_ints (N : Nat) : madeCells (Value.int .i64 0).cells N = ((fil N 0).map (Value.int .i64)).toArray := by
  apply Array.ext'
  apply List.ext_getElem?
  intro i
  by_cases h : i < N <;> simp [madeCells, Value.cells, fil, h, Nat.mod_one]
theorem Tryz.info3b : (Tryz.prog.info? 3).map (fun i => (i.zero, i.size, i.bytes)) = some (some (.int .i64 0), 1, 8) := by kernel_rfl
theorem run_make_ints (N : Nat) (h : N ≤ 1000000) (w : World) : (Instr.makeSlice 82 (.int .i64 (N : Int)) (.int .i64 (N : Int))).run Tryz.prog w = .ok (.slice (some ⟨w.heap.size, 0, none⟩) N N) (w.alloc (.cells ((fil N 0).map (Value.int .i64)).toArray 3)) := by
  obtain ⟨i0, hi, hz0, hz1, hz2⟩ := info_parts Tryz.info3b
  have := run_make (P := Tryz.prog) w 82 3 i0 (.int .i64 0) Tryz.underlying82 hi hz0 .i64 .i64 N N (by omega) (by omega) (by rw [hz2]; omega) (by omega)
  rw [this, hz1]
  simp [made_ints]
end Go.Proofs.YtobegepebochkaaGreatDoor
