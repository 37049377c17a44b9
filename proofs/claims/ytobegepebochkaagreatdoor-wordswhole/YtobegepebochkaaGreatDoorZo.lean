import Derived.Test.YtobegepebochkaaGreatDoorXi
/-
  Steps further on, and behind a step.
-/
namespace Go.Proofs.YtobegepebochkaaGreatDoor
open Go.RowKit Go.Maps
set_option linter.unusedVariables false
set_option linter.unusedSimpArgs false

/-- Further on by so many bytes. -/
def Stp.sh (k : Nat) (s : Stp) : Stp := ⟨s.cmd, s.data, s.large, s.wk, s.wt, s.wp, s.frm + k, s.to + k⟩
def Fd.sh (k : Nat) (F : Fd) : Fd := { F with taken := F.taken + k, frm := F.frm + k }
theorem fl_sh (L k : Nat) : fl L k = (fl L 0).sh k := by simp [fl, Fd.sh]
theorem sh_tk (k n : Nat) (F : Fd) : (F.sh k).tk n = (F.tk n).sh k := by simp [Fd.sh, Fd.tk]; omega
theorem sh_put (k : Nat) (l : Bs) (F : Fd) : (F.sh k).put l = (F.put l).sh k := rfl
theorem sh_pass (k : Nat) (s : Stp) (n : Nat) (F : Fd) : (F.sh k).pass s n = (F.pass s n).sh k := rfl
theorem sh_spoil (k : Nat) (F : Fd) : (F.sh k).spoil = F.spoil.sh k := rfl
theorem sh_await (k n : Nat) (F : Fd) : (F.sh k).await n = (F.await n).sh k := rfl
theorem sh_tell (k : Nat) (F : Fd) : (F.sh k).tell = (F.tell.1.sh k, F.tell.2.map (Stp.sh k)) := by
  simp [Fd.tell, Fd.sh, Stp.sh]
  constructor <;> rfl
theorem sh_skip (k : Nat) (F : Fd) (b : UInt8) : (F.sh k).skip b = ((F.skip b).1.sh k, (F.skip b).2.map (Stp.sh k)) := by
  unfold Fd.skip
  rw [show (F.sh k).left = F.left from rfl]
  split
  · rfl
  · split
    · exact sh_tell k F
    · rfl
theorem sh_rd (k : Nat) (F : Fd) : (F.sh k).rd = (F.rd.1.sh k, F.rd.2) := by
  unfold Fd.rd
  rw [show (F.sh k).kept = F.kept from rfl, show (F.sh k).limit = F.limit from rfl]
  split
  · split
    · rfl
    · split <;> rfl
  · split <;> rfl
theorem sh_end1 (k : Nat) (F : Fd) : Fd.end1 (F.sh k).rd = ((Fd.end1 F.rd).1.sh k, (Fd.end1 F.rd).2.map (Stp.sh k)) := by
  unfold Fd.end1
  rw [sh_rd]
  dsimp only
  split
  · exact sh_tell k _
  · rfl
theorem sh_fb (k : Nat) (F : Fd) (b : UInt8) : (F.sh k).fb b = ((F.fb b).1.sh k, (F.fb b).2.map (Stp.sh k)) := by
  unfold Fd.fb
  rw [show (F.sh k).st = F.st from rfl, show (F.sh k).kept = F.kept from rfl, show (F.sh k).left = F.left from rfl, sh_tk, sh_put]
  split
  · split
    · exact sh_end1 k _
    · split <;> rfl
  · split
    · rfl
    · split
      · split
        · rfl
        · rw [sh_spoil]; exact sh_skip k _ b
      · split
        · split
          · exact sh_tell k { F.tk 1 with s := { F.s with data := (F.kept.drop F.head).dropLast } }
          · rw [sh_spoil]; exact sh_skip k _ b
        · split
          · exact sh_skip k _ b
          · rfl
theorem sh_run (k : Nat) : ∀ (l : Bs) (F : Fd), (F.sh k).run l = ((F.run l).1.sh k, (F.run l).2.map (Stp.sh k))
  | [], F => rfl
  | b :: t, F => by
    simp only [Fd.run, sh_fb]
    rw [sh_run k t]
    simp
/-- A byte tells a step, or none. -/
def Told (F G : Fd) (r : List Stp) : Prop := (r = [] ∧ G.ended = false) ∨ ∃ s, r = [s] ∧ s.to = F.taken + 1 ∧ (s.cmd.verb ≠ 18 → G = fl F.limit (F.taken + 1)) ∧ (s.cmd.verb = 18 → G.st = 5 ∧ G.ended = true ∧ G.kept = [])
theorem told_tell {F G : Fd} (hl : G.limit = F.limit) (ht : G.taken = F.taken + 1) (he : G.ended = false) : Told F G.tell.1 G.tell.2 := by
  refine .inr ⟨_, rfl, ht, ?_, ?_⟩
  · intro hv
    have : ¬ G.s.cmd.verb = 18 := hv
    simp [Fd.tell, this, he, fl, hl, ht]
  · intro hv
    have : G.s.cmd.verb = 18 := hv
    simp [Fd.tell, this]
theorem told_skip {F G : Fd} (hl : G.limit = F.limit) (ht : G.taken = F.taken + 1) (he : G.ended = false) (b : UInt8) : Told F (G.skip b).1 (G.skip b).2 := by
  unfold Fd.skip
  split
  · exact .inl ⟨rfl, he⟩
  · split
    · exact told_tell hl ht he
    · exact .inl ⟨rfl, he⟩
theorem told_fb {F : Fd} (he : F.ended = false) (b : UInt8) : Told F (F.fb b).1 (F.fb b).2 := by
  unfold Fd.fb
  split
  · split
    · unfold Fd.end1
      obtain ⟨h1, h2, h3, -⟩ := rd_facts ((F.tk 1).put [b])
      split
      · exact told_tell h2 h1 (h3.trans he)
      · exact .inl ⟨rfl, h3.trans he⟩
    · split
      · exact .inl ⟨rfl, he⟩
      · exact .inl ⟨rfl, he⟩
  · split
    · exact .inl ⟨rfl, he⟩
    · split
      · split
        · exact .inl ⟨rfl, he⟩
        · exact told_skip (F := F) (G := (F.tk 1).spoil) rfl rfl he b
      · split
        · split
          · exact told_tell (F := F) (G := { F.tk 1 with s := { F.s with data := (F.kept.drop F.head).dropLast } }) rfl rfl he
          · exact told_skip (F := F) (G := (F.tk 1).spoil) rfl rfl he b
        · split
          · exact told_skip (F := F) (G := F.tk 1) rfl rfl he b
          · exact .inl ⟨rfl, he⟩
/-- Behind each step the bytes are cut. -/
theorem run_split : ∀ (l : Bs) {F : Fd}, F.ended = false → ∀ (pre : List Stp) (s : Stp) (post : List Stp), (F.run l).2 = pre ++ s :: post →
    ∃ l1 l2 G, l = l1 ++ l2 ∧ F.run l1 = (G, pre ++ [s]) ∧ s.to = F.taken + l1.length ∧ (s.cmd.verb ≠ 18 → G = fl F.limit s.to) ∧ (s.cmd.verb = 18 → G.st = 5 ∧ G.ended = true ∧ G.kept = [])
  | [], F, he, pre, s, post, h => by simp [Fd.run] at h
  | b :: t, F, he, pre, s, post, h => by
    have hf := fb_facts F b
    simp only [Fd.run] at h
    rcases told_fb he b with ⟨h1, h2⟩ | ⟨x, h1, h2, h3, h4⟩
    · rw [h1, List.nil_append] at h
      obtain ⟨l1, l2, G, e, hr, ht, k1, k2⟩ := run_split t h2 pre s post h
      refine ⟨b :: l1, l2, G, by simp [e], by simp [Fd.run, h1, hr], ?_, ?_, k2⟩
      · rw [ht, hf.1]; simp; omega
      · rw [hf.2.1] at k1; exact k1
    · rw [h1] at h
      cases pre with
      | nil =>
        simp at h
        obtain ⟨rfl, -⟩ := h
        refine ⟨[b], t, (F.fb b).1, rfl, by simp [Fd.run, h1], by simpa using h2, fun hv => ?_, h4⟩
        rw [h2]; exact h3 hv
      | cons y pre =>
        simp at h
        obtain ⟨rfl, h⟩ := h
        by_cases hv : x.cmd.verb = 18
        · rw [run_over (h4 hv).1] at h
          simp at h
        · have hF := h3 hv
          obtain ⟨l1, l2, G, e, hr, ht, k1, k2⟩ := run_split t (F := (F.fb b).1) (by rw [hF]; rfl) pre s post h
          refine ⟨b :: l1, l2, G, by simp [e], by simp [Fd.run, h1, hr], ?_, ?_, k2⟩
          · rw [ht, hf.1]; simp; omega
          · rw [hf.2.1] at k1; exact k1
/-- Without a step nothing has ended. -/
theorem run_none : ∀ (l : Bs) {F : Fd}, F.ended = false → (F.run l).2 = [] → (F.run l).1.ended = false
  | [], F, he, h => he
  | b :: t, F, he, h => by
    simp only [Fd.run] at h ⊢
    rcases told_fb he b with ⟨h1, h2⟩ | ⟨x, h1, h2, h3, h4⟩
    · rw [h1, List.nil_append] at h
      exact run_none t h2 h
    · rw [h1] at h
      simp at h
theorem Tile.uniq : ∀ {q : List Tld} {a b c : Nat}, Tile a q b → Tile a q c → b = c
  | [], a, b, c, h1, h2 => by
    have h1 : a = b := h1
    have h2 : a = c := h2
    omega
  | x :: q, a, b, c, h1, h2 => Tile.uniq h1.2.2 h2.2.2
theorem Tile.sh : ∀ {q r : List Tld} {a b k : Nat}, r.map Tld.s = q.map (fun x => x.s.sh k) → Tile a q b → Tile (a + k) r (b + k)
  | [], [], a, b, k, _, h => by
    have h : a = b := h
    subst h; rfl
  | [], _ :: _, a, b, k, e, h => by simp at e
  | _ :: _, [], a, b, k, e, h => by simp at e
  | x :: q, y :: r, a, b, k, e, h => by
    simp at e
    obtain ⟨h1, h2, h3⟩ := h
    refine ⟨?_, ?_, ?_⟩
    · rw [e.1]; show x.s.frm + k = a + k; rw [h1]
    · rw [e.1]; show a + k < x.s.to + k; omega
    · rw [e.1]; exact Tile.sh e.2 h3
theorem Tile.get : ∀ {q : List Tld} {a b : Nat} (k : Nat) {x : Tld}, Tile a q b → q[k]? = some x → ∃ m, Tile a (q.take k) m ∧ x.s.frm = m ∧ m < x.s.to ∧ Tile x.s.to (q.drop (k + 1)) b
  | [], a, b, k, x, h, hx => by simp at hx
  | y :: q, a, b, 0, x, h, hx => by
    simp at hx
    subst hx
    exact ⟨a, rfl, h.1, h.2.1, h.2.2⟩
  | y :: q, a, b, k + 1, x, h, hx => by
    simp at hx
    obtain ⟨m, h1, h2, h3, h4⟩ := Tile.get k h.2.2 hx
    exact ⟨m, ⟨h.1, h.2.1, h1⟩, h2, h3, h4⟩
theorem Tile.last : ∀ {q : List Tld} {a b : Nat} {x : Tld}, Tile a q b → q.getLast? = some x → x.s.to = b
  | [], a, b, x, h, hx => by simp at hx
  | [y], a, b, x, h, hx => by
    simp at hx
    subst hx
    exact h.2.2
  | y :: z :: q, a, b, x, h, hx => Tile.last h.2.2 (by simpa using hx)
end Go.Proofs.YtobegepebochkaaGreatDoor
/-
  All of a part of the bytes.
-/
namespace Go.Proofs.YtobegepebochkaaGreatDoor
open Go.RowKit Go.Maps
set_option linter.unusedVariables false
set_option linter.unusedSimpArgs false

theorem at_behind {L : Nat} {raw : Bs} {pre : List Stp} {y : Stp} {post : List Stp} (h : ((fl L 0).run raw).2 = pre ++ y :: post) (hv : y.cmd.verb ≠ 18) :
    (fl L y.to).run (raw.drop y.to) = (((fl L 0).run raw).1, post) ∧ y.to ≤ raw.length := by
  obtain ⟨l1, l2, G, e, hr, ht, k1, -⟩ := run_split raw (F := fl L 0) rfl pre y post h
  have ht' : y.to = l1.length := by rw [ht]; simp [fl]
  have hG := k1 hv
  have hd : raw.drop y.to = l2 := by rw [e, ht', List.drop_left]
  have hrun : (fl L 0).run raw = ((G.run l2).1, (pre ++ [y]) ++ (G.run l2).2) := by rw [e, Fd.run_app, hr]
  rw [hrun] at h
  simp at h
  refine ⟨?_, by rw [e, ht']; simp⟩
  rw [hd, hrun]
  have e2 : fl (fl L 0).limit y.to = fl L y.to := rfl
  rw [e2] at hG
  rw [← hG, ← h]
theorem not_quit {L : Nat} {raw : Bs} {pre : List Stp} {y z : Stp} {post : List Stp} (h : ((fl L 0).run raw).2 = pre ++ y :: z :: post) : y.cmd.verb ≠ 18 := by
  intro hv
  obtain ⟨l1, l2, G, e, hr, -, -, k2⟩ := run_split raw (F := fl L 0) rfl pre y (z :: post) h
  have hrun : (fl L 0).run raw = ((G.run l2).1, (pre ++ [y]) ++ (G.run l2).2) := by rw [e, Fd.run_app, hr]
  rw [hrun, run_over (k2 hv).1] at h
  simp at h
theorem split_at {α : Type} {q : List α} {k : Nat} {x : α} (h : q[k]? = some x) : q = q.take k ++ x :: q.drop (k + 1) := by
  obtain ⟨h1, h2⟩ := List.getElem?_eq_some_iff.1 h
  rw [← h2, ← List.drop_eq_getElem_cons h1, List.take_append_drop]
/-- From a step on. -/
theorem at_step {L : Nat} {raw : Bs} {q : List Tld} {b : Nat} (h : ((fl L 0).run raw).2 = q.map Tld.s) (ht : Tile 0 q b) {k : Nat} {x : Tld} (hx : q[k]? = some x) :
    (fl L x.s.frm).run (raw.drop x.s.frm) = (((fl L 0).run raw).1, x.s :: (q.drop (k + 1)).map Tld.s) ∧ x.s.frm ≤ raw.length := by
  obtain ⟨m, h1, h2, -, -⟩ := Tile.get k ht hx
  have hs := split_at hx
  rcases Nat.eq_zero_or_pos k with rfl | hk
  · have hm : (0 : Nat) = m := h1
    rw [h2, ← hm, List.drop_zero]
    refine ⟨?_, Nat.zero_le _⟩
    rw [hs] at h
    simp at h
    simp [← h]
  · have hkl := (List.getElem?_eq_some_iff.1 hx).1
    obtain ⟨y, hy⟩ : ∃ y, q[k - 1]? = some y := ⟨_, List.getElem?_eq_getElem (by omega)⟩
    have hs2 := split_at hy
    rw [show k - 1 + 1 = k by omega] at hs2
    have hd : q.drop k = x :: q.drop (k + 1) := by
      obtain ⟨h1, h2⟩ := List.getElem?_eq_some_iff.1 hx
      rw [← h2, List.drop_eq_getElem_cons h1]
    rw [hd] at hs2
    have hq : ((fl L 0).run raw).2 = (q.take (k - 1)).map Tld.s ++ y.s :: (x.s :: (q.drop (k + 1)).map Tld.s) := by
      rw [h]
      conv => lhs; rw [hs2]
      simp
    have hnq := not_quit hq
    obtain ⟨h3, h4⟩ := at_behind hq hnq
    have hto : y.s.to = x.s.frm := by
      obtain ⟨m', g1, g2, g3, g4⟩ := Tile.get (k - 1) ht hy
      rw [show k - 1 + 1 = k by omega, hd] at g4
      exact g4.1.symm
    rw [hto] at h3 h4
    exact ⟨h3, h4⟩
/-- A step's bytes alone are that step. -/
theorem AlR.one {w w1 : World} {L : Nat} {raw : Bs} {q q1 : List Tld} {v v1 : Value} {left left1 : Int} {wr wr1 : World} (R : AlR w L raw q v left wr) {k : Nat} {x : Tld} (hx : q[k]? = some x)
    (R1 : AlR w1 L ((raw.drop x.s.frm).take (x.s.to - x.s.frm)) q1 v1 left1 wr1) : left1 = 0 ∧ ∃ y, q1 = [y] ∧ y.s.sh x.s.frm = x.s := by
  obtain ⟨b, -, ht, -⟩ := R.tile
  obtain ⟨h1, h2⟩ := at_step R.run ht hx
  obtain ⟨l3, l4, G, e, hr, hto, -, -⟩ := run_split (raw.drop x.s.frm) (F := fl L x.s.frm) rfl [] x.s _ (by rw [h1]; rfl)
  have hto' : x.s.to = x.s.frm + l3.length := hto
  have hl3 : (raw.drop x.s.frm).take (x.s.to - x.s.frm) = l3 := by rw [hto', Nat.add_sub_cancel_left, e, List.take_left]
  rw [hl3] at R1
  have hsh := sh_run x.s.frm l3 (fl L 0)
  rw [← fl_sh, hr] at hsh
  have hq : [x.s] = (q1.map Tld.s).map (Stp.sh x.s.frm) := by
    rw [← R1.run]
    exact (Prod.ext_iff.1 hsh).2
  match q1, hq with
  | [y], hq =>
    simp at hq
    refine ⟨?_, y, rfl, hq.symm⟩
    obtain ⟨b1, hb1, ht1, h⟩ := R1.tile
    have hyb : y.s.to = b1 := ht1.2.2
    rcases h with ⟨_, h, _⟩ | ⟨_, h, _⟩
    · exact h
    · have e3 : x.s.to = y.s.to + x.s.frm := congrArg Stp.to hq
      rw [h]
      omega
  | [], hq => simp at hq
  | y :: z :: q1, hq => simp at hq
/-- A beginning has just the steps that end in it. -/
theorem AlR.part {w w1 : World} {L : Nat} {raw : Bs} {q q1 : List Tld} {v v1 : Value} {left left1 : Int} {wr wr1 : World} (R : AlR w L raw q v left wr) {k : Nat} (hk : k ≤ raw.length)
    (R1 : AlR w1 L (raw.take k) q1 v1 left1 wr1) : (q.take q1.length).map Tld.s = q1.map Tld.s ∧ q1.length ≤ q.length ∧ (∀ i x, q[i]? = some x → (x.s.to ≤ k ↔ i < q1.length)) ∧ (q1 = [] → left1 = (k : Int)) ∧ (∀ y, q[q1.length - 1]? = some y → 0 < q1.length → y.s.cmd.verb ≠ 18 → left1 = ((k - y.s.to : Nat) : Int) ∧ y.s.to ≤ k) := by
  have hlen : (raw.take k).length = k := by rw [List.length_take]; omega
  have hrun := Fd.run_app (raw.take k) (fl L 0) (raw.drop k)
  rw [List.take_append_drop] at hrun
  have hS : q.map Tld.s = q1.map Tld.s ++ (((fl L 0).run (raw.take k)).1.run (raw.drop k)).2 := by
    rw [← R.run, ← R1.run, hrun]
  obtain ⟨rest, hrest⟩ : ∃ rest, (((fl L 0).run (raw.take k)).1.run (raw.drop k)).2 = rest := ⟨_, rfl⟩
  rw [hrest] at hS
  have hlq : q.length = q1.length + rest.length := by have := congrArg List.length hS; simpa using this
  have f1 := run_facts (raw.take k) (fl L 0)
  have f2 := run_facts (raw.drop k) ((fl L 0).run (raw.take k)).1
  rw [f1.1, hlen] at f2
  have hz : (fl L 0).taken = 0 := rfl
  rw [hz, hlen] at f1
  rw [hz] at f2
  have htake : (q.take q1.length).map Tld.s = q1.map Tld.s := by
    rw [List.map_take, hS, List.take_left' (by simp)]
  refine ⟨htake, by omega, fun i x hx => ?_, fun hq1 => ?_, fun y hy hpos hv => ?_⟩
  · have hxs : (q.map Tld.s)[i]? = some x.s := by rw [List.getElem?_map, hx]; rfl
    rw [hS] at hxs
    rcases Nat.lt_or_ge i q1.length with hi | hi
    · rw [List.getElem?_append_left (by simpa using hi)] at hxs
      have hm : x.s ∈ ((fl L 0).run (raw.take k)).2 := by rw [R1.run]; exact List.mem_of_getElem? hxs
      have := (f1.2.2 _ hm).2
      exact ⟨fun _ => hi, fun _ => by omega⟩
    · rw [List.getElem?_append_right (by simpa using hi)] at hxs
      have hm : x.s ∈ (((fl L 0).run (raw.take k)).1.run (raw.drop k)).2 := by rw [hrest]; exact List.mem_of_getElem? hxs
      have := (f2.2.2 _ hm).1
      exact ⟨fun h => by omega, fun h => by omega⟩
  · obtain ⟨b, hb, ht, h⟩ := R1.tile
    subst hq1
    have hb0 : (0 : Nat) = b := ht
    have hne : ((fl L 0).run (raw.take k)).1.ended = false := run_none _ rfl (by rw [R1.run]; rfl)
    rcases h with ⟨h, _⟩ | ⟨_, h, _⟩
    · rw [hne] at h; cases h
    · rw [h, hlen, ← hb0]; simp
  · have hyq : (q.take q1.length)[q1.length - 1]? = some y := by rw [List.getElem?_take, if_pos (by omega)]; exact hy
    have hys : (q1.map Tld.s)[q1.length - 1]? = some y.s := by rw [← htake, List.getElem?_map, hyq]; rfl
    obtain ⟨z, hz1, hz2⟩ : ∃ z, q1[q1.length - 1]? = some z ∧ z.s = y.s := by
      rw [List.getElem?_map] at hys
      cases hzz : q1[q1.length - 1]? with
      | none => rw [hzz] at hys; simp at hys
      | some z => rw [hzz] at hys; simp at hys; exact ⟨z, rfl, hys⟩
    have hsp := split_at hz1
    rw [show q1.length - 1 + 1 = q1.length by omega, List.drop_length] at hsp
    have hq : ((fl L 0).run (raw.take k)).2 = (q1.take (q1.length - 1)).map Tld.s ++ z.s :: [] := by
      rw [R1.run]
      conv => lhs; rw [hsp]
      simp
    obtain ⟨h3, h4⟩ := at_behind hq (by rw [hz2]; exact hv)
    have hne : ((fl L 0).run (raw.take k)).1.ended = false := by
      have := run_none ((raw.take k).drop z.s.to) (F := fl L z.s.to) rfl (by rw [h3])
      rw [h3] at this
      exact this
    obtain ⟨b, hb, ht, h⟩ := R1.tile
    have hzb : z.s.to = b := Tile.last ht (by rw [List.getLast?_eq_getElem?]; exact hz1)
    rw [hlen] at h4
    rcases h with ⟨h, _⟩ | ⟨_, h, _⟩
    · rw [hne] at h; cases h
    · rw [h, hlen, ← hzb, hz2]
      exact ⟨rfl, by rw [← hz2]; exact h4⟩
/-- What is behind a step. -/
theorem AlR.more {w w1 : World} {L : Nat} {raw : Bs} {q q1 : List Tld} {v v1 : Value} {left left1 : Int} {wr wr1 : World} (R : AlR w L raw q v left wr) {n : Nat} {y : Tld} (hy : q[n]? = some y) (hv : y.s.cmd.verb ≠ 18)
    (R1 : AlR w1 L (raw.drop y.s.to) q1 v1 left1 wr1) : left1 = left ∧ q1.length + (n + 1) = q.length ∧ (q.drop (n + 1)).map Tld.s = q1.map (fun x => x.s.sh y.s.to) := by
  have hsp := split_at hy
  have hnl := (List.getElem?_eq_some_iff.1 hy).1
  have hq : ((fl L 0).run raw).2 = (q.take n).map Tld.s ++ y.s :: (q.drop (n + 1)).map Tld.s := by
    rw [R.run]
    conv => lhs; rw [hsp]
    simp
  obtain ⟨h3, h4⟩ := at_behind hq hv
  have hsh := sh_run y.s.to (raw.drop y.s.to) (fl L 0)
  rw [← fl_sh, h3] at hsh
  obtain ⟨e1, e2⟩ := Prod.ext_iff.1 hsh
  have e1' : ((fl L 0).run raw).1 = ((fl L 0).run (raw.drop y.s.to)).1.sh y.s.to := e1
  have e2' : (q.drop (n + 1)).map Tld.s = q1.map (fun x => x.s.sh y.s.to) := by
    have e2 : (q.drop (n + 1)).map Tld.s = ((fl L 0).run (raw.drop y.s.to)).2.map (Stp.sh y.s.to) := e2
    rw [e2, R1.run, List.map_map]
    rfl
  have hen : ((fl L 0).run raw).1.ended = ((fl L 0).run (raw.drop y.s.to)).1.ended := by rw [e1']; rfl
  refine ⟨?_, ?_, e2'⟩
  · obtain ⟨b, hb, ht, h⟩ := R.tile
    obtain ⟨b1, hb1, ht1, h1⟩ := R1.tile
    obtain ⟨m, -, -, -, g4⟩ := Tile.get n ht hy
    have hu := Tile.uniq g4 (by have := Tile.sh e2' ht1; rw [Nat.zero_add] at this; exact this)
    rcases h with ⟨h, l1, _⟩ | ⟨h, l1, _⟩
    · rcases h1 with ⟨_, l2, _⟩ | ⟨h', l2, _⟩
      · rw [l1, l2]
      · rw [hen, h'] at h; cases h
    · rcases h1 with ⟨h', l2, _⟩ | ⟨_, l2, _⟩
      · rw [hen, h'] at h; cases h
      · rw [l1, l2, List.length_drop]
        omega
  · have := congrArg List.length e2'
    simp at this
    omega
end Go.Proofs.YtobegepebochkaaGreatDoor
/-
  A step further on; bytes that are clipped; the last step.
-/
namespace Go.Proofs.YtobegepebochkaaGreatDoor
open Go.RowKit Go.Maps
set_option linter.unusedVariables false
set_option linter.unusedSimpArgs false

theorem res40 {w : World} {b : Nat} {c0 c1 c2 c3 c4 c5 c6 c7 c8 c9 c10 c11 c12 c13 c14 c15 : Value} (h : Box w 86 b #[c0, c1, c2, c3, c4, c5, c6, c7, c8, c9, c10, c11, c12, c13, c14, c15]) (tmps : Array Value) (ht : tmps[4]?.getD undef = .pointer (some ⟨b, 0, none⟩)) : (results Tryz.f40 tmps).run Tryz.prog w = .ok (.agg #[c0, c1, c2, c3, c4, c5, c6, c7, c8, c9, c10, c11, c12, c13, c14, c15]) w := by
  have hr : Tryz.f40.results = #[.cell 4 86] := rfl
  have h0 := h.cell 0
  have h1 := h.cell 1
  have h2 := h.cell 2
  have h3 := h.cell 3
  have h4 := h.cell 4
  have h5 := h.cell 5
  have h6 := h.cell 6
  have h7 := h.cell 7
  have h8 := h.cell 8
  have h9 := h.cell 9
  have h10 := h.cell 10
  have h11 := h.cell 11
  have h12 := h.cell 12
  have h13 := h.cell 13
  have h14 := h.cell 14
  have h15 := h.cell 15
  simp at h0 h1 h2 h3 h4 h5 h6 h7 h8 h9 h10 h11 h12 h13 h14 h15
  unfold results
  simp [hr, ht, go_sem, h0, h1, h2, h3, h4, h5, h6, h7, h8, h9, h10, h11, h12, h13, h14, h15]
set_option maxRecDepth 100000 in
set_option maxHeartbeats 4000000 in
theorem shifted_40 (w : World) (s : Stp) (ka da ma : Option Addr) (kn kc dn dc mn mc by_ : Nat) (h1 : s.frm + by_ ≤ 4611686018427387904) (h2 : s.to + by_ ≤ 4611686018427387904) :
    Calls Tryz.prog 40 #[.agg (stpA s (.slice ka kn kc) (.slice da dn dc) (.slice ma mn mc)), .int .i64 by_] w fun e w' => e = .returned (.agg (stpA (s.sh by_) (.slice ka kn kc) (.slice da dn dc) (.slice ma mn mc))) ∧ w.grownBy w' none := by
  obtain ⟨p, hp⟩ : ∃ p, s.frm + by_ = p := ⟨_, rfl⟩
  obtain ⟨q, hq⟩ : ∃ q, s.to + by_ = q := ⟨_, rfl⟩
  have e1 : IntKind.i64.wrap ((s.frm : Int) + (by_ : Int)) = (p : Int) := by rw [wrap1 (by omega) (by omega)]; omega
  have e2 : IntKind.i64.wrap ((s.to : Int) + (by_ : Int)) = (q : Int) := by rw [wrap1 (by omega) (by omega)]; omega
  have es : stpA (s.sh by_) (.slice ka kn kc) (.slice da dn dc) (.slice ma mn mc) = #[.int .i64 s.cmd.verb, .slice ka kn kc, .int .u64 s.cmd.flags, .int .i64 s.cmd.exp, .int .u64 s.cmd.tok, .int .u64 s.cmd.del, .slice da dn dc, .bool s.cmd.nr, .bool s.large, .slice ma mn mc, sv s.cmd.what, .int .i64 s.wk, sv s.wt, .int .i64 s.wp, .int .i64 (p : Int), .int .i64 (q : Int)] := by
    rw [← hp, ← hq]
    rfl
  rw [es]
  clear es hp hq
  have b3 : Box ((w.alloc (.cells #[.int .i64 s.cmd.verb, .slice ka kn kc, .int .u64 s.cmd.flags, .int .i64 s.cmd.exp, .int .u64 s.cmd.tok, .int .u64 s.cmd.del, .slice da dn dc, .bool s.cmd.nr, .bool s.large, .slice ma mn mc, sv s.cmd.what, .int .i64 s.wk, sv s.wt, .int .i64 s.wp, .int .i64 (p : Int), .int .i64 (q : Int)] 86)).alloc (.cells Z86 86)) 86 w.heap.size #[.int .i64 s.cmd.verb, .slice ka kn kc, .int .u64 s.cmd.flags, .int .i64 s.cmd.exp, .int .u64 s.cmd.tok, .int .u64 s.cmd.del, .slice da dn dc, .bool s.cmd.nr, .bool s.large, .slice ma mn mc, sv s.cmd.what, .int .i64 s.wk, sv s.wt, .int .i64 s.wp, .int .i64 (p : Int), .int .i64 (q : Int)] := (Box.new w 86 _).kept (gb_alloc (gb_refl _ none) _) (by simp)
  have b2' := bx2 w (.cells #[.int .i64 s.cmd.verb, .slice ka kn kc, .int .u64 s.cmd.flags, .int .i64 s.cmd.exp, .int .u64 s.cmd.tok, .int .u64 s.cmd.del, .slice da dn dc, .bool s.cmd.nr, .bool s.large, .slice ma mn mc, sv s.cmd.what, .int .i64 s.wk, sv s.wt, .int .i64 s.wp, .int .i64 (p : Int), .int .i64 (q : Int)] 86) Z86 86
  have g2 := gb_alloc (gb_alloc (gb_refl w none) (.cells #[.int .i64 s.cmd.verb, .slice ka kn kc, .int .u64 s.cmd.flags, .int .i64 s.cmd.exp, .int .u64 s.cmd.tok, .int .u64 s.cmd.del, .slice da dn dc, .bool s.cmd.nr, .bool s.large, .slice ma mn mc, sv s.cmd.what, .int .i64 s.wk, sv s.wt, .int .i64 s.wp, .int .i64 (p : Int), .int .i64 (q : Int)] 86)) (.cells Z86 86)
  go_enter Tryz.func40, Tryz.ntmps40
  go_wp2_with (first
    | (refine atL 86 w.heap.size 0 rfl rfl ?_; go_must (refine load86 rfl _ rfl 86 w.heap.size 0 _ b3 rfl [.int .i64 s.cmd.verb, .slice ka kn kc, .int .u64 s.cmd.flags, .int .i64 s.cmd.exp, .int .u64 s.cmd.tok, .int .u64 s.cmd.del, .slice da dn dc, .bool s.cmd.nr, .bool s.large, .slice ma mn mc, sv s.cmd.what, .int .i64 s.wk, sv s.wt, .int .i64 s.wp, .int .i64 (p : Int), .int .i64 (q : Int)] rfl (fun j v hv => by simpa using hv) ?_))
    | (refine atS 86 (w.heap.size + 1) 0 rfl rfl ?_; go_must (refine storeT 86 16 size86 rfl _ _ rfl 86 (w.heap.size + 1) 0 _ b2' (by simp) rfl _ rfl rfl (by simp [Value.oneCell']) ?_); intro W9 hb9 hg9; (simp only [sets_0] at hb9)))
  exact ⟨rfl, _, res40 hb9 _ rfl, rfl, gb_mine g2 hg9 (by omega)⟩
set_option maxRecDepth 100000 in
set_option maxHeartbeats 4000000 in
theorem clip_25 {w : World} {ao : Option Addr} {c : Nat} {l : Bs} (hc : 65536 < l.length → l.length ≤ c ∧ ∃ a, ao = some a) (hn : l.length ≤ 9223372036854775807) :
    Calls Tryz.prog 25 #[.slice ao l.length c] w fun e w' => e = .returned (.slice ao (l.take 65536).length c) ∧ w' = w := by
  by_cases hb : 65536 < l.length
  · obtain ⟨h2, a, rfl⟩ := hc hb
    have ht : (l.take 65536).length = 65536 := by rw [List.length_take]; omega
    rw [ht]
    have d1 : decide ((65536 : Int) < (l.length : Int)) = true := decide_eq_true (by omega)
    have d2 : (65536 : Int) ≤ (c : Int) := by omega
    clear ht hc
    go_enter Tryz.func25, Tryz.ntmps25
    go_wp2
    go_ret
    exact ⟨rfl, rfl⟩
  · have ht : l.take 65536 = l := List.take_of_length_le (by omega)
    rw [ht]
    have d1 : decide ((65536 : Int) < (l.length : Int)) = false := decide_eq_false (by omega)
    clear ht hc
    go_enter Tryz.func25, Tryz.ntmps25
    go_wp2
    go_ret
    exact ⟨rfl, rfl⟩
theorem ck_clip {w : World} {X : Nat → Prop} {ao : Option Addr} {n c : Nat} {l : Bs} (hv : Ck w X (.slice ao n c) l) (k : Nat) : n = l.length ∧ (k < l.length → l.length ≤ c ∧ ∃ a, ao = some a) ∧ Ck w X (.slice ao (l.take k).length c) (l.take k) := by
  rcases hv with ⟨rfl, e⟩ | ⟨g, o, c', e, h2, h3, h4, h5, h6⟩
  · injection e with e1 e2 e3
    subst e1 e2 e3
    exact ⟨rfl, fun h => by simp at h, .inl ⟨by simp, by simp⟩⟩
  · injection e with e1 e2 e3
    subst e1 e2 e3
    refine ⟨rfl, fun _ => ⟨h2, _, rfl⟩, .inr ⟨g, o, c, rfl, by rw [List.length_take]; omega, h3, h4, h5, fun i x hx => ?_⟩⟩
    rw [List.getElem?_take] at hx
    split at hx
    · exact h6 i x hx
    · cases hx
/-- Is the last of the first k steps a quit? -/
def lastQ (q : List Tld) (k : Nat) : Bool := match q[k - 1]? with
  | some x => decide (0 < k) && decide (x.s.cmd.verb = 18)
  | none => false
theorem lastQ_zero (q : List Tld) : lastQ q 0 = false := by
  unfold lastQ
  split <;> simp
theorem lastQ_succ {q : List Tld} {k : Nat} {x : Tld} (h : q[k]? = some x) : lastQ q (k + 1) = (x.s.cmd.verb == 18) := by
  unfold lastQ
  rw [Nat.add_sub_cancel, h]
  exact Bool.eq_iff_iff.2 (by simp)
theorem AlR.noquit {w : World} {L : Nat} {raw : Bs} {q : List Tld} {v : Value} {left : Int} {wr : World} (R : AlR w L raw q v left wr) {k : Nat} (hk : k < q.length) : lastQ q k = false := by
  cases k with
  | zero => exact lastQ_zero q
  | succ k =>
    obtain ⟨y, hy⟩ : ∃ y, q[k]? = some y := ⟨_, List.getElem?_eq_getElem (by omega)⟩
    obtain ⟨x, hx⟩ : ∃ x, q[k + 1]? = some x := ⟨_, List.getElem?_eq_getElem hk⟩
    have hs := split_at hy
    have hd : q.drop (k + 1) = x :: q.drop (k + 2) := by
      obtain ⟨h1, h2⟩ := List.getElem?_eq_some_iff.1 hx
      rw [← h2, List.drop_eq_getElem_cons h1]
    rw [hd] at hs
    have hq : ((fl L 0).run raw).2 = (q.take k).map Tld.s ++ y.s :: (x.s :: (q.drop (k + 2)).map Tld.s) := by
      rw [R.run]
      conv => lhs; rw [hs]
      simp
    rw [lastQ_succ hy]
    simpa using not_quit hq
theorem AlR.quits {w : World} {L : Nat} {raw : Bs} {q : List Tld} {v : Value} {left : Int} {wr : World} (R : AlR w L raw q v left wr) {b : Nat} (hb : Tile 0 q b) : (lastQ q q.length = true → left = 0) ∧ (lastQ q q.length = false → left = ((raw.length - b : Nat) : Int) ∧ b ≤ raw.length) := by
  obtain ⟨b', hbl, ht, h⟩ := R.tile
  obtain rfl := Tile.uniq hb ht
  rcases Nat.eq_zero_or_pos q.length with h0 | h0
  · have hq : q = [] := List.length_eq_zero_iff.1 h0
    subst hq
    have hne : ((fl L 0).run raw).1.ended = false := run_none _ rfl (by rw [R.run]; rfl)
    rcases h with ⟨h, _⟩ | ⟨_, h, _⟩
    · rw [hne] at h; cases h
    · exact ⟨fun e => by simp [lastQ] at e, fun _ => ⟨h, hbl⟩⟩
  · obtain ⟨y, hy⟩ : ∃ y, q[q.length - 1]? = some y := ⟨_, List.getElem?_eq_getElem (by omega)⟩
    have hs := split_at hy
    rw [show q.length - 1 + 1 = q.length by omega, List.drop_length] at hs
    have hq : ((fl L 0).run raw).2 = (q.take (q.length - 1)).map Tld.s ++ y.s :: [] := by
      rw [R.run]
      conv => lhs; rw [hs]
      simp
    have hl : lastQ q q.length = (y.s.cmd.verb == 18) := by
      have := lastQ_succ hy
      rw [show q.length - 1 + 1 = q.length by omega] at this
      exact this
    rw [hl]
    by_cases hv : y.s.cmd.verb = 18
    · obtain ⟨l1, l2, G, e, hr, -, -, k2⟩ := run_split raw (F := fl L 0) rfl _ y.s [] hq
      have hrun : (fl L 0).run raw = ((G.run l2).1, ((q.take (q.length - 1)).map Tld.s ++ [y.s]) ++ (G.run l2).2) := by rw [e, Fd.run_app, hr]
      have hen : ((fl L 0).run raw).1.ended = true := by rw [hrun, run_over (k2 hv).1]; exact (k2 hv).2.1
      rcases h with ⟨_, h, _⟩ | ⟨h, _⟩
      · exact ⟨fun _ => h, fun e => by simp [hv] at e⟩
      · rw [hen] at h; cases h
    · obtain ⟨h3, h4⟩ := at_behind hq hv
      have hne : ((fl L 0).run raw).1.ended = false := by
        have := run_none (raw.drop y.s.to) (F := fl L y.s.to) rfl (by rw [h3])
        rw [h3] at this
        exact this
      rcases h with ⟨h, _⟩ | ⟨_, h, _⟩
      · rw [hne] at h; cases h
      · exact ⟨fun e => by simp [hv] at e, fun _ => ⟨h, hbl⟩⟩
theorem Sq.take {w : World} {a : Option Addr} {n c : Nat} {q : List Tld} (h : Sq w (.slice a n c) q) {k : Nat} (hk : k ≤ q.length) : Sq w (.slice a k c) (q.take k) := by
  obtain ⟨a', c', e, h1, h2⟩ := h.shape
  injection e with e1 e2 e3
  subst e1 e2 e3
  have hl : (q.take k).length = k := by rw [List.length_take]; omega
  refine ⟨⟨a, c, by rw [hl], by omega, h2⟩, fun i x hx => ?_, fun x hx => h.sr x (List.mem_of_mem_take hx)⟩
  rw [List.getElem?_take] at hx
  split at hx
  · obtain ⟨g, c', e, h3⟩ := h.cell i x hx
    injection e with e1 _ e2
    subst e1 e2
    exact ⟨g, c, by rw [hl], h3⟩
  · cases hx
end Go.Proofs.YtobegepebochkaaGreatDoor
