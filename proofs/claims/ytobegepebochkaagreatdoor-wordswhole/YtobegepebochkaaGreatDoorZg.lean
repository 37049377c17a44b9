import Derived.Test.YtobegepebochkaaGreatDoorTa
import Derived.Test.YtobegepebochkaaGreatDoorTg
import Derived.Test.YtobegepebochkaaGreatDoorTu
import Derived.Deep.LoopGhost
import Derived.Test.YtobegepebochkaaGreatDoorZq
/-
  Steps of a row of bytes, by Feeders.
-/
namespace Go.Proofs.YtobegepebochkaaGreatDoor
open Go.RowKit
set_option linter.unusedVariables false
set_option linter.unusedSimpArgs false

/-- A Feeder at the beginning of a line. -/
def fl (limit at_ : Nat) : Fd := ⟨limit, at_, false, at_, [], 0, 0, stp0, 0⟩
theorem fd0_fl (limit : Int) : fd0 limit = fl limit.toNat 0 := rfl
theorem run_free : ∀ (l : Bs) {F : Fd}, F.st = 0 → ¬ 2048 < (trim F.kept).length → (10 : UInt8) ∉ l →
    F.run l = (if 2048 < (trim (F.kept ++ l)).length then ((F.tk l.length).put l).pass (stpW 2 tooLong (-1)) 0 else (F.tk l.length).put l, [])
  | [], F, h, h0, hn => by
    rw [List.append_nil, if_neg h0]
    simp [Fd.run, Fd.tk, Fd.put]
  | b :: t, F, h, h0, hn => by
    have hb : b ≠ 10 := fun e => hn (by simp [e])
    have ht : (10 : UInt8) ∉ t := fun e => hn (by simp [e])
    have hc : F.kept ++ b :: t = (F.kept ++ [b]) ++ t := by simp
    by_cases h1 : 2048 < (trim (F.kept ++ [b])).length
    · have h2 : F.fb b = (((F.tk 1).put [b]).pass (stpW 2 tooLong (-1)) 0, []) := by simp only [Fd.fb, h, hb, h1, if_true, if_false]
      have h3 := run_skip t (F := ((F.tk 1).put [b]).pass (stpW 2 tooLong (-1)) 0) rfl rfl ht
      have h4 := (trim_len (F.kept ++ [b])).2
      have h5 : 2048 < (trim (F.kept ++ b :: t)).length := by
        cases t with
        | nil => exact h1
        | cons c t =>
          have := (trim_len (F.kept ++ b :: c :: t)).1
          simp at this h4 ⊢
          omega
      rw [if_pos h5]
      simp only [Fd.run, h2, h3, List.nil_append, List.length_cons]
      simp [Fd.tk, Fd.put, Fd.pass]
      omega
    · have h2 : F.fb b = ((F.tk 1).put [b], []) := by simp only [Fd.fb, h, hb, h1, if_true, if_false]
      have h3 := run_free t (F := (F.tk 1).put [b]) h h1 ht
      have e1 : ((F.tk 1).put [b]).kept ++ t = F.kept ++ b :: t := by simp [Fd.put, Fd.tk]
      have e2 : (((F.tk 1).put [b]).tk t.length).put t = (F.tk (t.length + 1)).put (b :: t) := by simp [Fd.put, Fd.tk]; omega
      rw [e1, e2] at h3
      simp only [Fd.run, h2, h3, List.nil_append, List.length_cons]
theorem run_free_end {F : Fd} (h : F.st = 0) (h0 : ¬ 2048 < (trim F.kept).length) (l : Bs) (hn : (10 : UInt8) ∉ l) :
    F.run (l ++ [10]) = Fd.end1 ((F.tk (l.length + 1)).put (l ++ [10])).rd := by
  rw [Fd.run_app, run_free l h h0 hn]
  have e1 : ((F.tk (l.length + 1)).put (l ++ [10])).kept.dropLast = F.kept ++ l := by
    show (F.kept ++ (l ++ [10])).dropLast = _
    rw [← List.append_assoc, List.dropLast_concat]
  by_cases h1 : 2048 < (trim (F.kept ++ l)).length
  · have h2 := run_skip_end (F := ((F.tk l.length).put l).pass (stpW 2 tooLong (-1)) 0) rfl rfl [] (by simp)
    simp only [List.nil_append] at h2
    rw [if_pos h1]
    simp only [h2]
    have h3 : ((F.tk (l.length + 1)).put (l ++ [10])).rd = ({ (F.tk (l.length + 1)).put (l ++ [10]) with head := ((F.tk (l.length + 1)).put (l ++ [10])).kept.length, s := stpW 2 tooLong (-1) }, true) := by
      unfold Fd.rd
      rw [e1, lineS_long h1]
      simp
    rw [h3]
    rfl
  · rw [if_neg h1]
    have e2 : ((F.tk l.length).put l).fb 10 = Fd.end1 ((F.tk (l.length + 1)).put (l ++ [10])).rd := by
      have h4 : ((F.tk l.length).put l).st = 0 := h
      have h5 : (((F.tk l.length).put l).tk 1).put [10] = (F.tk (l.length + 1)).put (l ++ [10]) := by simp [Fd.put, Fd.tk, Nat.add_assoc]
      simp [Fd.fb, h4, h5]
    simp [Fd.run, e2]
/-- No step is whole yet. -/
def StepN (limit at_ : Nat) (r : Bs) : Prop := ∃ G, (fl limit at_).run r = (G, []) ∧ G.ended = false ∧ (G.kept = [] ∨ G.kept.length = r.length)
/-- The step of the first n bytes. -/
structure StepY (limit at_ : Nat) (r : Bs) (s : Stp) (n : Nat) : Prop where
  pos : 0 < n
  le : n ≤ r.length
  frm : s.frm = at_
  to : s.to = at_ + n
  run : ∃ G, (fl limit at_).run (r.take n) = (G, [s]) ∧ (s.cmd.verb ≠ 18 → G = fl limit (at_ + n)) ∧ (s.cmd.verb = 18 → G.st = 5 ∧ G.ended = true ∧ G.kept = [])
theorem stepY_of {limit at_ : Nat} {r : Bs} {n : Nat} {F : Fd} (h0 : 0 < n) (h1 : n ≤ r.length) (hr : (fl limit at_).run (r.take n) = F.tell) (hl : F.limit = limit) (hf : F.frm = at_) (ht : F.taken = at_ + n) (he : F.ended = false) :
    StepY limit at_ r { F.s with frm := at_, to := at_ + n } n := by
  refine ⟨h0, h1, rfl, rfl, F.tell.1, ?_, ?_, ?_⟩
  · rw [hr]
    simp [Fd.tell, hf, ht]
  · intro hv
    have : ¬ F.s.cmd.verb = 18 := hv
    simp [Fd.tell, this, he, fl, hl, ht]
  · intro hv
    have : F.s.cmd.verb = 18 := hv
    simp [Fd.tell, this]
/-- What the line tells: the step, and how many bytes of a block behind it (none: -1). -/
theorem step_none {limit at_ : Nat} {r : Bs} (h : (10 : UInt8) ∉ r) : StepN limit at_ r := by
  have := run_free r (F := fl limit at_) rfl (by simp [fl, trim]) h
  refine ⟨_, this, ?_, ?_⟩
  · split <;> rfl
  · split
    · exact .inl rfl
    · exact .inr (by simp [fl, Fd.put, Fd.tk])
/-- The state behind a line. -/
abbrev lnF (limit at_ : Nat) (p : Bs) : Fd := ((fl limit at_).tk (p.length + 1)).put (p ++ [10])
theorem line_first {limit at_ : Nat} (p : Bs) (h : (10 : UInt8) ∉ p) : (fl limit at_).run (p ++ [10]) = Fd.end1 (lnF limit at_ p).rd :=
  run_free_end (F := fl limit at_) rfl (by simp [fl, trim]) p h
theorem take_line (p t : Bs) : (p ++ 10 :: t).take (p.length + 1) = p ++ [10] := by
  rw [show p ++ 10 :: t = (p ++ [10]) ++ t by simp, List.take_left' (by simp)]
/-- The line is a step of its own. -/
theorem step_line {limit at_ : Nat} (p t : Bs) (h : (10 : UInt8) ∉ p) (hr : (lnF limit at_ p).rd.2 = true) : StepY limit at_ (p ++ 10 :: t) { (lnF limit at_ p).rd.1.s with frm := at_, to := at_ + (p.length + 1) } (p.length + 1) := by
  obtain ⟨h1, h2, h3, -⟩ := rd_facts (lnF limit at_ p)
  refine stepY_of (F := (lnF limit at_ p).rd.1) (by omega) (by simp) ?_ h2 ?_ ?_ h3
  · rw [take_line, line_first p h, Fd.end1, if_pos hr]
  · have : ∀ F : Fd, F.rd.1.frm = F.frm := by
      intro F; unfold Fd.rd; repeat' split
      all_goals rfl
    rw [this]; rfl
  · rw [h1]; rfl
theorem run_behind_line {limit at_ : Nat} (p t : Bs) (h : (10 : UInt8) ∉ p) (hr : (lnF limit at_ p).rd.2 = false) : (fl limit at_).run (p ++ 10 :: t) = (lnF limit at_ p).rd.1.run t := by
  rw [show p ++ 10 :: t = (p ++ [10]) ++ t by simp, Fd.run_app, line_first p h, Fd.end1, if_neg (by simp [hr])]
  simp
/-- A block that is passed over: its bytes, and all up to the next end of a line. -/
theorem pass_short {F : Fd} (h : F.st = 4) {n : Nat} (hn : F.left = n) {t : Bs} (ht : t.length < n) : F.run t = ({ F.tk t.length with left := F.left - t.length }, []) := run_left t h (by omega)
theorem pass_none {F : Fd} (h : F.st = 4) {b u : Bs} (hb : b.length = F.left) (hu : (10 : UInt8) ∉ u) : F.run (b ++ u) = ({ F.tk (b.length + u.length) with left := 0 }, []) := by
  rw [Fd.run_app, run_left b h (by omega)]
  have := run_skip u (F := { F.tk b.length with left := F.left - b.length }) h (by show F.left - b.length = 0; omega) hu
  simp only [this]
  simp [Fd.tk, hb]
  omega
theorem pass_end {F : Fd} (h : F.st = 4) {b u : Bs} (hb : b.length = F.left) (hu : (10 : UInt8) ∉ u) : F.run (b ++ (u ++ [10])) = { F.tk (b.length + (u.length + 1)) with left := 0 }.tell := by
  rw [Fd.run_app, run_left b h (by omega)]
  have := run_skip_end (F := { F.tk b.length with left := F.left - b.length }) h (by show F.left - b.length = 0; omega) u hu
  simp only [this]
  have e : ({ F.tk b.length with left := F.left - b.length } : Fd).tk (u.length + 1) = { F.tk (b.length + (u.length + 1)) with left := 0 } := by
    simp [Fd.tk, hb]; omega
  rw [e]
  simp
/-- A step whose block is passed over. -/
theorem step_pass {limit at_ : Nat} {p : Bs} (h : (10 : UInt8) ∉ p) {s : Stp} {n : Nat} (hr : (lnF limit at_ p).rd = ((lnF limit at_ p).pass s n, false)) (t : Bs) :
    (t.length < n → StepN limit at_ (p ++ 10 :: t)) ∧ (∀ b u, t = b ++ u → b.length = n → (10 : UInt8) ∉ u → StepN limit at_ (p ++ 10 :: t)) ∧
    ∀ b u v, t = b ++ (u ++ 10 :: v) → b.length = n → (10 : UInt8) ∉ u → StepY limit at_ (p ++ 10 :: t) { s with frm := at_, to := at_ + (p.length + 1 + (n + (u.length + 1))) } (p.length + 1 + (n + (u.length + 1))) := by
  have hF : (lnF limit at_ p).rd.1 = (lnF limit at_ p).pass s n := by rw [hr]
  refine ⟨fun hlt => ?_, fun b u e hb hu => ?_, fun b u v e hb hu => ?_⟩
  · have := run_behind_line (limit := limit) (at_ := at_) p t h (by rw [hr])
    rw [hF, pass_short (n := n) rfl rfl hlt] at this
    exact ⟨_, this, rfl, .inl rfl⟩
  · subst e
    have := run_behind_line (limit := limit) (at_ := at_) p (b ++ u) h (by rw [hr])
    rw [hF, pass_none rfl hb hu] at this
    exact ⟨_, this, rfl, .inl rfl⟩
  · subst e
    have h1 := run_behind_line (limit := limit) (at_ := at_) p (b ++ (u ++ [10])) h (by rw [hr])
    rw [hF, pass_end rfl hb hu] at h1
    have e2 : (p ++ 10 :: (b ++ (u ++ 10 :: v))).take (p.length + 1 + (n + (u.length + 1))) = p ++ 10 :: (b ++ (u ++ [10])) := by
      rw [show p ++ 10 :: (b ++ (u ++ 10 :: v)) = (p ++ 10 :: (b ++ (u ++ [10]))) ++ v by simp, List.take_left' (by simp; omega)]
    refine stepY_of (F := { ((lnF limit at_ p).pass s n).tk (b.length + (u.length + 1)) with left := 0 }) (by omega) (by simp; omega) (by rw [e2, h1]) rfl rfl ?_ rfl
    show at_ + (p.length + 1) + (b.length + (u.length + 1)) = _
    omega
/-- Behind a block that is awaited. -/
theorem run_await {F : Fd} {b : Bs} (n : Nat) (hb : b.length = n) : (F.await n).run b = ({ (F.tk n).put b with left := 0, st := 2 }, []) := by
  rcases Nat.eq_zero_or_pos n with h0 | h0
  · subst h0
    have := List.length_eq_zero_iff.1 hb
    subst this
    simp [Fd.run, Fd.await, Fd.tk, Fd.put]
  · have hn : n ≠ 0 := by omega
    rw [run_block b (F := F.await n) (by simp [Fd.await, hn]) h0 (by show b.length ≤ n; omega)]
    simp [Fd.await, Fd.tk, Fd.put, hb]
theorem await_short {F : Fd} {t : Bs} (n : Nat) (ht : t.length < n) : (F.await n).run t = ({ (F.tk t.length).put t with left := n - t.length, st := 1 }, []) := by
  have hn : n ≠ 0 := by omega
  rw [run_block t (F := F.await n) (by simp [Fd.await, hn]) (by show 0 < n; omega) (by show t.length ≤ n; omega)]
  have : n - t.length ≠ 0 := by omega
  simp [Fd.await, Fd.tk, Fd.put, this]
/-- The bytes behind a block: no end of a line. -/
theorem behind_none {F : Fd} (h : F.st = 2) (hl : F.left = 0) {u : Bs} (hu : (10 : UInt8) ∉ u) : ∃ G, F.run u = (G, []) ∧ G.ended = F.ended ∧ (G.kept = [] ∨ G.kept = F.kept ++ u) := by
  cases u with
  | nil => exact ⟨F, rfl, rfl, .inr (by simp)⟩
  | cons x u =>
    have hx : x ≠ 10 := fun e => hu (by simp [e])
    have hu1 : (10 : UInt8) ∉ u := fun e => hu (by simp [e])
    by_cases h13 : x = 13
    · subst h13
      rw [show (13 : UInt8) :: u = [13] ++ u from rfl, Fd.run_app, run_behind h]
      cases u with
      | nil => exact ⟨_, rfl, rfl, .inr rfl⟩
      | cons y u =>
        have hy : y ≠ 10 := fun e => hu1 (by simp [e])
        have h1 := run_spoil (F := { (F.tk 1).put [13] with st := 3 }) (.inr rfl) y u (fun e => by simp at e) (fun _ => hy)
        have h2 := run_skip (y :: u) (F := ({ (F.tk 1).put [13] with st := 3 } : Fd).spoil) rfl rfl hu1
        simp only [h1, h2, List.nil_append]
        exact ⟨_, rfl, rfl, .inl rfl⟩
    · have h1 := run_spoil (F := F) (.inl h) x u (fun _ => h13) (fun e => by rw [h] at e; cases e)
      have h2 := run_skip (x :: u) (F := F.spoil) rfl rfl hu
      rw [h1, h2]
      exact ⟨_, rfl, rfl, .inl rfl⟩
/-- The bytes behind a block: CR LF. -/
theorem behind_clean {F : Fd} (h : F.st = 2) : F.run ([13] ++ [10]) = { (F.tk 2).put [13] with st := 3, s := { F.s with data := (F.kept ++ [13]).drop F.head |>.dropLast } }.tell := by
  rw [Fd.run_app, run_behind h]
  have := run_last (F := { (F.tk 1).put [13] with st := 3 }) rfl
  simp only [this]
  simp [Fd.tk, Fd.put, Fd.tell]
  constructor <;> rfl
/-- The bytes behind a block: anything else. -/
theorem behind_spoilt {F : Fd} (h : F.st = 2) {u : Bs} (hu : (10 : UInt8) ∉ u) (hn : u ≠ [13]) : F.run (u ++ [10]) = (F.spoil.tk (u.length + 1)).tell := by
  cases u with
  | nil =>
    have h1 := run_spoil (F := F) (.inl h) 10 [] (fun _ => by decide) (fun e => by rw [h] at e; cases e)
    have h2 := run_skip_end (F := F.spoil) rfl rfl [] (by simp)
    rw [List.nil_append, h1]
    simpa using h2
  | cons x u =>
    have hx : x ≠ 10 := fun e => hu (by simp [e])
    have hu1 : (10 : UInt8) ∉ u := fun e => hu (by simp [e])
    by_cases h13 : x = 13
    · subst h13
      rw [show (13 : UInt8) :: u ++ [10] = [13] ++ (u ++ [10]) from rfl, Fd.run_app, run_behind h]
      cases u with
      | nil => exact absurd rfl hn
      | cons y u =>
        have hy : y ≠ 10 := fun e => hu1 (by simp [e])
        have h1 := run_spoil (F := { (F.tk 1).put [13] with st := 3 }) (.inr rfl) y (u ++ [10]) (fun e => by simp at e) (fun _ => hy)
        have h2 := run_skip_end (F := ({ (F.tk 1).put [13] with st := 3 } : Fd).spoil) rfl rfl (y :: u) hu1
        rw [show (y :: u) ++ [10] = y :: (u ++ [10]) from rfl] at h2
        rw [show (y :: u) ++ [10] = y :: (u ++ [10]) from rfl]
        simp only [h1, h2, List.nil_append]
        have e : ({ (F.tk 1).put [13] with st := 3 } : Fd).spoil.tk ((y :: u).length + 1) = F.spoil.tk ((13 :: y :: u).length + 1) := by
          simp [Fd.spoil, Fd.pass, Fd.tk, Fd.put]; omega
        rw [e]
    · have h1 := run_spoil (F := F) (.inl h) x (u ++ [10]) (fun _ => h13) (fun e => by rw [h] at e; cases e)
      have h2 := run_skip_end (F := F.spoil) rfl rfl (x :: u) hu
      rw [show (x :: u) ++ [10] = x :: (u ++ [10]) from rfl] at h2 ⊢
      rw [h1, h2]
/-- A step with a block that is read. -/
theorem step_await {limit at_ : Nat} {p : Bs} (h : (10 : UInt8) ∉ p) {c : Cmd} {n : Nat} (hr : (lnF limit at_ p).rd = ({ lnF limit at_ p with head := (lnF limit at_ p).kept.length, s := stpC c false }.await n, false)) (t : Bs) :
    (t.length < n → StepN limit at_ (p ++ 10 :: t)) ∧ (∀ b u, t = b ++ u → b.length = n → (10 : UInt8) ∉ u → StepN limit at_ (p ++ 10 :: t)) ∧
    (∀ b v, t = b ++ ([13] ++ 10 :: v) → b.length = n → StepY limit at_ (p ++ 10 :: t) { stpC c false with data := b, frm := at_, to := at_ + (p.length + 1 + (n + 2)) } (p.length + 1 + (n + 2))) ∧
    ∀ b u v, t = b ++ (u ++ 10 :: v) → b.length = n → (10 : UInt8) ∉ u → u ≠ [13] → StepY limit at_ (p ++ 10 :: t) { stpW 2 badB (-1) with frm := at_, to := at_ + (p.length + 1 + (n + (u.length + 1))) } (p.length + 1 + (n + (u.length + 1))) := by
  obtain ⟨F, hF⟩ : ∃ F : Fd, F = { lnF limit at_ p with head := (lnF limit at_ p).kept.length, s := stpC c false } := ⟨_, rfl⟩
  rw [← hF] at hr
  have f1 : F.kept = p ++ [10] := by rw [hF]; simp [fl, Fd.put, Fd.tk]
  have f2 : F.head = (p ++ [10]).length := by rw [hF]; simp [fl, Fd.put, Fd.tk]
  have f3 : F.ended = false := by rw [hF]; rfl
  have f4 : F.taken = at_ + (p.length + 1) := by rw [hF]; rfl
  have f5 : F.limit = limit := by rw [hF]; rfl
  have f6 : F.frm = at_ := by rw [hF]; rfl
  have f7 : F.s = stpC c false := by rw [hF]
  clear hF
  have hrun : ∀ t, (fl limit at_).run (p ++ 10 :: t) = (F.await n).run t := fun t => by
    rw [run_behind_line p t h (by rw [hr]), hr]
  refine ⟨fun hlt => ?_, fun b u e hb hu => ?_, fun b v e hb => ?_, fun b u v e hb hu hn => ?_⟩
  · refine ⟨_, (hrun t).trans (await_short n hlt), f3, .inr ?_⟩
    simp [Fd.put, Fd.tk, f1]
    try omega
  · subst e
    have h1 := run_await (F := F) n hb
    obtain ⟨G, hG, he, hk⟩ := behind_none (F := { (F.tk n).put b with left := 0, st := 2 }) rfl rfl hu
    refine ⟨G, ?_, he.trans f3, ?_⟩
    · rw [hrun, Fd.run_app, h1]
      simp [hG]
    · rcases hk with hk | hk
      · exact .inl hk
      · refine .inr ?_
        rw [hk]
        simp [Fd.put, Fd.tk, f1]
    try omega
  · subst e
    have h1 := run_await (F := F) n hb
    have h2 := behind_clean (F := { (F.tk n).put b with left := 0, st := 2 }) rfl
    have e2 : (p ++ 10 :: (b ++ ([13] ++ 10 :: v))).take (p.length + 1 + (n + 2)) = p ++ 10 :: (b ++ ([13] ++ [10])) := by
      rw [show p ++ 10 :: (b ++ ([13] ++ 10 :: v)) = (p ++ 10 :: (b ++ ([13] ++ [10]))) ++ v by simp, List.take_left' (by simp; omega)]
    have h3 : (fl limit at_).run (p ++ 10 :: (b ++ ([13] ++ [10]))) = ({ (({ (F.tk n).put b with left := 0, st := 2 } : Fd).tk 2).put [13] with st := 3, s := { F.s with data := b } } : Fd).tell := by
      rw [hrun, Fd.run_app, h1]
      simp only [h2]
      have e3 : (((({ (F.tk n).put b with left := 0, st := 2 } : Fd).kept ++ [13]).drop ({ (F.tk n).put b with left := 0, st := 2 } : Fd).head).dropLast) = b := by
        show (((F.kept ++ b) ++ [13]).drop F.head).dropLast = b
        rw [f1, f2, List.append_assoc (p ++ [10]) b [13], List.drop_left, List.dropLast_concat]
      rw [e3]
      simp
      constructor <;> rfl
    have := stepY_of (limit := limit) (at_ := at_) (r := p ++ 10 :: (b ++ ([13] ++ 10 :: v))) (n := p.length + 1 + (n + 2)) (F := { (({ (F.tk n).put b with left := 0, st := 2 } : Fd).tk 2).put [13] with st := 3, s := { F.s with data := b } }) (by omega) (by simp; omega) (by rw [e2]; exact h3) f5 f6 (by
      show F.taken + n + 2 = _
      omega) f3
    simp only [f7] at this
    exact this
  · subst e
    have h1 := run_await (F := F) n hb
    have h2 := behind_spoilt (F := { (F.tk n).put b with left := 0, st := 2 }) rfl hu hn
    have e2 : (p ++ 10 :: (b ++ (u ++ 10 :: v))).take (p.length + 1 + (n + (u.length + 1))) = p ++ 10 :: (b ++ (u ++ [10])) := by
      rw [show p ++ 10 :: (b ++ (u ++ 10 :: v)) = (p ++ 10 :: (b ++ (u ++ [10]))) ++ v by simp, List.take_left' (by simp; omega)]
    have h3 : (fl limit at_).run (p ++ 10 :: (b ++ (u ++ [10]))) = ((({ (F.tk n).put b with left := 0, st := 2 } : Fd).spoil).tk (u.length + 1)).tell := by
      rw [hrun, Fd.run_app, h1]
      simp only [h2]
      simp
    exact stepY_of (limit := limit) (at_ := at_) (r := p ++ 10 :: (b ++ (u ++ 10 :: v))) (n := p.length + 1 + (n + (u.length + 1))) (F := ({ (F.tk n).put b with left := 0, st := 2 } : Fd).spoil.tk (u.length + 1)) (by omega) (by simp; omega) (by rw [e2]; exact h3) f5 f6 (by
      show F.taken + n + (u.length + 1) = _
      omega) f3
end Go.Proofs.YtobegepebochkaaGreatDoor
/-
  The end of a block; structs in cells.
-/
namespace Go.Proofs.YtobegepebochkaaGreatDoor
open Go.RowKit Go.Maps
set_option linter.unusedVariables false
set_option linter.unusedSimpArgs false

theorem size41 : (Tryz.prog.info? 41).map (·.size) = some 11 := by kernel_rfl
theorem size43 : (Tryz.prog.info? 43).map (·.size) = some 3 := by kernel_rfl
section
variable {w : World} {ops : Array Oper} {rest : List Oper} {op : Oper} {a : Act} {Q : Exit → Act → World → Prop}
theorem atS (T : TypeId) {x y : Operand} (b o : Nat) (ho : op.op = .store T x y) (hx : a.eval x = .pointer (some ⟨b, o, none⟩)) (h : wpList Tryz.prog ops Q (op :: rest) a w) : wpList Tryz.prog ops Q (op :: rest) a w := h
theorem atL (T : TypeId) {x : Operand} (b o : Nat) (ho : op.op = .load T x) (hx : a.eval x = .pointer (some ⟨b, o, none⟩)) (h : wpList Tryz.prog ops Q (op :: rest) a w) : wpList Tryz.prog ops Q (op :: rest) a w := h
/-- A struct is stored into a block that has its place. -/
theorem storeT (T n : Nat) (hsz : (Tryz.prog.info? T).map (·.size) = some n) (hgd : op.guard = none) (x y : Operand) (ho : op.op = .store T x y) (t b o : Nat) (vs : Array Value) (hb : Box w t b vs) (hn : o + n ≤ vs.size)
    (hx : a.eval x = .pointer (some ⟨b, o, none⟩)) (cs : Array Value) (hy : a.eval y = .agg cs) (hs : cs.size = n) (h1 : cs.all (·.oneCell') = true)
    (h : ∀ W, Box W t b (sets vs o cs.toList) → w.grownBy W (some b) → wpList Tryz.prog ops Q rest (a.put op.dst undef) W) : wpList Tryz.prog ops Q (op :: rest) a w := by
  refine wpList_store_mid hgd T x y ho b o cs hx hy (by rw [hs]; exact hb.there o n hn) (by rw [hs]; exact hsz) h1 ?_
  exact h _ (hb.sets _ _) (gb_setCells _ _ (gb_refl _ _))
theorem load41 (hgd : op.guard = none) (x : Operand) (ho : op.op = .load 41 x) (t b o : Nat) (vs : Array Value) (hb : Box w t b vs) (hx : a.eval x = .pointer (some ⟨b, o, none⟩)) (cs : List Value) (hs : cs.length = 11) (hc : ∀ j v, cs[j]? = some v → vs[o + j]? = some v)
    (h : wpList Tryz.prog ops Q rest (a.put op.dst (.agg cs.toArray)) w) : wpList Tryz.prog ops Q (op :: rest) a w :=
  wpList_load_mid hgd 41 x ho b o hx cs _ (fun j v hv => by rw [hb.cell]; exact hc j v hv) Tryz.underlying41 rfl (by rw [hs]; exact size41) h
theorem load43 (hgd : op.guard = none) (x : Operand) (ho : op.op = .load 43 x) (t b o : Nat) (vs : Array Value) (hb : Box w t b vs) (hx : a.eval x = .pointer (some ⟨b, o, none⟩)) (cs : List Value) (hs : cs.length = 3) (hc : ∀ j v, cs[j]? = some v → vs[o + j]? = some v)
    (h : wpList Tryz.prog ops Q rest (a.put op.dst (.agg cs.toArray)) w) : wpList Tryz.prog ops Q (op :: rest) a w :=
  wpList_load_mid hgd 43 x ho b o hx cs _ (fun j v hv => by rw [hb.cell]; exact hc j v hv) Tryz.underlying43 rfl (by rw [hs]; exact size43) h
end
theorem sets_41 (u0 u1 u2 u3 u4 u5 u6 u7 u8 u9 u10 v0 v1 v2 v3 v4 v5 v6 v7 v8 v9 v10 : Value) : sets #[u0, u1, u2, u3, u4, u5, u6, u7, u8, u9, u10] 0 [v0, v1, v2, v3, v4, v5, v6, v7, v8, v9, v10] = #[v0, v1, v2, v3, v4, v5, v6, v7, v8, v9, v10] := by
  simp only [sets, List.setIfInBounds_toArray, List.set_cons_zero, List.set_cons_succ]
theorem sets_43 (u0 u1 u2 v0 v1 v2 : Value) : sets #[u0, u1, u2] 0 [v0, v1, v2] = #[v0, v1, v2] := by
  simp only [sets, List.setIfInBounds_toArray, List.set_cons_zero, List.set_cons_succ]
theorem sets_86a (c0 c1 c2 c3 c4 c5 c6 c7 c8 c9 c10 c11 c12 c13 c14 c15 v0 v1 v2 v3 v4 v5 v6 v7 v8 v9 v10 : Value) : sets #[c0, c1, c2, c3, c4, c5, c6, c7, c8, c9, c10, c11, c12, c13, c14, c15] 0 [v0, v1, v2, v3, v4, v5, v6, v7, v8, v9, v10] = #[v0, v1, v2, v3, v4, v5, v6, v7, v8, v9, v10, c11, c12, c13, c14, c15] := by
  simp only [sets, List.setIfInBounds_toArray, List.set_cons_zero, List.set_cons_succ]
theorem sets_86b (c0 c1 c2 c3 c4 c5 c6 c7 c8 c9 c10 c11 c12 c13 c14 c15 v0 v1 v2 : Value) : sets #[c0, c1, c2, c3, c4, c5, c6, c7, c8, c9, c10, c11, c12, c13, c14, c15] 11 [v0, v1, v2] = #[c0, c1, c2, c3, c4, c5, c6, c7, c8, c9, c10, v0, v1, v2, c14, c15] := by
  simp only [sets, List.setIfInBounds_toArray, List.set_cons_zero, List.set_cons_succ]
theorem res76 {w : World} {b : Nat} {c0 c1 c2 c3 c4 c5 c6 c7 c8 c9 c10 c11 c12 c13 c14 c15 v : Value} (h : Box w 86 b #[c0, c1, c2, c3, c4, c5, c6, c7, c8, c9, c10, c11, c12, c13, c14, c15]) (tmps : Array Value) (ht : tmps[8]?.getD undef = .pointer (some ⟨b, 0, none⟩)) (hv : tmps[9]?.getD undef = v) : (results Tryz.f76 tmps).run Tryz.prog w = .ok (.tuple #[.agg #[c0, c1, c2, c3, c4, c5, c6, c7, c8, c9, c10, c11, c12, c13, c14, c15], v]) w := by
  have hr : Tryz.f76.results = #[.cell 8 86, .tmp 9] := rfl
  have h0 := h.cell 0
  have h1 := h.cell 1
  have h2 := h.cell 2
  have h3 := h.cell 3
  have h4 := h.cell 4
  have h5 := h.cell 5
  have h6 := h.cell 6
  have h7 := h.cell 7
  have h8 := h.cell 8
  have h9 := h.cell 9
  have h10 := h.cell 10
  have h11 := h.cell 11
  have h12 := h.cell 12
  have h13 := h.cell 13
  have h14 := h.cell 14
  have h15 := h.cell 15
  simp at h0 h1 h2 h3 h4 h5 h6 h7 h8 h9 h10 h11 h12 h13 h14 h15
  unfold results
  simp [hr, ht, hv, go_sem, h0, h1, h2, h3, h4, h5, h6, h7, h8, h9, h10, h11, h12, h13, h14, h15]
/-- Bytes that lie in memory at a place. -/
structure Ra (w : World) (g o c : Nat) (l : Bs) : Prop where
  le : l.length ≤ c
  cap : c ≤ 9223372036854775807
  lt : g < w.heap.size
  cell : ∀ i x, l[i]? = some x → w.cell? ⟨g, o + i, none⟩ = some (b8 x)
  len : l.length ≤ 1099511627776
theorem Ra.kept0 {w w' : World} {g o c : Nat} {l : Bs} (h : Ra w g o c l) (hf : w.grownBy w' none) : Ra w' g o c l :=
  ⟨h.le, h.cap, Nat.lt_of_lt_of_le h.lt hf.size, fun i x hx => gb_cellN hf (h.cell i x hx), h.len⟩
theorem Ra.dropc {w : World} {g o c : Nat} {l : Bs} (h : Ra w g o c l) (k : Nat) : ∀ i x, (l.drop k)[i]? = some x → w.cell? ⟨g, o + k + i, none⟩ = some (b8 x) := by
  intro i x hx
  rw [List.getElem?_drop] at hx
  rw [Nat.add_assoc]
  exact h.cell _ x hx
theorem wrap1 {x : Int} (h0 : 0 ≤ x) (h1 : x ≤ 4611686018427387904) : IntKind.i64.wrap x = x := by rw [IntKind.wrap_i64]; omega
theorem wrap3 (k n U : Nat) (h : k + n + U + 1 ≤ 4611686018427387904) : IntKind.i64.wrap (IntKind.i64.wrap (IntKind.i64.wrap ((k : Int) + (n : Int)) + (U : Int)) + 1) = ((k + n + U + 1 : Nat) : Int) := by
  rw [wrap1 (x := (k : Int) + n) (by omega) (by omega), wrap1 (x := (k : Int) + n + U) (by omega) (by omega), wrap1 (by omega) (by omega)]
  simp
set_option maxRecDepth 100000 in
set_option maxHeartbeats 4000000 in
theorem bend_short {w : World} {g o c : Nat} {l : Bs} (h : Ra w g o c l) (k n : Nat) (hk : k ≤ l.length) (hn : n ≤ 2147483647) (hs : (l.drop k).length < n) :
    Calls Tryz.prog 120 #[.slice (some ⟨g, o, none⟩) l.length c, .int .i64 k, .int .i64 n] w fun e w' => e = .returned (.tuple #[.int .i64 (-1), .bool false]) ∧ w.grownBy w' none := by
  rw [List.length_drop] at hs
  have hl := h.len
  have d1 : (l.length : Int) - (k : Int) < (n : Int) := by omega
  clear h
  go_enter Tryz.func120, Tryz.ntmps120
  go_wp2
  go_ret2
  exact ⟨rfl, gb_refl _ _⟩
set_option maxRecDepth 100000 in
set_option maxHeartbeats 4000000 in
theorem bend_none {w : World} {g o c : Nat} {l : Bs} (h : Ra w g o c l) (k n : Nat) (hk : k ≤ l.length) (hn : n ≤ 2147483647) (b u : Bs) (e : l.drop k = b ++ u) (hb : b.length = n) (hu : (10 : UInt8) ∉ u) :
    Calls Tryz.prog 120 #[.slice (some ⟨g, o, none⟩) l.length c, .int .i64 k, .int .i64 n] w fun e w' => e = .returned (.tuple #[.int .i64 (-1), .bool false]) ∧ w.grownBy w' none := by
  have hl := h.len
  have hle := h.le
  have hcp := h.cap
  have hlen : l.length - k = n + u.length := by rw [← List.length_drop, e, List.length_append, hb]
  have hu2 : l.drop (k + n) = u := by rw [← List.drop_drop, e, ← hb, List.drop_left]
  have hix : Lib.indexByte u 10 = -1 := by
    rcases indexByte_spec 10 u with ⟨h1, _⟩ | ⟨p, t, h1, _, _⟩
    · exact h1
    · exact absurd (by rw [h1]; simp) hu
  have h118 := ix_118 w g (o + (k + n)) (c - (k + n)) u (by rw [← hu2]; intro i x hx; have := h.dropc (k + n) i x hx; rw [← this])
  rw [hix] at h118
  have h118b := ix_118 w g o 0 [] (fun i x hx => by simp at hx)
  rw [show Lib.indexByte [] 10 = -1 from rfl, List.length_nil] at h118b
  have d1 : ¬ ((l.length : Int) - (k : Int) < (n : Int)) := by omega
  obtain ⟨m, hm⟩ : ∃ m, u.length = m := ⟨_, rfl⟩
  have e1 : l.length - (k + n) = m := by omega
  clear h e hb hu hu2 hix
  by_cases hcn : c = k + n
  · have hm0 : m = 0 := by omega
    subst hm0
    have hlk : l.length = k + n := by omega
    go_enter Tryz.func120, Tryz.ntmps120
    go_wp2_with (go_at_call 118; go_must ((with_reducible refine h118b.mono ?_); rintro e w4 ⟨rfl, rfl⟩))
    go_ret2
    exact ⟨rfl, gb_refl _ _⟩
  · rw [hm] at h118
    go_enter Tryz.func120, Tryz.ntmps120
    go_wp2_with (go_at_call 118; go_must ((with_reducible refine h118.mono ?_); rintro e w4 ⟨rfl, rfl⟩))
    go_ret2
    exact ⟨rfl, gb_refl _ _⟩
set_option maxRecDepth 100000 in
set_option maxHeartbeats 4000000 in
theorem bend_some {w : World} {g o c : Nat} {l : Bs} (h : Ra w g o c l) (k n : Nat) (hk : k ≤ l.length) (hn : n ≤ 2147483647) (b u v : Bs) (e : l.drop k = b ++ (u ++ 10 :: v)) (hb : b.length = n) (hu : (10 : UInt8) ∉ u) :
    Calls Tryz.prog 120 #[.slice (some ⟨g, o, none⟩) l.length c, .int .i64 k, .int .i64 n] w fun e w' => e = .returned (.tuple #[.int .i64 ((k + n + u.length + 1 : Nat) : Int), .bool (decide (u = [13]))]) ∧ w.grownBy w' none := by
  have hl := h.len
  have hle := h.le
  have hcp := h.cap
  have hlen : l.length - k = n + (u.length + 1 + v.length) := by rw [← List.length_drop, e, List.length_append, hb]; simp; omega
  have hu2 : l.drop (k + n) = u ++ 10 :: v := by rw [← List.drop_drop, e, ← hb, List.drop_left]
  have hix : Lib.indexByte (u ++ 10 :: v) 10 = (u.length : Int) := by
    rcases indexByte_spec 10 (u ++ 10 :: v) with ⟨_, h1⟩ | ⟨p, t, h1, h2, h3⟩
    · exact absurd (by simp) h1
    · rw [h3]
      have : p.length = u.length := by
        rcases Nat.lt_trichotomy p.length u.length with hh | hh | hh
        · have h4 : (u ++ 10 :: v)[p.length]? = some 10 := by rw [h1]; simp
          rw [List.getElem?_append_left hh] at h4
          exact absurd (List.mem_of_getElem? h4) hu
        · exact hh
        · have h4 : (p ++ 10 :: t)[u.length]? = some 10 := by rw [← h1]; simp
          rw [List.getElem?_append_left hh] at h4
          exact absurd (List.mem_of_getElem? h4) h2
      omega
  have h118 := ix_118 w g (o + (k + n)) (c - (k + n)) (u ++ 10 :: v) (by rw [← hu2]; intro i x hx; have := h.dropc (k + n) i x hx; rw [← this])
  rw [hix] at h118
  have h0 : ∀ x, u = [x] → w.cell? ⟨g, o + (k + n), none⟩ = some (b8 x) := by
    intro x hx
    have := h.dropc (k + n) 0 x (by rw [hu2, hx]; rfl)
    simpa using this
  have d1 : ¬ ((l.length : Int) - (k : Int) < (n : Int)) := by omega
  obtain ⟨m, hm⟩ : ∃ m, (u ++ 10 :: v).length = m := ⟨_, rfl⟩
  have hml : u.length < m := by rw [← hm]; simp
  have e1 : l.length - (k + n) = m := by rw [← List.length_drop, hu2, hm]
  have hcn : ¬ c = k + n := by omega
  rw [hm] at h118
  obtain ⟨U, hU⟩ : ∃ U, u.length = U := ⟨_, rfl⟩
  rw [hU] at h118 hml hlen ⊢
  have eT : Aside (IntKind.i64.wrap (IntKind.i64.wrap (IntKind.i64.wrap ((k : Int) + (n : Int)) + (U : Int)) + 1) = ((k + n + U + 1 : Nat) : Int)) := wrap3 k n U (by omega)
  have eT2 : Aside ((k : Int) + (n : Int) + (U : Int) + 1 = ((k + n + U + 1 : Nat) : Int)) := by show _ = _; simp
  clear h e hb hu2 hix hm
  by_cases hU1 : U = 1
  · obtain ⟨x, rfl⟩ : ∃ x, u = [x] := List.length_eq_one_iff.1 (by omega)
    have c0 := h0 x rfl
    have ex : Aside (decide ((x.toNat : Int) = 13) = decide ([x] = [13])) := by
      show _ = _
      by_cases hx : x = 13
      · subst hx; rfl
      · have : ¬ ((x.toNat : Int) = 13) := fun e => hx (UInt8.toNat_inj.1 (by show x.toNat = 13; omega))
        simp [hx, this]
    subst hU1
    clear h0 hU hu
    go_enter Tryz.func120, Tryz.ntmps120
    go_wp2_with (go_at_call 118; go_must ((with_reducible refine h118.mono ?_); rintro e w4 ⟨rfl, rfl⟩))
    go_quiet (fail)
    go_wp2
    go_ret2
    refine ⟨?_, gb_drewN (gb_refl _ _) _⟩
    show Ending.returned (.tuple #[.int .i64 ((k : Int) + n + 1 + 1), .bool ((x.toNat : Int) == 13)]) = _
    rw [← eT2.out, ← ex.out]
    rfl
  · have hne : decide (u = [13]) = false := decide_eq_false (fun e => hU1 (by rw [← hU, e]; rfl))
    rw [hne]
    have d3 : ¬ ((U : Int) = 1) := by omega
    clear h0 hU hu hne
    go_enter Tryz.func120, Tryz.ntmps120
    go_wp2_with (go_at_call 118; go_must ((with_reducible refine h118.mono ?_); rintro e w4 ⟨rfl, rfl⟩))
    go_quiet (fail)
    go_wp2
    go_ret2
    refine ⟨?_, gb_drewN (gb_refl _ _) _⟩
    show Ending.returned (.tuple #[.int .i64 (IntKind.i64.wrap (IntKind.i64.wrap (IntKind.i64.wrap ((k : Int) + n) + U) + 1)), .bool false]) = _
    rw [eT.out]
theorem own_empty5 (w : World) : (w.alloc (.cells #[] 5)).ownsRow w.heap.size 5 1 (.slice (some ⟨w.heap.size, 0, none⟩) 0 0) 0 [] := by
  refine ⟨rfl, .inr ⟨w.heap.size, 0, #[], rfl, ?_, ?_, ?_, ?_, ?_⟩⟩
  all_goals simp
  exact Option.some.inj ((Array.getElem?_eq_getElem _).symm.trans (heap_alloc_new w (.cells #[] 5)))
set_option maxRecDepth 100000 in
set_option maxHeartbeats 4000000 in
theorem clone_121 {w : World} {g o c : Nat} {l : Bs} (h : Ra w g o c l) :
    Calls Tryz.prog 121 #[.slice (some ⟨g, o, none⟩) l.length c] w fun e w' => ∃ v', e = .returned v' ∧ w'.ownsRow w.heap.size 5 1 v' l.length (l.map b8) ∧ w.grownBy w' none := by
  have ga := gb_alloc (gb_refl w none) (.cells #[] 5)
  have hm := own_empty5 w
  have hl := h.len
  have hv2 : Ck (w.alloc (.cells #[] 5)) (fun _ => False) (.slice (some ⟨g, o, none⟩) l.length c) l := by
    have := h.kept0 ga
    exact .inr ⟨g, o, c, rfl, this.le, this.cap, this.lt, id, this.cell⟩
  have hq : ∀ (W : World) (n c : Nat), Sem.run Tryz.prog (binOp .eql 38 (.slice (some ⟨g, o, none⟩) n c) (.slice none 0 0)) W = .ok (.bool false) W := fun _ _ _ => by first | rfl | kernel_rfl | simp [binOp, go_sem]
  clear h
  go_enter Tryz.func121, Tryz.ntmps121
  go_wp2_with (at_builtin; go_must (refine moreC rfl _ _ rfl w.heap.size _ 0 [] (by rfl) hm _ _ l (by rfl) hv2 (by omega) (by simp) ?_); intro v' w' h1 h2)
  go_ret
  refine ⟨v', rfl, ?_, ?_⟩
  · simpa using h1
  · exact gb_mine ga h2 (by simp [Value.ownBlock])
end Go.Proofs.YtobegepebochkaaGreatDoor
/-
  A step: what the line says of it.
-/
namespace Go.Proofs.YtobegepebochkaaGreatDoor
open Go.RowKit Go.Maps
set_option linter.unusedVariables false
set_option linter.unusedSimpArgs false

theorem lnF_kept (limit at_ : Nat) (p : Bs) : (lnF limit at_ p).kept.dropLast = p := by
  show ([] ++ (p ++ [10])).dropLast = p
  rw [List.nil_append, List.dropLast_concat]
theorem lnF_inl {limit at_ : Nat} {p : Bs} {c : Cmd} {n : Int} (hl : lineS (trim p) = .inl (c, n)) : (lnF limit at_ p).rd =
    if n < 0 then ({ lnF limit at_ p with head := (lnF limit at_ p).kept.length, s := stpC c false }, true) else
    if (limit : Int) < n then ((lnF limit at_ p).pass (stpC c true) n.toNat, false) else
    ({ lnF limit at_ p with head := (lnF limit at_ p).kept.length, s := stpC c false }.await n.toNat, false) := by
  unfold Fd.rd
  rw [lnF_kept, hl]
  rfl
theorem lnF_inr {limit at_ : Nat} {p : Bs} {k : Int} {x : Bs} {q : Int} (hl : lineS (trim p) = .inr (k, x, q)) : (lnF limit at_ p).rd =
    if q < 0 ∨ (limit : Int) < q then ({ lnF limit at_ p with head := (lnF limit at_ p).kept.length, s := stpW k x q }, true) else
    ((lnF limit at_ p).pass (stpW k x q) q.toNat, false) := by
  unfold Fd.rd
  rw [lnF_kept, hl]
  rfl
theorem stepY_inl {limit at_ : Nat} {p t : Bs} (hp : (10 : UInt8) ∉ p) {c : Cmd} {n : Int} (hl : lineS (trim p) = .inl (c, n)) (hn : n < 0) : StepY limit at_ (p ++ 10 :: t) ⟨c, [], false, 0, [], 0, at_, at_ + (p.length + 1)⟩ (p.length + 1) := by
  have h := lnF_inl (limit := limit) (at_ := at_) hl
  rw [if_pos hn] at h
  have := step_line (limit := limit) (at_ := at_) p t hp (by rw [h])
  rw [h] at this
  exact this
theorem stepY_inr {limit at_ : Nat} {p t : Bs} (hp : (10 : UInt8) ∉ p) {k : Int} {x : Bs} {q : Int} (hl : lineS (trim p) = .inr (k, x, q)) (hq : q < 0 ∨ (limit : Int) < q) : StepY limit at_ (p ++ 10 :: t) ⟨cmd0 0 false, [], false, k, x, q, at_, at_ + (p.length + 1)⟩ (p.length + 1) := by
  have h := lnF_inr (limit := limit) (at_ := at_) hl
  rw [if_pos hq] at h
  have := step_line (limit := limit) (at_ := at_) p t hp (by rw [h])
  rw [h] at this
  exact this
/-- What a row of bytes is behind so many: too short, without an end of a line, or with one. -/
theorem three (t : Bs) (n : Nat) : t.length < n ∨ (∃ b u, t = b ++ u ∧ b.length = n ∧ (10 : UInt8) ∉ u) ∨ ∃ b u v, t = b ++ (u ++ 10 :: v) ∧ b.length = n ∧ (10 : UInt8) ∉ u := by
  rcases Nat.lt_or_ge t.length n with h | h
  · exact .inl h
  · right
    have hb : (t.take n).length = n := by rw [List.length_take]; omega
    rcases indexByte_spec 10 (t.drop n) with ⟨_, h1⟩ | ⟨p, v, h1, h2, _⟩
    · exact .inl ⟨t.take n, t.drop n, (List.take_append_drop n t).symm, hb, h1⟩
    · exact .inr ⟨t.take n, p, v, by rw [← h1, List.take_append_drop], hb, h2⟩
/-- What step answers. -/
def StQ (limit at_ : Nat) (r : Bs) (w : World) (e : Ending) (w' : World) : Prop :=
  w.grownBy w' none ∧ ((e = .returned (.tuple #[.agg Z86, .bool false]) ∧ StepN limit at_ r) ∨
    ∃ s n ck cd cm, e = .returned (.tuple #[.agg (stpA s ck cd cm), .bool true]) ∧ StepY limit at_ r s n ∧ w'.ownsRow w.heap.size 9 1 ck s.cmd.keys.length (s.cmd.keys.map sv) ∧ w'.ownsRow w.heap.size 5 1 cd s.data.length (s.data.map b8) ∧ w'.ownsRow w.heap.size 79 3 cm s.cmd.mt.length (fcs s.cmd.mt) ∧ (s.data = [] → cd = .slice none 0 0))
theorem StQ.no {limit at_ : Nat} {r : Bs} {w w' : World} (h : StepN limit at_ r) (hg : w.grownBy w' none) : StQ limit at_ r w (.returned (.tuple #[.agg Z86, .bool false])) w' := ⟨hg, .inl ⟨rfl, h⟩⟩
theorem bx41 (w : World) (z : Array Value) (y : Array Value) (t : TypeId) : Box ((w.alloc (.cells z 41)).alloc (.cells y t)) 41 w.heap.size z := (Box.new w 41 z).kept (gb_alloc (gb_refl _ none) _) (by simp)
theorem bx2 (w : World) (z : Obj) (y : Array Value) (t : TypeId) : Box ((w.alloc z).alloc (.cells y t)) t (w.heap.size + 1) y := by
  have := Box.new (w.alloc z) t y
  simp only [World.size_alloc] at this
  exact this
set_option maxRecDepth 100000 in
set_option maxHeartbeats 4000000 in
theorem step_noLF {w : World} {gb g o c : Nat} {raw : Bs} (hR : Ra w g o c raw) {at_ lim : Nat} (hat : at_ ≤ raw.length) (hr : (10 : UInt8) ∉ raw.drop at_) :
    Calls Tryz.prog 76 #[.map (some gb), .slice (some ⟨g, o, none⟩) raw.length c, .int .i64 at_, .int .i64 lim] w fun e w' => StQ lim at_ (raw.drop at_) w e w' := by
  have hfin := fun {W : World} (hg : w.grownBy W none) => StQ.no (limit := lim) (at_ := at_) (w := w) (step_none hr) hg
  have hl := hR.len
  have hle := hR.le
  have hcp := hR.cap
  obtain ⟨r, hr2⟩ : ∃ r, raw.drop at_ = r := ⟨_, rfl⟩
  have ga := gb_alloc (gb_refl w none) (.cells Z86 86)
  have bx := Box.new w 86 Z86
  have hix : Lib.indexByte r 10 = -1 := by
    rcases indexByte_spec 10 r with ⟨h1, _⟩ | ⟨p, t, h1, _, _⟩
    · exact h1
    · exact absurd (by rw [hr2, h1]; simp) hr
  have h118 := ix_118 (w.alloc (.cells Z86 86)) g (o + at_) (c - at_) r (by rw [← hr2]; exact (hR.kept0 ga).dropc at_)
  rw [hix] at h118
  have h118b := ix_118 (w.alloc (.cells Z86 86)) g o 0 [] (fun i x hx => by simp at hx)
  rw [show Lib.indexByte [] 10 = -1 from rfl, List.length_nil] at h118b
  have e1 : raw.length - at_ = r.length := by rw [← hr2, List.length_drop]
  obtain ⟨m, hm⟩ : ∃ m, r.length = m := ⟨_, rfl⟩
  rw [hm] at e1 h118
  clear hR hr hix hr2 hm
  by_cases hcn : c = at_
  · have hm0 : m = 0 := by omega
    subst hm0
    have hlk : raw.length = at_ := by omega
    go_enter Tryz.func76, Tryz.ntmps76
    go_wp2_with (first | (go_at_call 118; go_must ((with_reducible refine h118b.mono ?_); rintro e w4 ⟨rfl, rfl⟩)) | (refine atS 86 w.heap.size 0 rfl rfl ?_; go_must (refine storeT 86 16 size86 rfl _ _ rfl 86 w.heap.size 0 _ bx (by simp) rfl _ rfl rfl (by simp [Value.oneCell']) ?_); intro W4 hb4 hg4; (simp only [sets_0] at hb4)))
    refine ⟨rfl, _, res76 hb4 _ rfl rfl, ?_⟩
    exact hfin (gb_mine ga hg4 (Nat.le_refl _))
  · go_enter Tryz.func76, Tryz.ntmps76
    go_wp2_with (first | (go_at_call 118; go_must ((with_reducible refine h118.mono ?_); rintro e w4 ⟨rfl, rfl⟩)) | (refine atS 86 w.heap.size 0 rfl rfl ?_; go_must (refine storeT 86 16 size86 rfl _ _ rfl 86 w.heap.size 0 _ bx (by simp) rfl _ rfl rfl (by simp [Value.oneCell']) ?_); intro W4 hb4 hg4; (simp only [sets_0] at hb4)))
    refine ⟨rfl, _, res76 hb4 _ rfl rfl, ?_⟩
    exact hfin (gb_mine ga hg4 (Nat.le_refl _))
end Go.Proofs.YtobegepebochkaaGreatDoor
