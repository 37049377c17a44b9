import Derived.Test.YtbbocbdoiealoaaGreatDoorRPag
set_option linter.unusedVariables false
set_option linter.unusedSimpArgs false
namespace Go.Proofs.YtbbocbdoiealoaaGreatDoor
open Go.RowKit
def fl (limit at_ : Nat) : Fd := ⟨limit, at_, false, at_, [], 0, 0, stp0, 0⟩
theorem run_free : ∀ (l : Bs) {F : Fd}, F.st = 0 → ¬ 2048 < (trim F.kept).length → (10 : UInt8) ∉ l →
    F.run l = (if 2048 < (trim (F.kept ++ l)).length then ((F.tk l.length).put l).pass (stpW 2 tooLong (-1)) 0 else (F.tk l.length).put l, [])
  | [], F, h, h0, hn => by
    rw [List.append_nil, if_neg h0]
    simp [Fd.run, Fd.tk, Fd.put]
  | b :: t, F, h, h0, hn => by
    have hb : b ≠ 10 := fun e => hn (by simp [e])
    have ht : (10 : UInt8) ∉ t := fun e => hn (by simp [e])
    have hc : F.kept ++ b :: t = (F.kept ++ [b]) ++ t := by simp
    by_cases h1 : 2048 < (trim (F.kept ++ [b])).length
    · have h2 : F.fb b = (((F.tk 1).put [b]).pass (stpW 2 tooLong (-1)) 0, []) := by simp only [Fd.fb, h, hb, h1, if_true, if_false]
      have h3 := run_skip t (F := ((F.tk 1).put [b]).pass (stpW 2 tooLong (-1)) 0) rfl rfl ht
      have h4 := (trim_len (F.kept ++ [b])).2
      have h5 : 2048 < (trim (F.kept ++ b :: t)).length := by
        cases t with
        | nil => exact h1
        | cons c t =>
          have := (trim_len (F.kept ++ b :: c :: t)).1
          simp at this h4 ⊢
          omega
      rw [if_pos h5]
      simp only [Fd.run, h2, h3, List.nil_append, List.length_cons]
      simp [Fd.tk, Fd.put, Fd.pass]
      omega
    · have h2 : F.fb b = ((F.tk 1).put [b], []) := by simp only [Fd.fb, h, hb, h1, if_true, if_false]
      have h3 := run_free t (F := (F.tk 1).put [b]) h h1 ht
      have e1 : ((F.tk 1).put [b]).kept ++ t = F.kept ++ b :: t := by simp [Fd.put, Fd.tk]
      have e2 : (((F.tk 1).put [b]).tk t.length).put t = (F.tk (t.length + 1)).put (b :: t) := by simp [Fd.put, Fd.tk]; omega
      rw [e1, e2] at h3
      simp only [Fd.run, h2, h3, List.nil_append, List.length_cons]
theorem run_free_end {F : Fd} (h : F.st = 0) (h0 : ¬ 2048 < (trim F.kept).length) (l : Bs) (hn : (10 : UInt8) ∉ l) :
    F.run (l ++ [10]) = Fd.end1 ((F.tk (l.length + 1)).put (l ++ [10])).rd := by
  rw [Fd.run_app, run_free l h h0 hn]
  have e1 : ((F.tk (l.length + 1)).put (l ++ [10])).kept.dropLast = F.kept ++ l := by
    show (F.kept ++ (l ++ [10])).dropLast = _
    rw [← List.append_assoc, List.dropLast_concat]
  by_cases h1 : 2048 < (trim (F.kept ++ l)).length
  · have h2 := run_skip_end (F := ((F.tk l.length).put l).pass (stpW 2 tooLong (-1)) 0) rfl rfl [] (by simp)
    simp only [List.nil_append] at h2
    rw [if_pos h1]
    simp only [h2]
    have h3 : ((F.tk (l.length + 1)).put (l ++ [10])).rd = ({ (F.tk (l.length + 1)).put (l ++ [10]) with head := ((F.tk (l.length + 1)).put (l ++ [10])).kept.length, s := stpW 2 tooLong (-1) }, true) := by
      unfold Fd.rd
      rw [e1, lineS_long h1]
      simp
    rw [h3]
    rfl
  · rw [if_neg h1]
    have e2 : ((F.tk l.length).put l).fb 10 = Fd.end1 ((F.tk (l.length + 1)).put (l ++ [10])).rd := by
      have h4 : ((F.tk l.length).put l).st = 0 := h
      have h5 : (((F.tk l.length).put l).tk 1).put [10] = (F.tk (l.length + 1)).put (l ++ [10]) := by simp [Fd.put, Fd.tk, Nat.add_assoc]
      simp [Fd.fb, h4, h5]
    simp [Fd.run, e2]
def StepN (limit at_ : Nat) (r : Bs) : Prop := ∃ G, (fl limit at_).run r = (G, []) ∧ G.ended = false ∧ (G.kept = [] ∨ G.kept.length = r.length)
structure StepY (limit at_ : Nat) (r : Bs) (s : Stp) (n : Nat) : Prop where
  pos : 0 < n
  le : n ≤ r.length
  frm : s.frm = at_
  to : s.to = at_ + n
  run : ∃ G, (fl limit at_).run (r.take n) = (G, [s]) ∧ (s.cmd.verb ≠ 18 → G = fl limit (at_ + n)) ∧ (s.cmd.verb = 18 → G.st = 5 ∧ G.ended = true ∧ G.kept = [])
theorem stepY_of {limit at_ : Nat} {r : Bs} {n : Nat} {F : Fd} (h0 : 0 < n) (h1 : n ≤ r.length) (hr : (fl limit at_).run (r.take n) = F.tell) (hl : F.limit = limit) (hf : F.frm = at_) (ht : F.taken = at_ + n) (he : F.ended = false) :
    StepY limit at_ r { F.s with frm := at_, to := at_ + n } n := by
  refine ⟨h0, h1, rfl, rfl, F.tell.1, ?_, ?_, ?_⟩
  · rw [hr]
    simp [Fd.tell, hf, ht]
  · intro hv
    have : ¬ F.s.cmd.verb = 18 := hv
    simp [Fd.tell, this, he, fl, hl, ht]
  · intro hv
    have : F.s.cmd.verb = 18 := hv
    simp [Fd.tell, this]
theorem step_none {limit at_ : Nat} {r : Bs} (h : (10 : UInt8) ∉ r) : StepN limit at_ r := by
  have := run_free r (F := fl limit at_) rfl (by simp [fl, trim]) h
  refine ⟨_, this, ?_, ?_⟩
  · split <;> rfl
  · split
    · exact .inl rfl
    · exact .inr (by simp [fl, Fd.put, Fd.tk])
abbrev lnF (limit at_ : Nat) (p : Bs) : Fd := ((fl limit at_).tk (p.length + 1)).put (p ++ [10])
theorem line_first {limit at_ : Nat} (p : Bs) (h : (10 : UInt8) ∉ p) : (fl limit at_).run (p ++ [10]) = Fd.end1 (lnF limit at_ p).rd :=
  run_free_end (F := fl limit at_) rfl (by simp [fl, trim]) p h
theorem take_line (p t : Bs) : (p ++ 10 :: t).take (p.length + 1) = p ++ [10] := by
  rw [show p ++ 10 :: t = (p ++ [10]) ++ t by simp, List.take_left' (by simp)]
theorem step_line {limit at_ : Nat} (p t : Bs) (h : (10 : UInt8) ∉ p) (hr : (lnF limit at_ p).rd.2 = true) : StepY limit at_ (p ++ 10 :: t) { (lnF limit at_ p).rd.1.s with frm := at_, to := at_ + (p.length + 1) } (p.length + 1) := by
  obtain ⟨h1, h2, h3, -⟩ := rd_facts (lnF limit at_ p)
  refine stepY_of (F := (lnF limit at_ p).rd.1) (by omega) (by simp) ?_ h2 ?_ ?_ h3
  · rw [take_line, line_first p h, Fd.end1, if_pos hr]
  · have : ∀ F : Fd, F.rd.1.frm = F.frm := by
      intro F; unfold Fd.rd; repeat' split
      all_goals rfl
    rw [this]; rfl
  · rw [h1]; rfl
theorem run_behind_line {limit at_ : Nat} (p t : Bs) (h : (10 : UInt8) ∉ p) (hr : (lnF limit at_ p).rd.2 = false) : (fl limit at_).run (p ++ 10 :: t) = (lnF limit at_ p).rd.1.run t := by
  rw [show p ++ 10 :: t = (p ++ [10]) ++ t by simp, Fd.run_app, line_first p h, Fd.end1, if_neg (by simp [hr])]
  simp
theorem pass_short {F : Fd} (h : F.st = 4) {n : Nat} (hn : F.left = n) {t : Bs} (ht : t.length < n) : F.run t = ({ F.tk t.length with left := F.left - t.length }, []) := run_left t h (by omega)
theorem pass_none {F : Fd} (h : F.st = 4) {b u : Bs} (hb : b.length = F.left) (hu : (10 : UInt8) ∉ u) : F.run (b ++ u) = ({ F.tk (b.length + u.length) with left := 0 }, []) := by
  rw [Fd.run_app, run_left b h (by omega)]
  have := run_skip u (F := { F.tk b.length with left := F.left - b.length }) h (by show F.left - b.length = 0; omega) hu
  simp only [this]
  simp [Fd.tk, hb]
  omega
theorem pass_end {F : Fd} (h : F.st = 4) {b u : Bs} (hb : b.length = F.left) (hu : (10 : UInt8) ∉ u) : F.run (b ++ (u ++ [10])) = { F.tk (b.length + (u.length + 1)) with left := 0 }.tell := by
  rw [Fd.run_app, run_left b h (by omega)]
  have := run_skip_end (F := { F.tk b.length with left := F.left - b.length }) h (by show F.left - b.length = 0; omega) u hu
  simp only [this]
  have e : ({ F.tk b.length with left := F.left - b.length } : Fd).tk (u.length + 1) = { F.tk (b.length + (u.length + 1)) with left := 0 } := by
    simp [Fd.tk, hb]; omega
  rw [e]
  simp
theorem step_pass {limit at_ : Nat} {p : Bs} (h : (10 : UInt8) ∉ p) {s : Stp} {n : Nat} (hr : (lnF limit at_ p).rd = ((lnF limit at_ p).pass s n, false)) (t : Bs) :
    (t.length < n → StepN limit at_ (p ++ 10 :: t)) ∧ (∀ b u, t = b ++ u → b.length = n → (10 : UInt8) ∉ u → StepN limit at_ (p ++ 10 :: t)) ∧
    ∀ b u v, t = b ++ (u ++ 10 :: v) → b.length = n → (10 : UInt8) ∉ u → StepY limit at_ (p ++ 10 :: t) { s with frm := at_, to := at_ + (p.length + 1 + (n + (u.length + 1))) } (p.length + 1 + (n + (u.length + 1))) := by
  have hF : (lnF limit at_ p).rd.1 = (lnF limit at_ p).pass s n := by rw [hr]
  refine ⟨fun hlt => ?_, fun b u e hb hu => ?_, fun b u v e hb hu => ?_⟩
  · have := run_behind_line (limit := limit) (at_ := at_) p t h (by rw [hr])
    rw [hF, pass_short (n := n) rfl rfl hlt] at this
    exact ⟨_, this, rfl, .inl rfl⟩
  · subst e
    have := run_behind_line (limit := limit) (at_ := at_) p (b ++ u) h (by rw [hr])
    rw [hF, pass_none rfl hb hu] at this
    exact ⟨_, this, rfl, .inl rfl⟩
  · subst e
    have h1 := run_behind_line (limit := limit) (at_ := at_) p (b ++ (u ++ [10])) h (by rw [hr])
    rw [hF, pass_end rfl hb hu] at h1
    have e2 : (p ++ 10 :: (b ++ (u ++ 10 :: v))).take (p.length + 1 + (n + (u.length + 1))) = p ++ 10 :: (b ++ (u ++ [10])) := by
      rw [show p ++ 10 :: (b ++ (u ++ 10 :: v)) = (p ++ 10 :: (b ++ (u ++ [10]))) ++ v by simp, List.take_left' (by simp; omega)]
    refine stepY_of (F := { ((lnF limit at_ p).pass s n).tk (b.length + (u.length + 1)) with left := 0 }) (by omega) (by simp; omega) (by rw [e2, h1]) rfl rfl ?_ rfl
    show at_ + (p.length + 1) + (b.length + (u.length + 1)) = _
    omega
theorem run_await {F : Fd} {b : Bs} (n : Nat) (hb : b.length = n) : (F.await n).run b = ({ (F.tk n).put b with left := 0, st := 2 }, []) := by
  rcases Nat.eq_zero_or_pos n with h0 | h0
  · subst h0
    have := List.length_eq_zero_iff.1 hb
    subst this
    simp [Fd.run, Fd.await, Fd.tk, Fd.put]
  · have hn : n ≠ 0 := by omega
    rw [run_block b (F := F.await n) (by simp [Fd.await, hn]) h0 (by show b.length ≤ n; omega)]
    simp [Fd.await, Fd.tk, Fd.put, hb]
theorem await_short {F : Fd} {t : Bs} (n : Nat) (ht : t.length < n) : (F.await n).run t = ({ (F.tk t.length).put t with left := n - t.length, st := 1 }, []) := by
  have hn : n ≠ 0 := by omega
  rw [run_block t (F := F.await n) (by simp [Fd.await, hn]) (by show 0 < n; omega) (by show t.length ≤ n; omega)]
  have : n - t.length ≠ 0 := by omega
  simp [Fd.await, Fd.tk, Fd.put, this]
theorem behind_none {F : Fd} (h : F.st = 2) (hl : F.left = 0) {u : Bs} (hu : (10 : UInt8) ∉ u) : ∃ G, F.run u = (G, []) ∧ G.ended = F.ended ∧ (G.kept = [] ∨ G.kept = F.kept ++ u) := by
  cases u with
  | nil => exact ⟨F, rfl, rfl, .inr (by simp)⟩
  | cons x u =>
    have hx : x ≠ 10 := fun e => hu (by simp [e])
    have hu1 : (10 : UInt8) ∉ u := fun e => hu (by simp [e])
    by_cases h13 : x = 13
    · subst h13
      rw [show (13 : UInt8) :: u = [13] ++ u from rfl, Fd.run_app, run_behind h]
      cases u with
      | nil => exact ⟨_, rfl, rfl, .inr rfl⟩
      | cons y u =>
        have hy : y ≠ 10 := fun e => hu1 (by simp [e])
        have h1 := run_spoil (F := { (F.tk 1).put [13] with st := 3 }) (.inr rfl) y u (fun e => by simp at e) (fun _ => hy)
        have h2 := run_skip (y :: u) (F := ({ (F.tk 1).put [13] with st := 3 } : Fd).spoil) rfl rfl hu1
        simp only [h1, h2, List.nil_append]
        exact ⟨_, rfl, rfl, .inl rfl⟩
    · have h1 := run_spoil (F := F) (.inl h) x u (fun _ => h13) (fun e => by rw [h] at e; cases e)
      have h2 := run_skip (x :: u) (F := F.spoil) rfl rfl hu
      rw [h1, h2]
      exact ⟨_, rfl, rfl, .inl rfl⟩
theorem behind_clean {F : Fd} (h : F.st = 2) : F.run ([13] ++ [10]) = { (F.tk 2).put [13] with st := 3, s := { F.s with data := (F.kept ++ [13]).drop F.head |>.dropLast } }.tell := by
  rw [Fd.run_app, run_behind h]
  have := run_last (F := { (F.tk 1).put [13] with st := 3 }) rfl
  simp only [this]
  simp [Fd.tk, Fd.put, Fd.tell]
  constructor <;> rfl
theorem behind_spoilt {F : Fd} (h : F.st = 2) {u : Bs} (hu : (10 : UInt8) ∉ u) (hn : u ≠ [13]) : F.run (u ++ [10]) = (F.spoil.tk (u.length + 1)).tell := by
  cases u with
  | nil =>
    have h1 := run_spoil (F := F) (.inl h) 10 [] (fun _ => by decide) (fun e => by rw [h] at e; cases e)
    have h2 := run_skip_end (F := F.spoil) rfl rfl [] (by simp)
    rw [List.nil_append, h1]
    simpa using h2
  | cons x u =>
    have hx : x ≠ 10 := fun e => hu (by simp [e])
    have hu1 : (10 : UInt8) ∉ u := fun e => hu (by simp [e])
    by_cases h13 : x = 13
    · subst h13
      rw [show (13 : UInt8) :: u ++ [10] = [13] ++ (u ++ [10]) from rfl, Fd.run_app, run_behind h]
      cases u with
      | nil => exact absurd rfl hn
      | cons y u =>
        have hy : y ≠ 10 := fun e => hu1 (by simp [e])
        have h1 := run_spoil (F := { (F.tk 1).put [13] with st := 3 }) (.inr rfl) y (u ++ [10]) (fun e => by simp at e) (fun _ => hy)
        have h2 := run_skip_end (F := ({ (F.tk 1).put [13] with st := 3 } : Fd).spoil) rfl rfl (y :: u) hu1
        rw [show (y :: u) ++ [10] = y :: (u ++ [10]) from rfl] at h2
        rw [show (y :: u) ++ [10] = y :: (u ++ [10]) from rfl]
        simp only [h1, h2, List.nil_append]
        have e : ({ (F.tk 1).put [13] with st := 3 } : Fd).spoil.tk ((y :: u).length + 1) = F.spoil.tk ((13 :: y :: u).length + 1) := by
          simp [Fd.spoil, Fd.pass, Fd.tk, Fd.put]; omega
        rw [e]
    · have h1 := run_spoil (F := F) (.inl h) x (u ++ [10]) (fun _ => h13) (fun e => by rw [h] at e; cases e)
      have h2 := run_skip_end (F := F.spoil) rfl rfl (x :: u) hu
      rw [show (x :: u) ++ [10] = x :: (u ++ [10]) from rfl] at h2 ⊢
      rw [h1, h2]
theorem step_await {limit at_ : Nat} {p : Bs} (h : (10 : UInt8) ∉ p) {c : Cmd} {n : Nat} (hr : (lnF limit at_ p).rd = ({ lnF limit at_ p with head := (lnF limit at_ p).kept.length, s := stpC c false }.await n, false)) (t : Bs) :
    (t.length < n → StepN limit at_ (p ++ 10 :: t)) ∧ (∀ b u, t = b ++ u → b.length = n → (10 : UInt8) ∉ u → StepN limit at_ (p ++ 10 :: t)) ∧
    (∀ b v, t = b ++ ([13] ++ 10 :: v) → b.length = n → StepY limit at_ (p ++ 10 :: t) { stpC c false with data := b, frm := at_, to := at_ + (p.length + 1 + (n + 2)) } (p.length + 1 + (n + 2))) ∧
    ∀ b u v, t = b ++ (u ++ 10 :: v) → b.length = n → (10 : UInt8) ∉ u → u ≠ [13] → StepY limit at_ (p ++ 10 :: t) { stpW 2 badB (-1) with frm := at_, to := at_ + (p.length + 1 + (n + (u.length + 1))) } (p.length + 1 + (n + (u.length + 1))) := by
  obtain ⟨F, hF⟩ : ∃ F : Fd, F = { lnF limit at_ p with head := (lnF limit at_ p).kept.length, s := stpC c false } := ⟨_, rfl⟩
  rw [← hF] at hr
  have f1 : F.kept = p ++ [10] := by rw [hF]; simp [fl, Fd.put, Fd.tk]
  have f2 : F.head = (p ++ [10]).length := by rw [hF]; simp [fl, Fd.put, Fd.tk]
  have f3 : F.ended = false := by rw [hF]; rfl
  have f4 : F.taken = at_ + (p.length + 1) := by rw [hF]; rfl
  have f5 : F.limit = limit := by rw [hF]; rfl
  have f6 : F.frm = at_ := by rw [hF]; rfl
  have f7 : F.s = stpC c false := by rw [hF]
  clear hF
  have hrun : ∀ t, (fl limit at_).run (p ++ 10 :: t) = (F.await n).run t := fun t => by
    rw [run_behind_line p t h (by rw [hr]), hr]
  refine ⟨fun hlt => ?_, fun b u e hb hu => ?_, fun b v e hb => ?_, fun b u v e hb hu hn => ?_⟩
  · refine ⟨_, (hrun t).trans (await_short n hlt), f3, .inr ?_⟩
    simp [Fd.put, Fd.tk, f1]
    try omega
  · subst e
    have h1 := run_await (F := F) n hb
    obtain ⟨G, hG, he, hk⟩ := behind_none (F := { (F.tk n).put b with left := 0, st := 2 }) rfl rfl hu
    refine ⟨G, ?_, he.trans f3, ?_⟩
    · rw [hrun, Fd.run_app, h1]
      simp [hG]
    · rcases hk with hk | hk
      · exact .inl hk
      · refine .inr ?_
        rw [hk]
        simp [Fd.put, Fd.tk, f1]
    try omega
  · subst e
    have h1 := run_await (F := F) n hb
    have h2 := behind_clean (F := { (F.tk n).put b with left := 0, st := 2 }) rfl
    have e2 : (p ++ 10 :: (b ++ ([13] ++ 10 :: v))).take (p.length + 1 + (n + 2)) = p ++ 10 :: (b ++ ([13] ++ [10])) := by
      rw [show p ++ 10 :: (b ++ ([13] ++ 10 :: v)) = (p ++ 10 :: (b ++ ([13] ++ [10]))) ++ v by simp, List.take_left' (by simp; omega)]
    have h3 : (fl limit at_).run (p ++ 10 :: (b ++ ([13] ++ [10]))) = ({ (({ (F.tk n).put b with left := 0, st := 2 } : Fd).tk 2).put [13] with st := 3, s := { F.s with data := b } } : Fd).tell := by
      rw [hrun, Fd.run_app, h1]
      simp only [h2]
      have e3 : (((({ (F.tk n).put b with left := 0, st := 2 } : Fd).kept ++ [13]).drop ({ (F.tk n).put b with left := 0, st := 2 } : Fd).head).dropLast) = b := by
        show (((F.kept ++ b) ++ [13]).drop F.head).dropLast = b
        rw [f1, f2, List.append_assoc (p ++ [10]) b [13], List.drop_left, List.dropLast_concat]
      rw [e3]
      simp
      constructor <;> rfl
    have := stepY_of (limit := limit) (at_ := at_) (r := p ++ 10 :: (b ++ ([13] ++ 10 :: v))) (n := p.length + 1 + (n + 2)) (F := { (({ (F.tk n).put b with left := 0, st := 2 } : Fd).tk 2).put [13] with st := 3, s := { F.s with data := b } }) (by omega) (by simp; omega) (by rw [e2]; exact h3) f5 f6 (by
      show F.taken + n + 2 = _
      omega) f3
    simp only [f7] at this
    exact this
  · subst e
    have h1 := run_await (F := F) n hb
    have h2 := behind_spoilt (F := { (F.tk n).put b with left := 0, st := 2 }) rfl hu hn
    have e2 : (p ++ 10 :: (b ++ (u ++ 10 :: v))).take (p.length + 1 + (n + (u.length + 1))) = p ++ 10 :: (b ++ (u ++ [10])) := by
      rw [show p ++ 10 :: (b ++ (u ++ 10 :: v)) = (p ++ 10 :: (b ++ (u ++ [10]))) ++ v by simp, List.take_left' (by simp; omega)]
    have h3 : (fl limit at_).run (p ++ 10 :: (b ++ (u ++ [10]))) = ((({ (F.tk n).put b with left := 0, st := 2 } : Fd).spoil).tk (u.length + 1)).tell := by
      rw [hrun, Fd.run_app, h1]
      simp only [h2]
      simp
    exact stepY_of (limit := limit) (at_ := at_) (r := p ++ 10 :: (b ++ (u ++ 10 :: v))) (n := p.length + 1 + (n + (u.length + 1))) (F := ({ (F.tk n).put b with left := 0, st := 2 } : Fd).spoil.tk (u.length + 1)) (by omega) (by simp; omega) (by rw [e2]; exact h3) f5 f6 (by
      show F.taken + n + (u.length + 1) = _
      omega) f3
end Go.Proofs.YtbbocbdoiealoaaGreatDoor
