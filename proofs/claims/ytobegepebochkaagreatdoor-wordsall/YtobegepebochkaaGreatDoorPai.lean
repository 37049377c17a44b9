import Derived.Test.YtobegepebochkaaGreatDoorPah
import Derived.Lib.BytesEntry
import Derived.Test.YtobegepebochkaaGreatDoorPag
import Derived.Laws.EntriesVeiled
import Derived.Deep.RegionLaw
set_option linter.unusedVariables false
set_option linter.unusedSimpArgs false
namespace Go.Proofs.YtobegepebochkaaGreatDoor
open Go.RowKit
def fl (limit at_ : Nat) : Fd := ⟨limit, at_, false, at_, [], 0, 0, stp0, 0⟩
theorem fd0_fl (limit : Int) : fd0 limit = fl limit.toNat 0 := rfl
theorem run_free : ∀ (l : Bs) {F : Fd}, F.st = 0 → ¬ 2048 < (trim F.kept).length → (10 : UInt8) ∉ l →
    F.run l = (if 2048 < (trim (F.kept ++ l)).length then ((F.tk l.length).put l).pass (stpW 2 tooLong (-1)) 0 else (F.tk l.length).put l, [])
  | [], F, h, h0, hn => by
    rw [List.append_nil, if_neg h0]
    simp [Fd.run, Fd.tk, Fd.put]
  | b :: t, F, h, h0, hn => by
    have hb : b ≠ 10 := fun e => hn (by simp [e])
    have ht : (10 : UInt8) ∉ t := fun e => hn (by simp [e])
    have hc : F.kept ++ b :: t = (F.kept ++ [b]) ++ t := by simp
    by_cases h1 : 2048 < (trim (F.kept ++ [b])).length
    · have h2 : F.fb b = (((F.tk 1).put [b]).pass (stpW 2 tooLong (-1)) 0, []) := by simp only [Fd.fb, h, hb, h1, if_true, if_false]
      have h3 := run_skip t (F := ((F.tk 1).put [b]).pass (stpW 2 tooLong (-1)) 0) rfl rfl ht
      have h4 := (trim_len (F.kept ++ [b])).2
      have h5 : 2048 < (trim (F.kept ++ b :: t)).length := by
        cases t with
        | nil => exact h1
        | cons c t =>
          have := (trim_len (F.kept ++ b :: c :: t)).1
          simp at this h4 ⊢
          omega
      rw [if_pos h5]
      simp only [Fd.run, h2, h3, List.nil_append, List.length_cons]
      simp [Fd.tk, Fd.put, Fd.pass]
      omega
    · have h2 : F.fb b = ((F.tk 1).put [b], []) := by simp only [Fd.fb, h, hb, h1, if_true, if_false]
      have h3 := run_free t (F := (F.tk 1).put [b]) h h1 ht
      have e1 : ((F.tk 1).put [b]).kept ++ t = F.kept ++ b :: t := by simp [Fd.put, Fd.tk]
      have e2 : (((F.tk 1).put [b]).tk t.length).put t = (F.tk (t.length + 1)).put (b :: t) := by simp [Fd.put, Fd.tk]; omega
      rw [e1, e2] at h3
      simp only [Fd.run, h2, h3, List.nil_append, List.length_cons]
theorem run_free_end {F : Fd} (h : F.st = 0) (h0 : ¬ 2048 < (trim F.kept).length) (l : Bs) (hn : (10 : UInt8) ∉ l) :
    F.run (l ++ [10]) = Fd.end1 ((F.tk (l.length + 1)).put (l ++ [10])).rd := by
  rw [Fd.run_app, run_free l h h0 hn]
  have e1 : ((F.tk (l.length + 1)).put (l ++ [10])).kept.dropLast = F.kept ++ l := by
    show (F.kept ++ (l ++ [10])).dropLast = _
    rw [← List.append_assoc, List.dropLast_concat]
  by_cases h1 : 2048 < (trim (F.kept ++ l)).length
  · have h2 := run_skip_end (F := ((F.tk l.length).put l).pass (stpW 2 tooLong (-1)) 0) rfl rfl [] (by simp)
    simp only [List.nil_append] at h2
    rw [if_pos h1]
    simp only [h2]
    have h3 : ((F.tk (l.length + 1)).put (l ++ [10])).rd = ({ (F.tk (l.length + 1)).put (l ++ [10]) with head := ((F.tk (l.length + 1)).put (l ++ [10])).kept.length, s := stpW 2 tooLong (-1) }, true) := by
      unfold Fd.rd
      rw [e1, lineS_long h1]
      simp
    rw [h3]
    rfl
  · rw [if_neg h1]
    have e2 : ((F.tk l.length).put l).fb 10 = Fd.end1 ((F.tk (l.length + 1)).put (l ++ [10])).rd := by
      have h4 : ((F.tk l.length).put l).st = 0 := h
      have h5 : (((F.tk l.length).put l).tk 1).put [10] = (F.tk (l.length + 1)).put (l ++ [10]) := by simp [Fd.put, Fd.tk, Nat.add_assoc]
      simp [Fd.fb, h4, h5]
    simp [Fd.run, e2]
def StepN (limit at_ : Nat) (r : Bs) : Prop := ∃ G, (fl limit at_).run r = (G, []) ∧ G.ended = false ∧ (G.kept = [] ∨ G.kept.length = r.length)
structure StepY (limit at_ : Nat) (r : Bs) (s : Stp) (n : Nat) : Prop where
  pos : 0 < n
  le : n ≤ r.length
  frm : s.frm = at_
  to : s.to = at_ + n
  run : ∃ G, (fl limit at_).run (r.take n) = (G, [s]) ∧ (s.cmd.verb ≠ 18 → G = fl limit (at_ + n)) ∧ (s.cmd.verb = 18 → G.st = 5 ∧ G.ended = true ∧ G.kept = [])
theorem stepY_of {limit at_ : Nat} {r : Bs} {n : Nat} {F : Fd} (h0 : 0 < n) (h1 : n ≤ r.length) (hr : (fl limit at_).run (r.take n) = F.tell) (hl : F.limit = limit) (hf : F.frm = at_) (ht : F.taken = at_ + n) (he : F.ended = false) :
    StepY limit at_ r { F.s with frm := at_, to := at_ + n } n := by
  refine ⟨h0, h1, rfl, rfl, F.tell.1, ?_, ?_, ?_⟩
  · rw [hr]
    simp [Fd.tell, hf, ht]
  · intro hv
    have : ¬ F.s.cmd.verb = 18 := hv
    simp [Fd.tell, this, he, fl, hl, ht]
  · intro hv
    have : F.s.cmd.verb = 18 := hv
    simp [Fd.tell, this]
theorem step_none {limit at_ : Nat} {r : Bs} (h : (10 : UInt8) ∉ r) : StepN limit at_ r := by
  have := run_free r (F := fl limit at_) rfl (by simp [fl, trim]) h
  refine ⟨_, this, ?_, ?_⟩
  · split <;> rfl
  · split
    · exact .inl rfl
    · exact .inr (by simp [fl, Fd.put, Fd.tk])
abbrev lnF (limit at_ : Nat) (p : Bs) : Fd := ((fl limit at_).tk (p.length + 1)).put (p ++ [10])
theorem line_first {limit at_ : Nat} (p : Bs) (h : (10 : UInt8) ∉ p) : (fl limit at_).run (p ++ [10]) = Fd.end1 (lnF limit at_ p).rd :=
  run_free_end (F := fl limit at_) rfl (by simp [fl, trim]) p h
theorem take_line (p t : Bs) : (p ++ 10 :: t).take (p.length + 1) = p ++ [10] := by
  rw [show p ++ 10 :: t = (p ++ [10]) ++ t by simp, List.take_left' (by simp)]
theorem step_line {limit at_ : Nat} (p t : Bs) (h : (10 : UInt8) ∉ p) (hr : (lnF limit at_ p).rd.2 = true) : StepY limit at_ (p ++ 10 :: t) { (lnF limit at_ p).rd.1.s with frm := at_, to := at_ + (p.length + 1) } (p.length + 1) := by
  obtain ⟨h1, h2, h3, -⟩ := rd_facts (lnF limit at_ p)
  refine stepY_of (F := (lnF limit at_ p).rd.1) (by omega) (by simp) ?_ h2 ?_ ?_ h3
  · rw [take_line, line_first p h, Fd.end1, if_pos hr]
  · have : ∀ F : Fd, F.rd.1.frm = F.frm := by
      intro F; unfold Fd.rd; repeat' split
      all_goals rfl
    rw [this]; rfl
  · rw [h1]; rfl
theorem run_behind_line {limit at_ : Nat} (p t : Bs) (h : (10 : UInt8) ∉ p) (hr : (lnF limit at_ p).rd.2 = false) : (fl limit at_).run (p ++ 10 :: t) = (lnF limit at_ p).rd.1.run t := by
  rw [show p ++ 10 :: t = (p ++ [10]) ++ t by simp, Fd.run_app, line_first p h, Fd.end1, if_neg (by simp [hr])]
  simp
theorem pass_short {F : Fd} (h : F.st = 4) {n : Nat} (hn : F.left = n) {t : Bs} (ht : t.length < n) : F.run t = ({ F.tk t.length with left := F.left - t.length }, []) := run_left t h (by omega)
theorem pass_none {F : Fd} (h : F.st = 4) {b u : Bs} (hb : b.length = F.left) (hu : (10 : UInt8) ∉ u) : F.run (b ++ u) = ({ F.tk (b.length + u.length) with left := 0 }, []) := by
  rw [Fd.run_app, run_left b h (by omega)]
  have := run_skip u (F := { F.tk b.length with left := F.left - b.length }) h (by show F.left - b.length = 0; omega) hu
  simp only [this]
  simp [Fd.tk, hb]
  omega
theorem pass_end {F : Fd} (h : F.st = 4) {b u : Bs} (hb : b.length = F.left) (hu : (10 : UInt8) ∉ u) : F.run (b ++ (u ++ [10])) = { F.tk (b.length + (u.length + 1)) with left := 0 }.tell := by
  rw [Fd.run_app, run_left b h (by omega)]
  have := run_skip_end (F := { F.tk b.length with left := F.left - b.length }) h (by show F.left - b.length = 0; omega) u hu
  simp only [this]
  have e : ({ F.tk b.length with left := F.left - b.length } : Fd).tk (u.length + 1) = { F.tk (b.length + (u.length + 1)) with left := 0 } := by
    simp [Fd.tk, hb]; omega
  rw [e]
  simp
theorem step_pass {limit at_ : Nat} {p : Bs} (h : (10 : UInt8) ∉ p) {s : Stp} {n : Nat} (hr : (lnF limit at_ p).rd = ((lnF limit at_ p).pass s n, false)) (t : Bs) :
    (t.length < n → StepN limit at_ (p ++ 10 :: t)) ∧ (∀ b u, t = b ++ u → b.length = n → (10 : UInt8) ∉ u → StepN limit at_ (p ++ 10 :: t)) ∧
    ∀ b u v, t = b ++ (u ++ 10 :: v) → b.length = n → (10 : UInt8) ∉ u → StepY limit at_ (p ++ 10 :: t) { s with frm := at_, to := at_ + (p.length + 1 + (n + (u.length + 1))) } (p.length + 1 + (n + (u.length + 1))) := by
  have hF : (lnF limit at_ p).rd.1 = (lnF limit at_ p).pass s n := by rw [hr]
  refine ⟨fun hlt => ?_, fun b u e hb hu => ?_, fun b u v e hb hu => ?_⟩
  · have := run_behind_line (limit := limit) (at_ := at_) p t h (by rw [hr])
    rw [hF, pass_short (n := n) rfl rfl hlt] at this
    exact ⟨_, this, rfl, .inl rfl⟩
  · subst e
    have := run_behind_line (limit := limit) (at_ := at_) p (b ++ u) h (by rw [hr])
    rw [hF, pass_none rfl hb hu] at this
    exact ⟨_, this, rfl, .inl rfl⟩
  · subst e
    have h1 := run_behind_line (limit := limit) (at_ := at_) p (b ++ (u ++ [10])) h (by rw [hr])
    rw [hF, pass_end rfl hb hu] at h1
    have e2 : (p ++ 10 :: (b ++ (u ++ 10 :: v))).take (p.length + 1 + (n + (u.length + 1))) = p ++ 10 :: (b ++ (u ++ [10])) := by
      rw [show p ++ 10 :: (b ++ (u ++ 10 :: v)) = (p ++ 10 :: (b ++ (u ++ [10]))) ++ v by simp, List.take_left' (by simp; omega)]
    refine stepY_of (F := { ((lnF limit at_ p).pass s n).tk (b.length + (u.length + 1)) with left := 0 }) (by omega) (by simp; omega) (by rw [e2, h1]) rfl rfl ?_ rfl
    show at_ + (p.length + 1) + (b.length + (u.length + 1)) = _
    omega
theorem run_await {F : Fd} {b : Bs} (n : Nat) (hb : b.length = n) : (F.await n).run b = ({ (F.tk n).put b with left := 0, st := 2 }, []) := by
  rcases Nat.eq_zero_or_pos n with h0 | h0
  · subst h0
    have := List.length_eq_zero_iff.1 hb
    subst this
    simp [Fd.run, Fd.await, Fd.tk, Fd.put]
  · have hn : n ≠ 0 := by omega
    rw [run_block b (F := F.await n) (by simp [Fd.await, hn]) h0 (by show b.length ≤ n; omega)]
    simp [Fd.await, Fd.tk, Fd.put, hb]
theorem await_short {F : Fd} {t : Bs} (n : Nat) (ht : t.length < n) : (F.await n).run t = ({ (F.tk t.length).put t with left := n - t.length, st := 1 }, []) := by
  have hn : n ≠ 0 := by omega
  rw [run_block t (F := F.await n) (by simp [Fd.await, hn]) (by show 0 < n; omega) (by show t.length ≤ n; omega)]
  have : n - t.length ≠ 0 := by omega
  simp [Fd.await, Fd.tk, Fd.put, this]
theorem behind_none {F : Fd} (h : F.st = 2) (hl : F.left = 0) {u : Bs} (hu : (10 : UInt8) ∉ u) : ∃ G, F.run u = (G, []) ∧ G.ended = F.ended ∧ (G.kept = [] ∨ G.kept = F.kept ++ u) := by
  cases u with
  | nil => exact ⟨F, rfl, rfl, .inr (by simp)⟩
  | cons x u =>
    have hx : x ≠ 10 := fun e => hu (by simp [e])
    have hu1 : (10 : UInt8) ∉ u := fun e => hu (by simp [e])
    by_cases h13 : x = 13
    · subst h13
      rw [show (13 : UInt8) :: u = [13] ++ u from rfl, Fd.run_app, run_behind h]
      cases u with
      | nil => exact ⟨_, rfl, rfl, .inr rfl⟩
      | cons y u =>
        have hy : y ≠ 10 := fun e => hu1 (by simp [e])
        have h1 := run_spoil (F := { (F.tk 1).put [13] with st := 3 }) (.inr rfl) y u (fun e => by simp at e) (fun _ => hy)
        have h2 := run_skip (y :: u) (F := ({ (F.tk 1).put [13] with st := 3 } : Fd).spoil) rfl rfl hu1
        simp only [h1, h2, List.nil_append]
        exact ⟨_, rfl, rfl, .inl rfl⟩
    · have h1 := run_spoil (F := F) (.inl h) x u (fun _ => h13) (fun e => by rw [h] at e; cases e)
      have h2 := run_skip (x :: u) (F := F.spoil) rfl rfl hu
      rw [h1, h2]
      exact ⟨_, rfl, rfl, .inl rfl⟩
theorem behind_clean {F : Fd} (h : F.st = 2) : F.run ([13] ++ [10]) = { (F.tk 2).put [13] with st := 3, s := { F.s with data := (F.kept ++ [13]).drop F.head |>.dropLast } }.tell := by
  rw [Fd.run_app, run_behind h]
  have := run_last (F := { (F.tk 1).put [13] with st := 3 }) rfl
  simp only [this]
  simp [Fd.tk, Fd.put, Fd.tell]
  constructor <;> rfl
theorem behind_spoilt {F : Fd} (h : F.st = 2) {u : Bs} (hu : (10 : UInt8) ∉ u) (hn : u ≠ [13]) : F.run (u ++ [10]) = (F.spoil.tk (u.length + 1)).tell := by
  cases u with
  | nil =>
    have h1 := run_spoil (F := F) (.inl h) 10 [] (fun _ => by decide) (fun e => by rw [h] at e; cases e)
    have h2 := run_skip_end (F := F.spoil) rfl rfl [] (by simp)
    rw [List.nil_append, h1]
    simpa using h2
  | cons x u =>
    have hx : x ≠ 10 := fun e => hu (by simp [e])
    have hu1 : (10 : UInt8) ∉ u := fun e => hu (by simp [e])
    by_cases h13 : x = 13
    · subst h13
      rw [show (13 : UInt8) :: u ++ [10] = [13] ++ (u ++ [10]) from rfl, Fd.run_app, run_behind h]
      cases u with
      | nil => exact absurd rfl hn
      | cons y u =>
        have hy : y ≠ 10 := fun e => hu1 (by simp [e])
        have h1 := run_spoil (F := { (F.tk 1).put [13] with st := 3 }) (.inr rfl) y (u ++ [10]) (fun e => by simp at e) (fun _ => hy)
        have h2 := run_skip_end (F := ({ (F.tk 1).put [13] with st := 3 } : Fd).spoil) rfl rfl (y :: u) hu1
        rw [show (y :: u) ++ [10] = y :: (u ++ [10]) from rfl] at h2
        rw [show (y :: u) ++ [10] = y :: (u ++ [10]) from rfl]
        simp only [h1, h2, List.nil_append]
        have e : ({ (F.tk 1).put [13] with st := 3 } : Fd).spoil.tk ((y :: u).length + 1) = F.spoil.tk ((13 :: y :: u).length + 1) := by
          simp [Fd.spoil, Fd.pass, Fd.tk, Fd.put]; omega
        rw [e]
    · have h1 := run_spoil (F := F) (.inl h) x (u ++ [10]) (fun _ => h13) (fun e => by rw [h] at e; cases e)
      have h2 := run_skip_end (F := F.spoil) rfl rfl (x :: u) hu
      rw [show (x :: u) ++ [10] = x :: (u ++ [10]) from rfl] at h2 ⊢
      rw [h1, h2]
theorem step_await {limit at_ : Nat} {p : Bs} (h : (10 : UInt8) ∉ p) {c : Cmd} {n : Nat} (hr : (lnF limit at_ p).rd = ({ lnF limit at_ p with head := (lnF limit at_ p).kept.length, s := stpC c false }.await n, false)) (t : Bs) :
    (t.length < n → StepN limit at_ (p ++ 10 :: t)) ∧ (∀ b u, t = b ++ u → b.length = n → (10 : UInt8) ∉ u → StepN limit at_ (p ++ 10 :: t)) ∧
    (∀ b v, t = b ++ ([13] ++ 10 :: v) → b.length = n → StepY limit at_ (p ++ 10 :: t) { stpC c false with data := b, frm := at_, to := at_ + (p.length + 1 + (n + 2)) } (p.length + 1 + (n + 2))) ∧
    ∀ b u v, t = b ++ (u ++ 10 :: v) → b.length = n → (10 : UInt8) ∉ u → u ≠ [13] → StepY limit at_ (p ++ 10 :: t) { stpW 2 badB (-1) with frm := at_, to := at_ + (p.length + 1 + (n + (u.length + 1))) } (p.length + 1 + (n + (u.length + 1))) := by
  obtain ⟨F, hF⟩ : ∃ F : Fd, F = { lnF limit at_ p with head := (lnF limit at_ p).kept.length, s := stpC c false } := ⟨_, rfl⟩
  rw [← hF] at hr
  have f1 : F.kept = p ++ [10] := by rw [hF]; simp [fl, Fd.put, Fd.tk]
  have f2 : F.head = (p ++ [10]).length := by rw [hF]; simp [fl, Fd.put, Fd.tk]
  have f3 : F.ended = false := by rw [hF]; rfl
  have f4 : F.taken = at_ + (p.length + 1) := by rw [hF]; rfl
  have f5 : F.limit = limit := by rw [hF]; rfl
  have f6 : F.frm = at_ := by rw [hF]; rfl
  have f7 : F.s = stpC c false := by rw [hF]
  clear hF
  have hrun : ∀ t, (fl limit at_).run (p ++ 10 :: t) = (F.await n).run t := fun t => by
    rw [run_behind_line p t h (by rw [hr]), hr]
  refine ⟨fun hlt => ?_, fun b u e hb hu => ?_, fun b v e hb => ?_, fun b u v e hb hu hn => ?_⟩
  · refine ⟨_, (hrun t).trans (await_short n hlt), f3, .inr ?_⟩
    simp [Fd.put, Fd.tk, f1]
    try omega
  · subst e
    have h1 := run_await (F := F) n hb
    obtain ⟨G, hG, he, hk⟩ := behind_none (F := { (F.tk n).put b with left := 0, st := 2 }) rfl rfl hu
    refine ⟨G, ?_, he.trans f3, ?_⟩
    · rw [hrun, Fd.run_app, h1]
      simp [hG]
    · rcases hk with hk | hk
      · exact .inl hk
      · refine .inr ?_
        rw [hk]
        simp [Fd.put, Fd.tk, f1]
    try omega
  · subst e
    have h1 := run_await (F := F) n hb
    have h2 := behind_clean (F := { (F.tk n).put b with left := 0, st := 2 }) rfl
    have e2 : (p ++ 10 :: (b ++ ([13] ++ 10 :: v))).take (p.length + 1 + (n + 2)) = p ++ 10 :: (b ++ ([13] ++ [10])) := by
      rw [show p ++ 10 :: (b ++ ([13] ++ 10 :: v)) = (p ++ 10 :: (b ++ ([13] ++ [10]))) ++ v by simp, List.take_left' (by simp; omega)]
    have h3 : (fl limit at_).run (p ++ 10 :: (b ++ ([13] ++ [10]))) = ({ (({ (F.tk n).put b with left := 0, st := 2 } : Fd).tk 2).put [13] with st := 3, s := { F.s with data := b } } : Fd).tell := by
      rw [hrun, Fd.run_app, h1]
      simp only [h2]
      have e3 : (((({ (F.tk n).put b with left := 0, st := 2 } : Fd).kept ++ [13]).drop ({ (F.tk n).put b with left := 0, st := 2 } : Fd).head).dropLast) = b := by
        show (((F.kept ++ b) ++ [13]).drop F.head).dropLast = b
        rw [f1, f2, List.append_assoc (p ++ [10]) b [13], List.drop_left, List.dropLast_concat]
      rw [e3]
      simp
      constructor <;> rfl
    have := stepY_of (limit := limit) (at_ := at_) (r := p ++ 10 :: (b ++ ([13] ++ 10 :: v))) (n := p.length + 1 + (n + 2)) (F := { (({ (F.tk n).put b with left := 0, st := 2 } : Fd).tk 2).put [13] with st := 3, s := { F.s with data := b } }) (by omega) (by simp; omega) (by rw [e2]; exact h3) f5 f6 (by
      show F.taken + n + 2 = _
      omega) f3
    simp only [f7] at this
    exact this
  · subst e
    have h1 := run_await (F := F) n hb
    have h2 := behind_spoilt (F := { (F.tk n).put b with left := 0, st := 2 }) rfl hu hn
    have e2 : (p ++ 10 :: (b ++ (u ++ 10 :: v))).take (p.length + 1 + (n + (u.length + 1))) = p ++ 10 :: (b ++ (u ++ [10])) := by
      rw [show p ++ 10 :: (b ++ (u ++ 10 :: v)) = (p ++ 10 :: (b ++ (u ++ [10]))) ++ v by simp, List.take_left' (by simp; omega)]
    have h3 : (fl limit at_).run (p ++ 10 :: (b ++ (u ++ [10]))) = ((({ (F.tk n).put b with left := 0, st := 2 } : Fd).spoil).tk (u.length + 1)).tell := by
      rw [hrun, Fd.run_app, h1]
      simp only [h2]
      simp
    exact stepY_of (limit := limit) (at_ := at_) (r := p ++ 10 :: (b ++ (u ++ 10 :: v))) (n := p.length + 1 + (n + (u.length + 1))) (F := ({ (F.tk n).put b with left := 0, st := 2 } : Fd).spoil.tk (u.length + 1)) (by omega) (by simp; omega) (by rw [e2]; exact h3) f5 f6 (by
      show F.taken + n + (u.length + 1) = _
      omega) f3
end Go.Proofs.YtobegepebochkaaGreatDoor
namespace Go.Proofs.YtobegepebochkaaGreatDoor
open Go.RowKit
abbrev b8 (b : UInt8) : Value := .int .u8 b.toNat
abbrev stpL (s : Stp) (ck cd cm : Value) : List Value := [.int .i64 s.cmd.verb, ck, .int .u64 s.cmd.flags, .int .i64 s.cmd.exp, .int .u64 s.cmd.tok, .int .u64 s.cmd.del, cd, .bool s.cmd.nr, .bool s.large, cm, sv s.cmd.what, .int .i64 s.wk, sv s.wt, .int .i64 s.wp, .int .i64 s.frm, .int .i64 s.to]
structure StR (w : World) (X : Nat → Prop) (s : Stp) (ck cd cm : Value) : Prop where
  keys : w.ownsRow 0 9 1 ck s.cmd.keys.length (s.cmd.keys.map sv)
  data : w.ownsRow 0 5 1 cd s.data.length (s.data.map b8)
  mt : w.ownsRow 0 79 3 cm s.cmd.mt.length (fcs s.cmd.mt)
  ak : ∀ k, ck.ownBlock = some k → ¬ X k
  ad : ∀ k, cd.ownBlock = some k → ¬ X k
  am : ∀ k, cm.ownBlock = some k → ¬ X k
  nd : s.data = [] → cd = .slice none 0 0
def Ck (w : World) (X : Nat → Prop) (v : Value) (l : Bs) : Prop := (l = [] ∧ v = .slice none 0 0) ∨ ∃ g o c, v = .slice (some ⟨g, o, none⟩) l.length c ∧ l.length ≤ c ∧ c ≤ 9223372036854775807 ∧ g < w.heap.size ∧ ¬ X g ∧ ∀ i x, l[i]? = some x → w.cell? ⟨g, o + i, none⟩ = some (b8 x)
theorem Tryz.info5 : (Tryz.prog.info? 5).map (fun i => (i.zero, i.size, i.bytes)) = some (some (.int .u8 0), 1, 1) := by kernel_rfl
theorem row_kp {F : Nat → Prop} {w w' : World} {B : Nat} {e : TypeId} {s : Nat} {v : Value} {n : Nat} {xs : List Value} (h : w.ownsRow B e s v n xs) (hk : Kp F w w') (hn : ∀ k, v.ownBlock = some k → ¬ F k) : w'.ownsRow B e s v n xs :=
  row_same h fun k hb => by
    obtain ⟨cur, hc⟩ := row_block h k hb
    exact hk.block k (lt_of_block hc) (hn k hb)
theorem row_lt {w : World} {B : Nat} {e : TypeId} {s : Nat} {v : Value} {n : Nat} {xs : List Value} (h : w.ownsRow B e s v n xs) (k : Nat) (hb : v.ownBlock = some k) : k < w.heap.size := by
  obtain ⟨cur, hc⟩ := row_block h k hb
  exact lt_of_block hc
theorem StR.kp {F X Y : Nat → Prop} {w w' : World} {s : Stp} {ck cd cm : Value} (h : StR w X s ck cd cm) (hk : Kp F w w') (hF : ∀ k, k < w.heap.size → F k → X k) (hY : ∀ k, k < w.heap.size → Y k → X k) : StR w' Y s ck cd cm :=
  ⟨row_kp h.keys hk fun k hb hf => h.ak k hb (hF k (row_lt h.keys k hb) hf), row_kp h.data hk fun k hb hf => h.ad k hb (hF k (row_lt h.data k hb) hf), row_kp h.mt hk fun k hb hf => h.am k hb (hF k (row_lt h.mt k hb) hf),
   fun k hb hf => h.ak k hb (hY k (row_lt h.keys k hb) hf), fun k hb hf => h.ad k hb (hY k (row_lt h.data k hb) hf), fun k hb hf => h.am k hb (hY k (row_lt h.mt k hb) hf), h.nd⟩
theorem Ck.kp {F X Y : Nat → Prop} {w w' : World} {v : Value} {l : Bs} (h : Ck w X v l) (hk : Kp F w w') (hF : ∀ k, k < w.heap.size → F k → X k) (hY : ∀ k, k < w.heap.size → Y k → X k) : Ck w' Y v l := by
  rcases h with h | ⟨g, o, c, h1, h2, h3, h4, h5, h6⟩
  · exact .inl h
  · refine .inr ⟨g, o, c, h1, h2, h3, Nat.lt_of_lt_of_le h4 hk.size, fun hy => h5 (hY g h4 hy), fun i x hx => ?_⟩
    have h7 := hk.block g h4 (fun hf => h5 (hF g h4 hf))
    have h8 := h6 i x hx
    simpa [World.cell?, h7] using h8
theorem Ck.take {X : Nat → Prop} {w : World} {g o c : Nat} {l : Bs} (h : Ck w X (.slice (some ⟨g, o, none⟩) l.length c) l) (n : Nat) (hn : n ≤ l.length) : Ck w X (.slice (some ⟨g, o, none⟩) n c) (l.take n) := by
  rcases h with ⟨_, h⟩ | ⟨g', o', c', h1, h2, h3, h4, h5, h6⟩
  · cases h
  · simp at h1
    obtain ⟨⟨rfl, rfl⟩, rfl⟩ := h1
    refine .inr ⟨g, o, c, by rw [List.length_take, Nat.min_eq_left hn], by rw [List.length_take]; omega, h3, h4, h5, fun i x hx => ?_⟩
    rw [List.getElem?_take] at hx
    split at hx
    · exact h6 i x hx
    · cases hx
section
variable {w : World} {ops : Array Oper} {rest : List Oper} {o : Oper} {a : Act} {Q : Exit → Act → World → Prop}
end
end Go.Proofs.YtobegepebochkaaGreatDoor
namespace Go.Proofs.YtobegepebochkaaGreatDoor
open Go.RowKit
abbrev stpA (s : Stp) (ck cd cm : Value) : Array Value := #[.int .i64 s.cmd.verb, ck, .int .u64 s.cmd.flags, .int .i64 s.cmd.exp, .int .u64 s.cmd.tok, .int .u64 s.cmd.del, cd, .bool s.cmd.nr, .bool s.large, cm, sv s.cmd.what, .int .i64 s.wk, sv s.wt, .int .i64 s.wp, .int .i64 s.frm, .int .i64 s.to]
def sets (vs : Array Value) : Nat → List Value → Array Value
  | _, [] => vs
  | o, v :: l => sets (vs.setIfInBounds o v) (o + 1) l
theorem Box.sets {t b : Nat} : ∀ (l : List Value) (o : Nat) {w : World} {vs : Array Value}, Box w t b vs → Box (w.setCells b o l) t b (sets vs o l)
  | [], _, _, _, h => h
  | v :: l, o, _, _, h => Box.sets l (o + 1) (h.set o v)
theorem gb_setCells {b : Nat} : ∀ (l : List Value) (o : Nat) {w0 w : World}, w0.grownBy w (some b) → w0.grownBy (w.setCells b o l) (some b)
  | [], _, _, _, h => h
  | v :: l, o, _, _, h => gb_setCells l (o + 1) (gb_setCell h v)
theorem Box.there {w : World} {t b : Nat} {vs : Array Value} (h : Box w t b vs) (o n : Nat) (hn : o + n ≤ vs.size) : w.there b o n := by
  intro j hj
  refine ⟨?_, h.fz _⟩
  rw [h.cell, Array.getElem?_eq_getElem (by omega)]
  rfl
theorem sets_0 (u0 u1 u2 u3 u4 u5 u6 u7 u8 u9 u10 u11 u12 u13 u14 u15 v0 v1 v2 v3 v4 v5 v6 v7 v8 v9 v10 v11 v12 v13 v14 v15 : Value) : sets #[u0, u1, u2, u3, u4, u5, u6, u7, u8, u9, u10, u11, u12, u13, u14, u15] 0 [v0, v1, v2, v3, v4, v5, v6, v7, v8, v9, v10, v11, v12, v13, v14, v15] = #[v0, v1, v2, v3, v4, v5, v6, v7, v8, v9, v10, v11, v12, v13, v14, v15] := by
  simp only [sets, List.setIfInBounds_toArray, List.set_cons_zero, List.set_cons_succ]
theorem size86 : (Tryz.prog.info? 86).map (·.size) = some 16 := by kernel_rfl
section
variable {w : World} {ops : Array Oper} {rest : List Oper} {op : Oper} {a : Act} {Q : Exit → Act → World → Prop}
theorem load86 (hgd : op.guard = none) (x : Operand) (ho : op.op = .load 86 x) (t b o : Nat) (vs : Array Value) (hb : Box w t b vs) (hx : a.eval x = .pointer (some ⟨b, o, none⟩)) (cs : List Value) (hs : cs.length = 16) (hc : ∀ j v, cs[j]? = some v → vs[o + j]? = some v)
    (h : wpList Tryz.prog ops Q rest (a.put op.dst (.agg cs.toArray)) w) : wpList Tryz.prog ops Q (op :: rest) a w :=
  wpList_load_mid hgd 86 x ho b o hx cs _ (fun j v hv => by rw [hb.cell]; exact hc j v hv) Tryz.underlying86 rfl (by rw [hs]; exact size86) h
end
end Go.Proofs.YtobegepebochkaaGreatDoor
