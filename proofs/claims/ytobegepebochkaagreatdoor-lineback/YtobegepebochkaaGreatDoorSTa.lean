import Derived.Test.YtobegepebochkaaGreatDoorSPaa
set_option linter.unusedVariables false
set_option linter.unusedSimpArgs false
namespace Go.Proofs.YtobegepebochkaaGreatDoor
open Go.RowKit
structure Stp where
  cmd : Cmd
  data : Bs
  large : Bool
  wk : Int
  wt : Bs
  wp : Int
  frm : Nat
  to : Nat
structure Fd where
  limit : Nat
  taken : Nat
  ended : Bool
  frm : Nat
  kept : Bs
  head : Nat
  left : Nat
  s : Stp
  st : Nat
abbrev badB : Bs := [98, 97, 100, 32, 100, 97, 116, 97, 32, 99, 104, 117, 110, 107]
def stp0 : Stp := ⟨cmd0 0 false, [], false, 0, [], 0, 0, 0⟩
def stpW (k : Int) (t : Bs) (p : Int) : Stp := ⟨cmd0 0 false, [], false, k, t, p, 0, 0⟩
def stpC (c : Cmd) (g : Bool) : Stp := ⟨c, [], g, 0, [], 0, 0, 0⟩
def trim (l : Bs) : Bs := if l.getLast? = some 13 then l.dropLast else l
def Fd.pass (F : Fd) (s : Stp) (n : Nat) : Fd := { F with s := s, left := n, kept := [], head := 0, st := 4 }
def Fd.await (F : Fd) (n : Nat) : Fd := { F with left := n, st := if n = 0 then 2 else 1 }
def Fd.spoil (F : Fd) : Fd := F.pass (stpW 2 badB (-1)) 0
def Fd.rd (F : Fd) : Fd × Bool :=
  match lineS (trim F.kept.dropLast) with
  | .inl (c, n) =>
    if n < 0 then ({ F with head := F.kept.length, s := stpC c false }, true) else
    if (F.limit : Int) < n then (F.pass (stpC c true) n.toNat, false) else
    ({ F with head := F.kept.length, s := stpC c false }.await n.toNat, false)
  | .inr (k, t, p) =>
    if p < 0 ∨ (F.limit : Int) < p then ({ F with head := F.kept.length, s := stpW k t p }, true) else
    (F.pass (stpW k t p) p.toNat, false)
def Fd.tell (F : Fd) : Fd × List Stp :=
  ({ F with s := stp0, kept := [], head := 0, left := 0, frm := F.taken, st := if F.s.cmd.verb = 18 then 5 else 0, ended := F.ended || decide (F.s.cmd.verb = 18) }, [{ F.s with frm := F.frm, to := F.taken }])
def Fd.skip (F : Fd) (b : UInt8) : Fd × List Stp :=
  if 0 < F.left then ({ F with left := F.left - 1 }, []) else if b = 10 then F.tell else (F, [])
def Fd.put (F : Fd) (l : Bs) : Fd := { F with kept := F.kept ++ l }
def Fd.tk (F : Fd) (n : Nat) : Fd := { F with taken := F.taken + n }
def Fd.end1 (r : Fd × Bool) : Fd × List Stp := if r.2 then r.1.tell else (r.1, [])
def Fd.fb (F : Fd) (b : UInt8) : Fd × List Stp :=
  if F.st = 0 then
    if b = 10 then Fd.end1 ((F.tk 1).put [b]).rd else
    if 2048 < (trim (F.kept ++ [b])).length then (((F.tk 1).put [b]).pass (stpW 2 tooLong (-1)) 0, []) else ((F.tk 1).put [b], []) else
  if F.st = 1 then (((F.tk 1).put [b]).await (F.left - 1), []) else
  if F.st = 2 then (if b = 13 then ({ (F.tk 1).put [b] with st := 3 }, []) else (F.tk 1).spoil.skip b) else
  if F.st = 3 then (if b = 10 then { F.tk 1 with s := { F.s with data := (F.kept.drop F.head).dropLast } }.tell else (F.tk 1).spoil.skip b) else
  if F.st = 4 then (F.tk 1).skip b else (F.tk 1, [])
def Fd.run : Fd → Bs → Fd × List Stp
  | F, [] => (F, [])
  | F, b :: t => (((F.fb b).1.run t).1, (F.fb b).2 ++ ((F.fb b).1.run t).2)
theorem Fd.run_app : ∀ (a : Bs) (F : Fd) (b : Bs), F.run (a ++ b) = (((F.run a).1.run b).1, (F.run a).2 ++ ((F.run a).1.run b).2)
  | [], F, b => by simp [Fd.run]
  | x :: a, F, b => by
    simp only [List.cons_append, Fd.run]
    rw [Fd.run_app a]
    simp
def fd0 (limit : Int) : Fd := ⟨limit.toNat, 0, false, 0, [], 0, 0, stp0, 0⟩
structure Fd.Ok (F : Fd) : Prop where
  st : F.st ≤ 5
  line : F.st = 0 → F.kept.length ≤ 2049 ∧ (F.kept.length = 2049 → F.kept.getLast? = some 13)
  block : F.st = 1 → 0 < F.left ∧ F.kept.length + F.left ≤ 2050 + F.limit ∧ F.head ≤ F.kept.length
  behind : F.st = 2 → F.kept.length ≤ 2050 + F.limit ∧ F.head ≤ F.kept.length
  last : F.st = 3 → F.kept.length ≤ 2051 + F.limit ∧ F.head + 1 ≤ F.kept.length
  skip : 4 ≤ F.st → F.kept = []
  left : F.left ≤ 2147483647
  limit : F.limit ≤ 9223372036854775807
  taken : F.frm + F.kept.length ≤ F.taken
  dn : F.s.data = []
theorem trim_len (l : Bs) : l.length ≤ (trim l).length + 1 ∧ (trim l).length ≤ l.length := by
  unfold trim; split
  · rw [List.length_dropLast]; omega
  · omega
theorem lineS_long {l : Bs} (h : 2048 < l.length) : lineS l = .inr (2, tooLong, -1) := by simp only [lineS, h, if_true]
theorem nb_le {m n : Nat} {l : Bs} (h : nb m l = some n) : n ≤ m := by
  unfold nb at h
  repeat' split at h
  all_goals first
    | (injection h with h; omega)
    | cases h
theorem passS_le (r : Rw) (ws : List Bs) : passS r ws ≤ 2147483647 ∧ -1 ≤ passS r ws := by
  unfold passS
  repeat' split
  all_goals first
    | omega
    | (rename_i n hn; have := nb_le hn; omega)
theorem lineS_ok {l : Bs} {c : Cmd} {n : Int} (h : lineS l = .inl (c, n)) : l.length ≤ 2048 ∧ n ≤ 2147483647 := by
  unfold lineS at h
  repeat' split at h
  all_goals first
    | (injection h with h; injection h with h1 h2; subst h2; exact ⟨by omega, (passS_le _ _).1⟩)
    | cases h
theorem lineS_no {l : Bs} {k : Int} {t : Bs} {p : Int} (h : lineS l = .inr (k, t, p)) : p ≤ 2147483647 ∧ k ≠ 0 := by
  unfold lineS at h
  repeat' split at h
  all_goals first
    | (injection h with h; injection h with h1 h2; injection h2 with h2 h3; subst h1 h3; exact ⟨by first | omega | exact (passS_le _ _).1, by decide⟩)
    | cases h
theorem fd0_ok {limit : Int} (h : limit ≤ 9223372036854775807) : (fd0 limit).Ok :=
  ⟨by simp [fd0], fun _ => by simp [fd0], fun h => by simp [fd0] at h, fun h => by simp [fd0] at h, fun h => by simp [fd0] at h, fun _ => rfl, by simp [fd0], by simp [fd0]; omega, by simp [fd0], rfl⟩
theorem Fd.tk_tk (F : Fd) (a b : Nat) : (F.tk a).tk b = F.tk (a + b) := by simp [Fd.tk, Nat.add_assoc]
theorem Fd.tk_zero (F : Fd) : F.tk 0 = F := rfl
theorem ok_pass {F : Fd} (h : F.Ok) (s : Stp) {n : Nat} (hn : n ≤ 2147483647) {k : Nat} (hk : F.frm ≤ F.taken + k) (hs : s.data = []) : ((F.tk k).pass s n).Ok :=
  ⟨by simp [Fd.pass], fun h => by simp [Fd.pass] at h, fun h => by simp [Fd.pass] at h, fun h => by simp [Fd.pass] at h, fun h => by simp [Fd.pass] at h, fun _ => rfl, hn, h.limit, by simpa [Fd.pass, Fd.tk] using hk, hs⟩
theorem ok_tell {F : Fd} (hl : F.limit ≤ 9223372036854775807) : F.tell.1.Ok := by
  refine ⟨?_, ?_, ?_, ?_, ?_, ?_, ?_, hl, ?_, rfl⟩
  all_goals simp [Fd.tell]
  all_goals first
    | (split <;> omega)
    | omega
theorem fd_frm {F : Fd} (h : F.Ok) : F.frm ≤ F.taken := by have := h.taken; omega
theorem ok_skip {F : Fd} (h : F.Ok) (h4 : F.st = 4) (b : UInt8) : (F.skip b).1.Ok := by
  unfold Fd.skip
  have hk := h.skip (by omega)
  split
  · exact ⟨h.st, fun e => by simp at e; omega, fun e => by simp at e; omega, fun e => by simp at e; omega, fun e => by simp at e; omega, fun _ => hk, by have := h.left; simp; omega, h.limit, h.taken, h.dn⟩
  · split
    · exact ok_tell h.limit
    · exact h
theorem ok_spoil {F : Fd} (h : F.Ok) (k : Nat) : (F.tk k).spoil.Ok := ok_pass h _ (by omega) (by have := fd_frm h; omega) rfl
theorem ok_tk {F : Fd} (h : F.Ok) (k : Nat) : (F.tk k).Ok := ⟨h.st, h.line, h.block, h.behind, h.last, h.skip, h.left, h.limit, by have := h.taken; simp [Fd.tk]; omega, h.dn⟩
theorem ok_await {F : Fd} (h : F.limit ≤ 9223372036854775807) (n : Nat) (hn : n ≤ 2147483647) (h1 : F.kept.length + n ≤ 2050 + F.limit) (h2 : F.head ≤ F.kept.length) (h3 : F.frm + F.kept.length ≤ F.taken) (h4 : F.s.data = []) : (F.await n).Ok := by
  refine ⟨?_, ?_, ?_, ?_, ?_, ?_, hn, h, h3, h4⟩
  · simp [Fd.await]; split <;> omega
  · intro e; simp [Fd.await] at e; split at e <;> omega
  · intro e; simp [Fd.await] at e ⊢; omega
  · intro e; simp [Fd.await] at e ⊢; omega
  · intro e; simp [Fd.await] at e; split at e <;> omega
  · intro e; simp [Fd.await] at e; split at e <;> omega
theorem trim_cr (l : Bs) : trim (l ++ [13]) = l := by simp [trim]
theorem ok_line {F : Fd} (h : F.st = 0) (hl : F.left ≤ 2147483647) (hm : F.limit ≤ 9223372036854775807) (ht : F.frm + F.kept.length ≤ F.taken) (hk : ¬ 2048 < (trim F.kept).length) (hd : F.s.data = []) : F.Ok := by
  have h1 := trim_len F.kept
  refine ⟨by omega, fun _ => ⟨by omega, fun e => ?_⟩, fun e => by omega, fun e => by omega, fun e => by omega, fun e => by omega, hl, hm, ht, hd⟩
  unfold trim at hk
  split at hk
  · assumption
  · omega
theorem Fd.Ok.short {F : Fd} (h : F.Ok) (h0 : F.st = 0) : ¬ 2048 < (trim F.kept).length := by
  obtain ⟨h1, h2⟩ := h.line h0
  unfold trim
  split
  · rw [List.length_dropLast]; omega
  · rename_i h3
    have : F.kept.length ≠ 2049 := fun e => h3 (h2 e)
    omega
theorem ok_rd {F : Fd} (h0 : F.st = 0) (hk : F.kept.length ≤ 2050) (h1 : F.left ≤ 2147483647) (h2 : F.limit ≤ 9223372036854775807) (h3 : F.frm + F.kept.length ≤ F.taken) : F.rd.2 = false → F.rd.1.Ok := by
  have hp : ∀ (s : Stp) (n : Nat), n ≤ 2147483647 → s.data = [] → (F.pass s n).Ok := fun s n hn hs => ⟨by simp [Fd.pass], fun h => by simp [Fd.pass] at h, fun h => by simp [Fd.pass] at h, fun h => by simp [Fd.pass] at h, fun h => by simp [Fd.pass] at h, fun _ => rfl, hn, h2, by simp [Fd.pass]; omega, hs⟩
  unfold Fd.rd
  split
  · rename_i c n hc
    have hn := (lineS_ok hc).2
    split
    · intro h; cases h
    · split
      · intro _; exact hp _ _ (by omega) rfl
      · intro _; exact ok_await (F := { F with head := F.kept.length, s := stpC c false }) h2 _ (by omega) (by show F.kept.length + _ ≤ _ + F.limit; omega) (Nat.le_refl _) h3 rfl
  · rename_i k t p hc
    have hn := (lineS_no hc).1
    split
    · intro h; cases h
    · intro _; exact hp _ _ (by omega) rfl
theorem rd_limit (F : Fd) : F.rd.1.limit = F.limit := by
  unfold Fd.rd
  repeat' split
  all_goals rfl
theorem ok_end1 {F : Fd} (h0 : F.st = 0) (hk : F.kept.length ≤ 2050) (h1 : F.left ≤ 2147483647) (h2 : F.limit ≤ 9223372036854775807) (h3 : F.frm + F.kept.length ≤ F.taken) : (Fd.end1 F.rd).1.Ok := by
  unfold Fd.end1
  split
  · exact ok_tell (by rw [rd_limit]; exact h2)
  · rename_i h; exact ok_rd h0 hk h1 h2 h3 (by simpa using h)
theorem ok_fb {F : Fd} (h : F.Ok) (b : UInt8) : (F.fb b).1.Ok := by
  have ht := h.taken
  unfold Fd.fb
  split
  · rename_i h0
    have hl := h.line h0
    split
    · exact ok_end1 h0 (by simp [Fd.put, Fd.tk]; omega) h.left h.limit (by simp [Fd.put, Fd.tk]; omega)
    · split
      · exact ok_pass (F := F) h (stpW 2 tooLong (-1)) (n := 0) (by omega) (k := 1) (by omega) rfl
      · rename_i h5; exact ok_line h0 h.left h.limit (by simp [Fd.put, Fd.tk]; omega) h5 h.dn
  · split
    · rename_i h1
      obtain ⟨p1, p2, p3⟩ := h.block h1
      exact ok_await (F := (F.tk 1).put [b]) h.limit _ (by have := h.left; omega) (by simp [Fd.put, Fd.tk]; omega) (by simp [Fd.put, Fd.tk]; omega) (by simp [Fd.put, Fd.tk]; omega) h.dn
    · split
      · rename_i h2
        obtain ⟨p1, p2⟩ := h.behind h2
        split
        · refine ⟨by simp, fun e => by simp at e, fun e => by simp at e, fun e => by simp at e, fun e => ?_, fun e => by simp at e, h.left, h.limit, ?_, h.dn⟩
          · simp [Fd.put, Fd.tk]; omega
          · simp [Fd.put, Fd.tk]; omega
        · exact ok_skip (ok_spoil h 1) rfl b
      · split
        · split
          · exact ok_tell h.limit
          · exact ok_skip (ok_spoil h 1) rfl b
        · split
          · rename_i h4; exact ok_skip (ok_tk h 1) h4 b
          · exact ok_tk h 1
theorem ok_run : ∀ (l : Bs) {F : Fd}, F.Ok → (F.run l).1.Ok
  | [], _, h => h
  | b :: t, _, h => ok_run t (ok_fb h b)
theorem run_nil (F : Fd) : F.run [] = (F, []) := rfl
theorem run_over {F : Fd} (h : F.st = 5) : ∀ l, F.run l = (F.tk l.length, [])
  | [] => rfl
  | b :: t => by
    have h1 : F.fb b = (F.tk 1, []) := by simp [Fd.fb, h]
    have h2 := run_over (F := F.tk 1) h t
    simp only [Fd.run, h1, h2, Fd.tk_tk, List.length_cons, List.nil_append]
    rw [Nat.add_comm 1]
theorem run_left : ∀ (l : Bs) {F : Fd}, F.st = 4 → l.length ≤ F.left → F.run l = ({ F.tk l.length with left := F.left - l.length }, [])
  | [], F, h, hl => rfl
  | b :: t, F, h, hl => by
    simp only [List.length_cons] at hl
    have h1 : F.fb b = ({ F.tk 1 with left := F.left - 1 }, []) := by
      have : 0 < (F.tk 1).left := by show 0 < F.left; omega
      simp only [Fd.fb, h, Fd.skip, this]
      rfl
    have h2 := run_left t (F := { F.tk 1 with left := F.left - 1 }) h (by show t.length ≤ F.left - 1; omega)
    simp only [Fd.run, h1, h2, List.nil_append, List.length_cons]
    simp [Fd.tk]
    omega
theorem run_skip : ∀ (l : Bs) {F : Fd}, F.st = 4 → F.left = 0 → (10 : UInt8) ∉ l → F.run l = (F.tk l.length, [])
  | [], F, h, hl, hn => rfl
  | b :: t, F, h, hl, hn => by
    have hb : b ≠ 10 := fun e => hn (by simp [e])
    have h1 : F.fb b = (F.tk 1, []) := by
      have : ¬ 0 < (F.tk 1).left := by show ¬ 0 < F.left; omega
      simp [Fd.fb, h, Fd.skip, this, hb]
    have h2 := run_skip t (F := F.tk 1) h hl (fun e => hn (by simp [e]))
    simp only [Fd.run, h1, h2, Fd.tk_tk, List.length_cons, List.nil_append]
    rw [Nat.add_comm 1]
theorem run_skip_end {F : Fd} (h : F.st = 4) (hl : F.left = 0) (l : Bs) (hn : (10 : UInt8) ∉ l) : F.run (l ++ [10]) = (F.tk (l.length + 1)).tell := by
  rw [Fd.run_app, run_skip l h hl hn]
  have h1 : (F.tk l.length).fb 10 = (F.tk (l.length + 1)).tell := by
    have : ¬ 0 < (F.tk (l.length + 1)).left := by show ¬ 0 < F.left; omega
    have h4 : (F.tk l.length).st = 4 := h
    simp [Fd.fb, h4, Fd.skip, this, Fd.tk_tk]
  simp [Fd.run, h1]
theorem run_block : ∀ (l : Bs) {F : Fd}, F.st = 1 → 0 < F.left → l.length ≤ F.left → F.run l = (((F.tk l.length).put l).await (F.left - l.length), [])
  | [], F, h, h0, hl => by
    have : F.left ≠ 0 := by omega
    simp [Fd.run, Fd.put, Fd.tk, Fd.await, this]
    rw [← h]
  | b :: t, F, h, h0, hl => by
    simp only [List.length_cons] at hl
    have h1 : F.fb b = (((F.tk 1).put [b]).await (F.left - 1), []) := by simp [Fd.fb, h]
    rcases Nat.eq_zero_or_pos t.length with h2 | h2
    · have := List.length_eq_zero_iff.1 h2
      subst this
      simp [Fd.run, h1]
    · have h3 : F.left - 1 ≠ 0 := by omega
      have h4 := run_block t (F := ((F.tk 1).put [b]).await (F.left - 1)) (by simp [Fd.await, h3]) (by show 0 < F.left - 1; omega) (by show t.length ≤ F.left - 1; omega)
      simp only [Fd.run, h1, h4, List.nil_append, List.length_cons]
      simp [Fd.tk, Fd.put, Fd.await]
      exact ⟨by omega, by omega, by congr 1; apply propext; omega⟩
theorem run_spoil {F : Fd} (h : F.st = 2 ∨ F.st = 3) (b : UInt8) (t : Bs) (hb : F.st = 2 → b ≠ 13) (hc : F.st = 3 → b ≠ 10) : F.run (b :: t) = F.spoil.run (b :: t) := by
  have h1 : F.fb b = F.spoil.fb b := by
    have e : F.spoil.fb b = (F.tk 1).spoil.skip b := by simp [Fd.fb, Fd.spoil, Fd.pass]; rfl
    rw [e]
    rcases h with h | h
    · simp [Fd.fb, h, hb h]
    · simp [Fd.fb, h, hc h]
  simp only [Fd.run, h1]
theorem run_behind {F : Fd} (h : F.st = 2) : F.run [13] = ({ (F.tk 1).put [13] with st := 3 }, []) := by
  simp [Fd.run, Fd.fb, h]
theorem run_last {F : Fd} (h : F.st = 3) : F.run [10] = { F.tk 1 with s := { F.s with data := (F.kept.drop F.head).dropLast } }.tell := by
  simp [Fd.run, Fd.fb, h]
theorem run_line : ∀ (l : Bs) {F : Fd}, F.st = 0 → ¬ 2048 < (trim F.kept).length → (10 : UInt8) ∉ l → F.kept.length + l.length ≤ 2050 →
    F.run l = (if 2048 < (trim (F.kept ++ l)).length then ((F.tk l.length).put l).pass (stpW 2 tooLong (-1)) 0 else (F.tk l.length).put l, [])
  | [], F, h, h0, hn, hl => by
    rw [List.append_nil, if_neg h0]
    simp [Fd.run, Fd.tk, Fd.put]
  | b :: t, F, h, h0, hn, hl => by
    have hb : b ≠ 10 := fun e => hn (by simp [e])
    have ht : (10 : UInt8) ∉ t := fun e => hn (by simp [e])
    simp only [List.length_cons] at hl
    have hc : F.kept ++ b :: t = (F.kept ++ [b]) ++ t := by simp
    by_cases h1 : 2048 < (trim (F.kept ++ [b])).length
    · have h2 : F.fb b = (((F.tk 1).put [b]).pass (stpW 2 tooLong (-1)) 0, []) := by simp only [Fd.fb, h, hb, h1, if_true, if_false]
      have h3 := run_skip t (F := ((F.tk 1).put [b]).pass (stpW 2 tooLong (-1)) 0) rfl rfl ht
      have h4 := (trim_len (F.kept ++ [b])).2
      have h5 : 2048 < (trim (F.kept ++ b :: t)).length := by
        cases t with
        | nil => exact h1
        | cons c t =>
          have := (trim_len (F.kept ++ b :: c :: t)).1
          simp at this h4 ⊢
          omega
      rw [if_pos h5]
      simp only [Fd.run, h2, h3, List.nil_append, List.length_cons]
      simp [Fd.tk, Fd.put, Fd.pass]
      omega
    · have h2 : F.fb b = ((F.tk 1).put [b], []) := by simp only [Fd.fb, h, hb, h1, if_true, if_false]
      have h3 := run_line t (F := (F.tk 1).put [b]) h h1 ht (by simp [Fd.put, Fd.tk]; omega)
      have e1 : ((F.tk 1).put [b]).kept ++ t = F.kept ++ b :: t := by simp [Fd.put, Fd.tk]
      have e2 : (((F.tk 1).put [b]).tk t.length).put t = (F.tk (t.length + 1)).put (b :: t) := by simp [Fd.put, Fd.tk]; omega
      rw [e1, e2] at h3
      simp only [Fd.run, h2, h3, List.nil_append, List.length_cons]
theorem run_line_end {F : Fd} (h : F.st = 0) (h0 : ¬ 2048 < (trim F.kept).length) (l : Bs) (hn : (10 : UInt8) ∉ l) (hl : F.kept.length + l.length + 1 ≤ 2050) :
    F.run (l ++ [10]) = Fd.end1 ((F.tk (l.length + 1)).put (l ++ [10])).rd := by
  rw [Fd.run_app, run_line l h h0 hn (by omega)]
  have e1 : ((F.tk (l.length + 1)).put (l ++ [10])).kept.dropLast = F.kept ++ l := by
    show (F.kept ++ (l ++ [10])).dropLast = _
    rw [← List.append_assoc, List.dropLast_concat]
  by_cases h1 : 2048 < (trim (F.kept ++ l)).length
  · have h2 := run_skip_end (F := ((F.tk l.length).put l).pass (stpW 2 tooLong (-1)) 0) rfl rfl [] (by simp)
    simp only [List.nil_append] at h2
    rw [if_pos h1]
    simp only [h2]
    have h3 : ((F.tk (l.length + 1)).put (l ++ [10])).rd = ({ (F.tk (l.length + 1)).put (l ++ [10]) with head := ((F.tk (l.length + 1)).put (l ++ [10])).kept.length, s := stpW 2 tooLong (-1) }, true) := by
      unfold Fd.rd
      rw [e1, lineS_long h1]
      simp
    rw [h3]
    rfl
  · rw [if_neg h1]
    have e2 : ((F.tk l.length).put l).fb 10 = Fd.end1 ((F.tk (l.length + 1)).put (l ++ [10])).rd := by
      have h4 : ((F.tk l.length).put l).st = 0 := h
      have h5 : (((F.tk l.length).put l).tk 1).put [10] = (F.tk (l.length + 1)).put (l ++ [10]) := by simp [Fd.put, Fd.tk, Nat.add_assoc]
      simp [Fd.fb, h4, h5]
    simp [Fd.run, e2]
theorem skip_facts (F : Fd) (b : UInt8) : (F.skip b).1.taken = F.taken ∧ (F.skip b).1.limit = F.limit ∧ ∀ s ∈ (F.skip b).2, s.to = F.taken := by
  unfold Fd.skip
  split
  · simp
  · split
    · simp [Fd.tell]
    · simp
theorem rd_facts (F : Fd) : F.rd.1.taken = F.taken ∧ F.rd.1.limit = F.limit ∧ F.rd.1.ended = F.ended ∧ (F.st ≠ 5 → F.rd.1.st ≠ 5) := by
  unfold Fd.rd
  repeat' split
  all_goals refine ⟨rfl, rfl, rfl, fun h => ?_⟩
  all_goals first
    | exact h
    | (simp [Fd.pass]; done)
    | (show (if _ then 2 else 1) ≠ 5; split <;> omega)
theorem end1_facts (F : Fd) : (Fd.end1 F.rd).1.taken = F.taken ∧ (Fd.end1 F.rd).1.limit = F.limit ∧ ∀ s ∈ (Fd.end1 F.rd).2, s.to = F.taken := by
  obtain ⟨h1, h2, h3, h4⟩ := rd_facts F
  unfold Fd.end1
  split
  · simp [Fd.tell, h1, h2]
  · simp [h1, h2]
theorem fb_facts (F : Fd) (b : UInt8) : (F.fb b).1.taken = F.taken + 1 ∧ (F.fb b).1.limit = F.limit ∧ ∀ s ∈ (F.fb b).2, s.to = F.taken + 1 := by
  unfold Fd.fb
  repeat' split
  all_goals first
    | exact end1_facts ((F.tk 1).put [b])
    | exact skip_facts (F.tk 1).spoil b
    | exact skip_facts (F.tk 1) b
    | (refine ⟨rfl, rfl, ?_⟩; simp [Fd.tell, Fd.tk])
theorem run_facts : ∀ (l : Bs) (F : Fd), (F.run l).1.taken = F.taken + l.length ∧ (F.run l).1.limit = F.limit ∧ ∀ s ∈ (F.run l).2, F.taken < s.to ∧ s.to ≤ F.taken + l.length
  | [], F => by simp [Fd.run]
  | b :: t, F => by
    obtain ⟨h1, h2, h3⟩ := fb_facts F b
    obtain ⟨k1, k2, k3⟩ := run_facts t (F.fb b).1
    simp only [Fd.run, List.length_cons, List.mem_append]
    refine ⟨by omega, by omega, fun s hs => ?_⟩
    rcases hs with hs | hs
    · have := h3 s hs; omega
    · have := k3 s hs; omega
end Go.Proofs.YtobegepebochkaaGreatDoor
