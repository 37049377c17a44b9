import Derived.Test.YtbbocbdoiealoaaGreatDoorRF
import Derived.Test.YtbbocbdoiealoaaGreatDoorRE
import Derived.Test.YtbbocbdoiealoaaGreatDoorRPaa
set_option linter.unusedVariables false
set_option linter.unusedSimpArgs false
namespace Go.Proofs.YtbbocbdoiealoaaGreatDoor
open Go.RowKit Go.Maps
theorem spl_lenY : ∀ (l cur : Bs), (spl cur l).length ≤ l.length + 1
  | [], cur => by simp only [spl]; split <;> simp
  | b :: t, cur => by
    simp only [spl]
    split
    · split
      · have := spl_lenY t []; simp only [List.length_cons]; omega
      · have := spl_lenY t []; simp only [List.length_cons]; omega
    · have := spl_lenY t (cur ++ [b]); simp only [List.length_cons]; omega
end Go.Proofs.YtbbocbdoiealoaaGreatDoor
namespace Go.Proofs.YtbbocbdoiealoaaGreatDoor
open Go.RowKit
structure Stp where
  cmd : Cmd
  data : Bs
  large : Bool
  wk : Int
  wt : Bs
  wp : Int
  frm : Nat
  to : Nat
structure Fd where
  limit : Nat
  taken : Nat
  ended : Bool
  frm : Nat
  kept : Bs
  head : Nat
  left : Nat
  s : Stp
  st : Nat
abbrev badB : Bs := [98, 97, 100, 32, 100, 97, 116, 97, 32, 99, 104, 117, 110, 107]
def stp0 : Stp := ⟨cmd0 0 false, [], false, 0, [], 0, 0, 0⟩
def stpW (k : Int) (t : Bs) (p : Int) : Stp := ⟨cmd0 0 false, [], false, k, t, p, 0, 0⟩
def stpC (c : Cmd) (g : Bool) : Stp := ⟨c, [], g, 0, [], 0, 0, 0⟩
def trim (l : Bs) : Bs := if l.getLast? = some 13 then l.dropLast else l
def Fd.pass (F : Fd) (s : Stp) (n : Nat) : Fd := { F with s := s, left := n, kept := [], head := 0, st := 4 }
def Fd.await (F : Fd) (n : Nat) : Fd := { F with left := n, st := if n = 0 then 2 else 1 }
def Fd.spoil (F : Fd) : Fd := F.pass (stpW 2 badB (-1)) 0
def Fd.rd (F : Fd) : Fd × Bool :=
  match lineS (trim F.kept.dropLast) with
  | .inl (c, n) =>
    if n < 0 then ({ F with head := F.kept.length, s := stpC c false }, true) else
    if (F.limit : Int) < n then (F.pass (stpC c true) n.toNat, false) else
    ({ F with head := F.kept.length, s := stpC c false }.await n.toNat, false)
  | .inr (k, t, p) =>
    if p < 0 ∨ (F.limit : Int) < p then ({ F with head := F.kept.length, s := stpW k t p }, true) else
    (F.pass (stpW k t p) p.toNat, false)
def Fd.tell (F : Fd) : Fd × List Stp :=
  ({ F with s := stp0, kept := [], head := 0, left := 0, frm := F.taken, st := if F.s.cmd.verb = 18 then 5 else 0, ended := F.ended || decide (F.s.cmd.verb = 18) }, [{ F.s with frm := F.frm, to := F.taken }])
def Fd.skip (F : Fd) (b : UInt8) : Fd × List Stp :=
  if 0 < F.left then ({ F with left := F.left - 1 }, []) else if b = 10 then F.tell else (F, [])
def Fd.put (F : Fd) (l : Bs) : Fd := { F with kept := F.kept ++ l }
def Fd.tk (F : Fd) (n : Nat) : Fd := { F with taken := F.taken + n }
def Fd.end1 (r : Fd × Bool) : Fd × List Stp := if r.2 then r.1.tell else (r.1, [])
def Fd.fb (F : Fd) (b : UInt8) : Fd × List Stp :=
  if F.st = 0 then
    if b = 10 then Fd.end1 ((F.tk 1).put [b]).rd else
    if 2048 < (trim (F.kept ++ [b])).length then (((F.tk 1).put [b]).pass (stpW 2 tooLong (-1)) 0, []) else ((F.tk 1).put [b], []) else
  if F.st = 1 then (((F.tk 1).put [b]).await (F.left - 1), []) else
  if F.st = 2 then (if b = 13 then ({ (F.tk 1).put [b] with st := 3 }, []) else (F.tk 1).spoil.skip b) else
  if F.st = 3 then (if b = 10 then { F.tk 1 with s := { F.s with data := (F.kept.drop F.head).dropLast } }.tell else (F.tk 1).spoil.skip b) else
  if F.st = 4 then (F.tk 1).skip b else (F.tk 1, [])
def Fd.run : Fd → Bs → Fd × List Stp
  | F, [] => (F, [])
  | F, b :: t => (((F.fb b).1.run t).1, (F.fb b).2 ++ ((F.fb b).1.run t).2)
theorem Fd.run_app : ∀ (a : Bs) (F : Fd) (b : Bs), F.run (a ++ b) = (((F.run a).1.run b).1, (F.run a).2 ++ ((F.run a).1.run b).2)
  | [], F, b => by simp [Fd.run]
  | x :: a, F, b => by
    simp only [List.cons_append, Fd.run]
    rw [Fd.run_app a]
    simp
theorem trim_len (l : Bs) : l.length ≤ (trim l).length + 1 ∧ (trim l).length ≤ l.length := by
  unfold trim; split
  · rw [List.length_dropLast]; omega
  · omega
theorem lineS_long {l : Bs} (h : 2048 < l.length) : lineS l = .inr (2, tooLong, -1) := by simp only [lineS, h, if_true]
theorem nb_le {m n : Nat} {l : Bs} (h : nb m l = some n) : n ≤ m := by
  unfold nb at h
  repeat' split at h
  all_goals first
    | (injection h with h; omega)
    | cases h
theorem passS_le (r : Rw) (ws : List Bs) : passS r ws ≤ 2147483647 ∧ -1 ≤ passS r ws := by
  unfold passS
  repeat' split
  all_goals first
    | omega
    | (rename_i n hn; have := nb_le hn; omega)
theorem lineS_ok {l : Bs} {c : Cmd} {n : Int} (h : lineS l = .inl (c, n)) : l.length ≤ 2048 ∧ n ≤ 2147483647 := by
  unfold lineS at h
  repeat' split at h
  all_goals first
    | (injection h with h; injection h with h1 h2; subst h2; exact ⟨by omega, (passS_le _ _).1⟩)
    | cases h
theorem lineS_no {l : Bs} {k : Int} {t : Bs} {p : Int} (h : lineS l = .inr (k, t, p)) : p ≤ 2147483647 ∧ k ≠ 0 := by
  unfold lineS at h
  repeat' split at h
  all_goals first
    | (injection h with h; injection h with h1 h2; injection h2 with h2 h3; subst h1 h3; exact ⟨by first | omega | exact (passS_le _ _).1, by decide⟩)
    | cases h
theorem Fd.tk_tk (F : Fd) (a b : Nat) : (F.tk a).tk b = F.tk (a + b) := by simp [Fd.tk, Nat.add_assoc]
theorem trim_cr (l : Bs) : trim (l ++ [13]) = l := by simp [trim]
theorem run_over {F : Fd} (h : F.st = 5) : ∀ l, F.run l = (F.tk l.length, [])
  | [] => rfl
  | b :: t => by
    have h1 : F.fb b = (F.tk 1, []) := by simp [Fd.fb, h]
    have h2 := run_over (F := F.tk 1) h t
    simp only [Fd.run, h1, h2, Fd.tk_tk, List.length_cons, List.nil_append]
    rw [Nat.add_comm 1]
theorem run_left : ∀ (l : Bs) {F : Fd}, F.st = 4 → l.length ≤ F.left → F.run l = ({ F.tk l.length with left := F.left - l.length }, [])
  | [], F, h, hl => rfl
  | b :: t, F, h, hl => by
    simp only [List.length_cons] at hl
    have h1 : F.fb b = ({ F.tk 1 with left := F.left - 1 }, []) := by
      have : 0 < (F.tk 1).left := by show 0 < F.left; omega
      simp only [Fd.fb, h, Fd.skip, this]
      rfl
    have h2 := run_left t (F := { F.tk 1 with left := F.left - 1 }) h (by show t.length ≤ F.left - 1; omega)
    simp only [Fd.run, h1, h2, List.nil_append, List.length_cons]
    simp [Fd.tk]
    omega
theorem run_skip : ∀ (l : Bs) {F : Fd}, F.st = 4 → F.left = 0 → (10 : UInt8) ∉ l → F.run l = (F.tk l.length, [])
  | [], F, h, hl, hn => rfl
  | b :: t, F, h, hl, hn => by
    have hb : b ≠ 10 := fun e => hn (by simp [e])
    have h1 : F.fb b = (F.tk 1, []) := by
      have : ¬ 0 < (F.tk 1).left := by show ¬ 0 < F.left; omega
      simp [Fd.fb, h, Fd.skip, this, hb]
    have h2 := run_skip t (F := F.tk 1) h hl (fun e => hn (by simp [e]))
    simp only [Fd.run, h1, h2, Fd.tk_tk, List.length_cons, List.nil_append]
    rw [Nat.add_comm 1]
theorem run_skip_end {F : Fd} (h : F.st = 4) (hl : F.left = 0) (l : Bs) (hn : (10 : UInt8) ∉ l) : F.run (l ++ [10]) = (F.tk (l.length + 1)).tell := by
  rw [Fd.run_app, run_skip l h hl hn]
  have h1 : (F.tk l.length).fb 10 = (F.tk (l.length + 1)).tell := by
    have : ¬ 0 < (F.tk (l.length + 1)).left := by show ¬ 0 < F.left; omega
    have h4 : (F.tk l.length).st = 4 := h
    simp [Fd.fb, h4, Fd.skip, this, Fd.tk_tk]
  simp [Fd.run, h1]
theorem run_block : ∀ (l : Bs) {F : Fd}, F.st = 1 → 0 < F.left → l.length ≤ F.left → F.run l = (((F.tk l.length).put l).await (F.left - l.length), [])
  | [], F, h, h0, hl => by
    have : F.left ≠ 0 := by omega
    simp [Fd.run, Fd.put, Fd.tk, Fd.await, this]
    rw [← h]
  | b :: t, F, h, h0, hl => by
    simp only [List.length_cons] at hl
    have h1 : F.fb b = (((F.tk 1).put [b]).await (F.left - 1), []) := by simp [Fd.fb, h]
    rcases Nat.eq_zero_or_pos t.length with h2 | h2
    · have := List.length_eq_zero_iff.1 h2
      subst this
      simp [Fd.run, h1]
    · have h3 : F.left - 1 ≠ 0 := by omega
      have h4 := run_block t (F := ((F.tk 1).put [b]).await (F.left - 1)) (by simp [Fd.await, h3]) (by show 0 < F.left - 1; omega) (by show t.length ≤ F.left - 1; omega)
      simp only [Fd.run, h1, h4, List.nil_append, List.length_cons]
      simp [Fd.tk, Fd.put, Fd.await]
      exact ⟨by omega, by omega, by congr 1; apply propext; omega⟩
theorem run_spoil {F : Fd} (h : F.st = 2 ∨ F.st = 3) (b : UInt8) (t : Bs) (hb : F.st = 2 → b ≠ 13) (hc : F.st = 3 → b ≠ 10) : F.run (b :: t) = F.spoil.run (b :: t) := by
  have h1 : F.fb b = F.spoil.fb b := by
    have e : F.spoil.fb b = (F.tk 1).spoil.skip b := by simp [Fd.fb, Fd.spoil, Fd.pass]; rfl
    rw [e]
    rcases h with h | h
    · simp [Fd.fb, h, hb h]
    · simp [Fd.fb, h, hc h]
  simp only [Fd.run, h1]
theorem run_behind {F : Fd} (h : F.st = 2) : F.run [13] = ({ (F.tk 1).put [13] with st := 3 }, []) := by
  simp [Fd.run, Fd.fb, h]
theorem run_last {F : Fd} (h : F.st = 3) : F.run [10] = { F.tk 1 with s := { F.s with data := (F.kept.drop F.head).dropLast } }.tell := by
  simp [Fd.run, Fd.fb, h]
theorem rd_facts (F : Fd) : F.rd.1.taken = F.taken ∧ F.rd.1.limit = F.limit ∧ F.rd.1.ended = F.ended ∧ (F.st ≠ 5 → F.rd.1.st ≠ 5) := by
  unfold Fd.rd
  repeat' split
  all_goals refine ⟨rfl, rfl, rfl, fun h => ?_⟩
  all_goals first
    | exact h
    | (simp [Fd.pass]; done)
    | (show (if _ then 2 else 1) ≠ 5; split <;> omega)
end Go.Proofs.YtbbocbdoiealoaaGreatDoor
