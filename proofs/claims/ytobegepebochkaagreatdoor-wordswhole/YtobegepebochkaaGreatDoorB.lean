import Derived.Lib.ParseIntB
import Derived.Test.YtobegepebochkaaGreatDoorA
/-
  Commands, as plain functions on bytes: words, numbers, times, flags, rows of verbs, what a line tells.
-/
namespace Go.Proofs.YtobegepebochkaaGreatDoor
set_option linter.unusedVariables false
set_option linter.unusedSimpArgs false

abbrev Bs := List UInt8
/-- A text as a value. -/
abbrev sv (l : Bs) : Value := .string ⟨l.toArray⟩
structure Fl where
  letter : UInt8
  arg : Bs
  has : Bool
structure Cmd where
  verb : Int
  keys : List Bs
  flags : Nat
  exp : Int
  tok : Nat
  del : Nat
  nr : Bool
  mt : List Fl
  what : Bs
structure Rw where
  verb : Int
  wants : Bs
  may : Bs
  endless : Bool
  quiet : Bool

abbrev badLine : Bs := [98, 97, 100, 32, 99, 111, 109, 109, 97, 110, 100, 32, 108, 105, 110, 101, 32, 102, 111, 114, 109, 97, 116]
abbrev badTime : Bs := [105, 110, 118, 97, 108, 105, 100, 32, 101, 120, 112, 116, 105, 109, 101, 32, 97, 114, 103, 117, 109, 101, 110, 116]
abbrev badDelta : Bs := [105, 110, 118, 97, 108, 105, 100, 32, 110, 117, 109, 101, 114, 105, 99, 32, 100, 101, 108, 116, 97, 32, 97, 114, 103, 117, 109, 101, 110, 116]
abbrev tooLong : Bs := [108, 105, 110, 101, 32, 116, 111, 111, 32, 108, 111, 110, 103]
abbrev noFlag : Bs := [105, 110, 118, 97, 108, 105, 100, 32, 102, 108, 97, 103]
abbrev twice : Bs := [100, 117, 112, 108, 105, 99, 97, 116, 101, 32, 102, 108, 97, 103]
abbrev badOpaque : Bs := [111, 112, 97, 113, 117, 101, 32, 116, 111, 107, 101, 110, 32, 116, 111, 111, 32, 108, 111, 110, 103]
abbrev badToken : Bs := [98, 97, 100, 32, 116, 111, 107, 101, 110, 32, 105, 110, 32, 99, 111, 109, 109, 97, 110, 100, 32, 108, 105, 110, 101, 32, 102, 111, 114, 109, 97, 116]
abbrev reset : Bs := [114, 101, 115, 101, 116]
abbrev noreply : Bs := [110, 111, 114, 101, 112, 108, 121]

/-- The words of a line: the longest runs of other bytes than 32. -/
def spl : Bs → Bs → List Bs
  | cur, [] => if cur = [] then [] else [cur]
  | cur, b :: t => if b = 32 then (if cur = [] then spl [] t else cur :: spl [] t) else spl (cur ++ [b]) t
/-- A number up to most. -/
def nb (most : Nat) (l : Bs) : Option Nat := match Lib.parseUintB 64 l with
  | .ok u => if u ≤ most then some u else none
  | _ => none
/-- A time. -/
def tm (l : Bs) : Option Int := match Lib.parseIntB 64 l with
  | .ok v => if l.head? = some 43 then none else some v
  | _ => none
def plain (l : Bs) : Bool := l.all fun b => decide (32 < b) && decide (b ≠ 127)

/-- The letters of a verb: those behind which nothing stands. -/
def bare (v : Int) : Bs :=
  if v = 20 then [107, 113, 118, 102, 99, 116, 115, 104, 108] else
  if v = 21 then [107, 113, 99, 73] else
  if v = 22 then [107, 113, 99, 73] else
  if v = 23 then [107, 113, 118, 99, 116] else
  []
/-- Those behind which something stands. -/
def full (v : Int) : Bs :=
  if v = 20 then [79, 84, 78, 82] else
  if v = 21 then [79, 84, 70, 67, 77] else
  if v = 22 then [79, 84, 67] else
  if v = 23 then [79, 84, 78, 67, 77, 68, 74] else
  []
def modes (v : Int) : Bs :=
  if v = 21 then [83, 69, 65, 80, 82, 115, 101, 97, 112, 114] else
  [73, 68, 105, 100]

def mode1 (v : Int) : Bs → Bool
  | [b] => (modes v).contains b
  | _ => false
/-- Is what stands behind the letter what must stand there? -/
def follows (v : Int) (f : Fl) : Bool :=
  if f.letter = 79 then plain f.arg else
  if f.letter = 84 ∨ f.letter = 78 then (tm f.arg).isSome else
  if f.letter = 82 ∨ f.letter = 67 ∨ f.letter = 68 ∨ f.letter = 74 then (nb 18446744073709551615 f.arg).isSome else
  if f.letter = 70 then (nb 4294967295 f.arg).isSome else
  if f.letter = 77 then mode1 v f.arg else false
/-- What is wrong with one flag; seen: the letters ahead of it. -/
def fl1 (v : Int) (seen : Bs) (f : Fl) : Bs :=
  if !(bare v).contains f.letter && !(full v).contains f.letter then noFlag else
  if seen.contains f.letter then twice else
  if f.letter = 79 ∧ (f.arg = [] ∨ 32 < f.arg.length) then badOpaque else
  if f.has ≠ decide (f.arg ≠ []) ∨ f.has ≠ (full v).contains f.letter ∨ (f.has = true ∧ follows v f = false) then badToken else []
def flS (v : Int) : Bs → List Fl → Bs
  | _, [] => []
  | seen, f :: t => if fl1 v seen f = [] then flS v (f.letter :: seen) t else fl1 v seen f
/-- One word, taken into a command; else what is told. -/
def take1 (c : Cmd) (a : UInt8) (x : Bs) : Cmd ⊕ Bs :=
  if a = 75 then (if x.length ≤ 250 ∧ plain x = true then .inl { c with keys := c.keys ++ [x] } else .inr badLine) else
  if a = 70 then (match nb 4294967295 x with | some n => .inl { c with flags := n } | none => .inr badLine) else
  if a = 84 ∨ a = 76 then (match tm x with | some t => if a = 84 ∨ 0 ≤ t then .inl { c with exp := t } else .inr badTime | none => .inr badTime) else
  if a = 78 ∨ a = 86 then (match nb 2147483647 x with | some _ => .inl c | none => .inr badLine) else
  if a = 67 then (match nb 18446744073709551615 x with | some n => .inl { c with tok := n } | none => .inr badLine) else
  if a = 68 then (match nb 18446744073709551615 x with | some n => .inl { c with del := n } | none => .inr badDelta) else
  if a = 48 then (if x = [48] then .inl c else .inr badLine) else
  if a = 87 then (if x = reset then .inl { c with what := reset } else .inr badLine) else
  if a = 77 then .inl { c with mt := c.mt ++ [⟨x.headD 0, x.tail, decide (1 < x.length)⟩] } else .inl c
def takes : Rw → Nat → Bool := fun r n => decide (r.wants.length ≤ n) && (r.endless || decide (n ≤ r.wants.length + r.may.length))
def lett (r : Rw) (i : Nat) : UInt8 := (r.wants ++ r.may).getD (min i ((r.wants ++ r.may).length - 1)) 0
def takeL (r : Rw) : Nat → Cmd → List Bs → Cmd ⊕ Bs
  | _, c, [] => .inl c
  | i, c, x :: t => match take1 c (lett r i) x with | .inl d => takeL r (i + 1) d t | .inr e => .inr e
def cmd0 (v : Int) (q : Bool) : Cmd := ⟨v, [], 0, 0, 0, 0, q, [], []⟩
/-- Is the last word the command's noreply? -/
def qt (r : Rw) (ws : List Bs) : Bool := r.quiet && (decide (r.wants.length + 1 ≤ ws.length) && decide (ws.getLast? = some noreply))
/-- The flags are looked at. -/
def fin (v : Int) : Cmd ⊕ Bs → Cmd ⊕ Bs
  | .inl c => if flS v [] c.mt = [] then .inl c else .inr (flS v [] c.mt)
  | .inr e => .inr e
def readS (r : Rw) (ws : List Bs) : Cmd ⊕ Bs :=
  let vs := if qt r ws then ws.dropLast else ws
  if takes r vs.length then fin r.verb (takeL r 0 (cmd0 r.verb (qt r ws)) vs) else .inr badLine
def passS (r : Rw) (ws : List Bs) : Int := match r.wants.idxOf? 78 with
  | some i => (match ws[i]? with | some x => (match nb 2147483647 x with | some n => n | none => -1) | none => -1)
  | none => -1

/-- The row of a verb by its spelling. -/
def rowL : List (Bs × Rw) := [
  ([103, 101, 116], ⟨1, [75], [75], true, false⟩),
  ([103, 101, 116, 115], ⟨2, [75], [75], true, false⟩),
  ([103, 97, 116], ⟨3, [84, 75], [75], true, false⟩),
  ([103, 97, 116, 115], ⟨4, [84, 75], [75], true, false⟩),
  ([115, 101, 116], ⟨5, [75, 70, 84, 78], [], false, true⟩),
  ([97, 100, 100], ⟨6, [75, 70, 84, 78], [], false, true⟩),
  ([114, 101, 112, 108, 97, 99, 101], ⟨7, [75, 70, 84, 78], [], false, true⟩),
  ([97, 112, 112, 101, 110, 100], ⟨8, [75, 70, 84, 78], [], false, true⟩),
  ([112, 114, 101, 112, 101, 110, 100], ⟨9, [75, 70, 84, 78], [], false, true⟩),
  ([99, 97, 115], ⟨10, [75, 70, 84, 78, 67], [], false, true⟩),
  ([100, 101, 108, 101, 116, 101], ⟨11, [75], [48], false, true⟩),
  ([105, 110, 99, 114], ⟨12, [75, 68], [], false, true⟩),
  ([100, 101, 99, 114], ⟨13, [75, 68], [], false, true⟩),
  ([116, 111, 117, 99, 104], ⟨14, [75, 84], [], false, true⟩),
  ([102, 108, 117, 115, 104, 95, 97, 108, 108], ⟨15, [], [76], false, true⟩),
  ([118, 101, 114, 115, 105, 111, 110], ⟨16, [], [], false, false⟩),
  ([118, 101, 114, 98, 111, 115, 105, 116, 121], ⟨17, [86], [], false, true⟩),
  ([113, 117, 105, 116], ⟨18, [], [], false, false⟩),
  ([115, 116, 97, 116, 115], ⟨19, [], [87], false, false⟩),
  ([109, 103], ⟨20, [75], [77], true, false⟩),
  ([109, 115], ⟨21, [75, 78], [77], true, false⟩),
  ([109, 100], ⟨22, [75], [77], true, false⟩),
  ([109, 97], ⟨23, [75], [77], true, false⟩),
  ([109, 110], ⟨24, [], [], false, false⟩)]
def rowS (x : Bs) : Option Rw := rowL.lookup x
/-- A line: the command and the block's length, or what is told: its kind (1 or 2), its text, its pass. -/
def lineS (l : Bs) : (Cmd × Int) ⊕ (Int × Bs × Int) :=
  if 2048 < l.length then .inr (2, tooLong, -1) else
  match spl [] l with
  | [] => .inr (1, [], -1)
  | x :: ws => match rowS x with
    | none => .inr (1, [], -1)
    | some r => match readS r ws with
      | .inl c => .inl (c, passS r ws)
      | .inr e => .inr (2, e, passS r ws)
end Go.Proofs.YtobegepebochkaaGreatDoor
