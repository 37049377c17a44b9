import Derived.Lib.ParseIntB
import Derived.Test.YtbbocbdoiealoaaGreatDoorBA
import Derived.Lib.Strings
import Derived.Lib.Walk
import Derived.Lib.Bytealg
set_option linter.unusedVariables false
set_option linter.unusedSimpArgs false
namespace Go.Proofs.YtbbocbdoiealoaaGreatDoor
abbrev Bs := List UInt8
abbrev sv (l : Bs) : Value := .string ⟨l.toArray⟩
structure Fl where
  letter : UInt8
  arg : Bs
  has : Bool
structure Cmd where
  verb : Int
  keys : List Bs
  flags : Nat
  exp : Int
  tok : Nat
  del : Nat
  nr : Bool
  mt : List Fl
  what : Bs
structure Rw where
  verb : Int
  wants : Bs
  may : Bs
  endless : Bool
  quiet : Bool
abbrev badLine : Bs := [98, 97, 100, 32, 99, 111, 109, 109, 97, 110, 100, 32, 108, 105, 110, 101, 32, 102, 111, 114, 109, 97, 116]
abbrev badTime : Bs := [105, 110, 118, 97, 108, 105, 100, 32, 101, 120, 112, 116, 105, 109, 101, 32, 97, 114, 103, 117, 109, 101, 110, 116]
abbrev badDelta : Bs := [105, 110, 118, 97, 108, 105, 100, 32, 110, 117, 109, 101, 114, 105, 99, 32, 100, 101, 108, 116, 97, 32, 97, 114, 103, 117, 109, 101, 110, 116]
abbrev tooLong : Bs := [108, 105, 110, 101, 32, 116, 111, 111, 32, 108, 111, 110, 103]
abbrev noFlag : Bs := [105, 110, 118, 97, 108, 105, 100, 32, 102, 108, 97, 103]
abbrev twice : Bs := [100, 117, 112, 108, 105, 99, 97, 116, 101, 32, 102, 108, 97, 103]
abbrev badOpaque : Bs := [111, 112, 97, 113, 117, 101, 32, 116, 111, 107, 101, 110, 32, 116, 111, 111, 32, 108, 111, 110, 103]
abbrev badToken : Bs := [98, 97, 100, 32, 116, 111, 107, 101, 110, 32, 105, 110, 32, 99, 111, 109, 109, 97, 110, 100, 32, 108, 105, 110, 101, 32, 102, 111, 114, 109, 97, 116]
abbrev reset : Bs := [114, 101, 115, 101, 116]
abbrev noreply : Bs := [110, 111, 114, 101, 112, 108, 121]
def spl : Bs → Bs → List Bs
  | cur, [] => if cur = [] then [] else [cur]
  | cur, b :: t => if b = 32 then (if cur = [] then spl [] t else cur :: spl [] t) else spl (cur ++ [b]) t
def nb (most : Nat) (l : Bs) : Option Nat := match Lib.parseUintB 64 l with
  | .ok u => if u ≤ most then some u else none
  | _ => none
def tm (l : Bs) : Option Int := match Lib.parseIntB 64 l with
  | .ok v => if l.head? = some 43 then none else some v
  | _ => none
def plain (l : Bs) : Bool := l.all fun b => decide (32 < b) && decide (b ≠ 127)
def bare (v : Int) : Bs :=
  if v = 20 then [107, 113, 118, 102, 99, 116, 115, 104, 108] else
  if v = 21 then [107, 113, 99, 73] else
  if v = 22 then [107, 113, 99, 73] else
  if v = 23 then [107, 113, 118, 99, 116] else
  []
def full (v : Int) : Bs :=
  if v = 20 then [79, 84, 78, 82] else
  if v = 21 then [79, 84, 70, 67, 77] else
  if v = 22 then [79, 84, 67] else
  if v = 23 then [79, 84, 78, 67, 77, 68, 74] else
  []
def modes (v : Int) : Bs :=
  if v = 21 then [83, 69, 65, 80, 82, 115, 101, 97, 112, 114] else
  [73, 68, 105, 100]
def mode1 (v : Int) : Bs → Bool
  | [b] => (modes v).contains b
  | _ => false
def follows (v : Int) (f : Fl) : Bool :=
  if f.letter = 79 then plain f.arg else
  if f.letter = 84 ∨ f.letter = 78 then (tm f.arg).isSome else
  if f.letter = 82 ∨ f.letter = 67 ∨ f.letter = 68 ∨ f.letter = 74 then (nb 18446744073709551615 f.arg).isSome else
  if f.letter = 70 then (nb 4294967295 f.arg).isSome else
  if f.letter = 77 then mode1 v f.arg else false
def fl1 (v : Int) (seen : Bs) (f : Fl) : Bs :=
  if !(bare v).contains f.letter && !(full v).contains f.letter then noFlag else
  if seen.contains f.letter then twice else
  if f.letter = 79 ∧ (f.arg = [] ∨ 32 < f.arg.length) then badOpaque else
  if f.has ≠ decide (f.arg ≠ []) ∨ f.has ≠ (full v).contains f.letter ∨ (f.has = true ∧ follows v f = false) then badToken else []
def flS (v : Int) : Bs → List Fl → Bs
  | _, [] => []
  | seen, f :: t => if fl1 v seen f = [] then flS v (f.letter :: seen) t else fl1 v seen f
def take1 (c : Cmd) (a : UInt8) (x : Bs) : Cmd ⊕ Bs :=
  if a = 75 then (if x.length ≤ 250 ∧ plain x = true then .inl { c with keys := c.keys ++ [x] } else .inr badLine) else
  if a = 70 then (match nb 4294967295 x with | some n => .inl { c with flags := n } | none => .inr badLine) else
  if a = 84 ∨ a = 76 then (match tm x with | some t => if a = 84 ∨ 0 ≤ t then .inl { c with exp := t } else .inr badTime | none => .inr badTime) else
  if a = 78 ∨ a = 86 then (match nb 2147483647 x with | some _ => .inl c | none => .inr badLine) else
  if a = 67 then (match nb 18446744073709551615 x with | some n => .inl { c with tok := n } | none => .inr badLine) else
  if a = 68 then (match nb 18446744073709551615 x with | some n => .inl { c with del := n } | none => .inr badDelta) else
  if a = 48 then (if x = [48] then .inl c else .inr badLine) else
  if a = 87 then (if x = reset then .inl { c with what := reset } else .inr badLine) else
  if a = 77 then .inl { c with mt := c.mt ++ [⟨x.headD 0, x.tail, decide (1 < x.length)⟩] } else .inl c
def takes : Rw → Nat → Bool := fun r n => decide (r.wants.length ≤ n) && (r.endless || decide (n ≤ r.wants.length + r.may.length))
def lett (r : Rw) (i : Nat) : UInt8 := (r.wants ++ r.may).getD (min i ((r.wants ++ r.may).length - 1)) 0
def takeL (r : Rw) : Nat → Cmd → List Bs → Cmd ⊕ Bs
  | _, c, [] => .inl c
  | i, c, x :: t => match take1 c (lett r i) x with | .inl d => takeL r (i + 1) d t | .inr e => .inr e
def cmd0 (v : Int) (q : Bool) : Cmd := ⟨v, [], 0, 0, 0, 0, q, [], []⟩
def qt (r : Rw) (ws : List Bs) : Bool := r.quiet && (decide (r.wants.length + 1 ≤ ws.length) && decide (ws.getLast? = some noreply))
def fin (v : Int) : Cmd ⊕ Bs → Cmd ⊕ Bs
  | .inl c => if flS v [] c.mt = [] then .inl c else .inr (flS v [] c.mt)
  | .inr e => .inr e
def readS (r : Rw) (ws : List Bs) : Cmd ⊕ Bs :=
  let vs := if qt r ws then ws.dropLast else ws
  if takes r vs.length then fin r.verb (takeL r 0 (cmd0 r.verb (qt r ws)) vs) else .inr badLine
def passS (r : Rw) (ws : List Bs) : Int := match r.wants.idxOf? 78 with
  | some i => (match ws[i]? with | some x => (match nb 2147483647 x with | some n => n | none => -1) | none => -1)
  | none => -1
def rowL : List (Bs × Rw) := [
  ([103, 101, 116], ⟨1, [75], [75], true, false⟩),
  ([103, 101, 116, 115], ⟨2, [75], [75], true, false⟩),
  ([103, 97, 116], ⟨3, [84, 75], [75], true, false⟩),
  ([103, 97, 116, 115], ⟨4, [84, 75], [75], true, false⟩),
  ([115, 101, 116], ⟨5, [75, 70, 84, 78], [], false, true⟩),
  ([97, 100, 100], ⟨6, [75, 70, 84, 78], [], false, true⟩),
  ([114, 101, 112, 108, 97, 99, 101], ⟨7, [75, 70, 84, 78], [], false, true⟩),
  ([97, 112, 112, 101, 110, 100], ⟨8, [75, 70, 84, 78], [], false, true⟩),
  ([112, 114, 101, 112, 101, 110, 100], ⟨9, [75, 70, 84, 78], [], false, true⟩),
  ([99, 97, 115], ⟨10, [75, 70, 84, 78, 67], [], false, true⟩),
  ([100, 101, 108, 101, 116, 101], ⟨11, [75], [48], false, true⟩),
  ([105, 110, 99, 114], ⟨12, [75, 68], [], false, true⟩),
  ([100, 101, 99, 114], ⟨13, [75, 68], [], false, true⟩),
  ([116, 111, 117, 99, 104], ⟨14, [75, 84], [], false, true⟩),
  ([102, 108, 117, 115, 104, 95, 97, 108, 108], ⟨15, [], [76], false, true⟩),
  ([118, 101, 114, 115, 105, 111, 110], ⟨16, [], [], false, false⟩),
  ([118, 101, 114, 98, 111, 115, 105, 116, 121], ⟨17, [86], [], false, true⟩),
  ([113, 117, 105, 116], ⟨18, [], [], false, false⟩),
  ([115, 116, 97, 116, 115], ⟨19, [], [87], false, false⟩),
  ([109, 103], ⟨20, [75], [77], true, false⟩),
  ([109, 115], ⟨21, [75, 78], [77], true, false⟩),
  ([109, 100], ⟨22, [75], [77], true, false⟩),
  ([109, 97], ⟨23, [75], [77], true, false⟩),
  ([109, 110], ⟨24, [], [], false, false⟩)]
def rowS (x : Bs) : Option Rw := rowL.lookup x
def lineS (l : Bs) : (Cmd × Int) ⊕ (Int × Bs × Int) :=
  if 2048 < l.length then .inr (2, tooLong, -1) else
  match spl [] l with
  | [] => .inr (1, [], -1)
  | x :: ws => match rowS x with
    | none => .inr (1, [], -1)
    | some r => match readS r ws with
      | .inl c => .inl (c, passS r ws)
      | .inr e => .inr (2, e, passS r ws)
end Go.Proofs.YtbbocbdoiealoaaGreatDoor
namespace Go.Proofs.YtbbocbdoiealoaaGreatDoor
open Go.RowKit
set_option maxHeartbeats 1000000 in
set_option maxRecDepth 100000 in
theorem indexB_41 (s : ByteArray) (c : Int) (w : World) :
    Calls Tryz.prog 159 #[.string s, .int .u8 c] w fun e w' => e = .returned (.int .i64 (Lib.indexByte s.data.toList c.toNat.toUInt8)) ∧ w' = w := by
  go_enter Tryz.func159, Tryz.ntmps159
  go_wp2
  rw [run_callFunc_extern Tryz.func172 (by kernel_rfl) (by kernel_rfl) (by kernel_rfl) (e := Extern.BytealgIndexByte.indexByte) (by kernel_rfl), Lib.run_indexByteString]
  simp only [Result.andThen]
  rw [Oper.upon_value]
  go_wp2
  go_ret
  exact ⟨rfl, rfl⟩
set_option maxHeartbeats 1000000 in
theorem indexB_29 (s : ByteArray) (c : Int) (w : World) :
    Calls Tryz.prog 135 #[.string s, .int .u8 c] w fun e w' => e = .returned (.int .i64 (Lib.indexByte s.data.toList c.toNat.toUInt8)) ∧ w' = w := by
  go_enter Tryz.func135, Tryz.ntmps135
  go_wp2_with (go_at_call 159; refine (indexB_41 _ _ _).mono ?_; rintro e w' ⟨rfl, rfl⟩)
  go_ret
  exact ⟨rfl, rfl⟩
abbrev up (s : ByteArray) : Ending := .panicked [{ v := .iface 190 (.string s), recovered := false }]
theorem giveUp_27 (s : ByteArray) (w : World) :
    Calls Tryz.prog 146 #[.string s] w fun e w' => e = up s ∧ w' = w := by
  go_enter Tryz.func146, Tryz.ntmps146
  go_wp2
  exact ⟨rfl, rfl, rfl⟩
theorem ask_yes (s : ByteArray) (w : World) :
    Calls Tryz.prog 165 #[.bool true, .string s] w fun e w' => e = .returned (.tuple #[]) ∧ w' = w := by
  go_enter Tryz.func165, Tryz.ntmps165
  go_wp2
  go_end0
  exact ⟨rfl, rfl⟩
theorem ask_no (s : ByteArray) (w : World) :
    Calls Tryz.prog 165 #[.bool false, .string s] w fun e w' => e = up s ∧ w' = w := by
  go_enter Tryz.func165, Tryz.ntmps165
  go_wp2_with (go_at_call 146; refine (giveUp_27 _ _).mono ?_; rintro e w' ⟨rfl, rfl⟩)
  exact ⟨rfl, rfl, rfl⟩
abbrev rv (r : Rw) : Value := .agg #[.int .i64 r.verb, sv r.wants, sv r.may, .bool r.endless, .bool r.quiet]
theorem takes_31 (r : Rw) (n : Nat) (hn : n ≤ 4611686018427387904) (h1 : r.wants.length ≤ 100) (h2 : r.may.length ≤ 100) (w : World) :
    Calls Tryz.prog 148 #[rv r, .int .i64 n] w fun e w' => e = .returned (.bool (takes r n)) ∧ w.grownBy w' none := by
  go_enter Tryz.func148, Tryz.ntmps148
  go_wp2
  · go_ret
    refine ⟨?_, gb_alloc (gb_refl _ _) _⟩
    simp_all [takes]
  · go_ret
    refine ⟨?_, gb_alloc (gb_refl _ _) _⟩
    rename_i h3 h4
    have h5 : r.endless = false := by simpa using h4
    have h6 : decide ((n : Int) ≤ ↑(List.length r.wants) + ↑(List.length r.may)) = takes r n := by
      simp only [takes, h5, h3, decide_true, Bool.true_and, Bool.false_or]
      apply decide_eq_decide.2
      omega
    exact congrArg (fun b => Ending.returned (Value.bool b)) h6
  · go_ret
    refine ⟨?_, gb_alloc (gb_refl _ _) _⟩
    rename_i h3
    have h6 : takes r n = false := by simp [takes, h3]
    rw [h6]
    rfl
theorem letters_47 (v : Int) (w : World) :
    Calls Tryz.prog 88 #[.int .i64 v] w fun e w' => e = .returned (.tuple #[sv (bare v), sv (full v)]) ∧ w' = w := by
  go_enter Tryz.func88, Tryz.ntmps88
  go_wp2
  all_goals
    go_ret2
    refine ⟨?_, rfl⟩
    simp_all [bare, full]
theorem modes_59 (v : Int) (w : World) :
    Calls Tryz.prog 139 #[.int .i64 v] w fun e w' => e = .returned (sv (modes v)) ∧ w' = w := by
  go_enter Tryz.func139, Tryz.ntmps139
  go_wp2
  all_goals
    go_ret
    refine ⟨?_, rfl⟩
    simp_all [modes]
theorem idx_has (s : Bs) (c : UInt8) : decide (0 ≤ Lib.indexByte s c) = s.contains c := by
  induction s with
  | nil => rfl
  | cons b l ih =>
    simp only [Lib.indexByte, List.contains_cons]
    have h := Lib.indexByte_ge l c
    by_cases hb : b = c
    · subst hb; simp
    · have hb' : ¬ c = b := fun e => hb e.symm
      simp only [beq_iff_eq, hb, if_false, ← ih, show (c == b) = false from beq_eq_false_iff_ne.2 hb', Bool.false_or]
      split
      · rename_i h1; simp [h1]
      · rename_i h1; apply decide_eq_decide.2; omega
theorem has_48 (s : Bs) (c : UInt8) (w : World) :
    Calls Tryz.prog 89 #[sv s, .int .u8 c.toNat] w fun e w' => e = .returned (.bool (s.contains c)) ∧ w' = w := by
  go_enter Tryz.func89, Tryz.ntmps89
  go_wp2_with (go_at_call 135; refine (indexB_29 _ _ _).mono ?_; rintro e w' ⟨rfl, rfl⟩)
  go_ret
  exact ⟨by rw [← idx_has]; rfl, rfl⟩
theorem ba_app (a b : Bs) : (⟨a.toArray⟩ ++ ⟨b.toArray⟩ : ByteArray) = ⟨(a ++ b).toArray⟩ := by
  apply ByteArray.ext
  simp [ByteArray.data_append]
theorem ba_get (l : Bs) (i : Nat) (h : i < (ByteArray.mk l.toArray).size) : (ByteArray.mk l.toArray)[i] = l.getD i 0 := by
  have h2 : i < l.length := by simpa [ByteArray.size] using h
  show l.toArray[i] = _
  simp [List.getD, h2]
theorem ba_size (l : Bs) : (ByteArray.mk l.toArray).size = l.length := by simp [ByteArray.size]
set_option maxHeartbeats 1000000 in
theorem letter_33 (r : Rw) (n : Nat) (hn : n ≤ 4611686018427387904) (h1 : r.wants.length ≤ 100) (h2 : r.may.length ≤ 100) (h3 : 0 < (r.wants ++ r.may).length) (w : World) :
    Calls Tryz.prog 150 #[rv r, .int .i64 n] w fun e w' => e = .returned (.int .u8 (lett r n).toNat) ∧ w.grownBy w' none := by
  have h4 : (r.wants ++ r.may).length = r.wants.length + r.may.length := List.length_append
  have hle : 0 ≤ min (n : Int) (↑(List.length r.wants) + ↑(List.length r.may) - 1) ∧ min (n : Int) (↑(List.length r.wants) + ↑(List.length r.may) - 1) < ↑(List.length r.wants) + ↑(List.length r.may) := by omega
  go_enter Tryz.func150, Tryz.ntmps150
  go_wp2
  go_ret
  refine ⟨?_, gb_alloc (gb_refl _ _) _⟩
  refine congrArg (fun b : UInt8 => Ending.returned (Value.int .u8 (b.toNat : Nat))) ?_
  have e : (min (n : Int) (↑(List.length r.wants) + ↑(List.length r.may) - 1)).toNat = min n ((r.wants ++ r.may).length - 1) := by omega
  simp only [ba_app, e, ba_get, lett]
theorem plain_take (s : Bs) (k : Nat) (hk : k < s.length) : plain (s.take (k + 1)) = (plain (s.take k) && (decide (32 < s.getD k 0) && decide (s.getD k 0 ≠ 127))) := by
  have e : s.take (k + 1) = s.take k ++ [s.getD k 0] := by
    rw [List.take_add_one, List.getElem?_eq_getElem hk]; simp [List.getD, hk]
  rw [e]; simp [plain]
set_option maxHeartbeats 1000000 in
theorem isPlain_44 (s : Bs) (hs : s.length ≤ 4611686018427387904) (w : World) :
    Calls Tryz.prog 136 #[sv s] w fun e w' => e = .returned (.bool (plain s)) ∧ w' = w := by
  go_enter Tryz.func136, Tryz.ntmps136
  go_wp2
  go_loopw [6] (fun v wr => ∃ k : Nat, k ≤ s.length ∧ v = .int .i64 k ∧ wr = w ∧ plain (s.take k) = true) (fun v _ => s.length - (intOf v).toNat)
  case atStart => exact ⟨0, by omega, rfl, rfl, rfl⟩
  case round =>
    obtain ⟨k, hk, rfl, rfl, hp⟩ := hrel
    have hlt : k < s.length ∨ k = s.length := by omega
    rcases hlt with hlt | rfl
    · have d1 : decide ((k : Int) < (s.length : Int)) = true := decide_eq_true (by omega)
      obtain ⟨b, hb⟩ : ∃ b, s.getD k 0 = b := ⟨_, rfl⟩
      have hg : ∀ h : k < (ByteArray.mk s.toArray).size, (ByteArray.mk s.toArray)[k] = b := fun h => (ba_get s k h).trans hb
      have HT := plain_take s k hlt
      have HF : ∀ {x : Bool}, (decide (32 < b) && decide (b ≠ 127)) = false → x = false → x = plain s := by
        rintro x h rfl
        have h2 : plain s = (plain (s.take (k + 1)) && plain (s.drop (k + 1))) := by
          have h3 : plain (s.take (k + 1) ++ s.drop (k + 1)) = (plain (s.take (k + 1)) && plain (s.drop (k + 1))) := List.all_append
          rwa [List.take_append_drop] at h3
        rw [h2, HT, hb, h]; simp
      rw [hb, hp] at HT
      clear hp hb
      go_wp2
      · rename_i h1 h2
        go_ret
        refine ⟨congrArg (fun b => Ending.returned (Value.bool b)) (HF ?_ rfl), rfl⟩
        rcases h2 with h2 | h2
        · omega
        · have : b = 127 := by apply UInt8.toNat_inj.1; have := beq_iff_eq.1 h2; show b.toNat = 127; omega
          subst this; rfl
      · rename_i h1 h2
        refine ⟨⟨k + 1, by omega, by simp, trivial, ?_⟩, by simp [intOf]; omega⟩
        rw [HT]
        have h3 : 32 < b := UInt8.lt_iff_toNat_lt.2 (by have e : (32 : UInt8).toNat = 32 := rfl; omega)
        have h4 : b ≠ 127 := by rintro rfl; simp at h2
        simp [h3, h4]
      · rename_i h1
        go_ret
        refine ⟨congrArg (fun b => Ending.returned (Value.bool b)) (HF ?_ rfl), rfl⟩
        have h3 : ¬ 32 < b := fun h => by have : (32 : UInt8).toNat < b.toNat := UInt8.lt_iff_toNat_lt.1 h; have e : (32 : UInt8).toNat = 32 := rfl; omega
        simp [h3]
    · have d1 : decide ((s.length : Int) < (s.length : Int)) = false := decide_eq_false (by omega)
      rw [List.take_length] at hp
      go_wp2
      go_ret
      exact ⟨by rw [hp]; rfl, rfl⟩
end Go.Proofs.YtbbocbdoiealoaaGreatDoor
