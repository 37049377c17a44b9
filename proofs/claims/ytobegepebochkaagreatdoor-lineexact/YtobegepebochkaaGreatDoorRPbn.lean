import Derived.Test.YtobegepebochkaaGreatDoorRBh
import Derived.Test.YtobegepebochkaaGreatDoorRBi
import Derived.Test.YtobegepebochkaaGreatDoorRPat
import Derived.Lib.SlBytesConst
import Derived.Maps.RangeRun
import Derived.Shelf.Strings.OnBuilder
import Derived.Lib.ConvBytes
import Derived.Test.YtobegepebochkaaGreatDoorRPar
import Derived.Test.YtobegepebochkaaGreatDoorRPaa
import Derived.Test.YtobegepebochkaaGreatDoorRPaw
set_option linter.unusedVariables false
set_option linter.unusedSimpArgs false
set_option maxRecDepth 100000
set_option maxHeartbeats 16000000
namespace Go.Proofs.YtobegepebochkaaGreatDoor
open Go.RowKit
theorem Kd.other {w w' : World} {bb : Nat} {A : Array Value} {F G : Nat -> Prop} {eO eI fO fI : TypeId} {s r : Nat} {hv wv hu wu : Value} {KV KW JV JW : Nat} {V W U X : Nat -> Value} {N M : Nat -> Nat} {D E : Nat -> List Value} (h : Kd w F eO eI s hv wv KV KW V W N D) (g : Kd w G fO fI r hu wu JV JW U X M E) (hb : Box w 31 bb A) (hk : Kp (fun k => k = bb \/ G k) w w') (n1 : 31 ≠ eO) (n2 : 31 ≠ eI) (n3 : fO ≠ eO) (n4 : fO ≠ eI) (n5 : fI ≠ eO) (n6 : fI ≠ eI) : Kd w' F eO eI s hv wv KV KW V W N D :=
  h.same (fun k h1 => hk.block k (h.fl k h1) (by
    rintro (rfl | h2)
    . exact h.not hb n1 n2 h1
    . obtain ⟨c, h3 | h3⟩ := g.ft k h2
      . exact h.not h3 n3 n4 h1
      . exact h.not h3 n5 n6 h1))
section
variable {s0 : Value} {w : World} {bb : Nat} {FB : Nat -> Prop} {K : Nat}
end
end Go.Proofs.YtobegepebochkaaGreatDoor
namespace Go.Proofs.YtobegepebochkaaGreatDoor
open Go.RowKit Go.Maps
theorem takeL_len (r : Rw) : ∀ (ws : List Bs) (i : Nat) (c d : Cmd), takeL r i c ws = .inl d -> d.keys.length <= c.keys.length + ws.length /\ d.mt.length <= c.mt.length + ws.length
  | [], i, c, d, h => by
    simp only [takeL] at h
    injection h with h
    subst h
    exact ⟨by simp, by simp⟩
  | x :: ws, i, c, d, h => by
    simp only [takeL] at h
    cases h1 : take1 c (lett r i) x with
    | inr e => rw [h1] at h; cases h
    | inl d1 =>
      rw [h1] at h
      have h2 := takeL_len r ws (i + 1) d1 d h
      have h3 := take1_len h1
      simp only [List.length_cons]
      omega
theorem readS_len {r : Rw} {ws : List Bs} {c : Cmd} (h : readS r ws = .inl c) : c.keys.length <= ws.length /\ c.mt.length <= ws.length := by
  simp only [readS] at h
  have hv : (if qt r ws then ws.dropLast else ws).length <= ws.length := by split <;> simp
  generalize (if qt r ws then ws.dropLast else ws) = vs at h hv
  split at h
  . cases h1 : takeL r 0 (cmd0 r.verb (qt r ws)) vs with
    | inr e => rw [h1] at h; simp only [fin] at h; cases h
    | inl d =>
      rw [h1] at h
      simp only [fin] at h
      have h2 := takeL_len r vs 0 _ d h1
      split at h
      . injection h with h
        subst h
        simp only [cmd0, List.length_nil] at h2
        omega
      . cases h
  . cases h
theorem lineS_len {l : Bs} {c : Cmd} {n : Int} (h : lineS l = .inl (c, n)) : c.keys.length <= 2049 /\ c.mt.length <= 2049 /\ l.length <= 2048 := by
  unfold lineS at h
  split at h
  . cases h
  . rename_i hl
    have h1 := spl_lenY l []
    cases hs : spl [] l with
    | nil => rw [hs] at h; cases h
    | cons x ws =>
      rw [hs] at h h1
      simp only [List.length_cons] at h1
      simp only at h
      cases hr : rowS x with
      | none => rw [hr] at h; cases h
      | some r =>
        rw [hr] at h
        simp only at h
        cases hd : readS r ws with
        | inr e => rw [hd] at h; cases h
        | inl d =>
          rw [hd] at h
          simp only at h
          injection h with h
          injection h with h _
          subst h
          have h2 := readS_len hd
          omega
def Sl (w : World) (v : Value) (l : Bs) : Prop := (∃ a c, v = .slice a l.length c) /\ l.length <= 140737488355328
theorem Sl.shape {w : World} {v : Value} {l : Bs} (h : Sl w v l) : ∃ a c, v = .slice a l.length c := h.1
theorem Sl.len {w : World} {v : Value} {l : Bs} (h : Sl w v l) : l.length <= 140737488355328 := h.2
theorem rline_longX {w : World} (v : Value) (l : Bs) (hB : Sl w v l) (hl : 2048 < l.length) : Calls Tryz.prog 13 #[v] w fun e w' => DLn l w e w' := by
  have hd : dlineS l = .inr (2, tooLong, -1) := by unfold dlineS; rw [if_pos hl]
  have hlen := hB.len
  obtain ⟨a, c, rfl⟩ := hB.shape
  have hrs := rs_new w
  have d1 : (2048 : Int) < l.length := by omega
  go_enter Tryz.func13, Tryz.ntmps13
  go_upto_region 1 with (fail)
  generalize (w.alloc (.cells Z41 41)).alloc (.cells Z43 43) = X at *
  have h55 := wrong_55 tooLong (-1) X
  have hs := hrs.s
  clear hB hlen hl
  go_wp2_with (first
    | (go_at_call 55; go_must ((with_reducible refine h55.mono ?_); rintro e X5 ⟨rfl, hg5⟩; have r5 := hrs.kept hg5))
    | (refine atS 41 w.heap.size 0 rfl rfl ?_; go_must (refine storeT 41 11 size41 rfl _ _ rfl 41 w.heap.size 0 _ r5.b (by simp) rfl _ rfl rfl (by simp [Value.oneCell']) ?_); intro X6 b6 g6; (have k6 := Box.kept r5.k g6 (by simp)))
    | (refine atS 43 (w.heap.size + 1) 0 rfl rfl ?_; go_must (refine storeT 43 3 size43 rfl _ _ rfl 43 (w.heap.size + 1) 0 _ k6 (by simp) rfl _ rfl rfl (by simp [Value.oneCell']) ?_); intro X7 k7 g7; (have b7 := Box.kept b6 g7 (by simp))))
  rw [show sets Z41 0 (#[.int .i64 0, .slice none 0 0, .int .u64 0, .int .i64 0, .int .u64 0, .int .u64 0, .slice none 0 0, .bool false, .bool false, .slice none 0 0, .string ⟨#[]⟩] : Array Value).toList = #[.int .i64 0, .slice none 0 0, .int .u64 0, .int .i64 0, .int .u64 0, .int .u64 0, .slice none 0 0, .bool false, .bool false, .slice none 0 0, .string ⟨#[]⟩] from sets_41 _ _ _ _ _ _ _ _ _ _ _ _ _ _ _ _ _ _ _ _ _ _] at b7
  rw [show sets Z43 0 (#[.int .i64 (2), sv (tooLong), .int .i64 (-1)] : Array Value).toList = #[.int .i64 (2), sv (tooLong), .int .i64 (-1)] from sets_43 _ _ _ _ _ _] at k7
  have G7 : w.grownBy X7 none := gb_mine (gb_mine r5.g g6 (Nat.le_refl _)) g7 (by omega)
  exact ⟨rfl, _, res13 b7 k7 _ rfl rfl rfl, .inr ⟨2, tooLong, -1, hd, rfl⟩, G7⟩
theorem ck_sl {w : World} {X : Nat -> Prop} {v : Value} {l : Bs} (h : Ck w X v l) (hl : l.length <= 140737488355328) : Sl w v l := by
  obtain ⟨a, n, c, rfl, rfl⟩ := h.slice
  exact ⟨⟨a, c, rfl⟩, hl⟩
theorem ck_by {w : World} {X : Nat -> Prop} {v : Value} {l : Bs} (h : Ck w X v l) (hl : l.length <= 1099511627776) : By w v l := by
  rcases h with ⟨rfl, rfl⟩ | ⟨g, o, c, rfl, _, _, h3, _, h4⟩
  . exact .inl ⟨rfl, _, _, rfl⟩
  . exact .inr ⟨g, o, c, rfl, hl, h3, h4⟩
theorem rline_any {w : World} {X : Nat -> Prop} (v : Value) (l : Bs) (h : Ck w X v l) (hl : l.length <= 140737488355328) : Calls Tryz.prog 13 #[v] w fun e w' => LnP l w e w' := by
  by_cases h1 : 2048 < l.length
  . refine (rline_longX v l (ck_sl h hl) h1).mono fun e w' he => ?_
    obtain ⟨h1, h2⟩ := he
    rw [dline_eq] at h1
    refine ⟨?_, h2⟩
    rcases h1 with ⟨c, n, kv, mv, ha, hb, hk⟩ | ⟨k, t, p, ha, hb⟩
    . exact .inl ⟨c, n, kv, mv, ha, hb, hk.k, hk.m⟩
    . exact .inr ⟨k, t, p, ha, hb⟩
  . exact rline_13 v l (ck_by h (by omega))
end Go.Proofs.YtobegepebochkaaGreatDoor
namespace Go.Proofs.YtobegepebochkaaGreatDoor
open Go.RowKit Go.Maps
def Bw (w : World) (v : Value) (l : Bs) : Prop := Ck w (fun _ => False) v l \/ (l = [] /\ ∃ a c, v = .slice (some a) 0 c)
theorem Bw.kept {w w' : World} {v : Value} {l : Bs} (h : Bw w v l) (hg : w.grownBy w' none) : Bw w' v l := by
  rcases h with h | h
  . exact .inl (h.kp (Kp.of (F := fun _ => False) hg) (fun _ _ h => h.elim) (fun _ _ h => h.elim))
  . exact .inr h
theorem Bw.slice {w : World} {v : Value} {l : Bs} (h : Bw w v l) : ∃ a n c, v = .slice a n c /\ n = l.length := by
  rcases h with h | ⟨rfl, a, c, rfl⟩
  . exact h.slice
  . exact ⟨_, _, _, rfl, rfl⟩
section
variable {w : World} {ops : Array Oper} {rest : List Oper} {o : Oper} {a : Act} {Q : Exit -> Act -> World -> Prop}
theorem moreW (hgd : o.guard = none) (s x : Operand) (ho : o.op = .call { callee := .builtin .append, args := #[s, x], argTypes := #[38, 38] })
    (B : Nat) (v : Value) (n : Nat) (xs : List Value) (hs : a.eval s = v) (hown : w.ownsRow B 5 1 v n xs) (xv : Value) (l : Bs) (hx : a.eval x = xv) (hc : Bw w xv l) (hn : n + l.length <= 140737488355328) (hB : B <= w.heap.size)
    (h : ∀ v' w', w'.ownsRow B 5 1 v' (n + l.length) (xs ++ l.map b8) -> w.grownBy w' v.ownBlock -> wpList Tryz.prog ops Q rest (a.put o.dst v') w') : wpList Tryz.prog ops Q (o :: rest) a w := by
  rcases hc with hc | ⟨rfl, a', c', rfl⟩
  . exact moreC hgd s x ho B v n xs hs hown _ xv l hx hc hn hB h
  . obtain ⟨ti, T⟩ := ty_38
    have hrun := run_psh0 T w o.type B v n xs hown (.slice (some a') 0 c') ⟨_, _, rfl⟩
    refine wpList_plain hgd fun K hK => ?_
    unfold Oper.wp
    simp [execOp, ho, resolve, invoke, builtin, hs, hx, hrun, Result.andThen]
    exact hK _ _ (h v w (by simpa using hown) (gb_refl _ _))
end
def an (l : Bs) : Cmd × Int × Int × Bs × Int := match lineS l with
  | .inl (c, n) => (c, n, 0, [], 0)
  | .inr (k, t, p) => (cmd0 0 false, -1, k, t, p)
def LnU (l : Bs) (w : World) (e : Ending) (w' : World) : Prop :=
  ∃ ka kc ma mc, e = .returned (.tuple #[.agg (cmA (an l).1 (.slice ka (an l).1.keys.length kc) (.slice ma (an l).1.mt.length mc)), .int .i64 (an l).2.1, .agg #[.int .i64 (an l).2.2.1, sv (an l).2.2.2.1, .int .i64 (an l).2.2.2.2]]) /\ w'.ownsRow w.heap.size 9 1 (.slice ka (an l).1.keys.length kc) (an l).1.keys.length ((an l).1.keys.map sv) /\ w'.ownsRow w.heap.size 79 3 (.slice ma (an l).1.mt.length mc) (an l).1.mt.length (fcs (an l).1.mt) /\ w.grownBy w' none
theorem LnU.of {l : Bs} {w w' : World} {e : Ending} (h : LnP l w e w') : LnU l w e w' := by
  obtain ⟨h1, hg⟩ := h
  rcases h1 with ⟨c, n, kv, mv, hl, rfl, hk, hm⟩ | ⟨k, t, p, hl, rfl⟩
  . obtain ⟨ka, kc, rfl, _⟩ := row_shape hk
    obtain ⟨ma, mc, rfl, _⟩ := row_shape hm
    refine ⟨ka, kc, ma, mc, ?_⟩
    simp only [an, hl]
    first | exact ⟨rfl, hk, hm, hg⟩ | exact ⟨trivial, hk, hm, hg⟩
  . refine ⟨none, 0, none, 0, ?_⟩
    simp only [an, hl]
    first | exact ⟨rfl, ⟨rfl, .inl ⟨rfl, rfl⟩⟩, ⟨rfl, .inl ⟨rfl, rfl⟩⟩, hg⟩ | exact ⟨trivial, ⟨rfl, .inl ⟨rfl, rfl⟩⟩, ⟨rfl, .inl ⟨rfl, rfl⟩⟩, hg⟩
def Rb (w : World) (a : Option Addr) (ls : List Bs) : Prop :=
  0 < ls.length -> ∃ g o, a = some ⟨g, o, none⟩ /\ ∀ i l, ls[i]? = some l -> ∃ u, w.cell? ⟨g, o + i, none⟩ = some u /\ Bw w u l /\ l.length <= 140737488351232
end Go.Proofs.YtobegepebochkaaGreatDoor
namespace Go.Proofs.YtobegepebochkaaGreatDoor
open Go.RowKit Go.Maps
def nxL : Bs -> Nat -> Int
  | [], _ => -1
  | b :: t, i => if b = 10 then (i : Int) else nxL t (i + 1)
theorem nxL_no : ∀ (r : Bs) (i : Nat), (10 : UInt8) ∉ r -> nxL r i = -1
  | [], i, h => rfl
  | b :: t, i, h => by
    simp only [List.mem_cons, not_or] at h
    rw [nxL, if_neg (fun e => h.1 e.symm), nxL_no t (i + 1) h.2]
theorem nxL_yes : ∀ (p t : Bs) (i : Nat), (10 : UInt8) ∉ p -> nxL (p ++ 10 :: t) i = ((i + p.length : Nat) : Int)
  | [], t, i, h => by simp [nxL]
  | b :: p, t, i, h => by
    simp only [List.mem_cons, not_or] at h
    rw [List.cons_append, nxL, if_neg (fun e => h.1 e.symm), nxL_yes p t (i + 1) h.2]
    simp only [List.length_cons]
    congr 1
    omega
theorem nxL_le : ∀ (r : Bs) (i : Nat), i + r.length <= 2199023255552 -> nxL r i <= 2199023255552 /\ -1 <= nxL r i
  | [], i, h => by simp [nxL]
  | b :: t, i, h => by
    simp only [List.length_cons] at h
    rw [nxL]
    split
    . omega
    . exact nxL_le t (i + 1) (by omega)
theorem drop_at {raw : Bs} {i : Nat} (h : i < raw.length) : ∃ b, raw[i]? = some b /\ raw.drop i = b :: raw.drop (i + 1) := ⟨raw[i], List.getElem?_eq_getElem h, List.drop_eq_getElem_cons h⟩
theorem Ck.at' {w : World} {X : Nat -> Prop} {a : Option Addr} {n c : Nat} {l : Bs} (h : Ck w X (.slice a n c) l) {i : Nat} {x : UInt8} (hi : l[i]? = some x) : ∃ g o, a = some ⟨g, o, none⟩ /\ w.cell? ⟨g, o + i, none⟩ = some (b8 x) := by
  rcases h with ⟨rfl, _⟩ | ⟨g, o, c', e, _, _, _, _, h⟩
  . simp at hi
  . injection e with e1 e2 e3
    exact ⟨g, o, e1, h i x hi⟩
theorem next_116 {w : World} {X : Nat -> Prop} {a : Option Addr} {c : Nat} {raw : Bs} (hv : Ck w X (.slice a raw.length c) raw) (hl : raw.length <= 1099511627776) (at_ : Nat) (hat : at_ <= raw.length) :
    Calls Tryz.prog 116 #[.slice a raw.length c, .int .i64 at_] w fun e w' => e = .returned (.int .i64 (nxL (raw.drop at_) at_)) /\ w' = w := by
  generalize hR : nxL (raw.drop at_) at_ = R
  obtain ⟨n, hn⟩ : ∃ n, raw.length = n := ⟨_, rfl⟩
  have HV : Hid _ := hv
  rw [hn] at hat hl ⊢
  clear hv
  go_enter Tryz.func116, Tryz.ntmps116
  go_wp2
  go_loopw [5] (fun x wr => ∃ i : Nat, i <= n /\ x = .int .i64 i /\ nxL (raw.drop i) i = R /\ wr = w) (fun x _ => n - (intOf x).toNat)
  case atStart => exact ⟨at_, hat, rfl, hR, rfl⟩
  case round =>
    clear hR
    obtain ⟨i, hi, rfl, hR, hw⟩ := hrel
    subst hw
    by_cases hlt : i < n
    . obtain ⟨b, hb, hd⟩ := drop_at (raw := raw) (i := i) (by omega)
      obtain ⟨g, o, rfl, hc⟩ := Ck.at' HV.out hb
      rw [hd, nxL] at hR
      have d1 : ((i : Int) < (n : Int)) := by omega
      have HR : Hid _ := hR
      clear hR hd hb
      by_cases hb10 : b = 10
      . subst hb10
        have hc' : wr.cell? ⟨g, o + i, none⟩ = some (.int .u8 10) := hc
        clear hc
        go_wp2
        go_ret
        have h9 : (i : Int) = R := by simpa using HR.out
        subst h9
        first | exact ⟨rfl, rfl⟩ | simp
      . have hne : ¬ (b.toNat : Int) = 10 := fun e => hb10 (UInt8.toNat_inj.1 (by show b.toNat = 10; omega))
        have hne2 : ¬ b.toNat = 10 := fun e => hne (by omega)
        have hd1 : ((b.toNat : Int) == 10) = false := by simpa using hne
        have hd0 : (b.toNat == 10) = false := by simpa using hne2
        have hd2 : decide ((b.toNat : Int) = 10) = false := decide_eq_false hne
        have hd3 : decide (b.toNat = 10) = false := decide_eq_false hne2
        go_wp2
        have h9 : nxL (List.drop (i + 1) raw) (i + 1) = R := by simpa [hb10] using HR.out
        exact ⟨⟨i + 1, by omega, by go_num, h9, trivial⟩, by simp [intOf]; omega⟩
    . obtain rfl : i = n := by omega
      have hR' : R = -1 := by rw [<- hR, List.drop_eq_nil_of_le (by omega)]; rfl
      subst hR'
      clear hR
      go_wp2
      go_ret
      exact ⟨rfl, rfl⟩
def blkT (r : Bs) (e : Nat) : Int := if nxL r e < 0 then -1 else nxL r e + 1
def blkG : Bs -> Bool
  | 13 :: 10 :: _ => true
  | _ => false
theorem block_117 {w : World} {X : Nat -> Prop} {a : Option Addr} {c : Nat} {raw : Bs} (hv : Ck w X (.slice a raw.length c) raw) (hl : raw.length <= 1099511627776) (at_ m : Nat) (hm : at_ + m <= 2199023255552) :
    Calls Tryz.prog 117 #[.slice a raw.length c, .int .i64 at_, .int .i64 m] w fun e w' => e = .returned (.tuple #[.int .i64 (blkT (raw.drop (at_ + m)) (at_ + m)), .bool (blkG (raw.drop (at_ + m)))]) /\ w' = w := by
  obtain ⟨E, hE⟩ : ∃ E, at_ + m = E := ⟨_, rfl⟩
  have hsum : (at_ : Int) + (m : Int) = (E : Int) := by omega
  have hwr : IntKind.i64.wrap (E : Int) = (E : Int) := by rw [IntKind.wrap_i64]; omega
  have hwr1 : IntKind.i64.wrap ((E : Int) + 1) = (E : Int) + 1 := by rw [IntKind.wrap_i64]; omega
  have hwr2 : IntKind.i64.wrap ((E : Int) + 2) = (E : Int) + 2 := by rw [IntKind.wrap_i64]; omega
  rw [hE] at hm ⊢
  have h116 : E <= raw.length -> Calls Tryz.prog 116 #[.slice a raw.length c, .int .i64 E] w fun e w' => e = .returned (.int .i64 (nxL (raw.drop E) E)) /\ w' = w := fun h => next_116 hv hl E h
  have hat : ∀ {i : Nat} {x : UInt8}, raw[i]? = some x -> ∃ g o, a = some ⟨g, o, none⟩ /\ w.cell? ⟨g, o + i, none⟩ = some (b8 x) := fun h => hv.at' h
  obtain ⟨n, hn⟩ : ∃ n, raw.length = n := ⟨_, rfl⟩
  have hnext : ∀ r, raw.drop E = r -> (r = [] -> n <= E) := fun r hr h0 => by
    have := congrArg List.length hr
    rw [List.length_drop, h0, hn] at this
    simp at this
    omega
  have hg : ∀ k, raw[E + k]? = (raw.drop E)[k]? := fun k => by rw [List.getElem?_drop]
  rw [hn] at hl h116 ⊢
  clear hv
  have hlen : (raw.drop E).length = n - E := by rw [List.length_drop, hn]
  generalize raw.drop E = r at *
  rcases r with _ | ⟨b0, r1⟩
  . -- nothing is there
    have hge : n <= E := hnext [] rfl rfl
    have hgi : ((n : Int) <= (E : Int)) := by omega
    clear h116 hat hg hnext
    go_enter Tryz.func117, Tryz.ntmps117
    go_wp2
    go_ret2
    exact ⟨rfl, rfl⟩
  . have hlt : E < n := by simp at hlen; omega
    obtain ⟨g, o, rfl, c0⟩ := hat (i := E) (x := b0) (by have := hg 0; simpa using this)
    have h1 := h116 (by omega)
    have hgi : ¬ ((n : Int) <= (E : Int)) := by omega
    have hgj : (E : Int) < (n : Int) := by omega
    clear h116 hnext
    by_cases hb : b0 = 13
    . subst hb
      have c0' : w.cell? ⟨g, o + E, none⟩ = some (.int .u8 13) := c0
      clear c0
      rcases r1 with _ | ⟨b1, r2⟩
      . have hl2 : n = E + 1 := by simp at hlen; omega
        have hge : ((n : Int) <= (E : Int) + 1) := by omega
        clear h1 hat hg
        go_enter Tryz.func117, Tryz.ntmps117
        go_wp2
        go_ret2
        exact ⟨rfl, rfl⟩
      . have hl2 : E + 1 < n := by simp at hlen; omega
        have hge : ¬ ((n : Int) <= (E : Int) + 1) := by omega
        have hgk : (E : Int) + 1 < (n : Int) := by omega
        obtain ⟨g', o', e', c1⟩ := hat (i := E + 1) (x := b1) (by have := hg 1; simpa using this)
        injection e' with e'
        injection e' with e1 e2
        subst e1 e2
        by_cases hb1 : b1 = 10
        . subst hb1
          have c1' : w.cell? ⟨g, o + (E + 1), none⟩ = some (.int .u8 10) := c1
          clear h1 hat hg c1
          go_enter Tryz.func117, Tryz.ntmps117
          go_wp2
          go_ret2
          refine ⟨?_, rfl⟩
          have : blkT (13 :: 10 :: r2) E = (E : Int) + 2 := by
            simp [blkT, nxL]
            omega
          rw [this]
          rfl
        . have hne : ¬ (b1.toNat : Int) = 10 := fun e => hb1 (UInt8.toNat_inj.1 (by show b1.toNat = 10; omega))
          have hne2 : ¬ b1.toNat = 10 := fun e => hne (by omega)
          have hd1 : ((b1.toNat : Int) == 10) = false := by simpa using hne
          have hd0 : (b1.toNat == 10) = false := by simpa using hne2
          have hd2 : decide ((b1.toNat : Int) = 10) = false := decide_eq_false hne
          have hG : blkG (13 :: b1 :: r2) = false := by
            unfold blkG
            split
            . rename_i h
              injection h with _ h
              injection h with h _
              exact absurd h hb1
            . rfl
          have hT : blkT (13 :: b1 :: r2) E = if nxL (13 :: b1 :: r2) E < 0 then -1 else nxL (13 :: b1 :: r2) E + 1 := rfl
          rw [hG, hT]
          have hb40 : nxL (13 :: b1 :: r2) E <= 2199023255552 /\ -1 <= nxL (13 :: b1 :: r2) E := nxL_le _ _ (by simp only [List.length_cons] at hlen ⊢; omega)
          generalize nxL (13 :: b1 :: r2) E = N at *
          clear hat hg hG hT
          by_cases hN : N < 0
          . rw [if_pos hN]
            go_enter Tryz.func117, Tryz.ntmps117
            go_wp2_with (go_at_call 116; go_must ((with_reducible refine h1.mono ?_); rintro e w1 ⟨rfl, hw1⟩; (have hw2 := hw1.symm); subst hw2))
            go_ret2
            exact ⟨rfl, rfl⟩
          . rw [if_neg hN]
            have hwN : IntKind.i64.wrap (N + 1) = N + 1 := by rw [IntKind.wrap_i64]; omega
            have hN0 : 0 <= N := by omega
            go_enter Tryz.func117, Tryz.ntmps117
            go_wp2_with (go_at_call 116; go_must ((with_reducible refine h1.mono ?_); rintro e w1 ⟨rfl, hw1⟩; (have hw2 := hw1.symm); subst hw2))
            go_ret2
            exact ⟨rfl, rfl⟩
    . have hne : ¬ (b0.toNat : Int) = 13 := fun e => hb (UInt8.toNat_inj.1 (by show b0.toNat = 13; omega))
      have hne2 : ¬ b0.toNat = 13 := fun e => hne (by omega)
      have hd1 : ((b0.toNat : Int) == 13) = false := by simpa using hne
      have hd0 : (b0.toNat == 13) = false := by simpa using hne2
      have hd2 : decide ((b0.toNat : Int) = 13) = false := decide_eq_false hne
      have hG : blkG (b0 :: r1) = false := by
        unfold blkG
        split
        . rename_i h
          injection h with h _
          exact absurd h hb
        . rfl
      have hT : blkT (b0 :: r1) E = if nxL (b0 :: r1) E < 0 then -1 else nxL (b0 :: r1) E + 1 := rfl
      rw [hG, hT]
      have hb40 : nxL (b0 :: r1) E <= 2199023255552 /\ -1 <= nxL (b0 :: r1) E := nxL_le _ _ (by simp only [List.length_cons] at hlen ⊢; omega)
      generalize nxL (b0 :: r1) E = N at *
      clear hat hg hG hT
      by_cases hN : N < 0
      . rw [if_pos hN]
        go_enter Tryz.func117, Tryz.ntmps117
        go_wp2_with (go_at_call 116; go_must ((with_reducible refine h1.mono ?_); rintro e w1 ⟨rfl, hw1⟩; (have hw2 := hw1.symm); subst hw2))
        go_ret2
        exact ⟨rfl, rfl⟩
      . rw [if_neg hN]
        have hwN : IntKind.i64.wrap (N + 1) = N + 1 := by rw [IntKind.wrap_i64]; omega
        have hN0 : 0 <= N := by omega
        go_enter Tryz.func117, Tryz.ntmps117
        go_wp2_with (go_at_call 116; go_must ((with_reducible refine h1.mono ?_); rintro e w1 ⟨rfl, hw1⟩; (have hw2 := hw1.symm); subst hw2))
        go_ret2
        exact ⟨rfl, rfl⟩
end Go.Proofs.YtobegepebochkaaGreatDoor
namespace Go.Proofs.YtobegepebochkaaGreatDoor
open Go.RowKit Go.Shelf
abbrev c1 : Cmd := ⟨5, [[97]], 5, 0, 0, 0, false, [], []⟩
abbrev c3 : Cmd := ⟨1, [[97], [98]], 0, 0, 0, 0, false, [], []⟩
end Go.Proofs.YtobegepebochkaaGreatDoor
namespace Go.Proofs.YtobegepebochkaaGreatDoor
open Go.RowKit Go.Maps
theorem zz_new (w : World) : Box ((w.alloc (.cells Z41 41)).alloc (.cells Z43 43)) 41 w.heap.size Z41 /\ Box ((w.alloc (.cells Z41 41)).alloc (.cells Z43 43)) 43 (w.heap.size + 1) Z43 /\ w.grownBy ((w.alloc (.cells Z41 41)).alloc (.cells Z43 43)) none := by
  have g1 := gb_alloc (gb_refl (w.alloc (.cells Z41 41)) none) (.cells Z43 43)
  refine ⟨(Box.new w 41 Z41).kept g1 (by simp), ?_, gb_trans (gb_alloc (gb_refl w none) _) g1⟩
  have := Box.new (w.alloc (.cells Z41 41)) 43 Z43
  simp only [World.size_alloc] at this
  exact this
end Go.Proofs.YtobegepebochkaaGreatDoor
