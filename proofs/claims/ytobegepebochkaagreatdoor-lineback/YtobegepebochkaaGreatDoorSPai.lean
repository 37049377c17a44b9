import Derived.Test.YtobegepebochkaaGreatDoorSTa
import Derived.Lib.BytesEntry
import Derived.Test.YtobegepebochkaaGreatDoorSF
set_option linter.unusedVariables false
set_option linter.unusedSimpArgs false
namespace Go.Proofs.YtobegepebochkaaGreatDoor
open Go.RowKit
def fl (limit at_ : Nat) : Fd := ⟨limit, at_, false, at_, [], 0, 0, stp0, 0⟩
theorem run_free : ∀ (l : Bs) {F : Fd}, F.st = 0 → ¬ 2048 < (trim F.kept).length → (10 : UInt8) ∉ l →
    F.run l = (if 2048 < (trim (F.kept ++ l)).length then ((F.tk l.length).put l).pass (stpW 2 tooLong (-1)) 0 else (F.tk l.length).put l, [])
  | [], F, h, h0, hn => by
    rw [List.append_nil, if_neg h0]
    simp [Fd.run, Fd.tk, Fd.put]
  | b :: t, F, h, h0, hn => by
    have hb : b ≠ 10 := fun e => hn (by simp [e])
    have ht : (10 : UInt8) ∉ t := fun e => hn (by simp [e])
    have hc : F.kept ++ b :: t = (F.kept ++ [b]) ++ t := by simp
    by_cases h1 : 2048 < (trim (F.kept ++ [b])).length
    · have h2 : F.fb b = (((F.tk 1).put [b]).pass (stpW 2 tooLong (-1)) 0, []) := by simp only [Fd.fb, h, hb, h1, if_true, if_false]
      have h3 := run_skip t (F := ((F.tk 1).put [b]).pass (stpW 2 tooLong (-1)) 0) rfl rfl ht
      have h4 := (trim_len (F.kept ++ [b])).2
      have h5 : 2048 < (trim (F.kept ++ b :: t)).length := by
        cases t with
        | nil => exact h1
        | cons c t =>
          have := (trim_len (F.kept ++ b :: c :: t)).1
          simp at this h4 ⊢
          omega
      rw [if_pos h5]
      simp only [Fd.run, h2, h3, List.nil_append, List.length_cons]
      simp [Fd.tk, Fd.put, Fd.pass]
      omega
    · have h2 : F.fb b = ((F.tk 1).put [b], []) := by simp only [Fd.fb, h, hb, h1, if_true, if_false]
      have h3 := run_free t (F := (F.tk 1).put [b]) h h1 ht
      have e1 : ((F.tk 1).put [b]).kept ++ t = F.kept ++ b :: t := by simp [Fd.put, Fd.tk]
      have e2 : (((F.tk 1).put [b]).tk t.length).put t = (F.tk (t.length + 1)).put (b :: t) := by simp [Fd.put, Fd.tk]; omega
      rw [e1, e2] at h3
      simp only [Fd.run, h2, h3, List.nil_append, List.length_cons]
theorem run_free_end {F : Fd} (h : F.st = 0) (h0 : ¬ 2048 < (trim F.kept).length) (l : Bs) (hn : (10 : UInt8) ∉ l) :
    F.run (l ++ [10]) = Fd.end1 ((F.tk (l.length + 1)).put (l ++ [10])).rd := by
  rw [Fd.run_app, run_free l h h0 hn]
  have e1 : ((F.tk (l.length + 1)).put (l ++ [10])).kept.dropLast = F.kept ++ l := by
    show (F.kept ++ (l ++ [10])).dropLast = _
    rw [← List.append_assoc, List.dropLast_concat]
  by_cases h1 : 2048 < (trim (F.kept ++ l)).length
  · have h2 := run_skip_end (F := ((F.tk l.length).put l).pass (stpW 2 tooLong (-1)) 0) rfl rfl [] (by simp)
    simp only [List.nil_append] at h2
    rw [if_pos h1]
    simp only [h2]
    have h3 : ((F.tk (l.length + 1)).put (l ++ [10])).rd = ({ (F.tk (l.length + 1)).put (l ++ [10]) with head := ((F.tk (l.length + 1)).put (l ++ [10])).kept.length, s := stpW 2 tooLong (-1) }, true) := by
      unfold Fd.rd
      rw [e1, lineS_long h1]
      simp
    rw [h3]
    rfl
  · rw [if_neg h1]
    have e2 : ((F.tk l.length).put l).fb 10 = Fd.end1 ((F.tk (l.length + 1)).put (l ++ [10])).rd := by
      have h4 : ((F.tk l.length).put l).st = 0 := h
      have h5 : (((F.tk l.length).put l).tk 1).put [10] = (F.tk (l.length + 1)).put (l ++ [10]) := by simp [Fd.put, Fd.tk, Nat.add_assoc]
      simp [Fd.fb, h4, h5]
    simp [Fd.run, e2]
abbrev lnF (limit at_ : Nat) (p : Bs) : Fd := ((fl limit at_).tk (p.length + 1)).put (p ++ [10])
theorem line_first {limit at_ : Nat} (p : Bs) (h : (10 : UInt8) ∉ p) : (fl limit at_).run (p ++ [10]) = Fd.end1 (lnF limit at_ p).rd :=
  run_free_end (F := fl limit at_) rfl (by simp [fl, trim]) p h
theorem run_await {F : Fd} {b : Bs} (n : Nat) (hb : b.length = n) : (F.await n).run b = ({ (F.tk n).put b with left := 0, st := 2 }, []) := by
  rcases Nat.eq_zero_or_pos n with h0 | h0
  · subst h0
    have := List.length_eq_zero_iff.1 hb
    subst this
    simp [Fd.run, Fd.await, Fd.tk, Fd.put]
  · have hn : n ≠ 0 := by omega
    rw [run_block b (F := F.await n) (by simp [Fd.await, hn]) h0 (by show b.length ≤ n; omega)]
    simp [Fd.await, Fd.tk, Fd.put, hb]
end Go.Proofs.YtobegepebochkaaGreatDoor
namespace Go.Proofs.YtobegepebochkaaGreatDoor
open Go.RowKit
abbrev b8 (b : UInt8) : Value := .int .u8 b.toNat
abbrev stF (st : Nat) : Nat := if st = 0 then 89 else if st = 1 then 171 else if st = 2 then 172 else if st = 3 then 188 else if st = 4 then 158 else 140
abbrev stV (fb st : Nat) : Value := .func (.func (stF st)) #[.pointer (some ⟨fb, 0, none⟩)] #[]
abbrev stpL (s : Stp) (ck cd cm : Value) : List Value := [.int .i64 s.cmd.verb, ck, .int .u64 s.cmd.flags, .int .i64 s.cmd.exp, .int .u64 s.cmd.tok, .int .u64 s.cmd.del, cd, .bool s.cmd.nr, .bool s.large, cm, sv s.cmd.what, .int .i64 s.wk, sv s.wt, .int .i64 s.wp, .int .i64 s.frm, .int .i64 s.to]
abbrev fdA (fb : Nat) (F : Fd) (kv : Value) (hd lf : Int) (ck cd cm : Value) : Array Value :=
  #[.int .i64 F.limit, .int .i64 F.taken, .bool F.ended, .int .i64 F.frm, kv, .int .i64 hd, .int .i64 lf, .int .i64 F.s.cmd.verb, ck, .int .u64 F.s.cmd.flags, .int .i64 F.s.cmd.exp, .int .u64 F.s.cmd.tok, .int .u64 F.s.cmd.del, cd, .bool F.s.cmd.nr, .bool F.s.large, cm, sv F.s.cmd.what, .int .i64 F.s.wk, sv F.s.wt, .int .i64 F.s.wp, .int .i64 F.s.frm, .int .i64 F.s.to, stV fb F.st]
structure StR (w : World) (X : Nat → Prop) (s : Stp) (ck cd cm : Value) : Prop where
  keys : w.ownsRow 0 9 1 ck s.cmd.keys.length (s.cmd.keys.map sv)
  data : w.ownsRow 0 5 1 cd s.data.length (s.data.map b8)
  mt : w.ownsRow 0 79 3 cm s.cmd.mt.length (fcs s.cmd.mt)
  ak : ∀ k, ck.ownBlock = some k → ¬ X k
  ad : ∀ k, cd.ownBlock = some k → ¬ X k
  am : ∀ k, cm.ownBlock = some k → ¬ X k
  nd : s.data = [] → cd = .slice none 0 0
def Ck (w : World) (X : Nat → Prop) (v : Value) (l : Bs) : Prop := (l = [] ∧ v = .slice none 0 0) ∨ ∃ g o c, v = .slice (some ⟨g, o, none⟩) l.length c ∧ l.length ≤ c ∧ c ≤ 9223372036854775807 ∧ g < w.heap.size ∧ ¬ X g ∧ ∀ i x, l[i]? = some x → w.cell? ⟨g, o + i, none⟩ = some (b8 x)
theorem Tryz.info5 : (Tryz.prog.info? 5).map (fun i => (i.zero, i.size, i.bytes)) = some (some (.int .u8 0), 1, 1) := by kernel_rfl
theorem row_kp {F : Nat → Prop} {w w' : World} {B : Nat} {e : TypeId} {s : Nat} {v : Value} {n : Nat} {xs : List Value} (h : w.ownsRow B e s v n xs) (hk : Kp F w w') (hn : ∀ k, v.ownBlock = some k → ¬ F k) : w'.ownsRow B e s v n xs :=
  row_same h fun k hb => by
    obtain ⟨cur, hc⟩ := row_block h k hb
    exact hk.block k (lt_of_block hc) (hn k hb)
theorem row_lt {w : World} {B : Nat} {e : TypeId} {s : Nat} {v : Value} {n : Nat} {xs : List Value} (h : w.ownsRow B e s v n xs) (k : Nat) (hb : v.ownBlock = some k) : k < w.heap.size := by
  obtain ⟨cur, hc⟩ := row_block h k hb
  exact lt_of_block hc
theorem StR.kp {F X Y : Nat → Prop} {w w' : World} {s : Stp} {ck cd cm : Value} (h : StR w X s ck cd cm) (hk : Kp F w w') (hF : ∀ k, k < w.heap.size → F k → X k) (hY : ∀ k, k < w.heap.size → Y k → X k) : StR w' Y s ck cd cm :=
  ⟨row_kp h.keys hk fun k hb hf => h.ak k hb (hF k (row_lt h.keys k hb) hf), row_kp h.data hk fun k hb hf => h.ad k hb (hF k (row_lt h.data k hb) hf), row_kp h.mt hk fun k hb hf => h.am k hb (hF k (row_lt h.mt k hb) hf),
   fun k hb hf => h.ak k hb (hY k (row_lt h.keys k hb) hf), fun k hb hf => h.ad k hb (hY k (row_lt h.data k hb) hf), fun k hb hf => h.am k hb (hY k (row_lt h.mt k hb) hf), h.nd⟩
theorem StR.nil (w : World) (X : Nat → Prop) (s : Stp) (hk : s.cmd.keys = []) (hd : s.data = []) (hm : s.cmd.mt = []) : StR w X s (.slice none 0 0) (.slice none 0 0) (.slice none 0 0) := by
  refine ⟨?_, ?_, ?_, fun k h => by simp [Value.ownBlock] at h, fun k h => by simp [Value.ownBlock] at h, fun k h => by simp [Value.ownBlock] at h, fun _ => rfl⟩
  · rw [hk]; exact World.ownsRow_nil _ _ _ _
  · rw [hd]; exact World.ownsRow_nil _ _ _ _
  · rw [hm]; exact World.ownsRow_nil _ _ _ _
theorem Ck.kp {F X Y : Nat → Prop} {w w' : World} {v : Value} {l : Bs} (h : Ck w X v l) (hk : Kp F w w') (hF : ∀ k, k < w.heap.size → F k → X k) (hY : ∀ k, k < w.heap.size → Y k → X k) : Ck w' Y v l := by
  rcases h with h | ⟨g, o, c, h1, h2, h3, h4, h5, h6⟩
  · exact .inl h
  · refine .inr ⟨g, o, c, h1, h2, h3, Nat.lt_of_lt_of_le h4 hk.size, fun hy => h5 (hY g h4 hy), fun i x hx => ?_⟩
    have h7 := hk.block g h4 (fun hf => h5 (hF g h4 hf))
    have h8 := h6 i x hx
    simpa [World.cell?, h7] using h8
theorem Ck.drop {X : Nat → Prop} {w : World} {g o c : Nat} {l : Bs} (h : Ck w X (.slice (some ⟨g, o, none⟩) l.length c) l) (n : Nat) (hn : n ≤ l.length) : Ck w X (.slice (some ⟨g, o + n, none⟩) (l.length - n) (c - n)) (l.drop n) := by
  rcases h with ⟨_, h⟩ | ⟨g', o', c', h1, h2, h3, h4, h5, h6⟩
  · cases h
  · simp at h1
    obtain ⟨⟨rfl, rfl⟩, rfl⟩ := h1
    refine .inr ⟨g, o + n, c - n, by rw [List.length_drop], by rw [List.length_drop]; omega, by omega, h4, h5, fun i x hx => ?_⟩
    rw [List.getElem?_drop] at hx
    rw [Nat.add_assoc]
    exact h6 _ x hx
theorem Ck.take {X : Nat → Prop} {w : World} {g o c : Nat} {l : Bs} (h : Ck w X (.slice (some ⟨g, o, none⟩) l.length c) l) (n : Nat) (hn : n ≤ l.length) : Ck w X (.slice (some ⟨g, o, none⟩) n c) (l.take n) := by
  rcases h with ⟨_, h⟩ | ⟨g', o', c', h1, h2, h3, h4, h5, h6⟩
  · cases h
  · simp at h1
    obtain ⟨⟨rfl, rfl⟩, rfl⟩ := h1
    refine .inr ⟨g, o, c, by rw [List.length_take, Nat.min_eq_left hn], by rw [List.length_take]; omega, h3, h4, h5, fun i x hx => ?_⟩
    rw [List.getElem?_take] at hx
    split at hx
    · exact h6 i x hx
    · cases hx
theorem Ck.by {X : Nat → Prop} {w : World} {v : Value} {l : Bs} (h : Ck w X v l) (hl : 0 < l.length) : ∃ g o c, v = .slice (some ⟨g, o, none⟩) l.length c ∧ l.length ≤ c ∧ c ≤ 9223372036854775807 ∧ g < w.heap.size ∧ ∀ i x, l[i]? = some x → w.cell? ⟨g, o + i, none⟩ = some (b8 x) := by
  rcases h with ⟨rfl, _⟩ | ⟨g, o, c, h1, h2, h3, h4, h5, h6⟩
  · simp at hl
  · exact ⟨g, o, c, h1, h2, h3, h4, h6⟩
section
variable {w : World} {ops : Array Oper} {rest : List Oper} {o : Oper} {a : Act} {Q : Exit → Act → World → Prop}
theorem more5 (hgd : o.guard = none) (s x : Operand) (ho : o.op = .call { callee := .builtin .append, args := #[s, x], argTypes := #[38, 38] })
    (v : Value) (n : Nat) (xs : List Value) (hs : a.eval s = v) (hown : w.ownsRow 0 5 1 v n xs) (g0 o0 c0 : Nat) (l : Bs) (hx : a.eval x = .slice (some ⟨g0, o0, none⟩) l.length c0) (hl : 0 < l.length) (hc : ∀ i x, l[i]? = some x → w.cell? ⟨g0, o0 + i, none⟩ = some (b8 x)) (hn : n ≤ 4398046511104) (hn2 : l.length ≤ 1099511627776)
    (h : ∀ g cap w', w'.ownsRow 0 5 1 (.slice (some ⟨g, 0, none⟩) (n + l.length) cap) (n + l.length) (xs ++ l.map b8) → w.grownBy w' v.ownBlock → (v.ownBlock = some g ∨ w.heap.size ≤ g) → wpList Tryz.prog ops Q rest (a.put o.dst (.slice (some ⟨g, 0, none⟩) (n + l.length) cap)) w') : wpList Tryz.prog ops Q (o :: rest) a w := by
  obtain ⟨i0, hi, hz0, hz1, hz2⟩ := info_parts Tryz.info5
  refine wpList_plain hgd fun K hK => ?_
  refine wp_append_lies _ s x 38 ho 0 5 i0 _ 1 1 Tryz.underlying38 hi hz0 hz1 hz2 rfl (by omega) v n xs hs hown ⟨g0, o0, none⟩ l.length c0 (l.map b8) hx (by simp) ?_ ?_ hl (by unfold maxLen; omega) (by omega) (by omega) _ rfl ?_
  · intro j u hu
    rw [List.getElem?_map, Option.map_eq_some_iff] at hu
    obtain ⟨y, hj, rfl⟩ := hu
    rw [Addr.add_mid]
    exact hc j y hj
  · intro u hu
    obtain ⟨y, _, rfl⟩ := List.mem_map.1 hu
    rfl
  · intro g cap w' h1 h2 h3 _
    refine hK _ _ (h g cap w' h1 h2 ?_)
    rcases h3 with h3 | h3
    · exact .inl h3
    · exact .inr (by omega)
end
set_option maxRecDepth 100000 in
set_option maxHeartbeats 4000000 in
theorem keep_135 {w : World} {fb : Nat} {F : Fd} {kv ck cd cm : Value} {hd lf : Int} (h : Box w 136 fb (fdA fb F kv hd lf ck cd cm)) (hk : w.ownsRow 0 5 1 kv F.kept.length (F.kept.map b8)) {X : Nat → Prop} {p : Value} {l : Bs} (hp : Ck w X p l) (hl : 0 < l.length) (hl2 : l.length ≤ 1099511627776) (hn : F.kept.length ≤ 4398046511104) :
    Calls Tryz.prog 135 #[.pointer (some ⟨fb, 0, none⟩), p] w fun e w' => e = .returned (.tuple #[]) ∧ ∃ g cap, Box w' 136 fb (fdA fb (F.put l) (.slice (some ⟨g, 0, none⟩) (F.kept.length + l.length) cap) hd lf ck cd cm) ∧ w'.ownsRow 0 5 1 (.slice (some ⟨g, 0, none⟩) (F.kept.length + l.length) cap) (F.kept.length + l.length) (F.kept.map b8 ++ l.map b8) ∧ Kp (fun k => k = fb ∨ kv.ownBlock = some k) w w' ∧ (kv.ownBlock = some g ∨ w.heap.size ≤ g) := by
  obtain ⟨g0, o0, c0, rfl, hc1, hc2, hg0, hc⟩ := hp.by hl
  have c4 : w.cell? ⟨fb, 4, none⟩ = some kv := h.cell 4
  obtain ⟨ao, cp, rfl, -, -, -, -⟩ := row_shape hk
  have hx : ∀ k, (Value.slice ao F.kept.length cp).ownBlock = some k → some k ≠ some fb := row_box hk h (by omega)
  go_enter Tryz.func135, Tryz.ntmps135
  go_wp2_with (at_builtin; go_must (refine more5 rfl _ _ rfl _ F.kept.length _ (by rfl) hk g0 o0 c0 l (by rfl) hl hc hn hl2 ?_); intro g cap W h1 hg hgg; (have hb := h.kept hg (fun e => hx fb e.symm rfl)); (have hz := hb.fz 4); (have hz1 : W.cell? ⟨fb, 4, none⟩ = some (.slice ao F.kept.length cp) := hb.cell 4))
  go_end0
  refine ⟨rfl, g, cap, hb.set 4 _, ?_, ?_, hgg⟩
  · refine row_kept h1 (gb_setCell (gb_refl _ _) _) (fun k hk2 e => ?_)
    injection e with e
    subst e
    exact row_box h1 hb (by omega) k hk2 rfl
  · refine ((Kp.refl _ w).step hg (fun i hi => .inl (.inr hi))).step (gb_setCell (gb_refl _ (some fb)) _) (fun i hi => ?_)
    injection hi with hi
    exact .inl (.inl hi.symm)
end Go.Proofs.YtobegepebochkaaGreatDoor
