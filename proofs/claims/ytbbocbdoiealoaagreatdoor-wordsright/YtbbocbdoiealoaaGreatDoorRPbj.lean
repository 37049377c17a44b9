import Derived.Test.YtbbocbdoiealoaaGreatDoorRPbi
import Derived.Test.YtbbocbdoiealoaaGreatDoorRGe
import Derived.Test.YtbbocbdoiealoaaGreatDoorRXa
import Derived.Test.YtbbocbdoiealoaaGreatDoorRUb
import Derived.Test.YtbbocbdoiealoaaGreatDoorRPai
import Derived.Test.YtbbocbdoiealoaaGreatDoorRPaq
import Derived.Test.YtbbocbdoiealoaaGreatDoorRD
import Derived.Test.YtbbocbdoiealoaaGreatDoorRPbb
set_option linter.unusedVariables false
set_option linter.unusedSimpArgs false
namespace Go.Proofs.YtbbocbdoiealoaaGreatDoor
abbrev wdL (l : Bs) : Prop := l ≠ [] ∧ (10 : UInt8) ∉ l
theorem wdL_digits {l : Bs} (h : ∀ b ∈ l, isD b) (h0 : l ≠ []) : wdL l := ⟨h0, fun hb => by have := h 10 hb; simp [isD] at this⟩
theorem wdL_dg (n : Nat) : wdL (dg n) := wdL_digits (dg_d n).1 (dg_d n).2.1
theorem wdL_sg (t : Int) : wdL (sg t) := by
  unfold sg
  split
  · refine ⟨by simp, fun h => ?_⟩
    rcases List.mem_cons.mp h with h | h
    · cases h
    · exact (wdL_dg t.natAbs).2 h
  · exact wdL_dg _
theorem plain_noL {l : Bs} (h : plain l = true) : (10 : UInt8) ∉ l := by
  intro hb
  have := List.all_eq_true.mp h 10 hb
  simp at this
theorem keyP.wdL {k : Bs} (h : keyP k) : wdL k := ⟨h.1, plain_noL h.2.2⟩
theorem nb_noL {most : Nat} {l : Bs} (h : (nb most l).isSome = true) : (10 : UInt8) ∉ l := by
  rw [nb] at h
  intro hb
  split at h
  · rename_i u hu
    rw [Lib.parseUintB] at hu
    split at hu
    · cases hu
    · have := pu_digits _ _ _ _ hu 10 hb
      simp [isD] at this
  · cases h
theorem puB_noL {l : Bs} {u : Nat} (h : Lib.parseUintB 64 l = .ok u) : (10 : UInt8) ∉ l := by
  intro hb
  rw [Lib.parseUintB] at h
  split at h
  · cases h
  · have := pu_digits _ _ _ _ h 10 hb
    simp [isD] at this
theorem tm_noL {l : Bs} (h : (tm l).isSome = true) : (10 : UInt8) ∉ l := by
  rw [tm] at h
  split at h
  · rename_i v hv
    match l with
    | [] => simp
    | c :: r =>
      rw [Lib.parseIntB] at hv
      by_cases hc : c.toNat = 43 ∨ c.toNat = 45
      · simp only [if_pos hc] at hv
        cases hp : Lib.parseUintB 64 r with
        | ok u =>
          have := puB_noL hp
          intro hb
          rcases List.mem_cons.mp hb with rfl | hb
          · simp at hc
          · exact this hb
        | _ => rw [hp] at hv; cases hv
      · simp only [if_neg hc] at hv
        cases hp : Lib.parseUintB 64 (c :: r) with
        | ok u => exact puB_noL hp
        | _ => rw [hp] at hv; cases hv
  · cases h
theorem modeW_noL {v : Int} {l : Bs} (h : mode1 v l = true) : (10 : UInt8) ∉ l := by
  match l, h with
  | [b], h =>
    intro hb
    rcases List.mem_singleton.mp hb with rfl
    simp only [mode1, modes] at h
    split at h <;> simp at h
theorem follows_noL {v : Int} {f : Fl} (h : follows v f = true) : (10 : UInt8) ∉ f.arg := by
  unfold follows at h
  split at h
  · exact plain_noL h
  · split at h
    · exact tm_noL h
    · split at h
      · exact nb_noL h
      · split at h
        · exact nb_noL h
        · split at h
          · exact modeW_noL h
          · cases h
theorem letter_noL {v : Int} : (bare v).contains 10 = false ∧ (full v).contains 10 = false := by
  constructor
  · unfold bare; repeat' split
    all_goals rfl
  · unfold full; repeat' split
    all_goals rfl
theorem fl1_goodL {v : Int} {seen : Bs} {f : Fl} (h : fl1 v seen f = []) : wdL (fw f) ∧ f.has = decide (f.arg ≠ []) := by
  unfold fl1 at h
  split at h
  · cases h
  · rename_i h1
    split at h
    · cases h
    · split at h
      · cases h
      · split at h
        · cases h
        · rename_i h4
          have h41 : f.has = decide (f.arg ≠ []) := by
            by_cases e : f.has = decide (f.arg ≠ [])
            · exact e
            · exact absurd (.inl e) h4
          refine ⟨⟨by simp [fw], fun hb => ?_⟩, h41⟩
          rcases List.mem_cons.mp hb with e | hb
          · rw [← e, letter_noL.1, letter_noL.2] at h1
            exact h1 rfl
          · have ha : f.arg ≠ [] := fun e => by rw [e] at hb; cases hb
            have hh : f.has = true := by rw [h41]; simpa using ha
            have hf : follows v f = true := by
              cases e : follows v f with
              | true => rfl
              | false => exact absurd (.inr (.inr ⟨hh, e⟩)) h4
            exact follows_noL hf hb
theorem flS_goodL {v : Int} : ∀ (l : List Fl) (seen : Bs), flS v seen l = [] → ∀ f ∈ l, wdL (fw f) ∧ f.has = decide (f.arg ≠ []) := by
  intro l
  induction l with
  | nil => intro _ _ f hf; cases hf
  | cons g t ih =>
    intro seen h f hf
    rw [flS] at h
    split at h
    · rename_i hg
      rcases List.mem_cons.mp hf with rfl | hf
      · exact fl1_goodL hg
      · exact ih _ h f hf
    · rename_i hg
      exact absurd h hg
theorem lw_L {i : Nat} {c : Cmd} {n : Nat} (hm : MayP i c n) (a : UInt8) : ∀ w ∈ lw c n a, wdL w := by
  intro w hw
  unfold Go.Proofs.YtbbocbdoiealoaaGreatDoor.lw at hw
  split at hw
  · exact (hm.keys w hw).wdL
  split at hw
  · rw [List.mem_singleton.mp hw]; exact wdL_dg _
  split at hw
  · rw [List.mem_singleton.mp hw]; exact wdL_sg _
  split at hw
  · rw [List.mem_singleton.mp hw]; exact wdL_dg _
  split at hw
  · rw [List.mem_singleton.mp hw]; exact wdL_dg _
  split at hw
  · rw [List.mem_singleton.mp hw]; exact wdL_dg _
  split at hw
  · rw [List.mem_singleton.mp hw]; exact ⟨by decide, by decide⟩
  split at hw
  · split at hw
    · cases hw
    · rename_i h
      rw [List.mem_singleton.mp hw, (hm.what h).2]; exact ⟨by decide, by decide⟩
  split at hw
  · obtain ⟨f, hf, rfl⟩ := List.mem_map.mp hw
    exact (flS_goodL _ _ hm.mt f hf).1
  split at hw
  · split at hw
    · cases hw
    · rw [List.mem_singleton.mp hw]; exact wdL_sg _
  · cases hw
theorem lws_L {i : Nat} {c : Cmd} {n : Nat} (hm : MayP i c n) : ∀ w ∈ lws i c n, wdL w := by
  intro w hw
  rcases List.mem_append.mp hw with hw | hw
  · obtain ⟨a, ha, hw⟩ := List.mem_flatMap.mp hw
    exact lw_L hm a w hw
  · cases e : c.nr with
    | false => rw [e] at hw; cases hw
    | true => rw [e] at hw; rw [List.mem_singleton.mp hw]; exact ⟨by decide, by decide⟩
theorem bls_noL : ∀ (ws : List Bs), (∀ w ∈ ws, (10 : UInt8) ∉ w) → (10 : UInt8) ∉ bls ws
  | [], _ => by simp [bls]
  | x :: ws, h => by
    rw [bls_cons]
    have h1 := h x (by simp)
    have h2 := bls_noL ws (fun y hy => h y (by simp [hy]))
    intro hb
    rcases List.mem_cons.mp hb with e | hb
    · cases e
    · rcases List.mem_append.mp hb with hb | hb
      · exact h1 hb
      · exact h2 hb
theorem spn_noL : ∀ i, i < 24 → (10 : UInt8) ∉ spn i := by decide
theorem lnB_noL {i : Nat} (hi : i < 24) {c : Cmd} {n : Nat} (hm : MayP i c n) : (10 : UInt8) ∉ lnB i c n := by
  unfold lnB
  intro hb
  rcases List.mem_append.mp hb with hb | hb
  · exact spn_noL i hi hb
  · exact bls_noL _ (fun w hw => (lws_L hm w hw).2) hb
theorem run_back {i : Nat} (hi : i < 24) (h17 : i ≠ 17) {c : Cmd} {d : Bs} (hm : MayP i c d.length) (hr : RngP c) (hl : (lnB i c d.length).length ≤ 2048) (limit at_ : Nat) (hd : d.length ≤ limit) :
    (fl limit at_).run (bsB i c d) = (fl limit (at_ + (bsB i c d).length), [⟨c, d, false, 0, [], 0, at_, at_ + (bsB i c d).length⟩]) := by
  have hL := line_back hi hm hr hl
  have hno := lnB_noL hi hm
  have hverb : c.verb ≠ 18 := by rw [hm.verb]; omega
  obtain ⟨p, hp⟩ : ∃ p, lnB i c d.length = p := ⟨_, rfl⟩
  unfold bsB
  rw [hp] at hL hno ⊢
  have hno2 : (10 : UInt8) ∉ p ++ [13] := by
    intro hb
    rcases List.mem_append.mp hb with hb | hb
    · exact hno hb
    · simp at hb
  have hfst := line_first (limit := limit) (at_ := at_) (p ++ [13]) hno2
  have htr : lineS (trim (p ++ [13])) = .inl (c, blkI i d.length) := by rw [trim_cr]; exact hL
  have hrd : (lnF limit at_ (p ++ [13])).rd = if blkI i d.length < 0 then ({ lnF limit at_ (p ++ [13]) with head := (lnF limit at_ (p ++ [13])).kept.length, s := stpC c false }, true) else
    if (limit : Int) < blkI i d.length then ((lnF limit at_ (p ++ [13])).pass (stpC c true) (blkI i d.length).toNat, false) else
    ({ lnF limit at_ (p ++ [13]) with head := (lnF limit at_ (p ++ [13])).kept.length, s := stpC c false }.await (blkI i d.length).toNat, false) := by
    have hk : (lnF limit at_ (p ++ [13])).kept.dropLast = p ++ [13] := by simp [lnF, Fd.put, Fd.tk, fl]
    unfold Fd.rd
    rw [hk, htr]
    rfl
  cases hb : (dr i).block with
  | false =>
    have hd0 : d = [] := by
      apply Classical.byContradiction
      intro e
      have := hm.data (fun h => e (List.length_eq_zero_iff.mp h))
      rw [hb] at this
      cases this
    subst hd0
    have hneg : blkI i ([] : Bs).length = -1 := by unfold blkI; rw [hb]; rfl
    rw [hneg, if_pos (by omega)] at hrd
    have e : p ++ [13, 10] ++ (if false = true then [] ++ [13, 10] else []) = (p ++ [13]) ++ [10] := by simp
    rw [e, hfst, hrd]
    simp only [Fd.end1, Fd.tell, if_true, stpC, lnF, Fd.put, Fd.tk, fl, hverb, if_false, decide_false, Bool.or_self, List.length_append, List.length_cons, List.length_nil]
  | true =>
    have hpos : blkI i d.length = (d.length : Int) := by unfold blkI; rw [hb]; rfl
    rw [hpos, if_neg (by omega), if_neg (by omega), Int.toNat_natCast] at hrd
    have e : p ++ [13, 10] ++ (if true = true then d ++ [13, 10] else []) = ((p ++ [13]) ++ [10]) ++ (d ++ ([13] ++ [10])) := by simp
    rw [e, Fd.run_app, hfst, hrd, Fd.end1, if_neg (by simp), Fd.run_app, run_await d.length rfl, Fd.run_app, run_behind rfl, run_last rfl]
    have hdat : (((lnF limit at_ (p ++ [13])).kept ++ d ++ [13]).drop (lnF limit at_ (p ++ [13])).kept.length).dropLast = d := by
      rw [List.append_assoc, List.drop_left]
      simp
    simp only [Fd.put, Fd.tk] at hdat ⊢
    rw [hdat]
    simp only [Fd.tell, stpC, lnF, Fd.put, Fd.tk, fl, hverb, if_false, decide_false, Bool.or_self, List.length_append, List.length_cons, List.length_nil, List.nil_append, List.append_nil]
    simp only [Nat.add_assoc, Nat.zero_add]
end Go.Proofs.YtbbocbdoiealoaaGreatDoor
namespace Go.Proofs.YtbbocbdoiealoaaGreatDoor
open Go.RowKit Go.Maps
structure Sr (w : World) (s : Stp) (ck cd cm : Value) : Prop where
  k : Ws w ck s.cmd.keys
  d : By w cd s.data
  m : Fs w cm s.cmd.mt
  kn : s.cmd.keys.length ≤ 9223372036854775807
  mn : s.cmd.mt.length ≤ 9223372036854775807
theorem StR.sr {w : World} {X : Nat → Prop} {s : Stp} {ck cd cm : Value} (h : StR w X s ck cd cm) (hd : s.data.length ≤ 1099511627776) : Sr w s ck cd cm := by
  obtain ⟨_, _, _, -, k1, k2, -⟩ := row_shape h.keys
  obtain ⟨_, _, _, -, m1, m2, -⟩ := row_shape h.mt
  unfold maxLen at k2 m2
  exact ⟨ws_row h.keys rfl, by_row h.data hd, fs_row h.mt, by omega, by omega⟩
end Go.Proofs.YtbbocbdoiealoaaGreatDoor
namespace Go.Proofs.YtbbocbdoiealoaaGreatDoor
open Go.RowKit
section
variable {w : World} {ops : Array Oper} {rest : List Oper} {op : Oper} {a : Act} {Q : Exit → Act → World → Prop}
end
abbrev Z86 : Array Value := #[.int .i64 0, .slice none 0 0, .int .u64 0, .int .i64 0, .int .u64 0, .int .u64 0, .slice none 0 0, .bool false, .bool false, .slice none 0 0, .string ⟨#[]⟩, .int .i64 0, .string ⟨#[]⟩, .int .i64 0, .int .i64 0, .int .i64 0]
end Go.Proofs.YtbbocbdoiealoaaGreatDoor
namespace Go.Proofs.YtbbocbdoiealoaaGreatDoor
open Go.RowKit Go.Maps
set_option maxRecDepth 100000 in
set_option maxHeartbeats 4000000 in
theorem trim_119 {w : World} {g o c sg sc : Nat} {l : Bs} (hl : l.length ≤ 1099511627776) (hcp : l.length ≤ c) (hg : g < w.heap.size) (hc : ∀ i x, l[i]? = some x → w.cell? ⟨g, o + i, none⟩ = some (b8 x)) (hs : w.cell? ⟨sg, 0, none⟩ = some (.int .u8 13)) :
    Calls Tryz.prog 124 #[.slice (some ⟨g, o, none⟩) l.length c, .slice (some ⟨sg, 0, none⟩) 1 sc] w fun e w' => e = .returned (.slice (some ⟨g, o, none⟩) (trim l).length c) ∧ w' = w := by
  have h148 := suf_148 (sc := sc) hl hcp hg hc hs
  by_cases he : l.getLast? = some 13
  · have e1 : decide (l.getLast? = some 13) = true := decide_eq_true he
    have e2 : (trim l).length = l.length - 1 := by simp [trim, he]
    have h0 : 0 < l.length := by
      cases l with
      | nil => simp at he
      | cons b t => simp
    obtain ⟨k, hk⟩ : ∃ k, l.length = k + 1 := ⟨l.length - 1, by omega⟩
    rw [e1] at h148
    rw [e2]
    rw [hk] at h148 ⊢
    have d1 : wrap64 (((k + 1 : Nat) : Int) - 1) = (k : Int) := by unfold wrap64; omega
    have d2 : ((k : Int) ≤ (c : Int)) := by omega
    clear hc hs e1 e2 he
    go_enter Tryz.func124, Tryz.ntmps124
    go_wp2_with (go_at_call 153; go_must ((with_reducible refine h148.mono ?_); rintro e w4 ⟨rfl, rfl⟩))
    go_ret
    exact ⟨rfl, rfl⟩
  · have e1 : decide (l.getLast? = some 13) = false := decide_eq_false he
    have e2 : trim l = l := by simp [trim, he]
    rw [e1] at h148
    rw [e2]
    clear hc hs e1 e2 he
    go_enter Tryz.func124, Tryz.ntmps124
    go_wp2_with (go_at_call 153; go_must ((with_reducible refine h148.mono ?_); rintro e w4 ⟨rfl, rfl⟩))
    go_ret
    exact ⟨rfl, rfl⟩
end Go.Proofs.YtbbocbdoiealoaaGreatDoor
namespace Go.Proofs.YtbbocbdoiealoaaGreatDoor
open Go.RowKit Go.Maps
structure Tld where
  s : Stp
  ck : Value
  cd : Value
  cm : Value
abbrev tldL (x : Tld) : List Value := stpL x.s x.ck x.cd x.cm
structure Ss (w : World) (B : Nat) (X : Nat → Prop) (v : Value) (q : List Tld) : Prop where
  row : w.ownsRow B 85 16 v q.length (q.flatMap tldL)
  all : ∀ x ∈ q, StR w X x.s x.ck x.cd x.cm
theorem Ss.kp {F X Y : Nat → Prop} {w w' : World} {B : Nat} {v : Value} {q : List Tld} (h : Ss w B X v q) (hk : Kp F w w') (hv : ∀ k, v.ownBlock = some k → ¬ F k) (hF : ∀ k, k < w.heap.size → F k → X k) (hY : ∀ k, k < w.heap.size → Y k → X k) : Ss w' B Y v q :=
  ⟨row_kp h.row hk hv, fun x hx => (h.all x hx).kp hk hF hY⟩
theorem Ss.nil (w : World) (B : Nat) (X : Nat → Prop) : Ss w B X (.slice none 0 0) [] := ⟨World.ownsRow_nil _ _ _ _, fun x hx => by cases hx⟩
theorem StR.wide {w : World} {X : Nat → Prop} {s : Stp} {ck cd cm v : Value} {B n : Nat} {xs : List Value} (h : StR w X s ck cd cm) (hr : w.ownsRow B 85 16 v n xs) : StR w (fun k => X k ∨ v.ownBlock = some k) s ck cd cm := by
  have key : ∀ {e m ys} {u : Value} {B2 z : Nat}, w.ownsRow B2 e z u m ys → e ≠ 85 → ∀ k, u.ownBlock = some k → ¬ (v.ownBlock = some k) := by
    intro e m ys u B2 z hu he k hk hv
    obtain ⟨c1, h1⟩ := row_block hu k hk
    obtain ⟨c2, h2⟩ := row_block hr k hv
    rw [h1] at h2
    injection h2 with h2
    injection h2 with _ h2
    exact he h2
  refine ⟨h.keys, h.data, h.mt, fun k hk => ?_, fun k hk => ?_, fun k hk => ?_, h.nd⟩
  · rintro (e | e)
    · exact h.ak k hk e
    · exact key h.keys (by decide) k hk e
  · rintro (e | e)
    · exact h.ad k hk e
    · exact key h.data (by decide) k hk e
  · rintro (e | e)
    · exact h.am k hk e
    · exact key h.mt (by decide) k hk e
end Go.Proofs.YtbbocbdoiealoaaGreatDoor
namespace Go.Proofs.YtbbocbdoiealoaaGreatDoor
open Go.RowKit Go.Maps
theorem tl_get : ∀ (q : List Tld) (k : Nat) (x : Tld) (j : Nat), q[k]? = some x → j < 16 → (q.flatMap tldL)[k * 16 + j]? = (tldL x)[j]?
  | [], k, x, j, h, _ => by simp at h
  | y :: q, 0, x, j, h, hj => by
    simp at h
    subst h
    rw [List.flatMap_cons, Nat.zero_mul, Nat.zero_add, List.getElem?_append_left (by simpa using hj)]
  | y :: q, k + 1, x, j, h, hj => by
    simp at h
    have e1 : (k + 1) * 16 + j = (tldL y).length + (k * 16 + j) := by simp; omega
    rw [List.flatMap_cons, e1, List.getElem?_append_right (by omega), Nat.add_sub_cancel_left]
    exact tl_get q k x j h hj
end Go.Proofs.YtbbocbdoiealoaaGreatDoor
namespace Go.Proofs.YtbbocbdoiealoaaGreatDoor
open Go.RowKit Go.Maps
structure Sg2 (w : World) (s : Stp) (ck cd cm : Value) : Prop where
  k : Ws w ck s.cmd.keys
  d : By w cd s.data
  m : Fg w cm s.cmd.mt
  kn : s.cmd.keys.length ≤ 9223372036854775807
  mn : s.cmd.mt.length ≤ 9223372036854775807
end Go.Proofs.YtbbocbdoiealoaaGreatDoor
namespace Go.Proofs.YtbbocbdoiealoaaGreatDoor
open Go.RowKit Go.Maps
attribute [local go_sem] Oper.semAt_some
structure CI where
  c : Cmd
  d : Bs
  lg : Bool
  kv : Value
  dv : Value
  mv : Value
abbrev ciL (x : CI) : List Value := [.int .i64 x.c.verb, x.kv, .int .u64 x.c.flags, .int .i64 x.c.exp, .int .u64 x.c.tok, .int .u64 x.c.del, x.dv, .bool x.c.nr, .bool x.lg, x.mv, sv x.c.what]
structure CiOk (w : World) (x : CI) : Prop where
  k : Ws w x.kv x.c.keys
  d : Ck w (fun _ => False) x.dv x.d ∨ (x.d = [] ∧ ∃ a c, x.dv = .slice a 0 c)
  m : Fg w x.mv x.c.mt
  r : RngP x.c
  f : x.c.flags ≤ 18446744073709551615
  v1 : x.c.verb ≤ 9223372036854775807
  v2 : -9223372036854775808 ≤ x.c.verb
  dn : x.d.length ≤ 140737488355328
  kn : x.c.keys.length ≤ 140737488355328
  mn : x.c.mt.length ≤ 140737488355328
  kl : ∀ k ∈ x.c.keys, k.length ≤ 140737488355328
  fl : ∀ f ∈ x.c.mt, f.arg.length ≤ 140737488355328
theorem CiOk.dsl {w : World} {x : CI} (h : CiOk w x) : ∃ a c, x.dv = .slice a x.d.length c := by
  rcases h.d with h | ⟨h1, a, c, h2⟩
  · obtain ⟨a, n, c, e, rfl⟩ := h.slice
    exact ⟨a, c, e⟩
  · exact ⟨a, c, by rw [h1]; exact h2⟩
structure CiMay (x : CI) (i : Nat) : Prop where
  lt : i < 24
  v : x.c.verb = (i : Int) + 1
  lg : x.lg = false
  m : MayP i x.c x.d.length
  l : (lnB i x.c x.d.length).length ≤ 2048
section
variable {w : World} {ops : Array Oper} {rest : List Oper} {op : Oper} {a : Act} {Q : Exit → Act → World → Prop}
theorem loadC (hgd : op.guard = none) (x : Operand) (ho : op.op = .load 41 x) (b o : Nat) (hx : a.eval x = .pointer (some ⟨b, o, none⟩)) (cs : List Value) (hs : cs.length = 11) (hc : ∀ j v, cs[j]? = some v → w.cell? ⟨b, o + j, none⟩ = some v)
    (h : wpList Tryz.prog ops Q rest (a.put op.dst (.agg cs.toArray)) w) : wpList Tryz.prog ops Q (op :: rest) a w :=
  wpList_load_mid hgd 41 x ho b o hx cs _ hc Tryz.underlying41 rfl (by rw [hs]; exact size41) h
end
end Go.Proofs.YtbbocbdoiealoaaGreatDoor
