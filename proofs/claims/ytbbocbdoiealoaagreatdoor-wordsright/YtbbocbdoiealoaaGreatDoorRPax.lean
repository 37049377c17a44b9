import Derived.Test.YtbbocbdoiealoaaGreatDoorRPaw
import Derived.Test.YtbbocbdoiealoaaGreatDoorRPas
set_option linter.unusedVariables false
set_option linter.unusedSimpArgs false
namespace Go.Proofs.YtbbocbdoiealoaaGreatDoor
abbrev wdP (l : Bs) : Prop := l ≠ [] ∧ (32 : UInt8) ∉ l
def bls (ws : List Bs) : Bs := ws.flatMap fun w => 32 :: w
theorem bls_cons (w : Bs) (ws : List Bs) : bls (w :: ws) = 32 :: (w ++ bls ws) := by simp [bls]
theorem bls_app (a b : List Bs) : bls (a ++ b) = bls a ++ bls b := by simp [bls]
theorem spl_app : ∀ (l cur t : Bs), (32 : UInt8) ∉ l → spl cur (l ++ t) = spl (cur ++ l) t := by
  intro l
  induction l with
  | nil => intro cur t _; simp
  | cons b l ih =>
    intro cur t h
    have hb : b ≠ 32 := fun e => h (by simp [e])
    rw [List.cons_append, spl, if_neg hb, ih (cur ++ [b]) t (fun e => h (by simp [e]))]
    simp
theorem spl_bls : ∀ (ws : List Bs) (cur : Bs), cur ≠ [] → (∀ w ∈ ws, wdP w) → spl cur (bls ws) = cur :: ws := by
  intro ws
  induction ws with
  | nil => intro cur h _; simp [bls, spl, h]
  | cons w ws ih =>
    intro cur h hw
    have h1 := hw w (by simp)
    rw [bls_cons, spl, if_pos rfl, if_neg h, spl_app w [] _ h1.2, List.nil_append, ih w h1.1 (fun x hx => hw x (by simp [hx]))]
theorem spl_line (x : Bs) (ws : List Bs) (hx : wdP x) (hw : ∀ w ∈ ws, wdP w) : spl [] (x ++ bls ws) = x :: ws := by
  rw [spl_app x [] _ hx.2, List.nil_append, spl_bls ws x hx.1 hw]
theorem wdP_digits {l : Bs} (h : ∀ b ∈ l, isD b) (h0 : l ≠ []) : wdP l := ⟨h0, fun hb => by have := h 32 hb; simp [isD] at this⟩
theorem wdP_dg (n : Nat) : wdP (dg n) := wdP_digits (dg_d n).1 (dg_d n).2.1
theorem wdP_sg (t : Int) : wdP (sg t) := by
  unfold sg
  split
  · refine ⟨by simp, fun h => ?_⟩
    rcases List.mem_cons.mp h with h | h
    · cases h
    · exact (wdP_dg t.natAbs).2 h
  · exact wdP_dg _
theorem plain_no {l : Bs} (h : plain l = true) : (32 : UInt8) ∉ l := by
  intro hb
  have := List.all_eq_true.mp h 32 hb
  simp at this
abbrev keyP (k : Bs) : Prop := k ≠ [] ∧ k.length ≤ 250 ∧ plain k = true
theorem keyP.wd {k : Bs} (h : keyP k) : wdP k := ⟨h.1, plain_no h.2.2⟩
theorem nb_no {most : Nat} {l : Bs} (h : (nb most l).isSome = true) : (32 : UInt8) ∉ l := by
  rw [nb] at h
  intro hb
  split at h
  · rename_i u hu
    rw [Lib.parseUintB] at hu
    split at hu
    · cases hu
    · have := pu_digits _ _ _ _ hu 32 hb
      simp [isD] at this
  · cases h
theorem puB_no {l : Bs} {u : Nat} (h : Lib.parseUintB 64 l = .ok u) : (32 : UInt8) ∉ l := by
  intro hb
  rw [Lib.parseUintB] at h
  split at h
  · cases h
  · have := pu_digits _ _ _ _ h 32 hb
    simp [isD] at this
theorem tm_no {l : Bs} (h : (tm l).isSome = true) : (32 : UInt8) ∉ l := by
  rw [tm] at h
  split at h
  · rename_i v hv
    match l with
    | [] => simp
    | c :: r =>
      rw [Lib.parseIntB] at hv
      by_cases hc : c.toNat = 43 ∨ c.toNat = 45
      · simp only [if_pos hc] at hv
        cases hp : Lib.parseUintB 64 r with
        | ok u =>
          have := puB_no hp
          intro hb
          rcases List.mem_cons.mp hb with rfl | hb
          · simp at hc
          · exact this hb
        | _ => rw [hp] at hv; cases hv
      · simp only [if_neg hc] at hv
        cases hp : Lib.parseUintB 64 (c :: r) with
        | ok u => exact puB_no hp
        | _ => rw [hp] at hv; cases hv
  · cases h
theorem modeW_no {v : Int} {l : Bs} (h : mode1 v l = true) : (32 : UInt8) ∉ l := by
  match l, h with
  | [b], h =>
    intro hb
    rcases List.mem_singleton.mp hb with rfl
    simp only [mode1, modes] at h
    split at h <;> simp at h
theorem follows_no {v : Int} {f : Fl} (h : follows v f = true) : (32 : UInt8) ∉ f.arg := by
  unfold follows at h
  split at h
  · exact plain_no h
  · split at h
    · exact tm_no h
    · split at h
      · exact nb_no h
      · split at h
        · exact nb_no h
        · split at h
          · exact modeW_no h
          · cases h
theorem letter_no {v : Int} : (bare v).contains 32 = false ∧ (full v).contains 32 = false := by
  constructor
  · unfold bare; repeat' split
    all_goals rfl
  · unfold full; repeat' split
    all_goals rfl
def fw (f : Fl) : Bs := f.letter :: f.arg
theorem fl1_good {v : Int} {seen : Bs} {f : Fl} (h : fl1 v seen f = []) : wdP (fw f) ∧ f.has = decide (f.arg ≠ []) := by
  unfold fl1 at h
  split at h
  · cases h
  · rename_i h1
    split at h
    · cases h
    · split at h
      · cases h
      · split at h
        · cases h
        · rename_i h4
          have h41 : f.has = decide (f.arg ≠ []) := by
            by_cases e : f.has = decide (f.arg ≠ [])
            · exact e
            · exact absurd (.inl e) h4
          refine ⟨⟨by simp [fw], fun hb => ?_⟩, h41⟩
          rcases List.mem_cons.mp hb with e | hb
          · rw [← e, letter_no.1, letter_no.2] at h1
            exact h1 rfl
          · have ha : f.arg ≠ [] := fun e => by rw [e] at hb; cases hb
            have hh : f.has = true := by rw [h41]; simpa using ha
            have hf : follows v f = true := by
              cases e : follows v f with
              | true => rfl
              | false => exact absurd (.inr (.inr ⟨hh, e⟩)) h4
            exact follows_no hf hb
theorem flS_good {v : Int} : ∀ (l : List Fl) (seen : Bs), flS v seen l = [] → ∀ f ∈ l, wdP (fw f) ∧ f.has = decide (f.arg ≠ []) := by
  intro l
  induction l with
  | nil => intro _ _ f hf; cases hf
  | cons g t ih =>
    intro seen h f hf
    rw [flS] at h
    split at h
    · rename_i hg
      rcases List.mem_cons.mp hf with rfl | hf
      · exact fl1_good hg
      · exact ih _ h f hf
    · rename_i hg
      exact absurd h hg
theorem takeL_keys (r : Rw) : ∀ (ks : List Bs) (i : Nat) (c : Cmd), (∀ j, i ≤ j → lett r j = 75) → (∀ k ∈ ks, keyP k) → takeL r i c ks = .inl { c with keys := c.keys ++ ks } := by
  intro ks
  induction ks with
  | nil => intro i c _ _; simp [takeL]
  | cons k ks ih =>
    intro i c hl hk
    have h1 := hk k (by simp)
    rw [takeL, hl i (by omega), take1, if_pos rfl, if_pos h1.2]
    simp only
    rw [ih (i + 1) _ (fun j hj => hl j (by omega)) (fun x hx => hk x (by simp [hx]))]
    simp
theorem takeL_flags (r : Rw) : ∀ (fs : List Fl) (i : Nat) (c : Cmd), (∀ j, i ≤ j → lett r j = 77) → (∀ f ∈ fs, f.has = decide (f.arg ≠ [])) → takeL r i c (fs.map fw) = .inl { c with mt := c.mt ++ fs } := by
  intro fs
  induction fs with
  | nil => intro i c _ _; simp [takeL]
  | cons f fs ih =>
    intro i c hl hk
    have h1 := hk f (by simp)
    rw [List.map_cons, takeL, hl i (by omega)]
    have e : take1 c 77 (fw f) = .inl { c with mt := c.mt ++ [f] } := by
      have hf : (⟨(fw f).headD 0, (fw f).tail, decide (1 < (fw f).length)⟩ : Fl) = f := by
        obtain ⟨a, b, h⟩ := f
        have h2 : h = decide (b ≠ []) := h1
        rw [h2]
        simp only [fw, List.headD_cons, List.tail_cons, List.length_cons]
        congr 1
        cases b <;> simp
      have h2 : take1 c 77 (fw f) = .inl { c with mt := c.mt ++ [(⟨(fw f).headD 0, (fw f).tail, decide (1 < (fw f).length)⟩ : Fl)] } := rfl
      rw [h2, hf]
    rw [e]
    simp only
    rw [ih (i + 1) _ (fun j hj => hl j (by omega)) (fun x hx => hk x (by simp [hx]))]
    simp
end Go.Proofs.YtbbocbdoiealoaaGreatDoor
namespace Go.Proofs.YtbbocbdoiealoaaGreatDoor
def lw (c : Cmd) (n : Nat) (a : UInt8) : List Bs :=
  if a = 75 then c.keys else
  if a = 70 then [dg c.flags] else
  if a = 84 then [sg c.exp] else
  if a = 78 then [dg n] else
  if a = 67 then [dg c.tok] else
  if a = 68 then [dg c.del] else
  if a = 86 then [[49]] else
  if a = 87 then (if c.what = [] then [] else [c.what]) else
  if a = 71 then c.mt.map fw else
  if a = 83 then (if c.exp = 0 then [] else [sg c.exp]) else []
abbrev nrW (q : Bool) : List Bs := if q then [noreply] else []
def lws (i : Nat) (c : Cmd) (n : Nat) : List Bs := (dr i).shape.flatMap (lw c n) ++ nrW c.nr
def lnB (i : Nat) (c : Cmd) (n : Nat) : Bs := spn i ++ bls (lws i c n)
structure RngP (c : Cmd) : Prop where
  e1 : -9223372036854775808 ≤ c.exp
  e2 : c.exp ≤ 9223372036854775807
  tok : c.tok ≤ 18446744073709551615
  del : c.del ≤ 18446744073709551615
structure MayP (i : Nat) (c : Cmd) (n : Nat) : Prop where
  verb : c.verb = (i : Int) + 1
  one : 4 ≤ i → c.keys.length ≤ 1
  keyed : c.keys ≠ [] ↔ (75 : UInt8) ∈ (dr i).shape
  keys : ∀ k ∈ c.keys, keyP k
  flags : c.flags ≤ 4294967295
  hF : c.flags ≠ 0 → (70 : UInt8) ∈ (dr i).shape
  hT : c.exp ≠ 0 → (84 : UInt8) ∈ (dr i).shape ∨ (83 : UInt8) ∈ (dr i).shape
  hC : c.tok ≠ 0 → (67 : UInt8) ∈ (dr i).shape
  hD : c.del ≠ 0 → (68 : UInt8) ∈ (dr i).shape
  hG : c.mt ≠ [] → (71 : UInt8) ∈ (dr i).shape
  mt : flS c.verb [] c.mt = []
  what : c.what ≠ [] → i = 18 ∧ c.what = reset
  flush : i = 14 → 0 ≤ c.exp
  nr : c.nr = true → (dr i).reply = true
  data : n ≠ 0 → (dr i).block = true
  most : n ≤ 2147483647
theorem tk_K (c : Cmd) (k : Bs) (h : keyP k) : take1 c 75 k = .inl { c with keys := c.keys ++ [k] } := by
  rw [take1, if_pos rfl, if_pos h.2]
theorem tk_F (c : Cmd) (n : Nat) (h : n ≤ 4294967295) : take1 c 70 (dg n) = .inl { c with flags := n } := by
  rw [take1, if_neg (by decide), if_pos rfl, nb_dg _ n h (by omega)]
theorem tk_T (c : Cmd) (t : Int) (h1 : -9223372036854775808 ≤ t) (h2 : t ≤ 9223372036854775807) : take1 c 84 (sg t) = .inl { c with exp := t } := by
  rw [take1, if_neg (by decide), if_neg (by decide), if_pos (.inl rfl), tm_sg t h1 h2]
  simp
theorem tk_L (c : Cmd) (t : Int) (h1 : 0 ≤ t) (h2 : t ≤ 9223372036854775807) : take1 c 76 (sg t) = .inl { c with exp := t } := by
  rw [take1, if_neg (by decide), if_neg (by decide), if_pos (.inr rfl), tm_sg t (by omega) h2]
  simp [h1]
theorem tk_N (c : Cmd) (n : Nat) (h : n ≤ 2147483647) : take1 c 78 (dg n) = .inl c := by
  rw [take1, if_neg (by decide), if_neg (by decide), if_neg (by decide), if_pos (.inl rfl), nb_dg _ n h (by omega)]
theorem tk_C (c : Cmd) (n : Nat) (h : n ≤ 18446744073709551615) : take1 c 67 (dg n) = .inl { c with tok := n } := by
  rw [take1, if_neg (by decide), if_neg (by decide), if_neg (by decide), if_neg (by decide), if_pos rfl, nb_dg _ n h (by omega)]
theorem tk_D (c : Cmd) (n : Nat) (h : n ≤ 18446744073709551615) : take1 c 68 (dg n) = .inl { c with del := n } := by
  rw [take1, if_neg (by decide), if_neg (by decide), if_neg (by decide), if_neg (by decide), if_neg (by decide), if_pos rfl, nb_dg _ n h (by omega)]
theorem dg_1 : dg 1 = [49] := by rw [dg_lo 1 (by decide)]; rfl
theorem tk_V (c : Cmd) : take1 c 86 [49] = .inl c := by
  rw [take1, if_neg (by decide), if_neg (by decide), if_neg (by decide), if_pos (.inr rfl), ← dg_1, nb_dg _ 1 (by omega) (by omega)]
theorem takeL_1 {r : Rw} {i : Nat} {c d : Cmd} {x : Bs} {t : List Bs} (h : take1 c (lett r i) x = .inl d) : takeL r i c (x :: t) = takeL r (i + 1) d t := by
  rw [takeL, h]
theorem readS_no {r : Rw} {ws : List Bs} {c d : Cmd} (hq : qt r ws = false) (ht : takes r ws.length = true) (hl : takeL r 0 (cmd0 r.verb false) ws = .inl c) (hf : flS r.verb [] c.mt = []) : readS r ws = .inl c := by
  unfold readS
  simp only [hq, Bool.false_eq_true, if_false, ht, if_true, hl, fin, hf]
theorem qt_yes {r : Rw} {ws : List Bs} (hq : r.quiet = true) (hl : r.wants.length ≤ ws.length) : qt r (ws ++ [noreply]) = true := by
  unfold qt
  rw [hq]
  simp
  omega
theorem readS_yes {r : Rw} {ws : List Bs} {c d : Cmd} (hq : r.quiet = true) (hw : r.wants.length ≤ ws.length) (ht : takes r ws.length = true) (hl : takeL r 0 (cmd0 r.verb true) ws = .inl c) (hf : flS r.verb [] c.mt = []) : readS r (ws ++ [noreply]) = .inl c := by
  unfold readS
  have := qt_yes hq hw
  simp only [this, if_true, List.dropLast_concat, ht, hl, fin, hf]
theorem readS_nr {r : Rw} {ws : List Bs} {q : Bool} {c : Cmd} (hq : q = true → r.quiet = true) (hn : qt r ws = false) (hw : r.wants.length ≤ ws.length) (ht : takes r ws.length = true) (hl : takeL r 0 (cmd0 r.verb q) ws = .inl c) (hf : flS r.verb [] c.mt = []) : readS r (ws ++ nrW q) = .inl c := by
  cases q with
  | false => rw [show ws ++ nrW false = ws from by simp [nrW]]; exact readS_no (d := c) hn ht hl hf
  | true => exact readS_yes (d := c) (hq rfl) hw ht hl hf
theorem qt_few {r : Rw} {ws : List Bs} (h : ws.length ≤ r.wants.length) : qt r ws = false := by
  unfold qt
  have : decide (r.wants.length + 1 ≤ ws.length) = false := by simp; omega
  rw [this]; simp
theorem key1 {ks : List Bs} (h0 : ks ≠ []) (h1 : ks.length ≤ 1) : ∃ k, ks = [k] := by
  match ks, h0, h1 with
  | [k], _, _ => exact ⟨k, rfl⟩
theorem lett_end {r : Rw} {a : UInt8} {i : Nat} (h : ∀ j, i ≤ j → j ≤ (r.wants ++ r.may).length - 1 → (r.wants ++ r.may).getD j 0 = a) (hi : i ≤ (r.wants ++ r.may).length - 1) : ∀ j, i ≤ j → lett r j = a := by
  intro j hj
  unfold lett
  exact h _ (by omega) (by omega)
end Go.Proofs.YtbbocbdoiealoaaGreatDoor
namespace Go.Proofs.YtbbocbdoiealoaaGreatDoor
theorem rdA (v : Int) (ks : List Bs) (h0 : ks ≠ []) (hk : ∀ k ∈ ks, keyP k) : readS ⟨v, [75], [75], true, false⟩ ks = .inl ⟨v, ks, 0, 0, 0, 0, false, [], []⟩ := by
  have hl : 1 ≤ ks.length := List.length_pos_iff.mpr h0
  refine readS_no (d := ⟨v, ks, 0, 0, 0, 0, false, [], []⟩) rfl (by simp [takes]; omega) ?_ rfl
  rw [takeL_keys _ ks 0 _ (lett_end (fun j h1 h2 => by
    have : j = 0 ∨ j = 1 := by simp at h2; omega
    rcases this with rfl | rfl <;> rfl) (by simp)) hk]
  rfl
theorem rdB (v : Int) (t : Int) (h1 : -9223372036854775808 ≤ t) (h2 : t ≤ 9223372036854775807) (ks : List Bs) (h0 : ks ≠ []) (hk : ∀ k ∈ ks, keyP k) : readS ⟨v, [84, 75], [75], true, false⟩ (sg t :: ks) = .inl ⟨v, ks, 0, t, 0, 0, false, [], []⟩ := by
  have hl : 1 ≤ ks.length := List.length_pos_iff.mpr h0
  refine readS_no (d := ⟨v, ks, 0, 0, 0, 0, false, [], []⟩) rfl (by simp [takes]; omega) ?_ rfl
  rw [takeL_1 (tk_T _ t h1 h2), takeL_keys _ ks 1 _ (lett_end (fun j h1 h2 => by
    have : j = 1 ∨ j = 2 := by simp at h2; omega
    rcases this with rfl | rfl <;> rfl) (by simp)) hk]
  rfl
theorem rdC (v : Int) (k : Bs) (hk : keyP k) (f : Nat) (hf : f ≤ 4294967295) (t : Int) (h1 : -9223372036854775808 ≤ t) (h2 : t ≤ 9223372036854775807) (n : Nat) (hn : n ≤ 2147483647) (q : Bool) : readS ⟨v, [75, 70, 84, 78], [], false, true⟩ ([k, dg f, sg t, dg n] ++ nrW q) = .inl ⟨v, [k], f, t, 0, 0, q, [], []⟩ := by
  refine readS_nr (fun _ => rfl) (qt_few (by simp)) (by simp) rfl ?_ rfl
  rw [takeL_1 (tk_K _ k hk), takeL_1 (tk_F _ f hf), takeL_1 (tk_T _ t h1 h2), takeL_1 (tk_N _ n hn)]
  rfl
theorem rdD (v : Int) (k : Bs) (hk : keyP k) (f : Nat) (hf : f ≤ 4294967295) (t : Int) (h1 : -9223372036854775808 ≤ t) (h2 : t ≤ 9223372036854775807) (n : Nat) (hn : n ≤ 2147483647) (c : Nat) (hc : c ≤ 18446744073709551615) (q : Bool) : readS ⟨v, [75, 70, 84, 78, 67], [], false, true⟩ ([k, dg f, sg t, dg n, dg c] ++ nrW q) = .inl ⟨v, [k], f, t, c, 0, q, [], []⟩ := by
  refine readS_nr (fun _ => rfl) (qt_few (by simp)) (by simp) rfl ?_ rfl
  rw [takeL_1 (tk_K _ k hk), takeL_1 (tk_F _ f hf), takeL_1 (tk_T _ t h1 h2), takeL_1 (tk_N _ n hn), takeL_1 (tk_C _ c hc)]
  rfl
theorem rdE (v : Int) (k : Bs) (hk : keyP k) (q : Bool) : readS ⟨v, [75], [48], false, true⟩ ([k] ++ nrW q) = .inl ⟨v, [k], 0, 0, 0, 0, q, [], []⟩ := by
  refine readS_nr (fun _ => rfl) (qt_few (by simp)) (by simp) rfl ?_ rfl
  rw [takeL_1 (tk_K _ k hk)]
  rfl
theorem rdF (v : Int) (k : Bs) (hk : keyP k) (d : Nat) (hd : d ≤ 18446744073709551615) (q : Bool) : readS ⟨v, [75, 68], [], false, true⟩ ([k, dg d] ++ nrW q) = .inl ⟨v, [k], 0, 0, 0, d, q, [], []⟩ := by
  refine readS_nr (fun _ => rfl) (qt_few (by simp)) (by simp) rfl ?_ rfl
  rw [takeL_1 (tk_K _ k hk), takeL_1 (tk_D _ d hd)]
  rfl
theorem rdG (v : Int) (k : Bs) (hk : keyP k) (t : Int) (h1 : -9223372036854775808 ≤ t) (h2 : t ≤ 9223372036854775807) (q : Bool) : readS ⟨v, [75, 84], [], false, true⟩ ([k, sg t] ++ nrW q) = .inl ⟨v, [k], 0, t, 0, 0, q, [], []⟩ := by
  refine readS_nr (fun _ => rfl) (qt_few (by simp)) (by simp) rfl ?_ rfl
  rw [takeL_1 (tk_K _ k hk), takeL_1 (tk_T _ t h1 h2)]
  rfl
theorem sg_nr (t : Int) : sg t ≠ noreply := by
  intro h
  by_cases ht : t < 0
  · rw [sg, if_pos ht] at h; cases h
  · rw [sg, if_neg ht] at h
    have := (dg_d t.natAbs).1 110 (by rw [h]; simp)
    simp [isD] at this
theorem rdH (v : Int) (t : Int) (h1 : 0 ≤ t) (h2 : t ≤ 9223372036854775807) (q : Bool) : readS ⟨v, [], [76], false, true⟩ ((if t = 0 then [] else [sg t]) ++ nrW q) = .inl ⟨v, [], 0, t, 0, 0, q, [], []⟩ := by
  by_cases h : t = 0
  · rw [if_pos h, h]
    exact readS_nr (fun _ => rfl) rfl (by simp) rfl rfl rfl
  · rw [if_neg h]
    refine readS_nr (fun _ => rfl) ?_ (by simp) rfl ?_ rfl
    · simp [qt, sg_nr t]
    · rw [takeL_1 (tk_L _ t h1 h2)]
      rfl
theorem rdI (v : Int) : readS ⟨v, [], [], false, false⟩ [] = .inl ⟨v, [], 0, 0, 0, 0, false, [], []⟩ := rfl
theorem rdJ (v : Int) (q : Bool) : readS ⟨v, [86], [], false, true⟩ ([[49]] ++ nrW q) = .inl ⟨v, [], 0, 0, 0, 0, q, [], []⟩ := by
  refine readS_nr (fun _ => rfl) (qt_few (by simp)) (by simp) rfl ?_ rfl
  rw [takeL_1 (tk_V _)]
  rfl
theorem rdK (v : Int) (x : Bs) (h : x ≠ [] → x = reset) : readS ⟨v, [], [87], false, false⟩ (if x = [] then [] else [x]) = .inl ⟨v, [], 0, 0, 0, 0, false, [], x⟩ := by
  by_cases e : x = []
  · rw [if_pos e, e]; rfl
  · rw [if_neg e, h e]; rfl
theorem rdL (v : Int) (k : Bs) (hk : keyP k) (fs : List Fl) (hf : flS v [] fs = []) : readS ⟨v, [75], [77], true, false⟩ ([k] ++ fs.map fw) = .inl ⟨v, [k], 0, 0, 0, 0, false, fs, []⟩ := by
  refine readS_no (d := ⟨v, [k], 0, 0, 0, 0, false, [], []⟩) rfl (by simp [takes]) ?_ hf
  rw [List.cons_append, List.nil_append, takeL_1 (tk_K _ k hk), takeL_flags _ fs 1 _ (lett_end (fun j h1 h2 => by
    have : j = 1 := by simp at h2; omega
    subst this; rfl) (by simp)) (fun f hm => (flS_good fs [] hf f hm).2)]
  rfl
theorem rdM (v : Int) (k : Bs) (hk : keyP k) (n : Nat) (hn : n ≤ 2147483647) (fs : List Fl) (hf : flS v [] fs = []) : readS ⟨v, [75, 78], [77], true, false⟩ ([k, dg n] ++ fs.map fw) = .inl ⟨v, [k], 0, 0, 0, 0, false, fs, []⟩ := by
  refine readS_no (d := ⟨v, [k], 0, 0, 0, 0, false, [], []⟩) rfl (by simp [takes]) ?_ hf
  rw [List.cons_append, List.cons_append, List.nil_append, takeL_1 (tk_K _ k hk), takeL_1 (tk_N _ n hn), takeL_flags _ fs 2 _ (lett_end (fun j h1 h2 => by
    have : j = 2 := by simp at h2; omega
    subst this; rfl) (by simp)) (fun f hm => (flS_good fs [] hf f hm).2)]
  rfl
end Go.Proofs.YtbbocbdoiealoaaGreatDoor
