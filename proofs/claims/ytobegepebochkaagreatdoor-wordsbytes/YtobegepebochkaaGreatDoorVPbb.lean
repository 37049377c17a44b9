import Derived.Test.YtobegepebochkaaGreatDoorVMs
import Derived.Test.YtobegepebochkaaGreatDoorVMt
import Derived.Test.YtobegepebochkaaGreatDoorVBg
import Derived.Test.YtobegepebochkaaGreatDoorVBi
import Derived.Lib.ParseIntBCases
import Derived.Test.YtobegepebochkaaGreatDoorVPaw
import Derived.Test.YtobegepebochkaaGreatDoorVPar
set_option linter.unusedVariables false
set_option linter.unusedSimpArgs false
namespace Go.Proofs.YtobegepebochkaaGreatDoor
open Go.RowKit
def BokC (w : World) (bb : Nat) (FB : Nat → Prop) (K : Nat) : Prop :=
  ∃ b0 b1 n Fb Kb Vb Wb Nb Db, Box w 31 bb (bkA b0 b1 nilS nilS nilS nilS nilS nilS nilS nilS nilS n) ∧ KdC w Fb 38 5 1 b0 b1 Kb Kb Vb Wb Nb Db ∧
    (∀ i, i < Kb → ∃ l : Bs, Db i = l.map b8) ∧ Kb ≤ K ∧ (0 ≤ n ∧ n ≤ 1300000) ∧ FB bb ∧ (∀ k, Fb k → FB k) ∧ ∀ k, FB k → k < w.heap.size
section
variable {w w' : World} {bb : Nat} {FB F : Nat → Prop} {K : Nat}
theorem BokC.same (h : BokC w bb FB K) (hs : w.heap.size ≤ w'.heap.size) (hf : ∀ k, FB k → w'.heap[k]? = w.heap[k]?) : BokC w' bb FB K := by
  obtain ⟨b0, b1, n, Fb, Kb, Vb, Wb, Nb, Db, hb, k1, l1, m1, hn, f1, f2, f4⟩ := h
  exact ⟨b0, b1, n, Fb, Kb, Vb, Wb, Nb, Db, by unfold Box; rw [hf bb f1]; exact hb, k1.same (fun k hk => hf k (f2 k hk)), l1, m1, hn, f1, f2, fun k hk => Nat.lt_of_lt_of_le (f4 k hk) hs⟩
theorem BokC.lt (h : BokC w bb FB K) : ∀ k, FB k → k < w.heap.size := by
  obtain ⟨b0, b1, n, Fb, Kb, Vb, Wb, Nb, Db, hb, k1, l1, m1, hn, f1, f2, f4⟩ := h
  exact f4
theorem BokC.kept (h : BokC w bb FB K) (hk : Kp F w w') (hd : ∀ k, FB k → ¬ F k) : BokC w' bb FB K :=
  h.same hk.size (fun k h1 => hk.block k (h.lt k h1) (hd k h1))
theorem BokC.kept0 (h : BokC w bb FB K) (hk : w.grownBy w' none) : BokC w' bb FB K := h.kept (Kp.of (F := fun _ => False) hk) (fun _ _ h => h)
theorem BokC.new (hb : Box w 31 bb (bkA nilS nilS nilS nilS nilS nilS nilS nilS nilS nilS nilS 0)) : BokC w bb (fun k => k = bb) 0 :=
  ⟨nilS, nilS, 0, fun _ => False, 0, _, _, _, _, hb, KdC.nil w 1 (by decide), fun i hi => by omega, Nat.le_refl _, by omega, rfl, fun _ h => h.elim, fun k hk => by subst hk; exact hb.lt⟩
theorem BokC.more (h : BokC w bb FB K) : BokC w bb FB (K + 1) := by
  obtain ⟨b0, b1, n, Fb, Kb, Vb, Wb, Nb, Db, hb, k1, l1, m1, hn, f1, f2, f4⟩ := h
  exact ⟨b0, b1, n, Fb, Kb, Vb, Wb, Nb, Db, hb, k1, l1, by omega, hn, f1, f2, f4⟩
theorem bokC_bytes (h : BokC w bb FB K) (hK : K < 1000000) {vao : Option Addr} {vcp m : Nat} {l : Bs} (hv : oC w 0 5 1 (.slice vao m vcp) m (l.map b8)) (hm : m ≤ 1000000) (hvF : ∀ g, (Value.slice vao m vcp).ownBlock = some g → ¬ FB g) :
    Calls Tryz.prog 20 #[.pointer (some ⟨bb, 0, none⟩), .slice vao m vcp] w fun y w' => y = .returned (.tuple #[]) ∧ Kp FB w w' ∧ ∃ FB', BokC w' bb FB' (K + 1) ∧ ∀ k, FB' k → FB k ∨ (Value.slice vao m vcp).ownBlock = some k ∨ w.heap.size ≤ k := by
  have h0 := h
  obtain ⟨b0, b1, n, Fb, Kb, Vb, Wb, Nb, Db, hb, k1, l1, m1, hn, f1, f2, f4⟩ := h
  by_cases hf : 200000 < n
  · refine (full_20 hb hf _).mono ?_
    rintro y w' ⟨rfl, hw⟩
    rw [hw]
    exact ⟨rfl, Kp.refl _ _, FB, h0.more, fun k hk => .inl hk⟩
  · refine (keep_20C hb k1 (by omega) (by omega) hv (fun u hu => by rw [List.mem_map] at hu; obtain ⟨x, _, rfl⟩ := hu; rfl) hm (fun g hg hk => hvF g hg (f2 g hk))).mono ?_
    rintro y w' ⟨rfl, hkp, q0, q1, F', V', W', hb', k1', hF'⟩
    refine ⟨rfl, hkp.mono (fun i hi => .inl (by rcases hi with rfl | hi; exact f1; exact f2 i hi)), fun k => FB k ∨ F' k, ⟨q0, q1, _, F', Kb + 1, V', W', _, _, hb', k1', fun i hi => ?_, by omega, by omega, .inl f1, fun k hk => .inr hk, ?_⟩, ?_⟩
    · by_cases e : i = Kb
      · subst e; rw [upd_same]; exact ⟨l, rfl⟩
      · rw [upd_other _ _ e]; exact l1 i (by omega)
    · rintro k (hk | hk)
      · exact Nat.lt_of_lt_of_le (f4 k hk) hkp.size
      · exact k1'.fl k hk
    · rintro k (hk | hk)
      · exact .inl hk
      · exact (hF' k hk).imp (f2 k) id
set_option maxRecDepth 100000 in
set_option maxHeartbeats 4000000 in
theorem close_22C (h : BokC w bb FB K) (hK : K < 1000000) :
    Calls Tryz.prog 22 #[.pointer (some ⟨bb, 0, none⟩)] w fun y w' => y = .returned (.bool true) ∧ Kp FB w w' := by
  obtain ⟨b0, b1, n, Fb, Kb, Vb, Wb, Nb, Db, hb, k1, l1, m1, hn, f1, f2, f4⟩ := h
  have k2 : ∀ W : World, Kd W (fun _ => False) 36 9 1 nilS nilS 0 0 (fun _ => .slice none 0 0) (fun _ => .slice none 0 0) (fun _ => 0) (fun _ => []) := fun W => Kd.nil W 1 (by decide)
  have h66 := stands_66C hb k1 (k2 w) l1 (fun i hi => by omega) (by omega) (by omega)
  go_enter Tryz.func22, Tryz.ntmps22
  go_wp2_with fail
  refine h66.mono ?_
  rintro y w1 ⟨rfl, hg1⟩
  have hb1 := hb.kept hg1 (by simp)
  have k11 := k1.kept0 hg1
  have h67 := close_67C hb1 k11 rfl rfl (by omega)
  have HG : Hid (Kp FB w w1) := (Kp.refl _ _).step hg1 (by simp)
  clear h66 hb k1 hg1
  go_wp2_with fail
  refine h67.mono ?_
  rintro y w2 ⟨rfl, hk2, ov, mv, hb2⟩
  have h68 := close_68 hb2
  have h69 := close_69 hb2 (k2 w2) rfl rfl (by omega)
  have HG2 : Hid (Kp FB w w2) := HG.out.trans hk2 (fun _ h => h) (fun i hi => .inl (by rcases hi with rfl | hi; exact f1; exact f2 i hi))
  clear h67 hb1 k11 hk2 hb2 HG
  go_wp2_with (go_at_call 68; go_must (refine h68.mono ?_); rintro y w3 ⟨rfl, hw3⟩; subst hw3)
  refine h69.mono ?_
  rintro y w5 ⟨rfl, hk5, ov', mv', hb5⟩
  have h70 := close_70 hb5
  have h71 := close_71 hb5
  have h72 := close_72 hb5
  have h73 := close_73 hb5
  have HP : Hid (Kp FB w w5) := HG2.out.trans hk5 (fun _ h => h) (fun i hi => .inl (by rcases hi with rfl | hi; exact f1; exact hi.elim))
  clear h68 h69 hk5 hb5 HG2
  go_wp2_with (first | (go_at_call 70; go_must (refine h70.mono ?_); rintro y w6 ⟨rfl, hw6⟩; subst hw6) | (go_at_call 71; go_must (refine h71.mono ?_); rintro y w7 ⟨rfl, hw7⟩; subst hw7) | (go_at_call 72; go_must (refine h72.mono ?_); rintro y w8 ⟨rfl, hw8⟩; subst hw8) | (go_at_call 73; go_must (refine h73.mono ?_); rintro y w9 ⟨rfl, hw9⟩; subst hw9))
  go_ret
  exact ⟨rfl, HP.out⟩
end
end Go.Proofs.YtobegepebochkaaGreatDoor
namespace Go.Proofs.YtobegepebochkaaGreatDoor
abbrev isD (b : UInt8) : Prop := 48 ≤ b.toNat ∧ b.toNat ≤ 57
def val (acc : Nat) (l : Bs) : Nat := l.foldl (fun a c => a * 10 + (c.toNat - 48)) acc
theorem val_app (acc : Nat) (l m : Bs) : val acc (l ++ m) = val (val acc l) m := by simp [val]
theorem val_cons (acc : Nat) (b : UInt8) (m : Bs) : val acc (b :: m) = val (acc * 10 + (b.toNat - 48)) m := by simp [val]
theorem val_ge : ∀ (l : Bs) (acc : Nat), acc ≤ val acc l := by
  intro l
  induction l with
  | nil => intro acc; exact Nat.le_refl _
  | cons b t ih => intro acc; rw [val_cons]; have := ih (acc * 10 + (b.toNat - 48)); omega
theorem pu_ok (M : Nat) (hM : M ≤ 18446744073709551615) : ∀ (l : Bs) (acc : Nat), (∀ b ∈ l, isD b) → val acc l ≤ M → Lib.parseUintM M acc l = .ok (val acc l) := by
  intro l
  induction l with
  | nil => intro acc _ _; rfl
  | cons b t ih =>
    intro acc hd hv
    rw [val_cons] at hv ⊢
    have h1 := hd b (by simp)
    have h2 := val_ge t (acc * 10 + (b.toNat - 48))
    rw [Lib.parseUintM, if_pos h1, if_neg (by omega), if_neg (by omega)]
    exact ih _ (fun x hx => hd x (by simp [hx])) hv
theorem pu_digits (M : Nat) : ∀ (l : Bs) (acc u : Nat), Lib.parseUintM M acc l = .ok u → ∀ b ∈ l, isD b := by
  intro l
  induction l with
  | nil => intro acc u _ b hb; cases hb
  | cons c t ih =>
    intro acc u h b hb
    rw [Lib.parseUintM] at h
    split at h
    · rename_i h1
      split at h
      · cases h
      · split at h
        · cases h
        · rcases List.mem_cons.mp hb with rfl | hb
          · exact h1
          · exact ih _ _ h b hb
    · cases h
theorem d8_nat (n : Nat) (h : n < 10) : (d8 48 n).toNat = 48 + n := by simp only [d8, UInt8.toNat_ofNat']; omega
theorem dg_d : ∀ n, (∀ b ∈ dg n, isD b) ∧ dg n ≠ [] ∧ val 0 (dg n) = n := by
  intro n
  induction n using Nat.strongRecOn with
  | _ n ih =>
    by_cases h : n < 10
    · rw [dg_lo n h]
      refine ⟨?_, by simp, ?_⟩
      · intro b hb
        rcases List.mem_singleton.mp hb with rfl
        rw [isD, d8_nat n h]; omega
      · rw [val_cons, d8_nat n h]; simp [val]
    · have h1 := ih (n / 10) (by omega)
      have h2 := ih (n % 10) (by omega)
      rw [dg_hi n h]
      refine ⟨?_, by simp [h1.2.1], ?_⟩
      · intro b hb
        rcases List.mem_append.mp hb with hb | hb
        · exact h1.1 b hb
        · exact h2.1 b hb
      · rw [val_app, h1.2.2, dg_lo _ (by omega : n % 10 < 10), val_cons, d8_nat _ (by omega)]
        simp only [val, List.foldl_nil]; omega
theorem pu_dg (n : Nat) (h : n ≤ 18446744073709551615) : Lib.parseUintB 64 (dg n) = .ok n := by
  have hd := dg_d n
  rw [Lib.parseUintB, if_neg hd.2.1]
  have := pu_ok 18446744073709551615 (by omega) (dg n) 0 hd.1 (by rw [hd.2.2]; exact h)
  rw [hd.2.2] at this
  exact this
theorem nb_dg (most n : Nat) (h : n ≤ most) (hm : most ≤ 18446744073709551615) : nb most (dg n) = some n := by
  rw [nb, pu_dg n (by omega)]; simp [h]
def sg (t : Int) : Bs := if t < 0 then 45 :: dg t.natAbs else dg t.natAbs
theorem tm_sg (t : Int) (h1 : -9223372036854775808 ≤ t) (h2 : t ≤ 9223372036854775807) : tm (sg t) = some t := by
  have hp := pu_dg t.natAbs (by omega)
  by_cases h : t < 0
  · rw [sg, if_pos h, tm, Lib.parseIntB_minus, hp]
    have e : Lib.signedC (2 ^ (64 - 1)) (.ok t.natAbs) = .ok t := by
      simp only [Lib.signedC]
      rw [if_neg (by omega)]
      congr 1; omega
    rw [e]; rfl
  · rw [sg, if_neg h, tm]
    have hd := dg_d t.natAbs
    revert hd hp
    generalize hg : dg t.natAbs = l
    intro hp hd
    match l, hd.2.1 with
    | c :: r, _ =>
      have hc := hd.1 c (by simp)
      rw [isD] at hc
      rw [Lib.parseIntB_plain 64 c r (by omega) (by omega), hp]
      have e : Lib.signlessC (2 ^ (64 - 1)) (.ok t.natAbs) = .ok t := by
        simp only [Lib.signlessC]
        rw [if_neg (by omega)]
        congr 1; omega
      rw [e]
      have : c ≠ 43 := fun hh => by subst hh; simp at hc
      simp [this]
end Go.Proofs.YtobegepebochkaaGreatDoor
namespace Go.Proofs.YtobegepebochkaaGreatDoor
abbrev wdP (l : Bs) : Prop := l ≠ [] ∧ (32 : UInt8) ∉ l
def bls (ws : List Bs) : Bs := ws.flatMap fun w => 32 :: w
theorem bls_cons (w : Bs) (ws : List Bs) : bls (w :: ws) = 32 :: (w ++ bls ws) := by simp [bls]
theorem bls_app (a b : List Bs) : bls (a ++ b) = bls a ++ bls b := by simp [bls]
theorem spl_app : ∀ (l cur t : Bs), (32 : UInt8) ∉ l → spl cur (l ++ t) = spl (cur ++ l) t := by
  intro l
  induction l with
  | nil => intro cur t _; simp
  | cons b l ih =>
    intro cur t h
    have hb : b ≠ 32 := fun e => h (by simp [e])
    rw [List.cons_append, spl, if_neg hb, ih (cur ++ [b]) t (fun e => h (by simp [e]))]
    simp
theorem spl_bls : ∀ (ws : List Bs) (cur : Bs), cur ≠ [] → (∀ w ∈ ws, wdP w) → spl cur (bls ws) = cur :: ws := by
  intro ws
  induction ws with
  | nil => intro cur h _; simp [bls, spl, h]
  | cons w ws ih =>
    intro cur h hw
    have h1 := hw w (by simp)
    rw [bls_cons, spl, if_pos rfl, if_neg h, spl_app w [] _ h1.2, List.nil_append, ih w h1.1 (fun x hx => hw x (by simp [hx]))]
theorem spl_line (x : Bs) (ws : List Bs) (hx : wdP x) (hw : ∀ w ∈ ws, wdP w) : spl [] (x ++ bls ws) = x :: ws := by
  rw [spl_app x [] _ hx.2, List.nil_append, spl_bls ws x hx.1 hw]
theorem wdP_digits {l : Bs} (h : ∀ b ∈ l, isD b) (h0 : l ≠ []) : wdP l := ⟨h0, fun hb => by have := h 32 hb; simp [isD] at this⟩
theorem wdP_dg (n : Nat) : wdP (dg n) := wdP_digits (dg_d n).1 (dg_d n).2.1
theorem wdP_sg (t : Int) : wdP (sg t) := by
  unfold sg
  split
  · refine ⟨by simp, fun h => ?_⟩
    rcases List.mem_cons.mp h with h | h
    · cases h
    · exact (wdP_dg t.natAbs).2 h
  · exact wdP_dg _
theorem plain_no {l : Bs} (h : plain l = true) : (32 : UInt8) ∉ l := by
  intro hb
  have := List.all_eq_true.mp h 32 hb
  simp at this
abbrev keyP (k : Bs) : Prop := k ≠ [] ∧ k.length ≤ 250 ∧ plain k = true
theorem keyP.wd {k : Bs} (h : keyP k) : wdP k := ⟨h.1, plain_no h.2.2⟩
theorem nb_no {most : Nat} {l : Bs} (h : (nb most l).isSome = true) : (32 : UInt8) ∉ l := by
  rw [nb] at h
  intro hb
  split at h
  · rename_i u hu
    rw [Lib.parseUintB] at hu
    split at hu
    · cases hu
    · have := pu_digits _ _ _ _ hu 32 hb
      simp [isD] at this
  · cases h
theorem puB_no {l : Bs} {u : Nat} (h : Lib.parseUintB 64 l = .ok u) : (32 : UInt8) ∉ l := by
  intro hb
  rw [Lib.parseUintB] at h
  split at h
  · cases h
  · have := pu_digits _ _ _ _ h 32 hb
    simp [isD] at this
theorem tm_no {l : Bs} (h : (tm l).isSome = true) : (32 : UInt8) ∉ l := by
  rw [tm] at h
  split at h
  · rename_i v hv
    match l with
    | [] => simp
    | c :: r =>
      rw [Lib.parseIntB] at hv
      by_cases hc : c.toNat = 43 ∨ c.toNat = 45
      · simp only [if_pos hc] at hv
        cases hp : Lib.parseUintB 64 r with
        | ok u =>
          have := puB_no hp
          intro hb
          rcases List.mem_cons.mp hb with rfl | hb
          · simp at hc
          · exact this hb
        | _ => rw [hp] at hv; cases hv
      · simp only [if_neg hc] at hv
        cases hp : Lib.parseUintB 64 (c :: r) with
        | ok u => exact puB_no hp
        | _ => rw [hp] at hv; cases hv
  · cases h
theorem modeW_no {v : Int} {l : Bs} (h : mode1 v l = true) : (32 : UInt8) ∉ l := by
  match l, h with
  | [b], h =>
    intro hb
    rcases List.mem_singleton.mp hb with rfl
    simp only [mode1, modes] at h
    split at h <;> simp at h
theorem follows_no {v : Int} {f : Fl} (h : follows v f = true) : (32 : UInt8) ∉ f.arg := by
  unfold follows at h
  split at h
  · exact plain_no h
  · split at h
    · exact tm_no h
    · split at h
      · exact nb_no h
      · split at h
        · exact nb_no h
        · split at h
          · exact modeW_no h
          · cases h
theorem letter_no {v : Int} : (bare v).contains 32 = false ∧ (full v).contains 32 = false := by
  constructor
  · unfold bare; repeat' split
    all_goals rfl
  · unfold full; repeat' split
    all_goals rfl
def fw (f : Fl) : Bs := f.letter :: f.arg
theorem fl1_good {v : Int} {seen : Bs} {f : Fl} (h : fl1 v seen f = []) : wdP (fw f) ∧ f.has = decide (f.arg ≠ []) := by
  unfold fl1 at h
  split at h
  · cases h
  · rename_i h1
    split at h
    · cases h
    · split at h
      · cases h
      · split at h
        · cases h
        · rename_i h4
          have h41 : f.has = decide (f.arg ≠ []) := by
            by_cases e : f.has = decide (f.arg ≠ [])
            · exact e
            · exact absurd (.inl e) h4
          refine ⟨⟨by simp [fw], fun hb => ?_⟩, h41⟩
          rcases List.mem_cons.mp hb with e | hb
          · rw [← e, letter_no.1, letter_no.2] at h1
            exact h1 rfl
          · have ha : f.arg ≠ [] := fun e => by rw [e] at hb; cases hb
            have hh : f.has = true := by rw [h41]; simpa using ha
            have hf : follows v f = true := by
              cases e : follows v f with
              | true => rfl
              | false => exact absurd (.inr (.inr ⟨hh, e⟩)) h4
            exact follows_no hf hb
theorem flS_good {v : Int} : ∀ (l : List Fl) (seen : Bs), flS v seen l = [] → ∀ f ∈ l, wdP (fw f) ∧ f.has = decide (f.arg ≠ []) := by
  intro l
  induction l with
  | nil => intro _ _ f hf; cases hf
  | cons g t ih =>
    intro seen h f hf
    rw [flS] at h
    split at h
    · rename_i hg
      rcases List.mem_cons.mp hf with rfl | hf
      · exact fl1_good hg
      · exact ih _ h f hf
    · rename_i hg
      exact absurd h hg
theorem takeL_keys (r : Rw) : ∀ (ks : List Bs) (i : Nat) (c : Cmd), (∀ j, i ≤ j → lett r j = 75) → (∀ k ∈ ks, keyP k) → takeL r i c ks = .inl { c with keys := c.keys ++ ks } := by
  intro ks
  induction ks with
  | nil => intro i c _ _; simp [takeL]
  | cons k ks ih =>
    intro i c hl hk
    have h1 := hk k (by simp)
    rw [takeL, hl i (by omega), take1, if_pos rfl, if_pos h1.2]
    simp only
    rw [ih (i + 1) _ (fun j hj => hl j (by omega)) (fun x hx => hk x (by simp [hx]))]
    simp
theorem takeL_flags (r : Rw) : ∀ (fs : List Fl) (i : Nat) (c : Cmd), (∀ j, i ≤ j → lett r j = 77) → (∀ f ∈ fs, f.has = decide (f.arg ≠ [])) → takeL r i c (fs.map fw) = .inl { c with mt := c.mt ++ fs } := by
  intro fs
  induction fs with
  | nil => intro i c _ _; simp [takeL]
  | cons f fs ih =>
    intro i c hl hk
    have h1 := hk f (by simp)
    rw [List.map_cons, takeL, hl i (by omega)]
    have e : take1 c 77 (fw f) = .inl { c with mt := c.mt ++ [f] } := by
      have hf : (⟨(fw f).headD 0, (fw f).tail, decide (1 < (fw f).length)⟩ : Fl) = f := by
        obtain ⟨a, b, h⟩ := f
        have h2 : h = decide (b ≠ []) := h1
        rw [h2]
        simp only [fw, List.headD_cons, List.tail_cons, List.length_cons]
        congr 1
        cases b <;> simp
      have h2 : take1 c 77 (fw f) = .inl { c with mt := c.mt ++ [(⟨(fw f).headD 0, (fw f).tail, decide (1 < (fw f).length)⟩ : Fl)] } := rfl
      rw [h2, hf]
    rw [e]
    simp only
    rw [ih (i + 1) _ (fun j hj => hl j (by omega)) (fun x hx => hk x (by simp [hx]))]
    simp
end Go.Proofs.YtobegepebochkaaGreatDoor
namespace Go.Proofs.YtobegepebochkaaGreatDoor
def lw (c : Cmd) (n : Nat) (a : UInt8) : List Bs :=
  if a = 75 then c.keys else
  if a = 70 then [dg c.flags] else
  if a = 84 then [sg c.exp] else
  if a = 78 then [dg n] else
  if a = 67 then [dg c.tok] else
  if a = 68 then [dg c.del] else
  if a = 86 then [[49]] else
  if a = 87 then (if c.what = [] then [] else [c.what]) else
  if a = 71 then c.mt.map fw else
  if a = 83 then (if c.exp = 0 then [] else [sg c.exp]) else []
abbrev nrW (q : Bool) : List Bs := if q then [noreply] else []
def lws (i : Nat) (c : Cmd) (n : Nat) : List Bs := (dr i).shape.flatMap (lw c n) ++ nrW c.nr
def lnB (i : Nat) (c : Cmd) (n : Nat) : Bs := spn i ++ bls (lws i c n)
structure RngP (c : Cmd) : Prop where
  e1 : -9223372036854775808 ≤ c.exp
  e2 : c.exp ≤ 9223372036854775807
  tok : c.tok ≤ 18446744073709551615
  del : c.del ≤ 18446744073709551615
structure MayP (i : Nat) (c : Cmd) (n : Nat) : Prop where
  verb : c.verb = (i : Int) + 1
  one : 4 ≤ i → c.keys.length ≤ 1
  keyed : c.keys ≠ [] ↔ (75 : UInt8) ∈ (dr i).shape
  keys : ∀ k ∈ c.keys, keyP k
  flags : c.flags ≤ 4294967295
  hF : c.flags ≠ 0 → (70 : UInt8) ∈ (dr i).shape
  hT : c.exp ≠ 0 → (84 : UInt8) ∈ (dr i).shape ∨ (83 : UInt8) ∈ (dr i).shape
  hC : c.tok ≠ 0 → (67 : UInt8) ∈ (dr i).shape
  hD : c.del ≠ 0 → (68 : UInt8) ∈ (dr i).shape
  hG : c.mt ≠ [] → (71 : UInt8) ∈ (dr i).shape
  mt : flS c.verb [] c.mt = []
  what : c.what ≠ [] → i = 18 ∧ c.what = reset
  flush : i = 14 → 0 ≤ c.exp
  nr : c.nr = true → (dr i).reply = true
  data : n ≠ 0 → (dr i).block = true
  most : n ≤ 2147483647
theorem tk_K (c : Cmd) (k : Bs) (h : keyP k) : take1 c 75 k = .inl { c with keys := c.keys ++ [k] } := by
  rw [take1, if_pos rfl, if_pos h.2]
theorem tk_F (c : Cmd) (n : Nat) (h : n ≤ 4294967295) : take1 c 70 (dg n) = .inl { c with flags := n } := by
  rw [take1, if_neg (by decide), if_pos rfl, nb_dg _ n h (by omega)]
theorem tk_T (c : Cmd) (t : Int) (h1 : -9223372036854775808 ≤ t) (h2 : t ≤ 9223372036854775807) : take1 c 84 (sg t) = .inl { c with exp := t } := by
  rw [take1, if_neg (by decide), if_neg (by decide), if_pos (.inl rfl), tm_sg t h1 h2]
  simp
theorem tk_L (c : Cmd) (t : Int) (h1 : 0 ≤ t) (h2 : t ≤ 9223372036854775807) : take1 c 76 (sg t) = .inl { c with exp := t } := by
  rw [take1, if_neg (by decide), if_neg (by decide), if_pos (.inr rfl), tm_sg t (by omega) h2]
  simp [h1]
theorem tk_N (c : Cmd) (n : Nat) (h : n ≤ 2147483647) : take1 c 78 (dg n) = .inl c := by
  rw [take1, if_neg (by decide), if_neg (by decide), if_neg (by decide), if_pos (.inl rfl), nb_dg _ n h (by omega)]
theorem tk_C (c : Cmd) (n : Nat) (h : n ≤ 18446744073709551615) : take1 c 67 (dg n) = .inl { c with tok := n } := by
  rw [take1, if_neg (by decide), if_neg (by decide), if_neg (by decide), if_neg (by decide), if_pos rfl, nb_dg _ n h (by omega)]
theorem tk_D (c : Cmd) (n : Nat) (h : n ≤ 18446744073709551615) : take1 c 68 (dg n) = .inl { c with del := n } := by
  rw [take1, if_neg (by decide), if_neg (by decide), if_neg (by decide), if_neg (by decide), if_neg (by decide), if_pos rfl, nb_dg _ n h (by omega)]
theorem dg_1 : dg 1 = [49] := by rw [dg_lo 1 (by decide)]; rfl
theorem tk_V (c : Cmd) : take1 c 86 [49] = .inl c := by
  rw [take1, if_neg (by decide), if_neg (by decide), if_neg (by decide), if_pos (.inr rfl), ← dg_1, nb_dg _ 1 (by omega) (by omega)]
theorem takeL_1 {r : Rw} {i : Nat} {c d : Cmd} {x : Bs} {t : List Bs} (h : take1 c (lett r i) x = .inl d) : takeL r i c (x :: t) = takeL r (i + 1) d t := by
  rw [takeL, h]
theorem readS_no {r : Rw} {ws : List Bs} {c d : Cmd} (hq : qt r ws = false) (ht : takes r ws.length = true) (hl : takeL r 0 (cmd0 r.verb false) ws = .inl c) (hf : flS r.verb [] c.mt = []) : readS r ws = .inl c := by
  unfold readS
  simp only [hq, Bool.false_eq_true, if_false, ht, if_true, hl, fin, hf]
theorem qt_yes {r : Rw} {ws : List Bs} (hq : r.quiet = true) (hl : r.wants.length ≤ ws.length) : qt r (ws ++ [noreply]) = true := by
  unfold qt
  rw [hq]
  simp
  omega
theorem readS_yes {r : Rw} {ws : List Bs} {c d : Cmd} (hq : r.quiet = true) (hw : r.wants.length ≤ ws.length) (ht : takes r ws.length = true) (hl : takeL r 0 (cmd0 r.verb true) ws = .inl c) (hf : flS r.verb [] c.mt = []) : readS r (ws ++ [noreply]) = .inl c := by
  unfold readS
  have := qt_yes hq hw
  simp only [this, if_true, List.dropLast_concat, ht, hl, fin, hf]
theorem readS_nr {r : Rw} {ws : List Bs} {q : Bool} {c : Cmd} (hq : q = true → r.quiet = true) (hn : qt r ws = false) (hw : r.wants.length ≤ ws.length) (ht : takes r ws.length = true) (hl : takeL r 0 (cmd0 r.verb q) ws = .inl c) (hf : flS r.verb [] c.mt = []) : readS r (ws ++ nrW q) = .inl c := by
  cases q with
  | false => rw [show ws ++ nrW false = ws from by simp [nrW]]; exact readS_no (d := c) hn ht hl hf
  | true => exact readS_yes (d := c) (hq rfl) hw ht hl hf
theorem qt_few {r : Rw} {ws : List Bs} (h : ws.length ≤ r.wants.length) : qt r ws = false := by
  unfold qt
  have : decide (r.wants.length + 1 ≤ ws.length) = false := by simp; omega
  rw [this]; simp
theorem key1 {ks : List Bs} (h0 : ks ≠ []) (h1 : ks.length ≤ 1) : ∃ k, ks = [k] := by
  match ks, h0, h1 with
  | [k], _, _ => exact ⟨k, rfl⟩
theorem lett_end {r : Rw} {a : UInt8} {i : Nat} (h : ∀ j, i ≤ j → j ≤ (r.wants ++ r.may).length - 1 → (r.wants ++ r.may).getD j 0 = a) (hi : i ≤ (r.wants ++ r.may).length - 1) : ∀ j, i ≤ j → lett r j = a := by
  intro j hj
  unfold lett
  exact h _ (by omega) (by omega)
end Go.Proofs.YtobegepebochkaaGreatDoor
