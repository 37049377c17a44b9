import Derived.Test.YtndjimdegkdljaaYr
/-
  alike: all that both disks tell.
-/
namespace Go.Proofs.Ytndjimdegkdljaa
open Go.RowKit Go.MapKept
set_option linter.unusedVariables false
set_option linter.unusedSimpArgs false
attribute [local go_sem] Oper.semAt_some

theorem Dv.trans {w0 w w' : World} {G : Nat → Prop} {p : Pl} {q : Rl} {M N : Md} (h4 : Kp G w0 w) (h5 : ∀ b, b < w0.heap.size → ¬ G b → p.col b = 0 ∧ q.col b = 0) (k : Dv w w' (Both p q) p.d q.d M N) : Dv w0 w' G p.d q.d M N := by
  obtain ⟨p2, q2, e1, e2, k3, k4, k5⟩ := k
  refine ⟨p2, q2, e1, e2, k3, h4.trans k4 (fun _ h => h) (fun b hb => ?_), fun b hb hG => k5 b (Nat.lt_of_lt_of_le hb h4.size) ?_⟩
  · rcases Nat.lt_or_ge b w0.heap.size with hl | hl
    · by_cases hG : G b
      · exact .inl hG
      · have := h5 b hl hG
        rcases hb with h1 | h1
        · exact absurd this.1 h1
        · exact absurd this.2 h1
    · exact .inr hl
  · have := h5 b hb hG
    rintro (h1 | h1)
    · exact h1 this.1
    · exact h1 this.2
/-- acts, on two disks that stand as Dv says. -/
theorem acts_dv {w0 w : World} {G : Nat → Prop} {d r : Nat} {M : Md} (D : Dv w0 w G d r M M) (hac : M.acts ≤ 399) (on dov cnk : Int) (nm tn bs : Bs) (P : List Flt) (ls : List Int) {ba pa ca : Option Addr} {nb np nl bc pc cc : Nat}
    (hbl : bs.length = min nb 2097152) (hPl : P.length = min np 1000) (hll : ls.length = min nl 10000) (eb : nb ≤ bc) (ep : np ≤ pc) (ec : nl ≤ cc) (eb3 : bc ≤ maxLen) (ep3 : pc ≤ maxLen) (ec3 : cc ≤ maxLen)
    (hb : ∀ col : Nat → Nat, (∀ b, b < w0.heap.size → ¬ G b → col b = 0) → Hin w col (.slice ba bs.length bc) bs.length 1 (bs.map b8))
    (hp : ∀ col : Nat → Nat, (∀ b, b < w0.heap.size → ¬ G b → col b = 0) → Hin w col (.slice pa P.length pc) P.length 3 (P.flatMap fltL))
    (hc : ∀ col : Nat → Nat, (∀ b, b < w0.heap.size → ¬ G b → col b = 0) → Hin w col (.slice ca ls.length cc) ls.length 1 (ls.map (Value.int .i64)))
    (hnm : nm.length ≤ 140737488351232) (htn : tn.length ≤ 140737488351232) :
    Calls Try.prog 9 #[pv d, pv r, .agg #[.int .i64 on, .int .i64 dov, sv nm, sv tn, .slice ba nb bc, .slice pa np pc, .slice ca nl cc, .int .i64 cnk]] w fun e w' =>
      e = .returned (.bool true) ∧ ∃ M', Dv w0 w' G d r M' M' ∧ M'.acts ≤ M.acts + (if dov ≤ 6 then 1 else 0) := by
  obtain ⟨p, q, rfl, rfl, h3, h4, h5⟩ := D
  have hcz : ∀ b, b < w0.heap.size → ¬ G b → cz w.heap.size p q b = 0 := fun b hb hG => by
    have := h5 b hb hG
    unfold cz
    rw [if_pos (Nat.lt_of_lt_of_le hb h4.size)]
    omega
  refine (acts_9 h3 hac on dov cnk nm tn bs P ls hbl hPl hll eb ep ec eb3 ep3 ec3 (hb _ hcz) (hp _ hcz) (hc _ hcz) hnm htn).mono ?_
  rintro e w' ⟨he, M', hD, hM⟩
  exact ⟨he, M', Dv.trans h4 h5 hD, hM⟩
/-- The names of the document's disk, dark or not. -/
theorem rnames_any {w : World} {q : Rl} {M : Md} (h : RR w q M) :
    Calls Try.prog 39 #[pv q.d] w fun e w' => ∃ (v : Value) (NL : List Bs), e = .returned v ∧ w'.ownsRow w.heap.size 9 1 v NL.length (NL.map sv) ∧ (∀ s ∈ NL, s.length ≤ 32) ∧ NL.length ≤ M.acts ∧ w.grownBy w' none := by
  by_cases hd : M.dark = true
  · refine (rnames_dark h hd).mono ?_
    rintro e w' ⟨rfl, rfl⟩
    exact ⟨_, [], rfl, World.ownsRow_nil _ _ _ _, by simp, by simp, gb_refl _ _⟩
  · obtain ⟨L, hL, hLl⟩ := h.rep
    refine (rnames_39 h (by simpa using hd) hL).mono ?_
    rintro e w' ⟨v, rfl, hr, g⟩
    refine ⟨v, srt L, rfl, by rw [srt_len]; exact hr, fun s hs => ?_, by rw [srt_len]; exact hLl, g⟩
    unfold srt at hs
    have hs2 := (List.mergeSort_perm _ _).mem_iff.1 hs
    obtain ⟨⟨s', k⟩, hm, rfl⟩ := List.mem_map.1 hs2
    have := mem_lk hL.nd hm
    rw [hL.lk] at this
    exact names_len h.ok this
set_option maxRecDepth 100000 in
set_option maxHeartbeats 8000000 in
theorem alike_10 {w : World} {p : Pl} {q : Rl} {M : Md} (h : Dz w p q M M) (hac : M.acts ≤ 390) :
    Calls Try.prog 10 #[pv p.d, pv q.d] w fun e w' => e = .returned (.bool true) ∧ ∃ M', Dv w w' (Both p q) p.d q.d M' M' ∧ M'.acts ≤ M.acts := by
  have HD := Lib.hid (Dv.start h)
  clear h
  have hmx : (0 : Nat) ≤ maxLen := Nat.zero_le _
  obtain ⟨G, hG⟩ : ∃ G, Both p q = G := ⟨_, rfl⟩
  rw [hG] at HD ⊢
  clear hG
  generalize p.d = d at *
  generalize q.d = r at *
  go_enter Try.func10, Try.ntmps10
  go_upto_block 0 with fail
  go_cut [5] from 8 to 17 (fun x5 wd => ∃ M' : Md, Dv w wd G d r M' M' ∧ M'.acts ≤ M.acts)
  case first =>
    go_wp2_with fail
    go_loopw [5] (fun x5 wr => ∃ (k : Nat) (M' : Md), 8 ≤ k ∧ k ≤ 12 ∧ x5 = .int .i64 (k : Int) ∧ Dv w wr G d r M' M' ∧ M'.acts ≤ M.acts) (fun x5 _ => 12 - (intOf x5).toNat)
    case atStart => exact ⟨8, M, by omega, by omega, rfl, HD.out, Nat.le_refl _⟩
    case round =>
      obtain ⟨k, M', hk1, hk2, rfl, hD, hM⟩ := hrel
      clear HD
      by_cases hk : k ≤ 11
      · have dk : decide ((k : Int) ≤ 11) = true := by simp; omega
        have hk' : (k : Int) ≤ 11 := by omega
        have hwk : IntKind.i64.wrap ((k : Int) + 1) = (k : Int) + 1 := by rw [IntKind.wrap_i64]; omega
        have h9 := acts_dv hD (by omega) 0 (k : Int) 0 [] [] [] [] [] (ba := none) (pa := none) (ca := none) (nb := 0) (np := 0) (nl := 0) (bc := 0) (pc := 0) (cc := 0) rfl rfl rfl (Nat.le_refl _) (Nat.le_refl _) (Nat.le_refl _) hmx hmx hmx (fun _ _ => Hin.nil _ _ _) (fun _ _ => Hin.nil _ _ _) (fun _ _ => Hin.nil _ _ _) (by decide) (by decide)
        rw [if_neg (show ¬ (k : Int) ≤ 6 by omega)] at h9
        simp only [List.length_nil, Nat.add_zero] at h9
        clear hD
        go_wp2_with (go_at_call 9; go_must (refine h9.mono ?_); rintro e w1 ⟨rfl, M1, hD1, hM1⟩; (have H1 := Lib.hid hD1); clear hD1)
        exact ⟨⟨k + 1, M1, by omega, by omega, by first | rfl | simp, H1.out, by omega⟩, by simp [intOf]; omega⟩
      · have dk : decide ((k : Int) ≤ 11) = false := by simp; omega
        have hk' : ¬ (k : Int) ≤ 11 := by omega
        have H1 := Lib.hid hD
        clear hD
        go_wp2_with fail
        go_meet
        exact ⟨M', H1.out, hM⟩
  case rest =>
    obtain ⟨M1, hD1, hM1⟩ := hcut
    obtain ⟨W, hW⟩ : ∃ W, W = wc := ⟨_, rfl⟩
    subst hW
    obtain ⟨p1, q1, rfl, rfl, k3, k4, k5⟩ := hD1
    have h39 := rnames_any k3.rr
    have HK := Lib.hid (And.intro k3 (And.intro k4 k5))
    clear k3 k4 k5 HD
    go_upto_region 7 with (go_at_call 39; go_must (refine h39.mono ?_); rintro e wn ⟨v, NL, rfl, hrow, hlen, hNL, gn⟩)
    obtain ⟨k3, k4, k5⟩ := HK.out
    have hD2 : Dv wn wn (Both p1 q1) p1.d q1.d M1 M1 := Dv.start (k3.gb gn)
    have hvB : ∀ b, v.ownBlock = some b → ¬ Both p1 q1 b := fun b hb hB => by
      have h1 := (row_ge hrow hb).1
      have := k3.lt hB
      omega
    have HR := Lib.hid (And.intro hrow (And.intro hvB (And.intro hlen (And.intro gn hD2))))
    obtain ⟨va, vc, rfl, -, hvc, hvm, hvpos⟩ := row_shape hrow
    clear k3 k4 k5 hD2 hvB hrow hlen gn h39
    obtain ⟨n, hn⟩ : ∃ n, NL.length = n := ⟨_, rfl⟩
    rw [hn] at hvpos hvc hNL ⊢
    have HN := Lib.hid hn
    clear hn
    have hna := Nat.le_trans hNL hM1
    go_wp2_with fail
    go_loopw [7] (fun x7 wr => ∃ (i : Nat) (M' : Md), i ≤ n ∧ x7 = .int .i64 (i : Int) ∧ Dv wn wr (Both p1 q1) p1.d q1.d M' M' ∧ M'.acts ≤ M.acts) (fun x7 _ => n - (intOf x7).toNat)
    case atStart => exact ⟨0, M1, by omega, rfl, HR.out.2.2.2.2, hM1⟩
    case round =>
      obtain ⟨i, M', hi, rfl, hD, hM⟩ := hrel
      by_cases hlt : i < n
      · obtain ⟨s, hs⟩ : ∃ s, NL[i]? = some s := ⟨_, List.getElem?_eq_getElem (by rw [HN.out]; omega)⟩
        obtain ⟨gv, rfl⟩ := hvpos (by omega)
        have hrw := row_same HR.out.1 (w' := wr) (fun b hb => hD.kpp.block b (by obtain ⟨cur, hc⟩ := row_block HR.out.1 b hb; exact lt_of_block hc) (HR.out.2.1 b hb))
        rw [HN.out] at hrw
        have q0 : wr.cell? ⟨gv, i, none⟩ = some (sv s) := row_cell hrw i _ (by rw [List.getElem?_map, hs]; rfl)
        have hsl := HR.out.2.2.1 s (List.mem_of_getElem? hs)
        have d1 : decide ((i : Int) < (n : Int)) = true := by simp; omega
        have d2 : (i : Int) < (n : Int) := by omega
        have d3 : (0 : Int) ≤ (i : Int) := by omega
        have hwi : IntKind.i64.wrap ((i : Int) + 1) = (i : Int) + 1 := by rw [IntKind.wrap_i64]; omega
        have h9 := acts_dv hD (by omega) 0 7 0 s [] [] [] [] (ba := none) (pa := none) (ca := none) (nb := 0) (np := 0) (nl := 0) (bc := 0) (pc := 0) (cc := 0) rfl rfl rfl (Nat.le_refl _) (Nat.le_refl _) (Nat.le_refl _) hmx hmx hmx (fun _ _ => Hin.nil _ _ _) (fun _ _ => Hin.nil _ _ _) (fun _ _ => Hin.nil _ _ _) (Nat.le_trans hsl (by decide)) (by decide)
        rw [if_neg (show ¬ (7 : Int) ≤ 6 by decide)] at h9
        simp only [List.length_nil, Nat.add_zero] at h9
        clear hD hrw hs
        go_wp2_with (go_at_call 9; go_must (refine h9.mono ?_); rintro e w1 ⟨rfl, M2, hD1, hM2⟩; (have H1 := Lib.hid hD1); clear hD1)
        exact ⟨⟨i + 1, M2, by omega, by first | rfl | simp, H1.out, by omega⟩, by simp [intOf]; omega⟩
      · obtain rfl : i = n := by omega
        have d1 : decide ((i : Int) < (i : Int)) = false := by simp
        have H1 := Lib.hid hD
        clear hD
        go_wp2_with fail
        go_ret
        obtain ⟨k3, k4, k5⟩ := HK.out
        exact ⟨rfl, M', Dv.trans k4 k5 (Dv.base HR.out.2.2.2.1 H1.out), hM⟩
end Go.Proofs.Ytndjimdegkdljaa
