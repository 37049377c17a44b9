import Derived.Test.YtndjimdegkdljaaZb
import Derived.Test.YtndjimdegkdljaaZ
import Derived.Deep.RegionWith
/-
  Append.
-/
namespace Go.Proofs.Ytndjimdegkdljaa
open Go.RowKit Go.MapKept
set_option linter.unusedVariables false
set_option linter.unusedSimpArgs false
attribute [local go_sem] Oper.semAt_some

/-- A row that can be read: n elements, whatever its mark. -/
def Rdr (w : World) (el : TypeId) (sz : Nat) (g n c : Nat) (xs : List Value) : Prop := xs.length = n * sz ∧ n ≤ c ∧ c ≤ maxLen ∧ ∃ cur fr, w.heap[g]? = some (.cells cur el fr) ∧ cur.toList.take (n * sz) = xs
theorem Rdr.same {w w' : World} {el : TypeId} {sz g n c : Nat} {xs : List Value} (h : Rdr w el sz g n c xs) (e : w'.heap[g]? = w.heap[g]?) : Rdr w' el sz g n c xs := by
  obtain ⟨h1, h2, h3, cur, fr, h4, h5⟩ := h
  exact ⟨h1, h2, h3, cur, fr, e.trans h4, h5⟩
theorem Rdr.lt {w : World} {el : TypeId} {sz g n c : Nat} {xs : List Value} (h : Rdr w el sz g n c xs) : g < w.heap.size := by
  obtain ⟨h1, h2, h3, cur, fr, h4, h5⟩ := h
  exact lt_of_block h4
theorem Rdr.kept {w w' : World} {el : TypeId} {sz g n c : Nat} {xs : List Value} (h : Rdr w el sz g n c xs) {row : Option Nat} (hg : w.grownBy w' row) (hne : some g ≠ row) : Rdr w' el sz g n c xs := h.same (hg.block g h.lt hne)
theorem Rdr.take {w : World} {el : TypeId} {sz g n c m : Nat} {xs : List Value} (h : Rdr w el sz g n c xs) (hm : m ≤ n) : Rdr w el sz g m c (xs.take (m * sz)) := by
  obtain ⟨h1, h2, h3, cur, fr, h4, h5⟩ := h
  have hms : m * sz ≤ n * sz := Nat.mul_le_mul_right sz hm
  refine ⟨by rw [List.length_take, h1]; omega, by omega, h3, cur, fr, h4, ?_⟩
  rw [← h5, List.take_take]
  congr 1; omega
theorem Rdr.cell {w : World} {el : TypeId} {sz g n c : Nat} {xs : List Value} (h : Rdr w el sz g n c xs) (i : Nat) (u : Value) (hu : xs[i]? = some u) : w.cell? ⟨g, i, none⟩ = some u := by
  obtain ⟨h1, h2, h3, cur, fr, h4, h5⟩ := h
  have hi : i < n * sz := by rw [← h1]; exact (List.getElem?_eq_some_iff.1 hu).1
  rw [← h5, List.getElem?_take_of_lt hi] at hu
  simp only [World.cell?, h4]
  simpa using hu
theorem Rdr.of {w : World} {B : Nat} {el : TypeId} {sz g n c : Nat} {xs : List Value} (h : w.ownsRow B el sz (.slice (some ⟨g, 0, none⟩) n c) n xs) : Rdr w el sz g n c xs := by
  rcases h.2 with ⟨h1, _⟩ | ⟨g', c', cur, h1, h2, h3, h4, h5, h6, h7⟩
  · simp at h1
  · simp at h1
    obtain ⟨rfl, rfl⟩ := h1
    exact ⟨h.1, h4, h5, cur, _, h3, h7⟩
section
variable {sl el : TypeId} {ti : TypeInfo} {z : Value} {sz bs : Nat} {w : World} {ops : Array Oper} {o : Oper} {a : Act} {Q : Exit → Act → World → Prop}
/-- append(l, m...) of a row of any length, in a region that draws. -/
theorem step_row {K : Act → World → Prop} {E : Prop} (T : Ty sl el ti z sz bs) (hgd : o.guard = none) (s x : Operand)
    (ho : o.op = .call { callee := .builtin .append, args := #[s, x], argTypes := #[sl, sl] }) (v : Value) (n : Nat) (xs : List Value) (hs : a.eval s = v) (hown : w.ownsRow 0 el sz v n xs) (g : Nat) (m cp : Nat) (news : List Value) (hx : a.eval x = .slice (some ⟨g, 0, none⟩) m cp) (hu : Rdr w el sz g m cp news) (h1 : ∀ u ∈ news, u.oneCell' = true) (hn : n + m ≤ 1000000000)
    (h : ∀ ao c w', w'.ownsRow 0 el sz (.slice ao (n + m) c) (n + m) (xs ++ news) → w.grownBy w' v.ownBlock → (∀ b, (Value.slice ao (n + m) c).ownBlock = some b → v.ownBlock = some b ∨ w.heap.size ≤ b) → K (a.put o.dst (.slice ao (n + m) c)) w') :
    if Region.wanted o (yielded ops a.tmps) = true then Oper.wp Try.prog o a w K Q else E := by
  have hw : Region.wanted o (yielded ops a.tmps) = true := by simp [Region.wanted, hgd]
  rw [if_pos hw]
  by_cases h0 : m = 0
  · subst h0
    have hxs : news = [] := List.length_eq_zero_iff.1 (by rw [hu.1]; omega)
    subst hxs
    have hrun := run_psh0 T w o.type 0 _ n xs hown (.slice (some ⟨g, 0, none⟩) 0 cp) ⟨_, cp, rfl⟩
    obtain ⟨ao2, c2, e2, -⟩ := row_shape hown
    unfold Oper.wp
    simp [execOp, ho, resolve, invoke, builtin, hs, hx, hrun, Result.andThen]
    subst e2
    exact h ao2 c2 w (by rw [List.append_nil]; exact hown) (gb_refl _ _) (fun b hb => .inl hb)
  · obtain ⟨v', w', hr, a1, a2⟩ := run_psh T w o.type v n xs hown ⟨g, 0, none⟩ m cp news hu.1 (fun j u hj => by rw [Addr.add_mid, Nat.zero_add]; exact hu.cell j u hj) h1 (by omega) hn
    obtain ⟨g', c', rfl, _, _⟩ := a1.form (by omega)
    unfold Oper.wp
    simp [execOp, ho, resolve, invoke, builtin, hs, hx, hr, Result.andThen]
    exact h _ c' w' a1 a2.gb (fun b hb => a2.at' hb)
end
set_option maxRecDepth 100000 in
set_option maxHeartbeats 4000000 in
theorem add_some {w : World} {p : Pl} {M : Md} (h : RP w p M) (s : Bs) (hl : s.length ≤ 9223372036854775807) (hs : okN s = true) {k : Nat} (hn : M.names s = some k) {L : List (Bs × Nat)} (hL : Rep L M.names) (hsm : sumL M L ≤ 1000000000000)
    {b : Bs} {g cp : Nat} (hb : Rdr w 5 1 g b.length cp (b.map b8)) (rm : Nat) (hrm : (rm : Int) = max (M.space - (sumL M L : Int)) 0) (hbd : (M.file k).1.length + b.length ≤ M.acts * 2097152) (hbd2 : (M.file k).1.length + b.length ≤ 1000000000) :
    Calls Try.prog 65 #[pv p.d, sv s, .slice (some ⟨g, 0, none⟩) b.length cp] w fun e w' => e = .returned (.int .i64 (if min b.length rm < b.length then 181 else 0)) ∧ ∃ p', RP w' p' (M.put k ((M.file k).1 ++ b.take (min b.length rm), (M.file k).2)) ∧ Aft w w' p p' := by
  have h56 := find_some h s hl hs hn
  have h82 := room_82 h hL hsm
  rw [← hrm] at h82
  have hr := Md.names_reach hn
  have hk := reach_lt h.ok hr
  have hfl := h.fl k _ hr (file_some hk)
  obtain ⟨ao, c1, e, -⟩ := row_shape hfl.row
  obtain ⟨t38, T38⟩ := ty38
  have hbc : b.length ≤ cp ∧ cp ≤ maxLen := ⟨hb.2.1, hb.2.2.1⟩
  unfold maxLen at hbc
  obtain ⟨hbc1, hbc2⟩ := hbc
  obtain ⟨f, hf⟩ : ∃ f, M.file k = f := ⟨_, rfl⟩
  rw [hf] at hfl hbd hbd2 ⊢
  obtain ⟨m, hm⟩ : ∃ m, min b.length rm = m := ⟨_, rfl⟩
  have hmn : m ≤ b.length := by omega
  have hmin : min (b.length : Int) (rm : Int) = (m : Int) := by omega
  rw [hm]
  have hbt := hb.take hmn
  rw [Nat.mul_one, ← List.map_take] at hbt
  have hone := b8_one (b.take m)
  have hbox := hfl.box
  rw [e] at hbox
  have hrow := hfl.row
  rw [e] at hrow
  rw [hf] at e hbox hrow
  obtain ⟨nb, hnb⟩ : ∃ nb, b.length = nb := ⟨_, rfl⟩
  obtain ⟨nf, hnf⟩ : ∃ nf, f.1.length = nf := ⟨_, rfl⟩
  rw [hnb] at hmn hmin hbc1 ⊢
  rw [hnf] at hbox hrow
  have hs1 : nf + m ≤ 1000000000 := by omega
  have hlen : (f.1 ++ b.take m).length = nf + m := by rw [List.length_append, List.length_take]; omega
  have hmap : f.1.map b8 ++ (b.take m).map b8 = (f.1 ++ b.take m).map b8 := List.map_append.symm
  have hcf := h.cf k hr
  have hne : ∀ b', (p.rv k).ownBlock = some b' → b' ≠ p.fb k := fun b' hb' e2 => by
    have h1 := h.cr k b' hr hb'
    rw [e2, hcf] at h1
    omega
  have hfbl : p.fb k < w.heap.size := h.lt _ (by rw [hcf]; omega)
  rw [e, hnf] at hne
  have hfle := h.ok.fl f (by rw [← hf]; exact List.mem_of_getElem? (file_some hk))
  have HR := Lib.hid (show (RP w p M ∧ Reach M k ∧ f.1.length + b.length ≤ M.acts * 2097152 ∧ (f.1 ++ b.take m).length = nf + m ∧ f.1.map b8 ++ (b.take m).map b8 = (f.1 ++ b.take m).map b8 ∧ p.col (p.fb k) = 10 + 2 * k ∧ p.rv k = .slice ao nf c1 ∧ b.length = nb ∧ f.1.length = nf ∧ f.2 ≤ f.1.length) from ⟨h, hr, hbd, hlen, hmap, hcf, by rw [e, hnf], hnb, hnf, hfle⟩)
  clear hfle
  clear h hfl hbd hbd2 hlen hmap hcf e hm hrm hb hnf hnb hf hr hk hn hL
  generalize hgk : p.fb k = gk at *
  generalize f.1.map b8 = xs at *
  generalize (b.take m).map b8 = ys at *
  go_enter Try.func65, Try.ntmps65
  go_upto_region 5 with (first
    | (go_at_call 56; go_must (refine h56.mono ?_); rintro e w1 ⟨rfl, hw1⟩; have hw2 := hw1.symm; subst hw2)
    | (go_at_call 82; go_must (refine h82.mono ?_); rintro e w1 ⟨rfl, g1⟩))
  have hb1 := hbox.kept g1 (by simp)
  have hrow1 := row_kept hrow g1 (by simp)
  have hbt1 := hbt.kept g1 (by simp)
  have q1 : w1.cell? ⟨gk, 1, none⟩ = some (.slice ao nf c1) := hb1.cell 1
  have i0 : (0 : Int) ≤ (m : Int) := by omega
  have i1 : (m : Int) ≤ (cp : Int) := by omega
  have i2 : m ≤ cp := by omega
  clear h56 h82 hbox hrow hbt
  go_region_law (refine step_row T38 (w := w1.drew) (by rfl) (.tmp 28) (.tmp 31) (by rfl) (.slice ao nf c1) nf xs (by rfl) hrow1 g m cp ys (by rfl) hbt1 hone hs1 ?_; intro a7 c7 w7 hown7 hg7 hat7; have b7 := Box.kept (w := w1.drew) hb1 hg7 (fun e => hne _ e.symm rfl); have s7 : w7.cell? ⟨gk, 1, none⟩ = some (.slice ao nf c1) := b7.cell 1; have f7 : w7.frozen? ⟨gk, 1, none⟩ = false := b7.fz 1)
  all_goals
    have FIN : ∃ p', RP (w7.setCell ⟨gk, 1, none⟩ (.slice a7 (nf + m) c7)) p' (M.put k (f.1 ++ b.take m, f.2)) ∧ Aft w (w7.setCell ⟨gk, 1, none⟩ (.slice a7 (nf + m) c7)) p p' := by
      obtain ⟨h, hr, hbd, hlen, hmap, hcf, e, hnb, hnf, hfle⟩ := HR.out
      have gs := g1.size
      have gd : w7.grownBy (w7.setCell ⟨gk, 1, none⟩ (.slice a7 (nf + m) c7)) (some gk) := gb_setCell (gb_refl _ _) _
      have hK : Kp (fun x => x = p.fb k ∨ (p.rv k).ownBlock = some x) w (w7.setCell ⟨gk, 1, none⟩ (.slice a7 (nf + m) c7)) := by
        rw [hgk, e]
        exact ((Kp.of g1).step (gb_trans (gb_drew (gb_refl w1 _)) hg7) (fun i hi => .inl (.inr hi))).step gd (fun i hi => .inl (.inl (Option.some.inj hi).symm))
      refine ⟨_, h.filed (f := (f.1 ++ b.take m, f.2)) (v := .slice a7 (nf + m) c7) hr (by simp only [hlen]; omega) (by simp only [hlen]; omega) (by rw [hgk]; exact b7.set 1 _) ?_ hK ?_⟩
      · simp only [hlen]
        rw [← hmap]
        refine row_kept hown7 gd (fun x hx e2 => ?_)
        have e3 := Option.some.inj e2
        rcases hat7 _ hx with h1 | h1
        · exact hne _ h1 e3
        · have h2 : w1.heap.size ≤ x := h1
          omega
      · intro x hx
        rw [e]
        exact (hat7 x hx).imp id (fun h1 => Nat.le_trans gs h1)
    have HF := Lib.hid FIN
    clear FIN hown7 hg7 hat7 b7 HR
    by_cases hlt : m < nb
    · have hlt2 : (m : Int) < (nb : Int) := by omega
      go_wp2
      go_ret
      exact ⟨by first | rfl | (rw [if_pos hlt]; rfl), HF.out⟩
    · have hlt2 : (nb : Int) ≤ (m : Int) := by omega
      go_wp2
      go_ret
      exact ⟨by first | rfl | (rw [if_neg hlt]; rfl), HF.out⟩
end Go.Proofs.Ytndjimdegkdljaa
/-
  Append: the call.
-/
namespace Go.Proofs.Ytndjimdegkdljaa
open Go.RowKit Go.MapKept
set_option linter.unusedVariables false
set_option linter.unusedSimpArgs false
attribute [local go_sem] Oper.semAt_some

/-- Append to a disk with room for rm bytes: what it answers, and leaves. -/
def doAp (M : Md) (rm : Nat) (s b : Bs) : Int × Md :=
  if okN s = true then (match M.names s with | some k => ((if min b.length rm < b.length then 181 else 0), M.put k ((M.file k).1 ++ b.take (min b.length rm), (M.file k).2)) | none => (182, M)) else (186, M)
set_option maxRecDepth 100000 in
set_option maxHeartbeats 4000000 in
theorem add_65 {w : World} {p : Pl} {M : Md} (h : RP w p M) (s : Bs) (hl : s.length ≤ 9223372036854775807) {L : List (Bs × Nat)} (hL : Rep L M.names) (hsm : sumL M L ≤ 1000000000000)
    {b : Bs} {g cp : Nat} (hb : Rdr w 5 1 g b.length cp (b.map b8)) (rm : Nat) (hrm : (rm : Int) = max (M.space - (sumL M L : Int)) 0) (hbd : ∀ k, (M.file k).1.length + b.length ≤ M.acts * 2097152) (hbd2 : ∀ k, (M.file k).1.length + b.length ≤ 1000000000) :
    Calls Try.prog 65 #[pv p.d, sv s, .slice (some ⟨g, 0, none⟩) b.length cp] w fun e w' => e = .returned (.int .i64 (doAp M rm s b).1) ∧ ∃ p', RP w' p' (doAp M rm s b).2 ∧ Aft w w' p p' := by
  unfold doAp
  by_cases hs : okN s = true
  · rw [if_pos hs]
    cases hn : M.names s with
    | some k => exact add_some h s hl hs hn hL hsm hb rm hrm (hbd k) (hbd2 k)
    | none =>
      have h56 := find_none h s hl hs hn
      have HR := Lib.hid h
      clear h hb
      simp only
      go_enter Try.func65, Try.ntmps65
      go_wp2_with (go_at_call 56; go_must (refine h56.mono ?_); rintro e w1 ⟨rfl, hw1⟩; have hw2 := hw1.symm; subst hw2)
      go_ret
      exact ⟨rfl, p, HR.out, Aft.refl _ _⟩
  · rw [if_neg hs]
    have h56 := find_no h s hl (by simpa using hs)
    have HR := Lib.hid h
    clear h hb
    simp only
    go_enter Try.func65, Try.ntmps65
    go_wp2_with (go_at_call 56; go_must (refine h56.mono ?_); rintro e w1 ⟨rfl, hw1⟩; have hw2 := hw1.symm; subst hw2)
    go_ret
    exact ⟨rfl, p, HR.out, Aft.refl _ _⟩
set_option maxRecDepth 100000 in
set_option maxHeartbeats 4000000 in
theorem clo_64 {w : World} {p : Pl} {M : Md} (h : RP w p M) (s : Bs) (hl : s.length ≤ 9223372036854775807) {L : List (Bs × Nat)} (hL : Rep L M.names) (hsm : sumL M L ≤ 1000000000000)
    {b : Bs} {g cp : Nat} (hb : Rdr w 5 1 g b.length cp (b.map b8)) (rm : Nat) (hrm : (rm : Int) = max (M.space - (sumL M L : Int)) 0) (hbd : ∀ k, (M.file k).1.length + b.length ≤ M.acts * 2097152) (hbd2 : ∀ k, (M.file k).1.length + b.length ≤ 1000000000)
    {b1 b2 b3 : Nat} (hb1 : Box w 25 b1 #[pv p.d]) (hb2 : Box w 9 b2 #[sv s]) (hb3 : Box w 38 b3 #[.slice (some ⟨g, 0, none⟩) b.length cp]) :
    Calls Try.prog 64 #[pv b1, pv b2, pv b3] w fun e w' => e = .returned (.int .i64 (doAp M rm s b).1) ∧ ∃ p', RP w' p' (doAp M rm s b).2 ∧ Aft w w' p p' := by
  have c1 : w.cell? ⟨b1, 0, none⟩ = some (pv p.d) := hb1.cell 0
  have c2 : w.cell? ⟨b2, 0, none⟩ = some (sv s) := hb2.cell 0
  have c3 : w.cell? ⟨b3, 0, none⟩ = some _ := hb3.cell 0
  have h65 := add_65 h s hl hL hsm hb rm hrm hbd hbd2
  have HR := Lib.hid h
  clear h hb1 hb2 hb3 hb hbd hbd2 hrm
  generalize doAp M rm s b = r at *
  go_enter Try.func64, Try.ntmps64
  go_wp2_with (go_at_call 65; go_must (refine h65.mono ?_); rintro e w1 ⟨rfl, hp⟩)
  go_ret
  exact ⟨rfl, hp⟩
end Go.Proofs.Ytndjimdegkdljaa
