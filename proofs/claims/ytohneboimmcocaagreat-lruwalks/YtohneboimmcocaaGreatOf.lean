import Derived.Test.YtohneboimmcocaaGreatOe
import Derived.Test.YtohneboimmcocaaGreatMf
/-
  The law's World: its state behind any script.
-/
namespace Go.Proofs.YtohneboimmcocaaGreat
open Go.RowKit
set_option linter.unusedVariables false

theorem nodup_len : ∀ {l T : List Nat}, l.Nodup → (∀ x, x ∈ l → x ∈ T) → l.length ≤ T.length
  | [], T, _, _ => Nat.zero_le _
  | x :: l, T, hn, hs => by
    obtain ⟨h1, h2⟩ := List.nodup_cons.1 hn
    have h3 := nodup_len (l := l) (T := T.erase x) h2 (fun y hy => (List.mem_erase_of_ne (fun (e : y = x) => h1 (e ▸ hy))).2 (hs y (List.mem_cons_of_mem _ hy)))
    have hx := hs x (List.mem_cons_self)
    have h4 := List.length_erase_of_mem hx
    have h5 := List.length_pos_of_mem hx
    simp only [List.length_cons]
    omega
theorem getL1 (zs : List Int) (q : Nat) : getL zs q 1 0 0 = zs.getD q 0 := by simp [getL]

/-- What the chunks, the items, the lists are: the program's side. -/
structure GX (D : Wd) (cl : Nat → Nat) (S : Lm) (bs : Nat → It) (p n s : Nat → Nat) : Prop where
  inv : Inv D.A
  n3 : D.A.n = 3
  ps : D.A.ps = 4096
  m : D.A.m = 4
  rf : RFit D.R
  rep : Rep D.A D.R
  its : ∀ H, H ∈ D.xl → ∃ x k, IsH D.A H x k ∧ IsI D.zs (D.A.place x k) (itm bs p n s H) ∧ 58 + (bs H).key.length + (bs H).val.length ≤ D.A.sz (D.A.own x)
  lk : ∀ H, H ∈ D.xl → (p H = 0 ∨ p H ∈ D.xl) ∧ (n H = 0 ∨ n H ∈ D.xl)
  bare : ∀ H x k, IsH D.A H x k → H ∉ D.xl → getL D.zs (D.A.place x k + 44) 1 0 0 = 0
  li : LI cl D.xl p n s D.L S.X
  cls : ∀ H, H ∈ D.xl → ∀ x k, IsH D.A H x k → D.A.own x = cl H
  mks : ∀ H, H ∈ D.xl → (bs H).ms = (S.ma H : Int) ∧ S.ma H ≤ 15

section
variable {w : World} {P : Nat → Prop} {wb : Nat} {D : Wd} {hot warm lsb : Nat} {vs : Nat → Value} {Y : Nat → List Nat} {cl : Nat → Nat} {S : Lm} {bs : Nat → It} {p n s : Nat → Nat}
theorem GX.c3 (h : GX D cl S bs p n s) {H : Nat} (hH : H ∈ D.xl) : cl H < 3 := by
  obtain ⟨x, k, hX, _⟩ := h.its H hH
  rw [← h.cls H hH x k hX, ← h.n3]
  exact h.inv.on x hX.hp
theorem GX.lt (h : GX D cl S bs p n s) (hl : D.xl.length ≤ 300) : Lt D.xl S := by
  have hone : ∀ c k c' k' H, H ∈ S.X c k → H ∈ S.X c' k' → c = c' ∧ k = k' := fun c k c' k' H h1 h2 => by
    obtain ⟨a1, a2, a3⟩ := h.li.sub _ _ _ h1
    obtain ⟨b1, b2, b3⟩ := h.li.sub _ _ _ h2
    omega
  refine ⟨fun c k H hH => ?_, h.li.z, fun c => ?_, h.li.nd, hone⟩
  · obtain ⟨a1, a2, a3⟩ := h.li.sub _ _ _ hH
    exact ⟨a1, by rw [← a3]; exact h.c3 a1, h.li.k3 _ _ _ hH⟩
  · have hn : (S.X c 0 ++ (S.X c 1 ++ S.X c 2)).Nodup := by
      refine List.nodup_append.2 ⟨h.li.nd c 0, List.nodup_append.2 ⟨h.li.nd c 1, h.li.nd c 2, fun a ha b hb e => ?_⟩, fun a ha b hb e => ?_⟩
      · have := (hone _ _ _ _ a ha (e ▸ hb)).2; omega
      · subst e
        rcases List.mem_append.1 hb with hb | hb
        · have := (hone _ _ _ _ a ha hb).2; omega
        · have := (hone _ _ _ _ a ha hb).2; omega
    have := nodup_len hn (T := D.xl) (fun x hx => by
      rcases List.mem_append.1 hx with hx | hx
      · exact (h.li.sub _ _ _ hx).1
      · rcases List.mem_append.1 hx with hx | hx
        · exact (h.li.sub _ _ _ hx).1
        · exact (h.li.sub _ _ _ hx).1)
    simp only [List.length_append] at this
    unfold tot
    omega
theorem GX.qm (hM : MS9 w P wb D hot warm lsb vs Y) (h : GX D cl S bs p n s) : QM w D.sb D.qb D.gl D.gc D.F D.B 4 200 64 256 0 0 D.A D.zs D.xl bs p n s D.L :=
  ⟨hM.ms.iss, h.inv, by rw [h.n3]; exact hM.ms.qbx, by rw [h.n3]; exact hM.ms.qrow, fun hF => by have := hM.ms.sep.ne (i := 1) (j := 7) hF rfl; omega, fun hF => by have := hM.ms.sep.ne (i := 1) (j := 8) hF rfl; omega, h.its, h.lk⟩
theorem GX.lq (hM : MS9 w P wb D hot warm lsb vs Y) (h : GX D cl S bs p n s) (hl : D.xl.length ≤ 300) : LQ w D.xb D.sb D.qb D.gl D.gc D.F D.B 4 200 64 256 0 0 D.A D.zs D.xl bs cl S.X S.ma hot warm := by
  have hlt := h.lt hl
  refine ⟨⟨h.cls, fun c k => ?_, p, n, s, D.L, ⟨D.zs, Zk.refl _ _ _, h.qm hM⟩, h.li⟩, hM.ms.xbx, fun hF => by have := hM.ms.sep.ne (i := 1) (j := 9) hF rfl; omega, fun e => by have := hM.ms.sep.ne (i := 9) (j := 8) (k := D.gl) e.symm rfl; omega, h.mks⟩
  by_cases hk : k < 3
  · have := hlt.len c k hk; omega
  · have : S.X c k = [] := List.eq_nil_iff_forall_not_mem.2 fun H hH => hk (h.li.k3 _ _ _ hH)
    rw [this]; simp
theorem Zk.bare {A : Ab} {T : List Nat} {m zs : List Int} (hA : Fit2 A) (h : Zk A T m zs) {H x k : Nat} (hX : IsH A H x k) (hn : H ∉ T) : getL zs (A.place x k + 44) 1 0 0 = getL m (A.place x k + 44) 1 0 0 := by
  rw [getL1, getL1]
  have e := h.out (A.place x k + 44) (fun G hG y l hY => by
    have hne : ¬ (y = x ∧ l = k) := by
      rintro ⟨rfl, rfl⟩
      exact hn (by rw [hX.hH, ← hY.hH]; exact hG)
    have h1 := place_apart hA.toFit1 hY.hp hY.hk hX.hp hX.hk hne
    have h2 := hA.lo _ (hA.on y hY.hp)
    have h3 := hA.lo _ (hA.on x hX.hp)
    omega)
  simp [List.getD_eq_getElem?_getD, e]
/-- What the program's queue has done. -/
theorem GX.back (hM : MS9 w P wb D hot warm lsb vs Y) (h : GX D cl S bs p n s) {w' : World} {S' : Lm} {bs' : Nat → It} (hQ : LQ w' D.xb D.sb D.qb D.gl D.gc D.F D.B 4 200 64 256 0 0 D.A D.zs D.xl bs' cl S'.X S'.ma hot warm) (hK : Kp (fun k => D.F k ∨ k = D.gl) w w') :
    ∃ zs' L' p' n' s', MS9 w' P wb { D with zs := zs', L := L' } hot warm lsb vs Y ∧ GX { D with zs := zs', L := L' } cl S' bs' p' n' s' ∧ Kp P w w' ∧ zs'.length = D.zs.length := by
  obtain ⟨p', n', s', L', ⟨zs', hz', hq'⟩, hLI'⟩ := hQ.ql.ex
  have hb := hq'.box
  have hr := hq'.row
  rw [h.n3] at hb hr
  obtain ⟨m1, m2⟩ := hM.stepQ hK hq'.iss hb hr
  exact ⟨zs', L', p', n', s', m1, ⟨h.inv, h.n3, h.ps, h.m, h.rf, h.rep, hq'.its, hq'.lk, fun H x k hX hn => by rw [hz'.bare h.inv.fit hX hn]; exact h.bare H x k hX hn, hLI', h.cls, hQ.mks⟩, m2, hz'.len⟩
/-- A handle of no item. -/
theorem GX.noI (h : GX D cl S bs p n s) {H : Nat} (h64 : H < 18446744073709551616) (hn : H ∉ D.xl) : NoI D.A D.zs H := by
  refine ⟨h64, ?_⟩
  by_cases hx : ∃ x k, IsH D.A H x k
  · obtain ⟨x, k, hX⟩ := hx
    exact .inr ⟨x, k, hX, h.bare H x k hX hn⟩
  · exact .inl fun x k hX => hx ⟨x, k, hX⟩
/-- Where an item stands. -/
theorem GX.cases (h : GX D cl S bs p n s) {H : Nat} (hH : H ∈ D.xl) : (s H = 4 ∧ ∀ c k, H ∉ S.X c k) ∨ ∃ k U V, k < 3 ∧ s H = k + 1 ∧ S.X (cl H) k = U ++ H :: V := by
  have hs := h.li.st H hH
  by_cases e : s H = 4
  · refine .inl ⟨e, fun c k hm => ?_⟩
    have := h.li.sub _ _ _ hm
    have := h.li.k3 _ _ _ hm
    omega
  · have hm := h.li.out H hH (by omega)
    obtain ⟨U, V, hX⟩ := List.append_of_mem hm
    exact .inr ⟨s H - 1, U, V, by omega, by omega, hX⟩
end

/-- The last place of a handle among those told. -/
def lst : List Nat → Nat → Nat → Nat
  | [], _, _ => 0
  | x :: l, H, i => if H ∈ l then lst l H (i + 1) else i
theorem lst_snoc : ∀ (l : List Nat) (H i : Nat), lst (l ++ [H]) H i = i + l.length
  | [], H, i => by simp [lst]
  | x :: l, H, i => by
    have : H ∈ l ++ [H] := by simp
    simp only [List.cons_append, lst, this, if_true, List.length_cons]
    rw [lst_snoc l H (i + 1)]
    omega
theorem lst_other : ∀ (l : List Nat) (H G i : Nat), H ≠ G → H ∈ l → lst (l ++ [G]) H i = lst l H i
  | [], H, G, i, _, h => by simp at h
  | x :: l, H, G, i, hne, h => by
    have hiff : H ∈ l ++ [G] ↔ H ∈ l := by simp [hne]
    simp only [List.cons_append, lst, hiff]
    split
    · rename_i hm
      exact lst_other l H G (i + 1) hne hm
    · rfl

/-- The World behind a script of at most N calls. -/
structure GW (w : World) (P : Nat → Prop) (wb N : Nat) (hot warm : Nat) (D : Wd) (lsb : Nat) (vs : Nat → Value) (Y : Nat → List Nat) (S : Lm) (cl : Nat → Nat) : Prop where
  ms : MS9 w P wb D hot warm lsb vs Y
  gx : ∃ bs p n s, GX D cl S bs p n s
  dm : Dm D.xl Y D.xa S
  nN : N ≤ 300 ∧ D.xt.length ≤ N ∧ D.xl.length ≤ N ∧ D.xa.length ≤ N
  sub : ∀ H, H ∈ D.xl → H ∈ D.xt
  hdr : ∀ H, H ∈ D.xl → S.ma H / 2 = mrk (lst D.xt H 0) / 2
  zl : D.zs.length = 16384
  nd : D.xl.Nodup
  tb : ∀ H, H ∈ D.xt → H < 18446744073709551616
def SameP (D D' : Wd) : Prop := D'.sb = D.sb ∧ D'.qb = D.qb ∧ D'.xb = D.xb ∧ D'.rb = D.rb ∧ D'.lb = D.lb ∧ D'.mb = D.mb
theorem SameP.trans {A B C : Wd} (h : SameP A B) (g : SameP B C) : SameP A C := by
  obtain ⟨h1, h2, h3, h4, h5, h6⟩ := h
  obtain ⟨g1, g2, g3, g4, g5, g6⟩ := g
  exact ⟨g1.trans h1, g2.trans h2, g3.trans h3, g4.trans h4, g5.trans h5, g6.trans h6⟩
def GS (w : World) (P : Nat → Prop) (wb N hot warm : Nat) (D0 : Wd) : Prop := ∃ D lsb vs Y S cl, SameP D0 D ∧ GW w P wb N hot warm D lsb vs Y S cl
/-- The World's box. -/
abbrev Cells (w : World) (wb : Nat) (D : Wd) : Prop := w.cell? ⟨wb, 0, none⟩ = some (.pointer (some ⟨D.sb, 0, none⟩)) ∧ w.cell? ⟨wb, 1, none⟩ = some (.pointer (some ⟨D.qb, 0, none⟩)) ∧ w.cell? ⟨wb, 2, none⟩ = some (.pointer (some ⟨D.xb, 0, none⟩)) ∧ w.cell? ⟨wb, 3, none⟩ = some (.pointer (some ⟨D.rb, 0, none⟩)) ∧ w.cell? ⟨wb, 4, none⟩ = some (.pointer (some ⟨D.lb, 0, none⟩)) ∧ w.cell? ⟨wb, 5, none⟩ = some (.pointer (some ⟨D.mb, 0, none⟩))
section
variable {w : World} {P : Nat → Prop} {wb N : Nat} {D : Wd} {hot warm lsb : Nat} {vs : Nat → Value} {Y : Nat → List Nat} {cl : Nat → Nat} {S : Lm}
theorem MS9.cells (h : MS9 w P wb D hot warm lsb vs Y) : Cells w wb D := ⟨h.ms.box.cell 0, h.ms.box.cell 1, h.ms.box.cell 2, h.ms.box.cell 3, h.ms.box.cell 4, h.ms.box.cell 5⟩
theorem GS.cells {D0 : Wd} (h : GS w P wb N hot warm D0) : Cells w wb D0 := by
  obtain ⟨D, lsb, vs, Y, S, cl, ⟨e1, e2, e3, e4, e5, e6⟩, hG⟩ := h
  have := hG.ms.cells
  unfold Cells at *
  rw [e1, e2, e3, e4, e5, e6] at this
  exact this
theorem GW.kept0 {w' : World} (h : GW w P wb N hot warm D lsb vs Y S cl) (hf : w.grownBy w' none) : GW w' P wb N hot warm D lsb vs Y S cl :=
  ⟨h.ms.kept0 hf, h.gx, h.dm, h.nN, h.sub, h.hdr, h.zl, h.nd, h.tb⟩
theorem GS.kept0 {w' : World} {D0 : Wd} (h : GS w P wb N hot warm D0) (hf : w.grownBy w' none) : GS w' P wb N hot warm D0 := by
  obtain ⟨D, lsb, vs, Y, S, cl, hs, hG⟩ := h
  exact ⟨D, lsb, vs, Y, S, cl, hs, hG.kept0 hf⟩
theorem GW.more {M : Nat} (h : GW w P wb N hot warm D lsb vs Y S cl) (h1 : N ≤ M) (h2 : M ≤ 300) : GW w P wb M hot warm D lsb vs Y S cl := by
  obtain ⟨a1, a2, a3, a4⟩ := h.nN
  exact ⟨h.ms, h.gx, h.dm, ⟨h2, by omega, by omega, by omega⟩, h.sub, h.hdr, h.zl, h.nd, h.tb⟩
end
end Go.Proofs.YtohneboimmcocaaGreat
/-
  Pairs of calls, of the program and of the document: Enter, Leave, Hit.
-/
namespace Go.Proofs.YtohneboimmcocaaGreat
open Go.RowKit
set_option linter.unusedVariables false

section
variable {w : World} {rb : Nat} {F : Nat → Prop} {Q : Rl} {c d e : Int} {A : Ab} {R : Rb}
set_option maxRecDepth 100000 in
/-- At of a good handle. -/
theorem rat_goodp (h : IsR w rb F Q c d e R) (hR : RFit R) (hr : Rep A R) (hA : Fit2 A) {H p k : Nat} (hH : IsH A H p k) :
    Calls Tryz.prog 148 #[.pointer (some ⟨rb, 0, none⟩), .int .u64 H] w fun y w' => y = .returned (.tuple #[.int .i64 ((A.place p k : Nat) : Int), .int .i64 (A.own p : Nat), .int .i64 0]) ∧ w.grownBy w' none := by
  have hN := hR.N
  obtain ⟨i, a1, a2, a3, a4, a5, a6⟩ := hr.goodp hA hH
  have hf := (rfind_yes h hR a1 a2 a3 a6).mono (R' := fun y w1 => ∃ (cb cc : Nat), y = .returned (.int .i64 i) ∧ w.grownBy w1 none ∧ w1.cell? ⟨rb, 7, none⟩ = some (.slice (some ⟨cb, 0, none⟩) R.N cc) ∧ w1.cell? ⟨cb, i * 4, none⟩ = some (.int .i64 ((A.place p k : Nat) : Int)) ∧ w1.cell? ⟨cb, i * 4 + 1, none⟩ = some (.int .i64 (A.own p : Nat))) (by
    rintro y w1 ⟨rfl, hf⟩
    have h' := h.kept0 hf
    obtain ⟨cb, cc, hcv⟩ := h'.cshape (by omega)
    have c7 := h'.sc 7
    simp [rset, hcv] at c7
    have e0 := h'.ccell hcv a1 (j := 0) (by omega)
    have e1 := h'.ccell hcv a1 (j := 1) (by omega)
    simp [rckC] at e0 e1
    rw [a5] at e1
    rw [a4] at e0
    exact ⟨cb, cc, rfl, hf, c7, e0, e1⟩)
  generalize A.own p = op at *
  generalize A.place p k = pl at *
  generalize R.N = N at *
  have hiz : (i : Int) < (N : Int) := by omega
  have hi0 : ¬ (i : Int) < 0 := by omega
  clear h hR hr hA hH a2 a3 a4 a5 a6
  go_enter Tryz.func148, Tryz.ntmps148
  go_wp2_with (first | (go_at_call 85; go_must (refine hf.mono ?_); rintro y w1 ⟨cb, cc, rfl, hf1, c7, e0, e1⟩) | fail)
  go_quiet (fail)
  go_wp2
  go_ret3
  exact ⟨rfl, gb_trans hf1 (gb_drewN (gb_refl _ _) _)⟩
end

/-- A call of the program and one of the document that answer the same. -/
def Pair (w : World) (P : Nat → Prop) (wb : Nat) (D0 : Wd) (f1 f2 : Nat) (a1 a2 : Array Value) (C : World → Prop) : Prop :=
  ∃ (er : Int) (B1 : World → Prop), Calls Tryz.prog f1 a1 w (fun y w' => y = .returned (.int .i64 er) ∧ B1 w') ∧ ∀ w1 w2, B1 w1 → w1.grownBy w2 none → Kp P w w2 ∧ Cells w2 wb D0 ∧ Calls Tryz.prog f2 a2 w2 (fun y w' => y = .returned (.int .i64 er) ∧ C w')
section
variable {w : World} {P : Nat → Prop} {wb N : Nat} {D : Wd} {hot warm lsb : Nat} {vs : Nat → Value} {Y : Nat → List Nat} {cl : Nat → Nat} {S : Lm} {bs : Nat → It} {p n s : Nat → Nat}
theorem cells_of {D0 : Wd} (hs : SameP D0 D) (h : Cells w wb D) : Cells w wb D0 := by
  obtain ⟨e1, e2, e3, e4, e5, e6⟩ := hs
  unfold Cells at *
  rw [e1, e2, e3, e4, e5, e6] at h
  exact h
theorem GX.rn (h : GX D cl S bs p n s) : D.R.n = 3 := h.rep.n.trans h.n3
/-- At, whatever the document's lists have become. -/
theorem GX.at_ (hM : MS9 w P wb D hot warm lsb vs Y) (h : GX D cl S bs p n s) : ∃ pl : Nat → Int, ∀ (W : World) (H : Nat), Kp (fun k => k = lsb ∨ k = D.mb) w W → H ∈ D.xl → Calls Tryz.prog 148 #[.pointer (some ⟨D.rb, 0, none⟩), .int .u64 H] W fun y w' => y = .returned (.tuple #[.int .i64 (pl H), .int .i64 (cl H), .int .i64 0]) ∧ W.grownBy w' none := by
  have key : ∀ H, ∃ q : Int, H ∈ D.xl → ∀ W, Kp (fun k => k = lsb ∨ k = D.mb) w W → Calls Tryz.prog 148 #[.pointer (some ⟨D.rb, 0, none⟩), .int .u64 H] W fun y w' => y = .returned (.tuple #[.int .i64 q, .int .i64 (cl H), .int .i64 0]) ∧ W.grownBy w' none := fun H => by
    by_cases hH : H ∈ D.xl
    · obtain ⟨x, k, hX, _⟩ := h.its H hH
      refine ⟨((D.A.place x k : Nat) : Int), fun _ W hK => ?_⟩
      have hR := hM.ms.isr.kept hK (fun j hj e => by
        rcases e with e | e
        · exact (hM.ms.sep.inP (j := 2) hj).2 (.inl e)
        · have := hM.ms.sep.ne (i := 2) (j := 10) hj e; omega)
      have := rat_goodp hR h.rf h.rep h.inv.fit hX
      rw [h.cls H hH x k hX] at this
      exact this
    · exact ⟨0, fun hh => absurd hh hH⟩
  exact ⟨fun H => (key H).choose, fun W H hK hH => (key H).choose_spec hH W hK⟩
/-- Is. -/
theorem GX.is_ (hM : MS9 w P wb D hot warm lsb vs Y) (h : GX D cl S bs p n s) (hl : D.xl.length ≤ 300) (H : Nat) : Calls Tryz.prog 43 #[.pointer (some ⟨D.lb, 0, none⟩), .int .u64 H] w fun y w' => y = .returned (.bool (decide (H ∈ D.xl))) ∧ w.grownBy w' none := by
  have hb := hM.ms.lbx
  rw [hM.lsv] at hb
  by_cases hx : ∃ x k, IsH D.A H x k
  · obtain ⟨x, k, hX⟩ := hx
    exact is_good hb hM.ms.lrow (by omega) hM.ms.isr h.rf h.rep h.inv.fit hX
  · have hn : H ∉ D.xl := fun hm => by
      obtain ⟨x, k, hX, _⟩ := h.its H hm
      exact hx ⟨x, k, hX⟩
    rw [decide_eq_false hn]
    exact is_bad hb hM.ms.isr h.rf h.rep h.inv.fit (fun x k hX => hx ⟨x, k, hX⟩)

theorem same_refl (D : Wd) : SameP D D := ⟨rfl, rfl, rfl, rfl, rfl, rfl⟩
/-- Behind the program's call. -/
def Hlf (w : World) (P : Nat → Prop) (wb : Nat) (D : Wd) (hot warm lsb : Nat) (vs : Nat → Value) (Y : Nat → List Nat) (cl : Nat → Nat) (S' : Lm) (w1 : World) : Prop := ∃ zs' L' bs' p' n' s', MS9 w1 P wb { D with zs := zs', L := L' } hot warm lsb vs Y ∧ GX { D with zs := zs', L := L' } cl S' bs' p' n' s' ∧ Kp P w w1 ∧ zs'.length = 16384
theorem Hlf.kept0 {w1 w2 : World} (h : Hlf w P wb D hot warm lsb vs Y cl S w1) (hf : w1.grownBy w2 none) : Hlf w P wb D hot warm lsb vs Y cl S w2 := by
  obtain ⟨zs', L', bs', p', n', s', m1, m2, m3, m4⟩ := h
  exact ⟨zs', L', bs', p', n', s', m1.kept0 hf, m2, m3.step hf (by simp), m4⟩
theorem Hlf.kp {w1 : World} (h : Hlf w P wb D hot warm lsb vs Y cl S w1) : Kp P w w1 := by
  obtain ⟨_, _, _, _, _, _, _, _, h, _⟩ := h
  exact h
theorem Hlf.refl (hW : GW w P wb N hot warm D lsb vs Y S cl) : Hlf w P wb D hot warm lsb vs Y cl S w := by
  obtain ⟨bs, p, n, s, hX⟩ := hW.gx
  exact ⟨D.zs, D.L, bs, p, n, s, hW.ms, hX, Kp.refl _ _, hW.zl⟩
theorem Hlf.of (hW : GW w P wb N hot warm D lsb vs Y S cl) (hX : GX D cl S bs p n s) {w1 : World} {S' : Lm} {bs' : Nat → It} (hQ : LQ w1 D.xb D.sb D.qb D.gl D.gc D.F D.B 4 200 64 256 0 0 D.A D.zs D.xl bs' cl S'.X S'.ma hot warm) (hK : Kp (fun k => D.F k ∨ k = D.gl) w w1) : Hlf w P wb D hot warm lsb vs Y cl S' w1 := by
  obtain ⟨zs', L', p', n', s', m1, m2, m3, m4⟩ := hX.back hW.ms hQ hK
  exact ⟨zs', L', bs', p', n', s', m1, m2, m3, m4.trans hW.zl⟩
/-- What the document's call meets, and what is there behind it. -/
theorem Hlf.fin {D0 : Wd} {w1 : World} {S' : Lm} (hW : GW w P wb N hot warm D lsb vs Y S cl) (hs : SameP D0 D) (hP : ∀ k, w.heap.size ≤ k → P k) (hN : N < 300) (hB : Hlf w P wb D hot warm lsb vs Y cl S' w1) (hd : ∀ H, H ∈ D.xl → S'.ma H / 2 = S.ma H / 2) :
    Cells w1 wb D0 ∧ (∃ pl : Nat → Int, ∀ (W : World) (H : Nat), Kp (fun k => k = lsb ∨ k = D.mb) w1 W → H ∈ D.xl → Calls Tryz.prog 148 #[.pointer (some ⟨D.rb, 0, none⟩), .int .u64 H] W fun y w' => y = .returned (.tuple #[.int .i64 (pl H), .int .i64 (cl H), .int .i64 0]) ∧ W.grownBy w' none) ∧ (∀ H : Nat, Calls Tryz.prog 43 #[.pointer (some ⟨D.lb, 0, none⟩), .int .u64 H] w1 fun y w' => y = .returned (.bool (decide (H ∈ D.xl))) ∧ w1.grownBy w' none) ∧ Lt D.xl S' ∧
    ∃ szb szc, DS w1 D.mb D.lb D.rb lsb D.lv vs Y szb szc D.av D.xa hot warm ∧ ∀ w2 vs3 Y3 av3 xa3, Kp (fun k => k = lsb ∨ k = D.mb) w1 w2 → DS w2 D.mb D.lb D.rb lsb D.lv vs3 Y3 szb szc av3 xa3 hot warm → (∀ i, i < 9 → NewV w1.heap.size (vs i) (vs3 i)) → NewV w1.heap.size D.av av3 → Dm D.xl Y3 xa3 S' → xa3.length ≤ N + 1 → Kp P w w2 ∧ GS w2 P wb (N + 1) hot warm D0 := by
  obtain ⟨zs', L', bs', p', n', s', m1, m2, m3, m4⟩ := hB
  have h1 := hW.nN
  have hl : D.xl.length ≤ 300 := by omega
  obtain ⟨szb, szc, hD⟩ := m1.ds m2.rf m2.rn
  have ha0 := m2.at_ m1
  have hi0 := fun H => m2.is_ m1 hl H
  have hl0 := m2.lt hl
  have hs1 : SameP D0 { D with zs := zs', L := L' } := hs
  refine ⟨cells_of hs1 m1.cells, ha0, hi0, hl0, szb, szc, hD, fun w2 vs3 Y3 av3 xa3 hK hD3 hv ha hdm hxa => ?_⟩
  obtain ⟨g1, g2⟩ := m1.stepD (fun k hk => hP k (Nat.le_trans m3.size hk)) hK hD3 hv ha
  refine ⟨m3.trans g2 (fun _ h => h) (fun k hk => .inl hk), { D with zs := zs', L := L', av := av3, xa := xa3 }, lsb, vs3, Y3, S', cl, hs, g1, ⟨bs', p', n', s', m2.inv, m2.n3, m2.ps, m2.m, m2.rf, m2.rep, m2.its, m2.lk, m2.bare, m2.li, m2.cls, m2.mks⟩, hdm, ⟨by omega, ?_, ?_, hxa⟩, hW.sub, fun G hG => ?_, m4, hW.nd, hW.tb⟩
  · show D.xt.length ≤ _; omega
  · show D.xl.length ≤ _; omega
  · rw [hd G hG]; exact hW.hdr G hG
/-- Nothing is changed by the document's call. -/
theorem Hlf.still {D0 : Wd} (hW : GW w P wb N hot warm D lsb vs Y S cl) (hs : SameP D0 D) (hN : N < 300) {w2 : World} (hf : w.grownBy w2 none) : Kp P w w2 ∧ GS w2 P wb (N + 1) hot warm D0 :=
  ⟨Kp.of hf, D, lsb, vs, Y, S, cl, hs, (hW.kept0 hf).more (by omega) (by omega)⟩

section
variable {D0 : Wd} {H : Nat}
/-- A pair that changes nothing. -/
theorem pair_still {f1 f2 : Nat} {a1 a2 : Array Value} (hW : GW w P wb N hot warm D lsb vs Y S cl) (hs : SameP D0 D) (hN : N < 300) (er : Int) (h1 : Calls Tryz.prog f1 a1 w (fun y w' => y = .returned (.int .i64 er) ∧ w.grownBy w' none)) (h2 : ∀ W, w.grownBy W none → Calls Tryz.prog f2 a2 W (fun y w' => y = .returned (.int .i64 er) ∧ W.grownBy w' none)) : Pair w P wb D0 f1 f2 a1 a2 (fun w' => Kp P w w' ∧ GS w' P wb (N + 1) hot warm D0) := by
  refine ⟨er, fun w1 => w.grownBy w1 none, h1, fun w1 w2 hB hf => ⟨Kp.of (gb_trans hB hf), cells_of hs (hW.ms.kept0 (gb_trans hB hf)).cells, (h2 w2 (gb_trans hB hf)).mono ?_⟩⟩
  rintro y w3 ⟨rfl, hf3⟩
  exact ⟨rfl, Hlf.still hW hs hN (gb_trans (gb_trans hB hf) hf3)⟩
/-- Enter. -/
theorem pair_enter (hG : GS w P wb N hot warm D0) (hP : ∀ k, w.heap.size ≤ k → P k) (hN : N < 300) (h64 : H < 18446744073709551616) : Pair w P wb D0 32 53 #[.pointer (some ⟨D0.xb, 0, none⟩), .int .u64 H] #[.pointer (some ⟨D0.mb, 0, none⟩), .int .u64 H] (fun w' => Kp P w w' ∧ GS w' P wb (N + 1) hot warm D0) := by
  obtain ⟨D, lsb, vs, Y, S, cl, hs, hW⟩ := hG
  obtain ⟨bs, p, n, s, hX⟩ := hW.gx
  have hM := hW.ms
  have hl : D.xl.length ≤ 300 := by have := hW.nN; omega
  have hal : D.xa.length ≤ 1000000 := by have := hW.nN; omega
  have hlt := hX.lt hl
  rw [← hs.2.2.1, ← hs.2.2.2.2.2]
  have hqm := hX.qm hM
  have dq := fun (W : World) (hf : w.grownBy W none) => (Hlf.refl hW).kept0 hf |>.fin hW hs hP hN (fun _ _ => rfl)
  by_cases hH : H ∈ D.xl
  · rcases hX.cases hH with ⟨hs4, hno⟩ | ⟨k, U, V, hk, hsk, hXk⟩
    · have hc3 := hX.c3 hH
      refine ⟨0, Hlf w P wb D hot warm lsb vs Y cl ⟨upX S.X (cl H) 0 (H :: S.X (cl H) 0), upf S.ma H (S.ma H - S.ma H % 2)⟩, ?_, fun w1 w2 hB hf => ?_⟩
      · refine (enter_32 (hX.lq hM hl) hH (fun k2 => hno _ _) (by have := hlt.len (cl H) 0 (by omega); omega)).mono ?_
        rintro y w1 ⟨rfl, hK, hQ⟩
        exact ⟨rfl, Hlf.of hW hX hQ hK⟩
      · have hmd : ∀ G, G ∈ D.xl → upf S.ma H (S.ma H - S.ma H % 2) G / 2 = S.ma G / 2 := fun G hG => by
          by_cases e : G = H
          · subst e; rw [upf_same]; omega
          · rw [upf_ne _ _ e]
        obtain ⟨hce, ⟨pl, hAt⟩, hIs, hlt2, szb, szc, hD, hfin⟩ := (hB.kept0 hf).fin hW hs hP hN hmd
        refine ⟨(hB.kept0 hf).kp, hce, ?_⟩
        have hI := hIs H
        rw [decide_eq_true hH] at hI
        have hpu := rpush_yes hD.rq hD.nl (H := H) (c := cl H) (k := 0) (pl := pl H) hc3 (by omega) (hW.dm.lens hlt (3 * cl H + 0) (by omega)) (hW.dm.nowhere hno) hI (fun W hg => hAt W H (Kp.of hg) hH)
        refine (d_enter_yes hD hal (c := 0) (vs' := vs) (Y' := upY Y (3 * cl H + 0) (H :: Y (3 * cl H + 0))) (hpu.mono ?_)).mono ?_
        · rintro y w3 ⟨rfl, hK3, v', hq, hv⟩
          exact ⟨rfl, hK3, _, hq, upV_new hv⟩
        · rintro y w3 ⟨rfl, hK3, vs3, av3, hD3, hv3, ha3⟩
          refine ⟨rfl, hfin w3 vs3 _ av3 _ hK3 hD3 hv3 ha3 ⟨fun c k hc hk => ?_, fun G hG => ?_⟩ ?_⟩
          · show _ = upX S.X (cl H) 0 (H :: S.X (cl H) 0) c k
            by_cases e : c = cl H ∧ k = 0
            · obtain ⟨rfl, rfl⟩ := e
              rw [upY_same, upX_same, hW.dm.ys _ _ hc hk]
            · rw [upY_ne _ _ (by omega), upX_ne _ _ e]
              exact hW.dm.ys c k hc hk
          · show G ∈ nox H D.xa ↔ upf S.ma H (S.ma H - S.ma H % 2) G % 2 = 1
            unfold nox
            by_cases e : G = H
            · subst e
              rw [upf_same]
              have : (S.ma G - S.ma G % 2) % 2 = 0 := by omega
              simp [this]
            · rw [upf_ne _ _ e]
              simp [e]
              exact hW.dm.ac G hG
          · have h1 := hW.nN
            have h2 : (nox H D.xa).length ≤ D.xa.length := List.length_filter_le _ _
            omega
    · refine pair_still hW hs hN 8 (enter_no (.inr rfl) hM.ms.xbx (q_mayT hqm hH (by omega) hk hsk)) (fun W hf => ?_)
      obtain ⟨hce, hAt, hIs, hlt2, szb, szc, hD, hfin⟩ := dq W hf
      have hI := hIs H
      rw [decide_eq_true hH] at hI
      exact d_enter_no (.inr rfl) hD (rpush_twice hD.rq (k := 0) (by omega) (hW.dm.stands hlt (hX.c3 hH) hk hXk) hI)
  · refine pair_still hW hs hN 20 (enter_no (.inl rfl) hM.ms.xbx (q_mayN hqm (by omega) (hX.noI h64 hH))) (fun W hf => ?_)
    obtain ⟨hce, hAt, hIs, hlt2, szb, szc, hD, hfin⟩ := dq W hf
    have hI := hIs H
    rw [decide_eq_false hH] at hI
    exact d_enter_no (.inl rfl) hD (rpush_handle (by omega) hI)
end
end
end Go.Proofs.YtohneboimmcocaaGreat
/-
  Pairs of calls: Leave, Hit, Shift.
-/
namespace Go.Proofs.YtohneboimmcocaaGreat
open Go.RowKit
set_option linter.unusedVariables false

section
variable {w : World} {P : Nat → Prop} {wb N : Nat} {D : Wd} {hot warm lsb : Nat} {vs : Nat → Value} {Y : Nat → List Nat} {cl : Nat → Nat} {S : Lm} {bs : Nat → It} {p n s : Nat → Nat} {D0 : Wd} {H : Nat}
theorem GX.out (h : GX D cl S bs p n s) (hH : H ∉ D.xl) : ∀ c k, H ∉ S.X c k := fun c k hm => hH (h.li.sub _ _ _ hm).1
theorem Dm.upd {T : List Nat} {Y : Nat → List Nat} {xa : List Nat} {S : Lm} (hm : Dm T Y xa S) {c k : Nat} {v : List Nat} (hc : c < 3) (hk : k < 3) : Dm T (upY Y (3 * c + k) v) xa ⟨upX S.X c k v, S.ma⟩ :=
  ⟨fun c2 k2 hc2 hk2 => by
    show _ = upX S.X c k v c2 k2
    by_cases e : c2 = c ∧ k2 = k
    · obtain ⟨rfl, rfl⟩ := e
      rw [upY_same, upX_same]
    · rw [upY_ne _ _ (by omega), upX_ne _ _ e]
      exact hm.ys c2 k2 hc2 hk2, hm.ac⟩
theorem Kp.both {w w' : World} {b mb : Nat} (h : Kp (fun k => k = b) w w') : Kp (fun k => k = b ∨ k = mb) w w' := h.mono (fun k hk => .inl (.inl hk))

/-- Leave. -/
theorem pair_leave (hG : GS w P wb N hot warm D0) (hP : ∀ k, w.heap.size ≤ k → P k) (hN : N < 300) (h64 : H < 18446744073709551616) : Pair w P wb D0 31 54 #[.pointer (some ⟨D0.xb, 0, none⟩), .int .u64 H] #[.pointer (some ⟨D0.mb, 0, none⟩), .int .u64 H] (fun w' => Kp P w w' ∧ GS w' P wb (N + 1) hot warm D0) := by
  obtain ⟨D, lsb, vs, Y, S, cl, hs, hW⟩ := hG
  obtain ⟨bs, p, n, s, hX⟩ := hW.gx
  have hM := hW.ms
  have hl : D.xl.length ≤ 300 := by have := hW.nN; omega
  have hlt := hX.lt hl
  rw [← hs.2.2.1, ← hs.2.2.2.2.2]
  have hqm := hX.qm hM
  have hx := hM.ms.xbx
  have dq := fun (W : World) (hf : w.grownBy W none) => (Hlf.refl hW).kept0 hf |>.fin hW hs hP hN (fun _ _ => rfl)
  have hno20 : ∀ st : Int, ¬ (1 ≤ st ∧ st ≤ 3) → (Calls Tryz.prog 99 #[.pointer (some ⟨D.qb, 0, none⟩), .int .u64 H] w fun y w' => y = .returned (.int .i64 st) ∧ w.grownBy w' none) → (∀ c k, H ∉ S.X c k) → Pair w P wb D0 31 54 #[.pointer (some ⟨D.xb, 0, none⟩), .int .u64 H] #[.pointer (some ⟨D.mb, 0, none⟩), .int .u64 H] (fun w' => Kp P w w' ∧ GS w' P wb (N + 1) hot warm D0) := fun st hst hc hno => by
    refine pair_still hW hs hN 20 (leave_31 hx (drop_none hst hc)) (fun W hf => ?_)
    obtain ⟨hce, hAt, hIs, hlt2, szb, szc, hD, hfin⟩ := dq W hf
    refine d_leave hD ((drop_no hD.rq hD.nl (hW.dm.nowhere hno)).mono ?_)
    rintro y w3 ⟨rfl, rfl⟩
    exact ⟨rfl, gb_refl _ _⟩
  by_cases hH : H ∈ D.xl
  · rcases hX.cases hH with ⟨hs4, hno⟩ | ⟨k, U, V, hk, hsk, hXk⟩
    · have hst := q_state hqm hH
      rw [hs4] at hst
      exact hno20 _ (by omega) hst hno
    · have hc3 := hX.c3 hH
      refine ⟨0, Hlf w P wb D hot warm lsb vs Y cl ⟨upX S.X (cl H) k (U ++ V), S.ma⟩, leave_31 hx ((q_drop (hX.lq hM hl).ql hXk).mono ?_), fun w1 w2 hB hf => ?_⟩
      · rintro y w1 ⟨rfl, hK, hQ⟩
        exact ⟨rfl, Hlf.of hW hX (S' := ⟨upX S.X (cl H) k (U ++ V), S.ma⟩) ((hX.lq hM hl).step hK hQ) hK⟩
      · obtain ⟨hce, ⟨pl, hAt⟩, hIs, hlt2, szb, szc, hD, hfin⟩ := (hB.kept0 hf).fin hW hs hP hN (fun G hG => rfl)
        refine ⟨(hB.kept0 hf).kp, hce, d_leave hD ((drop_yes hD.rq hD.nl (hW.dm.stands hlt hc3 hk hXk)).mono ?_)⟩
        rintro y w3 ⟨rfl, hK3, v', hq, hv⟩
        exact ⟨rfl, hfin w3 _ _ _ _ hK3.both (hD.lists hK3 hq (upV_new hv)) (upV_new hv) (NewV.refl _ _) (hW.dm.upd hc3 hk) (by have := hW.nN; omega)⟩
  · exact hno20 0 (by omega) (q_stateN hqm (hX.noI h64 hH)) (hX.out hH)
/-- Hit. -/
theorem pair_hit (hG : GS w P wb N hot warm D0) (hP : ∀ k, w.heap.size ≤ k → P k) (hN : N < 300) (h64 : H < 18446744073709551616) : Pair w P wb D0 33 55 #[.pointer (some ⟨D0.xb, 0, none⟩), .int .u64 H] #[.pointer (some ⟨D0.mb, 0, none⟩), .int .u64 H] (fun w' => Kp P w w' ∧ GS w' P wb (N + 1) hot warm D0) := by
  obtain ⟨D, lsb, vs, Y, S, cl, hs, hW⟩ := hG
  obtain ⟨bs, p, n, s, hX⟩ := hW.gx
  have hM := hW.ms
  have hl : D.xl.length ≤ 300 := by have := hW.nN; omega
  have hal : D.xa.length ≤ 1000000 := by have := hW.nN; omega
  have hlt := hX.lt hl
  rw [← hs.2.2.1, ← hs.2.2.2.2.2]
  have hqm := hX.qm hM
  have hx := hM.ms.xbx
  have dq := fun (W : World) (hf : w.grownBy W none) => (Hlf.refl hW).kept0 hf |>.fin hW hs hP hN (fun _ _ => rfl)
  have hno20 : ∀ st : Int, ¬ (1 ≤ st ∧ st ≤ 3) → (Calls Tryz.prog 46 #[.pointer (some ⟨D.sb, 0, none⟩), .int .u64 H] w fun y w' => ∃ er : Int, y = .returned (.tuple #[.int .i64 st, .int .i64 er]) ∧ w.grownBy w' none) → (∀ c k, H ∉ S.X c k) → Pair w P wb D0 33 55 #[.pointer (some ⟨D.xb, 0, none⟩), .int .u64 H] #[.pointer (some ⟨D.mb, 0, none⟩), .int .u64 H] (fun w' => Kp P w w' ∧ GS w' P wb (N + 1) hot warm D0) := fun st hst hc hno => by
    refine pair_still hW hs hN 20 (hit_no hst hx hc) (fun W hf => ?_)
    obtain ⟨hce, hAt, hIs, hlt2, szb, szc, hD, hfin⟩ := dq W hf
    exact d_hit_no hD (hW.dm.nowhere hno)
  by_cases hH : H ∈ D.xl
  · rcases hX.cases hH with ⟨hs4, hno⟩ | ⟨k, U, V, hk, hsk, hXk⟩
    · obtain ⟨x, kk, hX1, hI1, _⟩ := hqm.its H hH
      have hst := state_yes hqm.iss hqm.inv.fit hX1 _ hI1
      rw [show (itm bs p n s H).st = ((s H : Nat) : Int) from rfl, hs4] at hst
      refine hno20 ((4 : Nat) : Int) (by omega) (hst.mono ?_) hno
      rintro y w1 ⟨rfl, hf⟩
      exact ⟨0, rfl, hf⟩
    · have hc3 := hX.c3 hH
      refine ⟨0, Hlf w P wb D hot warm lsb vs Y cl ⟨S.X, upf S.ma H (S.ma H + (1 - S.ma H % 2))⟩, (hit_33 (hX.lq hM hl) (k := k) (by rw [hXk]; simp)).mono ?_, fun w1 w2 hB hf => ?_⟩
      · rintro y w1 ⟨rfl, hK, hQ⟩
        exact ⟨rfl, Hlf.of hW hX (S' := ⟨S.X, upf S.ma H (S.ma H + (1 - S.ma H % 2))⟩) hQ hK⟩
      · have hmd : ∀ G, G ∈ D.xl → upf S.ma H (S.ma H + (1 - S.ma H % 2)) G / 2 = S.ma G / 2 := fun G hG => by
          by_cases e : G = H
          · subst e; rw [upf_same]; omega
          · rw [upf_ne _ _ e]
        obtain ⟨hce, ⟨pl, hAt⟩, hIs, hlt2, szb, szc, hD, hfin⟩ := (hB.kept0 hf).fin hW hs hP hN hmd
        refine ⟨(hB.kept0 hf).kp, hce, (d_hit_yes hD hal (hW.dm.stands hlt hc3 hk hXk)).mono ?_⟩
        rintro y w3 ⟨rfl, hK3, av', hD3, ha3⟩
        refine ⟨rfl, hfin w3 _ _ _ _ (hK3.mono (fun k hk => .inl (.inr hk))) hD3 (fun i _ => NewV.refl _ _) ha3 ⟨hW.dm.ys, fun G hG => ?_⟩ ?_⟩
        · show G ∈ nox H D.xa ++ [H] ↔ upf S.ma H (S.ma H + (1 - S.ma H % 2)) G % 2 = 1
          unfold nox
          by_cases e : G = H
          · subst e
            rw [upf_same]
            have : (S.ma G + (1 - S.ma G % 2)) % 2 = 1 := by omega
            simp [this]
          · rw [upf_ne _ _ e]
            simp [e]
            exact hW.dm.ac G hG
        · have h1 := hW.nN
          have h2 : (nox H D.xa).length ≤ D.xa.length := List.length_filter_le _ _
          rw [List.length_append]
          simp
          omega
  · exact hno20 0 (by omega) (state_none hqm.iss hqm.inv.fit (hX.noI h64 hH)) (hX.out hH)
/-- Shift. -/
theorem pair_shift (hG : GS w P wb N hot warm D0) (hP : ∀ k, w.heap.size ≤ k → P k) (hN : N < 300) (h64 : H < 18446744073709551616) (kd : Int) : Pair w P wb D0 56 57 #[.pointer (some ⟨D0.qb, 0, none⟩), .int .u64 H, .int .i64 kd] #[.pointer (some ⟨D0.lb, 0, none⟩), .int .u64 H, .int .i64 kd] (fun w' => Kp P w w' ∧ GS w' P wb (N + 1) hot warm D0) := by
  obtain ⟨D, lsb, vs, Y, S, cl, hs, hW⟩ := hG
  obtain ⟨bs, p, n, s, hX⟩ := hW.gx
  have hM := hW.ms
  have hl : D.xl.length ≤ 300 := by have := hW.nN; omega
  have hlt := hX.lt hl
  rw [← hs.2.1, ← hs.2.2.2.2.1]
  have hqm := hX.qm hM
  have dq := fun (W : World) (hf : w.grownBy W none) => (Hlf.refl hW).kept0 hf |>.fin hW hs hP hN (fun _ _ => rfl)
  by_cases hkd : 1 ≤ kd ∧ kd ≤ 3
  · obtain ⟨k2, rfl⟩ : ∃ k2 : Nat, kd = (k2 : Int) + 1 := ⟨(kd - 1).toNat, by omega⟩
    have hk2 : k2 < 3 := by omega
    have hno20 : ∀ st : Int, ¬ (1 ≤ st ∧ st ≤ 3) → (Calls Tryz.prog 99 #[.pointer (some ⟨D.qb, 0, none⟩), .int .u64 H] w fun y w' => y = .returned (.int .i64 st) ∧ w.grownBy w' none) → (∀ c k, H ∉ S.X c k) → Pair w P wb D0 56 57 #[.pointer (some ⟨D.qb, 0, none⟩), .int .u64 H, .int .i64 ((k2 : Int) + 1)] #[.pointer (some ⟨D.lb, 0, none⟩), .int .u64 H, .int .i64 ((k2 : Int) + 1)] (fun w' => Kp P w w' ∧ GS w' P wb (N + 1) hot warm D0) := fun st hst hc hno => by
      refine pair_still hW hs hN 20 (shift_none hk2 hst hc) (fun W hf => ?_)
      obtain ⟨hce, hAt, hIs, hlt2, szb, szc, hD, hfin⟩ := dq W hf
      refine (shift_no hD.rq hD.nl (hW.dm.nowhere hno) hk2).mono ?_
      rintro y w3 ⟨rfl, rfl⟩
      exact ⟨rfl, gb_refl _ _⟩
    by_cases hH : H ∈ D.xl
    · rcases hX.cases hH with ⟨hs4, hno⟩ | ⟨k, U, V, hk, hsk, hXk⟩
      · have hst := q_state hqm hH
        rw [hs4] at hst
        exact hno20 _ (by omega) hst hno
      · have hc3 := hX.c3 hH
        refine ⟨0, Hlf w P wb D hot warm lsb vs Y cl ⟨upX (upX S.X (cl H) k (U ++ V)) (cl H) k2 (H :: (upX S.X (cl H) k (U ++ V)) (cl H) k2), S.ma⟩, (q_shift (hX.lq hM hl).ql hXk hk2 (by have := hlt.len (cl H) k2 hk2; omega)).mono ?_, fun w1 w2 hB hf => ?_⟩
        · rintro y w1 ⟨rfl, hK, hQ⟩
          exact ⟨rfl, Hlf.of hW hX (S' := ⟨upX (upX S.X (cl H) k (U ++ V)) (cl H) k2 (H :: (upX S.X (cl H) k (U ++ V)) (cl H) k2), S.ma⟩) ((hX.lq hM hl).step hK hQ) hK⟩
        · obtain ⟨hce, ⟨pl, hAt⟩, hIs, hlt2, szb, szc, hD, hfin⟩ := (hB.kept0 hf).fin hW hs hP hN (fun G hG => rfl)
          refine ⟨(hB.kept0 hf).kp, hce, (shift_yes hD.rq hD.nl (hW.dm.stands hlt hc3 hk hXk) hc3 hk2 (hW.dm.lens hlt) (fun W hK => hAt W H hK.both hH)).mono ?_⟩
          rintro y w3 ⟨rfl, hK3, vs', hq, hv⟩
          have hdm := (hW.dm.upd (v := U ++ V) hc3 hk).upd (v := H :: upX S.X (cl H) k (U ++ V) (cl H) k2) hc3 hk2
          have he : upY Y (3 * cl H + k) (U ++ V) (3 * cl H + k2) = upX S.X (cl H) k (U ++ V) (cl H) k2 := (hW.dm.upd (v := U ++ V) hc3 hk).ys (cl H) k2 hc3 hk2
          rw [he] at hq
          exact ⟨rfl, hfin w3 _ _ _ _ hK3.both (hD.lists hK3 hq hv) hv (NewV.refl _ _) hdm (by have := hW.nN; omega)⟩
    · exact hno20 0 (by omega) (q_stateN hqm (hX.noI h64 hH)) (hX.out hH)
  · refine pair_still hW hs hN 1 (shift_argP hkd w) (fun W hf => (shift_arg hkd W).mono ?_)
    rintro y w3 ⟨rfl, rfl⟩
    exact ⟨rfl, gb_refl _ _⟩
end
end Go.Proofs.YtohneboimmcocaaGreat
/-
  Pairs of calls: Balance; Give.
-/
namespace Go.Proofs.YtohneboimmcocaaGreat
open Go.RowKit
set_option linter.unusedVariables false

theorem bounded_22 (x : Int) (w : World) : Calls Tryz.prog 22 #[.int .i64 x] w fun y w' => y = .returned (.int .i64 (if x > 2000 then 2000 else x)) ∧ w = w' := by
  by_cases h : x > 2000
  · rw [if_pos h]
    go_enter Tryz.func22, Tryz.ntmps22
    go_wp2
    go_ret
    exact ⟨rfl, rfl⟩
  · rw [if_neg h]
    go_enter Tryz.func22, Tryz.ntmps22
    go_wp2
    go_ret
    exact ⟨rfl, rfl⟩
section
variable {w : World} {mb lb rb lsb : Nat} {lv : Value} {vs : Nat → Value} {Y : Nat → List Nat} {szb szc : Nat} {av : Value} {xa : List Nat} {hot warm : Nat}
theorem tail_no (h : RQ w lb rb lsb lv vs Y szb szc) {c k : Int} (hck : ¬ (0 ≤ c ∧ c < 3 ∧ 1 ≤ k ∧ k ≤ 3)) :
    Calls Tryz.prog 64 #[.pointer (some ⟨lb, 0, none⟩), .int .i64 c, .int .i64 k] w fun y w' => y = .returned (.tuple #[.int .u64 0, .bool false]) ∧ w = w' := by
  have ha := all_no h hck
  clear h hck
  go_enter Tryz.func64, Tryz.ntmps64
  go_wp2_with (first | (go_at_call 104; go_must (refine ha.mono ?_); rintro y w1 ⟨rfl, rfl⟩) | fail)
  go_ret2
  exact ⟨rfl, rfl⟩
set_option maxRecDepth 100000 in
theorem d_dueNo (h : DS w mb lb rb lsb lv vs Y szb szc av xa hot warm) {c : Int} (hc : ¬ (0 ≤ c ∧ c < 3)) :
    Calls Tryz.prog 63 #[.pointer (some ⟨mb, 0, none⟩), .int .i64 c] w fun y w' => y = .returned (.int .i64 0) ∧ w.grownBy w' none := by
  have hlen := d_lenNo h hc
  have htl := fun W (hf : w.grownBy W none) => tail_no (h.kept0 hf).rq (c := c) (k := 3) (fun hh => hc ⟨hh.1, hh.2.1⟩)
  have hCC : ∀ W, w.grownBy W none → W.cell? ⟨mb, 0, none⟩ = some (.pointer (some ⟨lb, 0, none⟩)) ∧ W.cell? ⟨mb, 1, none⟩ = some (.int .i64 hot) ∧ W.cell? ⟨mb, 2, none⟩ = some (.int .i64 warm) := fun W hf => ⟨(h.kept0 hf).mbx.cell 0, (h.kept0 hf).mbx.cell 1, (h.kept0 hf).mbx.cell 2⟩
  have e1 : IntKind.i64.wrap (0 * (hot : Int)) = 0 := by rw [Int.zero_mul]; rfl
  have e2 : IntKind.i64.wrap (0 * (warm : Int)) = 0 := by rw [Int.zero_mul]; rfl
  clear h hc
  go_enter Tryz.func63, Tryz.ntmps63
  go_wp2_with (first | (go_at_call 42; go_must (refine hlen.mono ?_); rintro y w1 ⟨rfl, hf1⟩; (obtain ⟨c0, c1, c2⟩ := hCC _ hf1)) | (go_at_call 64; go_must (refine (htl _ hf1).mono ?_); rintro y w2 ⟨rfl, rfl⟩) | fail)
  go_ret
  exact ⟨rfl, hf1⟩
/-- Balance of a class that there is not. -/
theorem d_balanceNo (h : DS w mb lb rb lsb lv vs Y szb szc av xa hot warm) {c : Int} (hc : ¬ (0 ≤ c ∧ c < 3)) (links : Int) :
    Calls Tryz.prog 21 #[.pointer (some ⟨mb, 0, none⟩), .int .i64 c, .int .i64 links] w fun y w' => y = .returned (.slice none 0 0) ∧ w.grownBy w' none := by
  have hdu := d_dueNo h hc
  clear h hc
  by_cases hl : 0 < links
  · have hd : decide (0 < links) = true := decide_eq_true hl
    go_enter Tryz.func21, Tryz.ntmps21
    go_wp2
    go_loopw [7] (fun mv wr => mv = .slice none 0 0 ∧ wr = w) (fun mv _ => 0)
    case atStart => exact ⟨rfl, rfl⟩
    case round =>
      obtain ⟨rfl, rfl⟩ := hrel
      go_wp2_with (first | (go_at_call 63; go_must (refine hdu.mono ?_); rintro y w1 ⟨rfl, hf1⟩) | fail)
      go_ret
      exact ⟨rfl, hf1⟩
  · have hd : decide (0 < links) = false := decide_eq_false hl
    go_enter Tryz.func21, Tryz.ntmps21
    go_wp2
    go_loopw [7] (fun mv wr => mv = .slice none 0 0 ∧ wr = w) (fun mv _ => 0)
    case atStart => exact ⟨rfl, rfl⟩
    case round =>
      obtain ⟨rfl, rfl⟩ := hrel
      go_wp2
      go_ret
      exact ⟨rfl, gb_refl _ _⟩
end

theorem nxt8_ma {S S' : Lm} {ci hot warm : Nat} (h : nxt8 S ci hot warm = some S') (G : Nat) : S'.ma G / 2 = S.ma G / 2 := by
  obtain ⟨k, U, H, hk, hX, _, _, rfl, _⟩ := nxt8_some h
  rw [mvd_ma hX]
  by_cases e : G = H
  · subst e; rw [upf_same]; omega
  · rw [upf_ne _ _ e]
theorem bal_ma (ci hot warm : Nat) : ∀ n (S : Lm) (G : Nat), (bal ci hot warm n S).2.ma G / 2 = S.ma G / 2
  | 0, S, G => rfl
  | n + 1, S, G => by
    cases h : nxt8 S ci hot warm with
    | none => rw [bal, h]
    | some S' =>
      rw [bal, h]
      show (bal ci hot warm n S').2.ma G / 2 = _
      rw [bal_ma ci hot warm n S' G, nxt8_ma h G]
section
variable {w : World} {P : Nat → Prop} {wb N : Nat} {hot warm : Nat} {D0 : Wd}
/-- Balance. -/
def PairB (w : World) (P : Nat → Prop) (wb : Nat) (D0 : Wd) (c b b2 : Int) (C : World → Prop) : Prop :=
  ∃ (nb : Nat) (B1 : World → Prop), Calls Tryz.prog 18 #[.pointer (some ⟨D0.xb, 0, none⟩), .int .i64 c, .int .i64 b, Value.nilFunc] w (fun y w' => y = .returned (.int .i64 nb) ∧ B1 w') ∧ ∀ w1 w2, B1 w1 → w1.grownBy w2 none → Kp P w w2 ∧ Cells w2 wb D0 ∧ Calls Tryz.prog 21 #[.pointer (some ⟨D0.mb, 0, none⟩), .int .i64 c, .int .i64 b2] w2 (fun y w' => (∃ ao cp, y = .returned (.slice ao nb cp)) ∧ C w')
theorem pair_balance (hG : GS w P wb N hot warm D0) (hP : ∀ k, w.heap.size ≤ k → P k) (hN : N < 300) (hsh : hot ≤ 100) (hsw : warm ≤ 100) (c b : Int) (hb : b < 9223372036854775808) : PairB w P wb D0 c b (if b > 2000 then 2000 else b) (fun w' => Kp P w w' ∧ GS w' P wb (N + 1) hot warm D0) := by
  obtain ⟨D, lsb, vs, Y, S, cl, hs, hW⟩ := hG
  obtain ⟨bs, p, n, s, hX⟩ := hW.gx
  have hM := hW.ms
  have hN1 := hW.nN
  have hl : D.xl.length ≤ 300 := by omega
  have hlt := hX.lt hl
  have hq3 := hX.qm hM
  have hx := hM.ms.xbx
  unfold PairB
  rw [← hs.2.2.1, ← hs.2.2.2.2.2]
  have dq := fun (W : World) (hf : w.grownBy W none) => (Hlf.refl hW).kept0 hf |>.fin hW hs hP hN (fun _ _ => rfl)
  by_cases hc : 0 ≤ c ∧ c < 3
  · obtain ⟨ci, rfl⟩ : ∃ ci : Nat, c = (ci : Int) := ⟨c.toNat, by omega⟩
    have hci : ci < 3 := by omega
    have hcn : ci < D.A.n := by rw [hX.n3]; exact hci
    have hLE : LE w D.xb D.sb D.qb D.gl D.gc D.F D.B 4 200 64 256 0 0 D.A D.zs D.xl cl S hot warm := ⟨bs, hX.lq hM hl⟩
    have htot := hlt.ln ci
    obtain ⟨lk, hlk⟩ : ∃ lk : Nat, lk = (min b 2000).toNat := ⟨_, rfl⟩
    have hlk2 : ∀ n : Nat, (n : Int) < (if b > 2000 then 2000 else b) ↔ n < lk := fun n => by split <;> omega
    have hbal : ∀ lb2 : Nat, (lb2 : Int) = b → bal ci hot warm (min lb2 (2 * tot S.X ci)) S = bal ci hot warm lk S := fun lb2 e => by
      rw [bal_min ci hot warm (hlt.dj ci) (by omega)]
      congr 1
      omega
    have hb0 : b < 1 → lk = 0 := fun _ => by omega
    refine ⟨(bal ci hot warm lk S).1, Hlf w P wb D hot warm lsb vs Y cl (bal ci hot warm lk S).2, ?_, fun w1 w2 hB hf => ?_⟩
    · by_cases hb1 : b < 1
      · rw [hb0 hb1]
        refine (balance_none (all_59 (hX.lq hM hl) hcn) (by omega) (.inl hb1) _).mono ?_
        rintro y w1 ⟨rfl, hf⟩
        exact ⟨rfl, (Hlf.refl hW).kept0 hf⟩
      · obtain ⟨lb2, rfl⟩ : ∃ lb2 : Nat, b = (lb2 : Int) := ⟨b.toNat, by omega⟩
        have := balance_18 hLE hcn hsh hsw (by omega) (links := lb2) (by omega)
        rw [hbal lb2 rfl] at this
        refine this.mono ?_
        rintro y w1 ⟨rfl, hK, hL⟩
        obtain ⟨bs2, hQ⟩ := hL.ex
        exact ⟨rfl, Hlf.of hW hX hQ hK⟩
    · have hmd : ∀ G, G ∈ D.xl → (bal ci hot warm lk S).2.ma G / 2 = S.ma G / 2 := fun G _ => bal_ma ci hot warm lk S G
      obtain ⟨hce, ⟨pl, hAt⟩, hIs, hlt2, szb, szc, hD, hfin⟩ := (hB.kept0 hf).fin hW hs hP hN hmd
      refine ⟨(hB.kept0 hf).kp, hce, (d_balance hD hW.dm hlt (nx := N) (by omega) (by omega) hci hsh hsw hlk2 (by omega) (cl := cl) (fun k G hG => (hX.li.sub _ _ _ hG).2.2) (pl := pl) hAt).mono ?_⟩
      rintro y w3 ⟨v, rfl, hBs⟩
      obtain ⟨vs3, Y3, av3, xa3, a1, a2, a3, a4, a5, a6⟩ := hBs.ex
      obtain ⟨ao, cp, e1, _⟩ := row_shape hBs.row
      rw [mvs_len] at e1
      exact ⟨⟨ao, cp, by rw [e1]⟩, hfin w3 vs3 Y3 av3 xa3 hBs.kp a1 a3 a4 a2 (by omega)⟩
  · refine ⟨0, fun w1 => w.grownBy w1 none, balance_none (all_59No (n := 3) hM.ms.qbx hx (by omega) hc) (by omega) (.inr rfl) _, fun w1 w2 hB hf => ?_⟩
    obtain ⟨hce, hAt, hIs, hlt2, szb, szc, hD, hfin⟩ := dq w2 (gb_trans hB hf)
    refine ⟨Kp.of (gb_trans hB hf), hce, (d_balanceNo hD hc _).mono ?_⟩
    rintro y w3 ⟨rfl, hf3⟩
    exact ⟨⟨none, 0, rfl⟩, Hlf.still hW hs hN (gb_trans (gb_trans hB hf) hf3)⟩
end
end Go.Proofs.YtohneboimmcocaaGreat
/-
  Give, of both.
-/
namespace Go.Proofs.YtohneboimmcocaaGreat
open Go.RowKit
set_option linter.unusedVariables false

section
variable {w : World} {lb rb : Nat} {lv lsv : Value} {xs : List Nat} {H : Nat}
set_option maxRecDepth 100000 in
/-- The document's Give of a handle without an item. -/
theorem rgive6_no {er : Int} (her : er = 20 ∨ er = 0) (hb : Box w 127 lb #[.pointer (some ⟨rb, 0, none⟩), lv, lsv]) {R : World → Prop} (hno : H ∉ xs) (hl : xs.length ≤ 1000000)
    (hg : Calls Tryz.prog 94 #[.pointer (some ⟨rb, 0, none⟩), .int .u64 H] w fun y w' => y = .returned (.int .i64 er) ∧ Box w' 127 lb #[.pointer (some ⟨rb, 0, none⟩), lv, lsv] ∧ w'.ownsRow 0 27 1 lv xs.length (uvs xs) ∧ R w') :
    Calls Tryz.prog 52 #[.pointer (some ⟨lb, 0, none⟩), .int .u64 H] w fun y w' => y = .returned (.int .i64 er) ∧ R w' := by
  have c0 := hb.cell 0
  simp at c0
  have hat := fun (W : World) (hr : W.ownsRow 0 27 1 lv xs.length (uvs xs)) => rat_any (H := H) hr hl
  clear hb
  rcases her with rfl | rfl
  · go_enter Tryz.func52, Tryz.ntmps52
    go_wp2_with (first | (go_at_call 94; go_must (refine hg.mono ?_); rintro y w1 ⟨rfl, hb1, hr1, hR⟩; (have c1 := hb1.cell 1); simp at c1) | (go_at_call 86; go_must (refine (hat _ hr1).mono ?_); rintro y w2 ⟨x, rfl, h1, h2, rfl⟩) | fail)
    go_ret
    exact ⟨rfl, hR⟩
  · go_enter Tryz.func52, Tryz.ntmps52
    go_wp2_with (first | (go_at_call 94; go_must (refine hg.mono ?_); rintro y w1 ⟨rfl, hb1, hr1, hR⟩; (have c1 := hb1.cell 1); simp at c1) | (go_at_call 86; go_must (refine (hat _ hr1).mono ?_); rintro y w2 ⟨x, rfl, h1, h2, rfl⟩; (have hx : ¬ 0 ≤ x := fun h => hno (h2.1 h)); (have hx2 : decide (x ≥ 0) = false := decide_eq_false hx)) | fail)
    go_ret
    exact ⟨rfl, hR⟩
set_option maxRecDepth 100000 in
set_option maxHeartbeats 1000000 in
/-- The document's Give of an item. -/
theorem rgive6_yes (hb : Box w 127 lb #[.pointer (some ⟨rb, 0, none⟩), lv, lsv]) {R : World → Prop} {U V : List Nat} (hX : xs = U ++ H :: V) (hU : H ∉ U) (hl : xs.length ≤ 1000000)
    (hg : Calls Tryz.prog 94 #[.pointer (some ⟨rb, 0, none⟩), .int .u64 H] w fun y w' => y = .returned (.int .i64 0) ∧ Box w' 127 lb #[.pointer (some ⟨rb, 0, none⟩), lv, lsv] ∧ w'.ownsRow 0 27 1 lv xs.length (uvs xs) ∧ R w') :
    Calls Tryz.prog 52 #[.pointer (some ⟨lb, 0, none⟩), .int .u64 H] w fun y w' => y = .returned (.int .i64 0) ∧ ∃ w1 lv', R w1 ∧ Kp (fun k => k = lb) w1 w' ∧ Box w' 127 lb #[.pointer (some ⟨rb, 0, none⟩), lv', lsv] ∧ w'.ownsRow 0 27 1 lv' (U ++ V).length (uvs (U ++ V)) ∧ ∀ k, lv'.ownBlock = some k → w1.heap.size ≤ k := by
  have c0 := hb.cell 0
  simp at c0
  have hat := fun (W : World) (hr : W.ownsRow 0 27 1 lv xs.length (uvs xs)) => rat_yes (H := H) hr (by omega) hX hU
  have hwo := fun (W : World) (hr : W.ownsRow 0 27 1 lv xs.length (uvs xs)) (hb : Box W 127 lb #[.pointer (some ⟨rb, 0, none⟩), lv, lsv]) (hR : R W) => (without_95 (H := H) hr hl hX).mono (R' := fun y w' => ∃ lv' ao nn cp, lv' = .slice ao nn cp ∧ y = .returned (.slice ao nn cp) ∧ w'.frozen? ⟨lb, 1, none⟩ = false ∧ w'.cell? ⟨lb, 1, none⟩ = some lv ∧ Hid (∃ w1, R w1 ∧ Kp (fun k => k = lb) w1 (w'.setCell ⟨lb, 1, none⟩ lv') ∧ Box (w'.setCell ⟨lb, 1, none⟩ lv') 127 lb #[.pointer (some ⟨rb, 0, none⟩), lv', lsv] ∧ (w'.setCell ⟨lb, 1, none⟩ lv').ownsRow 0 27 1 lv' (U ++ V).length (uvs (U ++ V)) ∧ ∀ k, lv'.ownBlock = some k → w1.heap.size ≤ k)) (by
    rintro y w' ⟨lv', rfl, hf, ho⟩
    have hb' := hb.kept hf (by simp)
    have hne : ∀ k, lv'.ownBlock = some k → k ≠ lb := fun k hk e => by
      obtain ⟨cur, hc⟩ := row_block ho k hk
      exact ne_of_type hc hb' (by decide) e
    obtain ⟨ao, cp, hsh, _⟩ := row_shape ho
    refine ⟨lv', ao, _, cp, hsh, by rw [hsh], hb'.fz 1, hb'.cell 1, W, hR, (Kp.of hf).trans ((Kp.refl (fun k => k = lb) _).step (gb_setCell (gb_refl _ (some lb)) _) (fun i hi => .inl (by simpa using hi.symm))) (fun _ h => h) (fun k hk => .inl hk), hb'.set 1 lv', ?_, fun k hk => (ho.lt k hk).1⟩
    have ho0 : w'.ownsRow 0 27 1 lv' (U ++ V).length (uvs (U ++ V)) := by
      refine ⟨ho.1, ?_⟩
      rcases ho.2 with h1 | ⟨g, c, cur, h2, h3, h4⟩
      · exact .inl h1
      · exact .inr ⟨g, c, cur, h2, Nat.zero_le _, h4⟩
    exact row_kept ho0 (gb_setCell (gb_refl _ (some lb)) _) (fun k hk e => hne k hk (by simpa using e)))
  have hu : decide ((U.length : Int) ≥ 0) = true := by simp
  clear hb hX
  generalize U.length = ul at *
  go_enter Tryz.func52, Tryz.ntmps52
  go_wp2_with (first | (go_at_call 94; go_must (refine hg.mono ?_); rintro y w1 ⟨rfl, hb1, hr1, hR⟩; (have c1 := hb1.cell 1); simp at c1; (have hw1 := hwo _ hr1 hb1 hR)) | (go_at_call 86; go_must (refine (hat _ hr1).mono ?_); rintro y w2 ⟨rfl, rfl⟩) | (go_at_call 95; go_must (refine hw1.mono ?_); rintro y w3 ⟨lv', ao, nn, cp, rfl, rfl, z3, c3, hE⟩) | fail)
  go_ret
  obtain ⟨w0, q⟩ := hE.out
  exact ⟨rfl, w0, _, q⟩
end
end Go.Proofs.YtohneboimmcocaaGreat
