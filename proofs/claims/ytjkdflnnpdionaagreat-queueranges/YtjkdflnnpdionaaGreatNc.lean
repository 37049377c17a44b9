import Derived.Test.YtjkdflnnpdionaaGreatMv
/-
  The law's World: its state behind any script.
-/
namespace Go.Proofs.YtjkdflnnpdionaaGreat
open Go.RowKit
set_option linter.unusedVariables false

abbrev Lm := Nat → Nat → List Nat
/-- The document's lists are these. -/
structure Dm (Y : Nat → List Nat) (S : Lm) : Prop where
  ys : ∀ c k, c < 3 → k < 3 → Y (3 * c + k) = S c k
/-- The lists are of these items. -/
structure Lt (T : List Nat) (S : Lm) : Prop where
  sub : ∀ c k H, H ∈ S c k → H ∈ T ∧ c < 3 ∧ k < 3
  z : 0 ∉ T
  ln : ∀ c k, (S c k).length < 900
  nd : ∀ c k, (S c k).Nodup
  one : ∀ c k c' k' H, H ∈ S c k → H ∈ S c' k' → c = c' ∧ k = k'
theorem Dm.stands {T : List Nat} {Y : Nat → List Nat} {S : Lm} (hm : Dm Y S) (hL : Lt T S) {c k H : Nat} {U V : List Nat} (hc : c < 3) (hk : k < 3) (hX : S c k = U ++ H :: V) : Stands Y H (3 * c + k) U V := by
  have hH : H ∈ S c k := by rw [hX]; simp
  refine ⟨by omega, by rw [hm.ys c k hc hk]; exact hX, ?_, fun j hj hm2 => ?_⟩
  · have hn := hL.nd c k
    rw [hX] at hn
    obtain ⟨_, _, n3⟩ := List.nodup_append.1 hn
    exact fun hh => n3 _ hh H (by simp) rfl
  · have e := hm.ys (j / 3) (j % 3) (by omega) (by omega)
    rw [show 3 * (j / 3) + j % 3 = j by omega] at e
    rw [e] at hm2
    have := hL.one _ _ _ _ H hm2 hH
    omega
theorem Dm.nowhere {Y : Nat → List Nat} {S : Lm} (hm : Dm Y S) {H : Nat} (hn : ∀ c k, H ∉ S c k) : Nowhere Y H := fun j hj hm2 => by
  have e := hm.ys (j / 3) (j % 3) (by omega) (by omega)
  rw [show 3 * (j / 3) + j % 3 = j by omega] at e
  rw [e] at hm2
  exact hn _ _ hm2
theorem Dm.lens {T : List Nat} {Y : Nat → List Nat} {S : Lm} (hm : Dm Y S) (hL : Lt T S) : ∀ i, i < 9 → (Y i).length < 1000 := fun i hi => by
  have e := hm.ys (i / 3) (i % 3) (by omega) (by omega)
  rw [show 3 * (i / 3) + i % 3 = i by omega] at e
  rw [e]
  have := hL.ln (i / 3) (i % 3)
  omega
theorem nodup_len : ∀ {l T : List Nat}, l.Nodup → (∀ x, x ∈ l → x ∈ T) → l.length ≤ T.length
  | [], T, _, _ => Nat.zero_le _
  | x :: l, T, hn, hs => by
    obtain ⟨h1, h2⟩ := List.nodup_cons.1 hn
    have h3 := nodup_len (l := l) (T := T.erase x) h2 (fun y hy => (List.mem_erase_of_ne (fun (e : y = x) => h1 (e ▸ hy))).2 (hs y (List.mem_cons_of_mem _ hy)))
    have hx := hs x (List.mem_cons_self)
    have h4 := List.length_erase_of_mem hx
    have h5 := List.length_pos_of_mem hx
    simp only [List.length_cons]
    omega
theorem getL1 (zs : List Int) (q : Nat) : getL zs q 1 0 0 = zs.getD q 0 := by simp [getL]

/-- What the chunks, the items, the lists are: the program's side. -/
structure GX (D : Wd) (cl : Nat → Nat) (S : Lm) (bs : Nat → It) (p n s : Nat → Nat) : Prop where
  inv : Inv D.A
  n3 : D.A.n = 3
  ps : D.A.ps = 4096
  m : D.A.m = 4
  rf : RFit D.R
  rep : Rep D.A D.R
  its : ∀ H, H ∈ D.xl → ∃ x k, IsH D.A H x k ∧ IsI D.zs (D.A.place x k) (itm bs p n s H) ∧ 58 + (bs H).key.length + (bs H).val.length ≤ D.A.sz (D.A.own x)
  lk : ∀ H, H ∈ D.xl → (p H = 0 ∨ p H ∈ D.xl) ∧ (n H = 0 ∨ n H ∈ D.xl)
  bare : ∀ H x k, IsH D.A H x k → H ∉ D.xl → getL D.zs (D.A.place x k + 44) 1 0 0 = 0
  li : LI cl D.xl p n s D.L S
  cls : ∀ H, H ∈ D.xl → ∀ x k, IsH D.A H x k → D.A.own x = cl H

section
variable {w : World} {P : Nat → Prop} {wb : Nat} {D : Wd} {lsb : Nat} {vs : Nat → Value} {Y : Nat → List Nat} {cl : Nat → Nat} {S : Lm} {bs : Nat → It} {p n s : Nat → Nat}
theorem GX.c3 (h : GX D cl S bs p n s) {H : Nat} (hH : H ∈ D.xl) : cl H < 3 := by
  obtain ⟨x, k, hX, _⟩ := h.its H hH
  rw [← h.cls H hH x k hX, ← h.n3]
  exact h.inv.on x hX.hp
theorem GX.lt (h : GX D cl S bs p n s) (hl : D.xl.length ≤ 300) : Lt D.xl S := by
  have hone : ∀ c k c' k' H, H ∈ S c k → H ∈ S c' k' → c = c' ∧ k = k' := fun c k c' k' H h1 h2 => by
    obtain ⟨a1, a2, a3⟩ := h.li.sub _ _ _ h1
    obtain ⟨b1, b2, b3⟩ := h.li.sub _ _ _ h2
    omega
  refine ⟨fun c k H hH => ?_, h.li.z, fun c k => ?_, h.li.nd, hone⟩
  · obtain ⟨a1, a2, a3⟩ := h.li.sub _ _ _ hH
    exact ⟨a1, by rw [← a3]; exact h.c3 a1, h.li.k3 _ _ _ hH⟩
  · have := nodup_len (h.li.nd c k) (T := D.xl) (fun x hx => (h.li.sub _ _ _ hx).1)
    omega
theorem GX.qm (hM : MS9 w P wb D lsb vs Y) (h : GX D cl S bs p n s) : QM w D.sb D.qb D.gl D.gc D.F D.B 4 200 64 256 0 0 D.A D.zs D.xl bs p n s D.L :=
  ⟨hM.ms.iss, h.inv, by rw [h.n3]; exact hM.ms.qbx, by rw [h.n3]; exact hM.ms.qrow, fun hF => by have := hM.ms.sep.ne (i := 1) (j := 7) hF rfl; omega, fun hF => by have := hM.ms.sep.ne (i := 1) (j := 8) hF rfl; omega, h.its, h.lk⟩
theorem GX.lq (hM : MS9 w P wb D lsb vs Y) (h : GX D cl S bs p n s) (hl : D.xl.length ≤ 300) : QL w D.sb D.qb D.gl D.gc D.F D.B 4 200 64 256 0 0 D.A D.zs D.xl bs cl S := by
  have hlt := h.lt hl
  exact ⟨h.cls, fun c k => by have := hlt.ln c k; omega, p, n, s, D.L, ⟨D.zs, Zk.refl _ _ _, h.qm hM⟩, h.li⟩
theorem Zk.bare {A : Ab} {T : List Nat} {m zs : List Int} (hA : Fit2 A) (h : Zk A T m zs) {H x k : Nat} (hX : IsH A H x k) (hn : H ∉ T) : getL zs (A.place x k + 44) 1 0 0 = getL m (A.place x k + 44) 1 0 0 := by
  rw [getL1, getL1]
  have e := h.out (A.place x k + 44) (fun G hG y l hY => by
    have hne : ¬ (y = x ∧ l = k) := by
      rintro ⟨rfl, rfl⟩
      exact hn (by rw [hX.hH, ← hY.hH]; exact hG)
    have h1 := place_apart hA.toFit1 hY.hp hY.hk hX.hp hX.hk hne
    have h2 := hA.lo _ (hA.on y hY.hp)
    have h3 := hA.lo _ (hA.on x hX.hp)
    omega)
  simp [List.getD_eq_getElem?_getD, e]
/-- What the program's queue has done. -/
theorem GX.back (hM : MS9 w P wb D lsb vs Y) (h : GX D cl S bs p n s) {w' : World} {S' : Lm} {bs' : Nat → It} (hQ : QL w' D.sb D.qb D.gl D.gc D.F D.B 4 200 64 256 0 0 D.A D.zs D.xl bs' cl S') (hK : Kp (fun k => D.F k ∨ k = D.gl) w w') :
    ∃ zs' L' p' n' s', MS9 w' P wb { D with zs := zs', L := L' } lsb vs Y ∧ GX { D with zs := zs', L := L' } cl S' bs' p' n' s' ∧ Kp P w w' ∧ Zk D.A D.xl D.zs zs' := by
  obtain ⟨p', n', s', L', ⟨zs', hz', hq'⟩, hLI'⟩ := hQ.ex
  have hb := hq'.box
  have hr := hq'.row
  rw [h.n3] at hb hr
  obtain ⟨m1, m2⟩ := hM.stepQ hK hq'.iss hb hr
  exact ⟨zs', L', p', n', s', m1, ⟨h.inv, h.n3, h.ps, h.m, h.rf, h.rep, hq'.its, hq'.lk, fun H x k hX hn => by rw [hz'.bare h.inv.fit hX hn]; exact h.bare H x k hX hn, hLI', h.cls⟩, m2, hz'⟩
/-- A handle of no item. -/
theorem GX.noI (h : GX D cl S bs p n s) {H : Nat} (h64 : H < 18446744073709551616) (hn : H ∉ D.xl) : NoI D.A D.zs H := by
  refine ⟨h64, ?_⟩
  by_cases hx : ∃ x k, IsH D.A H x k
  · obtain ⟨x, k, hX⟩ := hx
    exact .inr ⟨x, k, hX, h.bare H x k hX hn⟩
  · exact .inl fun x k hX => hx ⟨x, k, hX⟩
/-- Where an item stands. -/
theorem GX.cases (h : GX D cl S bs p n s) {H : Nat} (hH : H ∈ D.xl) : (s H = 4 ∧ ∀ c k, H ∉ S c k) ∨ ∃ k U V, k < 3 ∧ s H = k + 1 ∧ S (cl H) k = U ++ H :: V := by
  have hs := h.li.st H hH
  by_cases e : s H = 4
  · refine .inl ⟨e, fun c k hm => ?_⟩
    have := h.li.sub _ _ _ hm
    have := h.li.k3 _ _ _ hm
    omega
  · have hm := h.li.out H hH (by omega)
    obtain ⟨U, V, hX⟩ := List.append_of_mem hm
    exact .inr ⟨s H - 1, U, V, by omega, by omega, hX⟩
end

/-- The World behind a script of at most N calls. -/
structure GW (w : World) (P : Nat → Prop) (wb N : Nat) (D : Wd) (lsb : Nat) (vs : Nat → Value) (Y : Nat → List Nat) (S : Lm) (cl : Nat → Nat) : Prop where
  ms : MS9 w P wb D lsb vs Y
  gx : ∃ bs p n s, GX D cl S bs p n s
  nN : N ≤ 300 ∧ D.xt.length ≤ N ∧ D.xl.length ≤ N
  sub : ∀ H, H ∈ D.xl → H ∈ D.xt
  zl : D.zs.length = 16384
  nd : D.xl.Nodup
  tb : ∀ H, H ∈ D.xt → H < 18446744073709551616
def SameP (D D' : Wd) : Prop := D'.sb = D.sb ∧ D'.qb = D.qb ∧ D'.rb = D.rb ∧ D'.lb = D.lb
theorem SameP.trans {A B C : Wd} (h : SameP A B) (g : SameP B C) : SameP A C := by
  obtain ⟨h1, h2, h5, h6⟩ := h
  obtain ⟨g1, g2, g5, g6⟩ := g
  exact ⟨g1.trans h1, g2.trans h2, g5.trans h5, g6.trans h6⟩
def GS (w : World) (P : Nat → Prop) (wb N : Nat) (D0 : Wd) : Prop := ∃ D lsb vs Y S cl, SameP D0 D ∧ GW w P wb N D lsb vs Y S cl ∧ Dm Y S
/-- The World's box. -/
abbrev Cells (w : World) (wb : Nat) (D : Wd) : Prop := w.cell? ⟨wb, 0, none⟩ = some (.pointer (some ⟨D.sb, 0, none⟩)) ∧ w.cell? ⟨wb, 1, none⟩ = some (.pointer (some ⟨D.qb, 0, none⟩)) ∧ w.cell? ⟨wb, 2, none⟩ = some (.pointer (some ⟨D.rb, 0, none⟩)) ∧ w.cell? ⟨wb, 3, none⟩ = some (.pointer (some ⟨D.lb, 0, none⟩))
section
variable {w : World} {P : Nat → Prop} {wb N : Nat} {D : Wd} {lsb : Nat} {vs : Nat → Value} {Y : Nat → List Nat} {cl : Nat → Nat} {S : Lm}
theorem MS9.cells (h : MS9 w P wb D lsb vs Y) : Cells w wb D := ⟨h.ms.box.cell 0, h.ms.box.cell 1, h.ms.box.cell 2, h.ms.box.cell 3⟩
theorem cells_of {D0 : Wd} (hs : SameP D0 D) (h : Cells w wb D) : Cells w wb D0 := by
  obtain ⟨e1, e2, e5, e6⟩ := hs
  unfold Cells at *
  rw [e1, e2, e5, e6] at h
  exact h
theorem GS.cells {D0 : Wd} (h : GS w P wb N D0) : Cells w wb D0 := by
  obtain ⟨D, lsb, vs, Y, S, cl, hs, hG, _⟩ := h
  exact cells_of hs hG.ms.cells
theorem GW.kept0 {w' : World} (h : GW w P wb N D lsb vs Y S cl) (hf : w.grownBy w' none) : GW w' P wb N D lsb vs Y S cl :=
  ⟨h.ms.kept0 hf, h.gx, h.nN, h.sub, h.zl, h.nd, h.tb⟩
theorem GS.kept0 {w' : World} {D0 : Wd} (h : GS w P wb N D0) (hf : w.grownBy w' none) : GS w' P wb N D0 := by
  obtain ⟨D, lsb, vs, Y, S, cl, hs, hG, hd⟩ := h
  exact ⟨D, lsb, vs, Y, S, cl, hs, hG.kept0 hf, hd⟩
theorem GW.more {M : Nat} (h : GW w P wb N D lsb vs Y S cl) (h1 : N ≤ M) (h2 : M ≤ 300) : GW w P wb M D lsb vs Y S cl := by
  obtain ⟨a1, a2, a3⟩ := h.nN
  exact ⟨h.ms, h.gx, ⟨h2, by omega, by omega⟩, h.sub, h.zl, h.nd, h.tb⟩
theorem same_refl (D : Wd) : SameP D D := ⟨rfl, rfl, rfl, rfl⟩
end
end Go.Proofs.YtjkdflnnpdionaaGreat
