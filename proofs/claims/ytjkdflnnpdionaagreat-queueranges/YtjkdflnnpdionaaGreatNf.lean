import Derived.Test.YtjkdflnnpdionaaGreatNe
/-
  A chunk is taken, an item laid: the World's state.
-/
namespace Go.Proofs.YtjkdflnnpdionaaGreat
open Go.RowKit
set_option linter.unusedVariables false

theorem getL_lay {zs ys : List Int} {x q : Nat} (h : x + ys.length ≤ zs.length) (hq : q < x ∨ x + ys.length ≤ q) : getL (lay zs x ys) q 1 0 0 = getL zs q 1 0 0 := by
  rw [getL1, getL1, List.getD_eq_getElem?_getD, List.getD_eq_getElem?_getD, lay_out h hq]
theorem hd0_44 (g : Int) : (hd0 g)[44]? = some 0 := by
  unfold hd0
  rw [List.getElem?_append_right (by simp), List.getElem?_append_right (by simp [be_len])]
  simp [be_len]
theorem headZ_44 (zs : List Int) (pl g : Nat) (h : pl + 56 ≤ zs.length) : getL (headZ zs pl g) (pl + 44) 1 0 0 = 0 := by
  rw [headZ_lay zs pl g h, getL1, List.getD_eq_getElem?_getD]
  have : (lay zs pl (hd0 g))[pl + 44]? = some 0 := by
    unfold lay
    rw [List.append_assoc, List.getElem?_append_right (by simp; omega)]
    have e : (zs.take pl).length = pl := by simp; omega
    rw [e, show pl + 44 - pl = 44 by omega, List.getElem?_append_left (by rw [hd0_len]; omega)]
    exact hd0_44 g
  rw [this]
  rfl
theorem LI.cls {cls cls' : Nat → Nat} {T : List Nat} {p n s : Nat → Nat} {L : Ls} {X : Nat → Nat → List Nat} (h : LI cls T p n s L X) (he : ∀ G, G ∈ T → cls' G = cls G) : LI cls' T p n s L X :=
  ⟨fun c k H hH => by
    obtain ⟨a1, a2, a3⟩ := h.sub c k H hH
    exact ⟨a1, a2, by rw [he H a1]; exact a3⟩, h.k3, h.nd, h.lk, h.hd, h.tl, h.ln, h.st, fun H hH hs => by rw [he H hH]; exact h.out H hH hs, h.non, h.z⟩

section
variable {D : Wd} {cl : Nat → Nat} {S : Lm} {bs : Nat → It} {p n s : Nat → Nat} {H : Nat}
/-- A chunk is taken. -/
theorem GX.takes (h : GX D cl S bs p n s) {A' : Ab} {R' : Rb} {F' G' : Nat → Prop} {B' : Bl} {Q' : Rl} {tv' : Value} {xt' : List Nat} {c x k : Nat} (hI : Inv A') (hT : Takes D.A A' c H x k) (hf : RFit R') (hr : Rep A' R') (hz : A'.place x k + 58 ≤ D.zs.length) : GX { D with F := F', B := B', A := A', zs := headZ D.zs (A'.place x k) (A'.gen x k), G := G', Q := Q', R := R', tv := tv', xt := xt' } cl S bs p n s := by
  have hk := hT.kin
  have hx0 : H ∉ D.xl := fun hm => by
    obtain ⟨y, l, hY, _⟩ := h.its H hm
    exact hT.not y l hY
  have hap : ∀ G y l, IsH D.A G y l → A'.place y l + A'.sz (A'.own y) ≤ A'.place x k ∨ A'.place x k + A'.sz (A'.own x) ≤ A'.place y l := fun G y l hY => by
    have hY' := hT.old G y l hY
    refine place_apart hI.fit.toFit1 hY'.hp hY'.hk hT.good.hp hT.good.hk ?_
    rintro ⟨rfl, rfl⟩
    have : G = H := by rw [hY'.hH, hT.good.hH]
    exact hT.not y l (this ▸ hY)
  have h64 := hI.fit.lo _ (hI.fit.on x hT.good.hp)
  refine ⟨hI, hk.n.trans h.n3, hk.ps.trans h.ps, hk.m.trans h.m, hf, hr, fun G hG => ?_, h.lk, fun G y l hY hn => ?_, h.li, fun G hG y l hY => ?_⟩
  · obtain ⟨y, l, hY, hIt, hsz⟩ := h.its G hG
    have hY' := hT.old G y l hY
    refine ⟨y, l, hY', ?_, ?_⟩
    · show IsI (headZ D.zs (A'.place x k) (A'.gen x k)) (A'.place y l) _
      rw [headZ_lay _ _ _ (by omega)]
      have e := hap G y l hY
      rw [hk.place hY.hp] at e ⊢
      have hk2 := itm_key bs p n s G
      refine hIt.far (by rw [hd0_len]; omega) ?_
      rw [hd0_len, hk2.1, hk2.2]
      rw [hk.sz, hk.own y hY.hp] at e
      omega
    · show _ ≤ A'.sz (A'.own y)
      rw [hk.sz, hk.own y hY.hp]; exact hsz
  · show getL (headZ D.zs (A'.place x k) (A'.gen x k)) (A'.place y l + 44) 1 0 0 = 0
    rcases hT.new G y l hY with ⟨rfl, rfl⟩ | hY0
    · exact headZ_44 _ _ _ (by omega)
    · rw [headZ_lay _ _ _ (by omega)]
      have e := hap G y l hY0
      have h65 := hI.fit.lo _ (hI.fit.on y hY.hp)
      rw [getL_lay (by rw [hd0_len]; omega) (by rw [hd0_len]; omega), hk.place hY0.hp]
      exact h.bare G y l hY0 hn
  · show A'.own y = cl G
    rcases hT.new G y l hY with ⟨rfl, rfl⟩ | hY0
    · have : G = H := by rw [hY.hH, hT.good.hH]
      exact absurd hG (this ▸ hx0)
    · rw [hk.own y hY0.hp]
      exact h.cls G hG y l hY0
/-- The item that is laid. -/
def newTg (i : Nat) (g c : Int) : It := ⟨0, 0, 0, g, (i : Int) + 1, 0, (i : Int) + 1, (i : Int) + 1, 4, ((i : Int) + 1) % 16, c, keyB i, [(i : Int) + 1]⟩
theorem newTg_is {zs : List Int} {pl i : Nat} {g c : Int} (hi : i < 255) (hg : 0 ≤ g ∧ g < 4294967296) (hc : 0 ≤ c ∧ c < 256) (hz : pl + 61 ≤ zs.length) : IsI (lay zs pl (newTg i g c).L.flatten) pl (newTg i g c) := by
  have hTl : (newTg i g c).L.flatten.length = 61 := by rw [It.len]; rfl
  refine ⟨lies_lay (by rw [hTl]; omega), ?_, ?_, ?_, hg, ?_, ?_, ?_, ?_, ?_, ?_, hc, ?_, ?_, (keyB_ok i).1, ?_⟩
  all_goals first | (show (0 : Int) ≤ 0 ∧ (0 : Int) < _; omega) | (show (0 : Int) ≤ (i : Int) + 1 ∧ (i : Int) + 1 < _; omega) | skip
  · show (0 : Int) ≤ 4 ∧ (4 : Int) < 256; omega
  · show (0 : Int) ≤ ((i : Int) + 1) % 16 ∧ ((i : Int) + 1) % 16 < 256; omega
  · show 1 ≤ 2 ∧ 2 ≤ 250; omega
  · show 1 ≤ 1048576; omega
  · intro z hz
    simp [newTg] at hz
    omega
def bsNg (bs : Nat → It) (H : Nat) (T : It) : Nat → It := fun G => if G = H then T else bs G
theorem bsNg_same (bs : Nat → It) (H : Nat) (T : It) : bsNg bs H T H = T := if_pos rfl
theorem bsNg_ne (bs : Nat → It) {H G : Nat} (T : It) (h : G ≠ H) : bsNg bs H T G = bs G := if_neg h
/-- An item is laid into a chunk that has none. -/
theorem GX.lays (h : GX D cl S bs p n s) {lv' : Value} {i x k : Nat} (hi : i < 255) (hH : IsH D.A H x k) (hn : H ∉ D.xl) (h0 : ¬ H = 0) (hz : D.A.place x k + 61 ≤ D.zs.length) : GX { D with zs := lay D.zs (D.A.place x k) (newTg i (D.A.gen x k) (D.A.own x)).L.flatten, lv := lv', xl := D.xl ++ [H] } (upf cl H (D.A.own x)) S (bsNg bs H (newTg i (D.A.gen x k) (D.A.own x))) (upf p H 0) (upf n H 0) (upf s H 4) := by
  have hI := h.inv
  have hTl : (newTg i (D.A.gen x k) (D.A.own x)).L.flatten.length = 61 := by rw [It.len]; rfl
  have hon := hI.on x hH.hp
  have h64 := hI.lo _ hon
  have hne : ∀ G, G ∈ D.xl → G ≠ H := fun G hG e => hn (e ▸ hG)
  have hap : ∀ G y l, IsH D.A G y l → G ≠ H → D.A.place y l + D.A.sz (D.A.own y) ≤ D.A.place x k ∨ D.A.place x k + D.A.sz (D.A.own x) ≤ D.A.place y l := fun G y l hY hG => by
    refine place_apart hI.fit.toFit1 hY.hp hY.hk hH.hp hH.hk ?_
    rintro ⟨rfl, rfl⟩
    exact hG (by rw [hY.hH, hH.hH])
  refine ⟨hI, h.n3, h.ps, h.m, h.rf, h.rep, fun G hG => ?_, fun G hG => ?_, fun G y l hY hG => ?_, ?_, fun G hG y l hY => ?_⟩
  · by_cases e : G = H
    · subst e
      refine ⟨x, k, hH, ?_, ?_⟩
      · show IsI (lay D.zs (D.A.place x k) _) (D.A.place x k) (itm _ _ _ _ G)
        have e1 : itm (bsNg bs G (newTg i (D.A.gen x k) (D.A.own x))) (upf p G 0) (upf n G 0) (upf s G 4) G = newTg i (D.A.gen x k) (D.A.own x) := by
          unfold itm
          rw [upf_same, upf_same, upf_same, bsNg_same]
          rfl
        rw [e1]
        exact newTg_is hi ⟨by omega, by have := hI.gn x k; omega⟩ ⟨by omega, by have := h.n3; omega⟩ hz
      · show 58 + (bsNg bs G (newTg i (D.A.gen x k) (D.A.own x)) G).key.length + (bsNg bs G (newTg i (D.A.gen x k) (D.A.own x)) G).val.length ≤ D.A.sz (D.A.own x)
        rw [bsNg_same]
        show 58 + 2 + 1 ≤ _
        omega
    · have hG' : G ∈ D.xl := by simpa [e] using hG
      obtain ⟨y, l, hY, hIt, hsz⟩ := h.its G hG'
      have ha := hap G y l hY e
      have hk2 := itm_key bs p n s G
      refine ⟨y, l, hY, ?_, ?_⟩
      · show IsI (lay D.zs (D.A.place x k) _) (D.A.place y l) (itm _ _ _ _ G)
        have e1 : itm (bsNg bs H (newTg i (D.A.gen x k) (D.A.own x))) (upf p H 0) (upf n H 0) (upf s H 4) G = itm bs p n s G := by
          unfold itm
          rw [upf_ne _ _ e, upf_ne _ _ e, upf_ne _ _ e, bsNg_ne _ _ e]
        rw [e1]
        refine hIt.far (by rw [hTl]; omega) ?_
        rw [hTl, hk2.1, hk2.2]
        omega
      · show 58 + (bsNg bs H (newTg i (D.A.gen x k) (D.A.own x)) G).key.length + (bsNg bs H (newTg i (D.A.gen x k) (D.A.own x)) G).val.length ≤ _
        rw [bsNg_ne _ _ e]
        exact hsz
  · show (upf p H 0 G = 0 ∨ upf p H 0 G ∈ D.xl ++ [H]) ∧ (upf n H 0 G = 0 ∨ upf n H 0 G ∈ D.xl ++ [H])
    by_cases e : G = H
    · subst e
      exact ⟨.inl (upf_same _ _ _), .inl (upf_same _ _ _)⟩
    · have hG' : G ∈ D.xl := by simpa [e] using hG
      rw [upf_ne _ _ e, upf_ne _ _ e]
      exact ⟨(h.lk G hG').1.imp id (List.mem_append_left _), (h.lk G hG').2.imp id (List.mem_append_left _)⟩
  · have hG1 : G ∉ D.xl := fun hm => hG (List.mem_append_left _ hm)
    have hG2 : G ≠ H := fun e => hG (by rw [e]; exact List.mem_append_right _ (by simp))
    have ha := hap G y l hY hG2
    have h65 := hI.lo _ (hI.on y hY.hp)
    show getL (lay D.zs (D.A.place x k) _) (D.A.place y l + 44) 1 0 0 = 0
    rw [getL_lay (by rw [hTl]; omega) (by rw [hTl]; omega)]
    exact h.bare G y l hY hG1
  · exact (h.li.cls (cls' := upf cl H (D.A.own x)) (fun G hG => upf_ne _ _ (hne G hG))).add hn h0
  · show D.A.own y = upf cl H (D.A.own x) G
    by_cases e : G = H
    · subst e
      rw [upf_same]
      rw [(isH_inj hI.fit hY hH).1]
    · rw [upf_ne _ _ e]
      exact h.cls G (by simpa [e] using hG) y l hY
end
end Go.Proofs.YtjkdflnnpdionaaGreat
