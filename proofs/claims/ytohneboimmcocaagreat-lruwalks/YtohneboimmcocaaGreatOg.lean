import Derived.Test.YtohneboimmcocaaGreatOf
/-
  Pairs of calls: Give.
-/
namespace Go.Proofs.YtohneboimmcocaaGreat
open Go.RowKit
set_option linter.unusedVariables false

section
variable {w : World} {P : Nat → Prop} {wb N : Nat} {D : Wd} {hot warm lsb : Nat} {vs : Nat → Value} {Y : Nat → List Nat} {cl : Nat → Nat} {S : Lm} {bs : Nat → It} {p n s : Nat → Nat} {D0 : Wd} {H : Nat}
/-- The links of items lead to items of lists. -/
theorem LI.links {cls : Nat → Nat} {T : List Nat} {L : Ls} {X : Nat → Nat → List Nat} (h : LI cls T p n s L X) {G : Nat} (hG : G ∈ T) (hno : ∀ c k, H ∉ X c k) (h0 : ¬ H = 0) : p G ≠ H ∧ n G ≠ H := by
  have hs := h.st G hG
  by_cases e : s G = 4
  · have := h.non G hG e
    omega
  · have hm := h.out G hG (by omega)
    obtain ⟨U, V, hX, h1, h2⟩ := h.split hm
    have hsub : ∀ z, z ∈ U ∨ z ∈ V → z ∈ X (cls G) (s G - 1) := fun z hz => by
      rw [hX]
      rcases hz with hz | hz
      · exact List.mem_append_left _ hz
      · exact List.mem_append_right _ (List.mem_cons_of_mem _ hz)
    refine ⟨fun e2 => ?_, fun e2 => ?_⟩
    · rcases lastD_in (U := U) (P := fun z => z ∈ U) (fun z hz => hz) with h3 | h3
      · omega
      · exact hno _ _ (hsub H (.inl (by rw [← e2, h1]; exact h3)))
    · rcases headD_in (U := V) (P := fun z => z ∈ V) (fun z hz => hz) with h3 | h3
      · omega
      · exact hno _ _ (hsub H (.inr (by rw [← e2, h2]; exact h3)))
theorem row_small {A : Ab} (hI : Inv A) (h3 : A.n = 3) (hm : A.m = 4) : ∀ c, c < A.n → (A.row c).length < 16777216 := fun c hc => by
  have h1 := hI.rl c hc
  have h2 : (List.range A.np).countP (fun p => A.own p = c) ≤ A.np := by
    have := List.countP_le_length (p := fun p => decide (A.own p = c)) (l := List.range A.np)
    rw [List.length_range] at this
    exact this
  have h3 := (hI.toSzs.each hc).2.1
  have h4 := hI.nm
  have h5 : ((List.range A.np).countP fun p => A.own p = c) * A.each c ≤ 4 * 16384 := Nat.mul_le_mul (by omega) h3
  omega
/-- What is left when a chunk was given back. -/
theorem GX.gives (h : GX D cl S bs p n s) (hno : ∀ c k, H ∉ S.X c k) {A' : Ab} {R' : Rb} {F' G' : Nat → Prop} {B' : Bl} {Q' : Rl} {lv' : Value} {xl' : List Nat} {x k : Nat} (hI : Inv A') (hg : Gives D.A A' H x k) (hf : RFit R') (hr : Rep A' R') (h0 : ¬ H = 0) (hxl : ∀ G, G ∈ xl' ↔ G ∈ D.xl ∧ G ≠ H) : GX { D with F := F', B := B', A := A', G := G', Q := Q', R := R', lv := lv', xl := xl' } cl S bs p n s := by
  have hk := hg.kin
  have hp := fun (G y l : Nat) (hY : IsH D.A G y l) => hk.place hY.hp l
  refine ⟨hI, hk.n.trans h.n3, hk.ps.trans h.ps, hk.m.trans h.m, hf, hr, fun G hG => ?_, fun G hG => ?_, fun G y l hY hn => ?_, ⟨fun c k G hG => ?_, h.li.k3, h.li.nd, h.li.lk, h.li.hd, h.li.tl, h.li.ln, fun G hG => h.li.st G ((hxl G).1 hG).1, fun G hG => h.li.out G ((hxl G).1 hG).1, fun G hG => h.li.non G ((hxl G).1 hG).1, fun hG => h.li.z ((hxl 0).1 hG).1⟩, fun G hG y l hY => ?_, fun G hG => h.mks G ((hxl G).1 hG).1⟩
  · obtain ⟨g1, g2⟩ := (hxl G).1 hG
    obtain ⟨y, l, hY, hIt, hsz⟩ := h.its G g1
    refine ⟨y, l, (hg.new G y l).2 ⟨hY, g2⟩, ?_, ?_⟩
    · show IsI D.zs (A'.place y l) _
      rw [hp G y l hY]; exact hIt
    · show _ ≤ A'.sz (A'.own y)
      rw [hk.sz, hk.own y hY.hp]; exact hsz
  · obtain ⟨g1, g2⟩ := (hxl G).1 hG
    obtain ⟨l1, l2⟩ := h.lk G g1
    obtain ⟨m1, m2⟩ := h.li.links g1 hno h0
    exact ⟨l1.imp id (fun hh => (hxl _).2 ⟨hh, m1⟩), l2.imp id (fun hh => (hxl _).2 ⟨hh, m2⟩)⟩
  · obtain ⟨hY1, hne⟩ := (hg.new G y l).1 hY
    show getL D.zs (A'.place y l + 44) 1 0 0 = 0
    rw [hp G y l hY1]
    exact h.bare G y l hY1 (fun hm => hn ((hxl G).2 ⟨hm, hne⟩))
  · obtain ⟨a1, a2, a3⟩ := h.li.sub _ _ _ hG
    exact ⟨(hxl G).2 ⟨a1, fun e => hno _ _ (e ▸ hG)⟩, a2, a3⟩
  · obtain ⟨hY1, hne⟩ := (hg.new G y l).1 hY
    show A'.own y = cl G
    rw [hk.own y hY1.hp]
    exact h.cls G ((hxl G).1 hG).1 y l hY1
theorem Dm.less {T T' : List Nat} {Y : Nat → List Nat} {xa : List Nat} {S : Lm} (hm : Dm T Y xa S) (h : ∀ G, G ∈ T' → G ∈ T) : Dm T' Y xa S := ⟨hm.ys, fun G hG => hm.ac G (h G hG)⟩
set_option maxHeartbeats 1000000 in
/-- Give, of what stands in no list. -/
theorem pair_give (hW : GW w P wb N hot warm D lsb vs Y S cl) (hs : SameP D0 D) (hP : ∀ k, w.heap.size ≤ k → P k) (hN : N < 300) (h64 : H < 18446744073709551616) (hno : ∀ c k, H ∉ S.X c k) : Pair w P wb D0 51 52 #[.pointer (some ⟨D0.sb, 0, none⟩), .int .u64 H] #[.pointer (some ⟨D0.lb, 0, none⟩), .int .u64 H] (fun w' => Kp P w w' ∧ GS w' P wb (N + 1) hot warm D0) := by
  obtain ⟨bs, p, n, s, hX⟩ := hW.gx
  have hM := hW.ms
  have hN1 := hW.nN
  rw [← hs.1, ← hs.2.2.2.2.1]
  by_cases hx : ∃ x k, IsH D.A H x k
  · obtain ⟨x, k, hH⟩ := hx
    have h0 : ¬ H = 0 := fun e => by
      have h1 := (hH.parts hX.inv.fit).1
      have h2 := (num_lt hX.inv.fit.toFit1 hH.hp hH.hk).2.1
      rw [e] at h1
      omega
    obtain ⟨A', hI', hGi, hprog, hdoc⟩ := give2_yes hX.inv hH (row_small hX.inv hX.n3 hX.m)
    refine ⟨0, fun w1 => ∃ F' B', MS9 w1 P wb { D with F := F', B := B', A := A', zs := D.zs } hot warm lsb vs Y ∧ Kp P w w1, ?_, fun w1 w2 hB hf => ?_⟩
    · refine (hprog w D.sb D.F D.B _ _ _ _ _ _ D.zs hM.ms.iss).mono ?_
      rintro y w1 ⟨rfl, hK, F', B', hS, hF⟩
      obtain ⟨g1, g2⟩ := hM.stepS hP hK hS hF
      exact ⟨rfl, F', B', g1, g2⟩
    · obtain ⟨F', B', m1, m3⟩ := hB
      have m1' := m1.kept0 hf
      have hS2 : w.heap.size ≤ w2.heap.size := Nat.le_trans m3.size hf.size
      have hs1 : SameP D0 { D with F := F', B := B', A := A', zs := D.zs } := hs
      have hce := cells_of hs1 m1'.cells
      have hgR := (hdoc w2 D.rb D.G D.Q _ _ _ D.R m1'.ms.isr hX.rf hX.rep).mono (R' := fun y w3 => y = .returned (.int .i64 0) ∧ Box w3 127 D.lb #[.pointer (some ⟨D.rb, 0, none⟩), D.lv, D.lsv] ∧ w3.ownsRow 0 27 1 D.lv D.xl.length (uvs D.xl) ∧ ∃ G' Q' R', RFit R' ∧ Rep A' R' ∧ MS9 w3 P wb { D with F := F', B := B', A := A', zs := D.zs, G := G', Q := Q', R := R' } hot warm lsb vs Y ∧ Kp P w w3) (by
        rintro y w3 ⟨rfl, hK, G', Q', R', hS, hR', hrep', hG'⟩
        obtain ⟨g1, g2⟩ := m1'.stepR (fun k hk => hP k (Nat.le_trans hS2 hk)) hK hS hG'
        exact ⟨rfl, g1.ms.lbx, g1.ms.lrow, G', Q', R', hR', hrep', g1, (m3.step hf (by simp)).trans g2 (fun _ h => h) (fun k hk => .inl hk)⟩)
      refine ⟨m3.step hf (by simp), hce, ?_⟩
      by_cases hm : H ∈ D.xl
      · obtain ⟨U, V, hUV⟩ := List.append_of_mem hm
        have hnd := hW.nd
        rw [hUV] at hnd
        obtain ⟨n1, n2, n3⟩ := List.nodup_append.1 hnd
        obtain ⟨n4, n5⟩ := List.nodup_cons.1 n2
        have hU : H ∉ U := fun hh => n3 _ hh H (by simp) rfl
        have hxl : ∀ G, G ∈ U ++ V ↔ G ∈ D.xl ∧ G ≠ H := fun G => by
          rw [hUV]
          constructor
          · intro hG
            rcases List.mem_append.1 hG with hG | hG
            · exact ⟨List.mem_append_left _ hG, fun e => hU (e ▸ hG)⟩
            · exact ⟨List.mem_append_right _ (List.mem_cons_of_mem _ hG), fun e => n4 (e ▸ hG)⟩
          · rintro ⟨hG, hne⟩
            rcases List.mem_append.1 hG with hG | hG
            · exact List.mem_append_left _ hG
            · rcases List.mem_cons.1 hG with hG | hG
              · exact absurd hG hne
              · exact List.mem_append_right _ hG
        refine (rgive6_yes m1'.ms.lbx hUV hU (by omega) hgR).mono ?_
        rintro y w4 ⟨rfl, w3, lv', ⟨G', Q', R', hR', hrep', g1, g2⟩, hK4, hb4, hr4, hn4⟩
        obtain ⟨q1, q2⟩ := g1.stepL (fun k hk => hP k (Nat.le_trans g2.size hk)) (hK4.mono (fun k hk => .inl (.inl hk))) hb4 hr4 (fun k hk => .inr (hn4 k hk))
        have hlen : (U ++ V).length ≤ D.xl.length := by rw [hUV]; simp
        refine ⟨rfl, g2.trans q2 (fun _ h => h) (fun k hk => .inl hk), { D with F := F', B := B', A := A', zs := D.zs, G := G', Q := Q', R := R', lv := lv', xl := U ++ V }, lsb, vs, Y, S, cl, hs, q1, ⟨bs, p, n, s, hX.gives hno hI' hGi hR' hrep' h0 hxl⟩, hW.dm.less (fun G hG => ((hxl G).1 hG).1), ⟨by omega, ?_, ?_, ?_⟩, fun G hG => hW.sub G ((hxl G).1 hG).1, fun G hG => hW.hdr G ((hxl G).1 hG).1, hW.zl, ?_, hW.tb⟩
        · show D.xt.length ≤ _; omega
        · show (U ++ V).length ≤ _; omega
        · show D.xa.length ≤ _; omega
        · exact List.nodup_append.2 ⟨n1, n5, fun a ha b hb => n3 a ha b (List.mem_cons_of_mem _ hb)⟩
      · refine (rgive6_no (.inr rfl) m1'.ms.lbx hm (by omega) hgR).mono ?_
        rintro y w3 ⟨rfl, G', Q', R', hR', hrep', g1, g2⟩
        refine ⟨rfl, g2, { D with F := F', B := B', A := A', zs := D.zs, G := G', Q := Q', R := R' }, lsb, vs, Y, S, cl, hs, g1, ⟨bs, p, n, s, hX.gives hno hI' hGi hR' hrep' h0 (fun G => ⟨fun hG => ⟨hG, fun e => hm (e ▸ hG)⟩, fun hG => hG.1⟩)⟩, hW.dm, ⟨by omega, ?_, ?_, ?_⟩, hW.sub, hW.hdr, hW.zl, hW.nd, hW.tb⟩
        · show D.xt.length ≤ _; omega
        · show D.xl.length ≤ _; omega
        · show D.xa.length ≤ _; omega
  · have hx2 : ∀ x k, ¬ IsH D.A H x k := fun x k hh => hx ⟨x, k, hh⟩
    have hm : H ∉ D.xl := fun hm => by
      obtain ⟨x, k, hH, _⟩ := hX.its H hm
      exact hx2 x k hH
    refine pair_still hW hs hN 20 (give_no hM.ms.iss hX.inv.fit h64 hx2) (fun W hf => ?_)
    have hMW := hM.kept0 hf
    refine rgive6_no (xs := D.xl) (R := fun w' => W.grownBy w' none) (.inl rfl) hMW.ms.lbx hm (by omega) ((rgive_no (rfind_bad hMW.ms.isr hX.rf hX.rep hX.inv.fit hx2)).mono ?_)
    rintro y w3 ⟨rfl, hf3⟩
    exact ⟨rfl, (hMW.kept0 hf3).ms.lbx, (hMW.kept0 hf3).ms.lrow, hf3⟩
end
end Go.Proofs.YtohneboimmcocaaGreat
/-
  A chunk is taken, an item laid: the World's state.
-/
namespace Go.Proofs.YtohneboimmcocaaGreat
open Go.RowKit
set_option linter.unusedVariables false

theorem getL_lay {zs ys : List Int} {x q : Nat} (h : x + ys.length ≤ zs.length) (hq : q < x ∨ x + ys.length ≤ q) : getL (lay zs x ys) q 1 0 0 = getL zs q 1 0 0 := by
  rw [getL1, getL1, List.getD_eq_getElem?_getD, List.getD_eq_getElem?_getD, lay_out h hq]
theorem hd0_44 (g : Int) : (hd0 g)[44]? = some 0 := by
  unfold hd0
  rw [List.getElem?_append_right (by simp), List.getElem?_append_right (by simp [be_len])]
  simp [be_len]
theorem headZ_44 (zs : List Int) (pl g : Nat) (h : pl + 56 ≤ zs.length) : getL (headZ zs pl g) (pl + 44) 1 0 0 = 0 := by
  rw [headZ_lay zs pl g h, getL1, List.getD_eq_getElem?_getD]
  have : (lay zs pl (hd0 g))[pl + 44]? = some 0 := by
    unfold lay
    rw [List.append_assoc, List.getElem?_append_right (by simp; omega)]
    have e : (zs.take pl).length = pl := by simp; omega
    rw [e, show pl + 44 - pl = 44 by omega, List.getElem?_append_left (by rw [hd0_len]; omega)]
    exact hd0_44 g
  rw [this]
  rfl
theorem LI.cls {cls cls' : Nat → Nat} {T : List Nat} {p n s : Nat → Nat} {L : Ls} {X : Nat → Nat → List Nat} (h : LI cls T p n s L X) (he : ∀ G, G ∈ T → cls' G = cls G) : LI cls' T p n s L X :=
  ⟨fun c k H hH => by
    obtain ⟨a1, a2, a3⟩ := h.sub c k H hH
    exact ⟨a1, a2, by rw [he H a1]; exact a3⟩, h.k3, h.nd, h.lk, h.hd, h.tl, h.ln, h.st, fun H hH hs => by rw [he H hH]; exact h.out H hH hs, h.non, h.z⟩

section
variable {D : Wd} {cl : Nat → Nat} {S : Lm} {bs : Nat → It} {p n s : Nat → Nat} {H : Nat}
/-- A chunk is taken. -/
theorem GX.takes (h : GX D cl S bs p n s) {A' : Ab} {R' : Rb} {F' G' : Nat → Prop} {B' : Bl} {Q' : Rl} {tv' : Value} {xt' : List Nat} {c x k : Nat} (hI : Inv A') (hT : Takes D.A A' c H x k) (hf : RFit R') (hr : Rep A' R') (hz : A'.place x k + 58 ≤ D.zs.length) : GX { D with F := F', B := B', A := A', zs := headZ D.zs (A'.place x k) (A'.gen x k), G := G', Q := Q', R := R', tv := tv', xt := xt' } cl S bs p n s := by
  have hk := hT.kin
  have hx0 : H ∉ D.xl := fun hm => by
    obtain ⟨y, l, hY, _⟩ := h.its H hm
    exact hT.not y l hY
  have hap : ∀ G y l, IsH D.A G y l → A'.place y l + A'.sz (A'.own y) ≤ A'.place x k ∨ A'.place x k + A'.sz (A'.own x) ≤ A'.place y l := fun G y l hY => by
    have hY' := hT.old G y l hY
    refine place_apart hI.fit.toFit1 hY'.hp hY'.hk hT.good.hp hT.good.hk ?_
    rintro ⟨rfl, rfl⟩
    have : G = H := by rw [hY'.hH, hT.good.hH]
    exact hT.not y l (this ▸ hY)
  have h64 := hI.fit.lo _ (hI.fit.on x hT.good.hp)
  refine ⟨hI, hk.n.trans h.n3, hk.ps.trans h.ps, hk.m.trans h.m, hf, hr, fun G hG => ?_, h.lk, fun G y l hY hn => ?_, h.li, fun G hG y l hY => ?_, h.mks⟩
  · obtain ⟨y, l, hY, hIt, hsz⟩ := h.its G hG
    have hY' := hT.old G y l hY
    refine ⟨y, l, hY', ?_, ?_⟩
    · show IsI (headZ D.zs (A'.place x k) (A'.gen x k)) (A'.place y l) _
      rw [headZ_lay _ _ _ (by omega)]
      have e := hap G y l hY
      rw [hk.place hY.hp] at e ⊢
      have hk2 := itm_key bs p n s G
      refine hIt.far (by rw [hd0_len]; omega) ?_
      rw [hd0_len, hk2.1, hk2.2]
      rw [hk.sz, hk.own y hY.hp] at e
      omega
    · show _ ≤ A'.sz (A'.own y)
      rw [hk.sz, hk.own y hY.hp]; exact hsz
  · show getL (headZ D.zs (A'.place x k) (A'.gen x k)) (A'.place y l + 44) 1 0 0 = 0
    rcases hT.new G y l hY with ⟨rfl, rfl⟩ | hY0
    · exact headZ_44 _ _ _ (by omega)
    · rw [headZ_lay _ _ _ (by omega)]
      have e := hap G y l hY0
      have h65 := hI.fit.lo _ (hI.fit.on y hY.hp)
      rw [getL_lay (by rw [hd0_len]; omega) (by rw [hd0_len]; omega), hk.place hY0.hp]
      exact h.bare G y l hY0 hn
  · show A'.own y = cl G
    rcases hT.new G y l hY with ⟨rfl, rfl⟩ | hY0
    · have : G = H := by rw [hY.hH, hT.good.hH]
      exact absurd hG (this ▸ hx0)
    · rw [hk.own y hY0.hp]
      exact h.cls G hG y l hY0
/-- The item that is laid. -/
def newTg (i : Nat) (g c : Int) : It := ⟨0, 0, 0, g, 0, 0, 0, 0, 4, ((mrk i : Nat) : Int), c, keyB i, []⟩
theorem newTg_is {zs : List Int} {pl i : Nat} {g c : Int} (hg : 0 ≤ g ∧ g < 4294967296) (hc : 0 ≤ c ∧ c < 256) (hz : pl + 60 ≤ zs.length) : IsI (lay zs pl (newTg i g c).L.flatten) pl (newTg i g c) := by
  have hTl : (newTg i g c).L.flatten.length = 60 := by rw [It.len]; rfl
  have hm : mrk i < 16 := Nat.mod_lt _ (by decide)
  refine ⟨lies_lay (by rw [hTl]; omega), ?_, ?_, ?_, hg, ?_, ?_, ?_, ?_, ?_, ?_, hc, ?_, ?_, (keyB_ok i).1, ?_⟩
  all_goals first | (show (0 : Int) ≤ 0 ∧ (0 : Int) < _; omega) | skip
  · show (0 : Int) ≤ 4 ∧ (4 : Int) < 256; omega
  · show (0 : Int) ≤ ((mrk i : Nat) : Int) ∧ ((mrk i : Nat) : Int) < 256; omega
  · show 1 ≤ 2 ∧ 2 ≤ 250; omega
  · show 0 ≤ 1048576; omega
  · intro z hz
    simp [newTg] at hz
def bsNg (bs : Nat → It) (H : Nat) (T : It) : Nat → It := fun G => if G = H then T else bs G
theorem bsNg_same (bs : Nat → It) (H : Nat) (T : It) : bsNg bs H T H = T := if_pos rfl
theorem bsNg_ne (bs : Nat → It) {H G : Nat} (T : It) (h : G ≠ H) : bsNg bs H T G = bs G := if_neg h
/-- An item is laid into a chunk that has none. -/
theorem GX.lays (h : GX D cl S bs p n s) {lv' av' : Value} {xa' : List Nat} {i x k : Nat} (hH : IsH D.A H x k) (hn : H ∉ D.xl) (h0 : ¬ H = 0) (hz : D.A.place x k + 60 ≤ D.zs.length) : GX { D with zs := lay D.zs (D.A.place x k) (newTg i (D.A.gen x k) (D.A.own x)).L.flatten, lv := lv', xl := D.xl ++ [H], av := av', xa := xa' } (upf cl H (D.A.own x)) ⟨S.X, upf S.ma H (mrk i)⟩ (bsNg bs H (newTg i (D.A.gen x k) (D.A.own x))) (upf p H 0) (upf n H 0) (upf s H 4) := by
  have hI := h.inv
  have hTl : (newTg i (D.A.gen x k) (D.A.own x)).L.flatten.length = 60 := by rw [It.len]; rfl
  have hon := hI.on x hH.hp
  have h64 := hI.lo _ hon
  have hne : ∀ G, G ∈ D.xl → G ≠ H := fun G hG e => hn (e ▸ hG)
  have hap : ∀ G y l, IsH D.A G y l → G ≠ H → D.A.place y l + D.A.sz (D.A.own y) ≤ D.A.place x k ∨ D.A.place x k + D.A.sz (D.A.own x) ≤ D.A.place y l := fun G y l hY hG => by
    refine place_apart hI.fit.toFit1 hY.hp hY.hk hH.hp hH.hk ?_
    rintro ⟨rfl, rfl⟩
    exact hG (by rw [hY.hH, hH.hH])
  refine ⟨hI, h.n3, h.ps, h.m, h.rf, h.rep, fun G hG => ?_, fun G hG => ?_, fun G y l hY hG => ?_, ?_, fun G hG y l hY => ?_, fun G hG => ?_⟩
  · by_cases e : G = H
    · subst e
      refine ⟨x, k, hH, ?_, ?_⟩
      · show IsI (lay D.zs (D.A.place x k) _) (D.A.place x k) (itm _ _ _ _ G)
        have e1 : itm (bsNg bs G (newTg i (D.A.gen x k) (D.A.own x))) (upf p G 0) (upf n G 0) (upf s G 4) G = newTg i (D.A.gen x k) (D.A.own x) := by
          unfold itm
          rw [upf_same, upf_same, upf_same, bsNg_same]
          rfl
        rw [e1]
        exact newTg_is ⟨by omega, by have := hI.gn x k; omega⟩ ⟨by omega, by have := h.n3; omega⟩ hz
      · show 58 + (bsNg bs G (newTg i (D.A.gen x k) (D.A.own x)) G).key.length + (bsNg bs G (newTg i (D.A.gen x k) (D.A.own x)) G).val.length ≤ D.A.sz (D.A.own x)
        rw [bsNg_same]
        show 58 + 2 + 0 ≤ _
        omega
    · have hG' : G ∈ D.xl := by simpa [e] using hG
      obtain ⟨y, l, hY, hIt, hsz⟩ := h.its G hG'
      have ha := hap G y l hY e
      have hk2 := itm_key bs p n s G
      refine ⟨y, l, hY, ?_, ?_⟩
      · show IsI (lay D.zs (D.A.place x k) _) (D.A.place y l) (itm _ _ _ _ G)
        have e1 : itm (bsNg bs H (newTg i (D.A.gen x k) (D.A.own x))) (upf p H 0) (upf n H 0) (upf s H 4) G = itm bs p n s G := by
          unfold itm
          rw [upf_ne _ _ e, upf_ne _ _ e, upf_ne _ _ e, bsNg_ne _ _ e]
        rw [e1]
        refine hIt.far (by rw [hTl]; omega) ?_
        rw [hTl, hk2.1, hk2.2]
        omega
      · show 58 + (bsNg bs H (newTg i (D.A.gen x k) (D.A.own x)) G).key.length + (bsNg bs H (newTg i (D.A.gen x k) (D.A.own x)) G).val.length ≤ _
        rw [bsNg_ne _ _ e]
        exact hsz
  · show (upf p H 0 G = 0 ∨ upf p H 0 G ∈ D.xl ++ [H]) ∧ (upf n H 0 G = 0 ∨ upf n H 0 G ∈ D.xl ++ [H])
    by_cases e : G = H
    · subst e
      exact ⟨.inl (upf_same _ _ _), .inl (upf_same _ _ _)⟩
    · have hG' : G ∈ D.xl := by simpa [e] using hG
      rw [upf_ne _ _ e, upf_ne _ _ e]
      exact ⟨(h.lk G hG').1.imp id (List.mem_append_left _), (h.lk G hG').2.imp id (List.mem_append_left _)⟩
  · have hG1 : G ∉ D.xl := fun hm => hG (List.mem_append_left _ hm)
    have hG2 : G ≠ H := fun e => hG (by rw [e]; exact List.mem_append_right _ (by simp))
    have ha := hap G y l hY hG2
    have h65 := hI.lo _ (hI.on y hY.hp)
    show getL (lay D.zs (D.A.place x k) _) (D.A.place y l + 44) 1 0 0 = 0
    rw [getL_lay (by rw [hTl]; omega) (by rw [hTl]; omega)]
    exact h.bare G y l hY hG1
  · exact (h.li.cls (cls' := upf cl H (D.A.own x)) (fun G hG => upf_ne _ _ (hne G hG))).add hn h0
  · show D.A.own y = upf cl H (D.A.own x) G
    by_cases e : G = H
    · subst e
      rw [upf_same]
      rw [(isH_inj hI.fit hY hH).1]
    · rw [upf_ne _ _ e]
      exact h.cls G (by simpa [e] using hG) y l hY
  · show (bsNg bs H (newTg i (D.A.gen x k) (D.A.own x)) G).ms = ((upf S.ma H (mrk i) G : Nat) : Int) ∧ upf S.ma H (mrk i) G ≤ 15
    have hm : mrk i < 16 := Nat.mod_lt _ (by decide)
    by_cases e : G = H
    · subst e
      rw [upf_same, bsNg_same]
      exact ⟨rfl, by omega⟩
    · rw [upf_ne _ _ e, bsNg_ne _ _ e]
      exact h.mks G (by simpa [e] using hG)
end
end Go.Proofs.YtohneboimmcocaaGreat
