import Derived.Test.YtjkdflnnpdionaaGreatNd
/-
  Give, of both; pairs of calls: Give.
-/
namespace Go.Proofs.YtjkdflnnpdionaaGreat
open Go.RowKit
set_option linter.unusedVariables false

section
variable {w : World} {lb rb : Nat} {lv lsv : Value} {xs : List Nat} {H : Nat}
set_option maxRecDepth 100000 in
/-- The document's Give of a handle without an item. -/
theorem rgive6_no {er : Int} (her : er = 20 ∨ er = 0) (hb : Box w 123 lb #[.pointer (some ⟨rb, 0, none⟩), lv, lsv]) {R : World → Prop} (hno : H ∉ xs) (hl : xs.length ≤ 1000000)
    (hg : Calls Tryz.prog 177 #[.pointer (some ⟨rb, 0, none⟩), .int .u64 H] w fun y w' => y = .returned (.int .i64 er) ∧ Box w' 123 lb #[.pointer (some ⟨rb, 0, none⟩), lv, lsv] ∧ w'.ownsRow 0 26 1 lv xs.length (uvs xs) ∧ R w') :
    Calls Tryz.prog 123 #[.pointer (some ⟨lb, 0, none⟩), .int .u64 H] w fun y w' => y = .returned (.int .i64 er) ∧ R w' := by
  have c0 := hb.cell 0
  simp at c0
  have hat := fun (W : World) (hr : W.ownsRow 0 26 1 lv xs.length (uvs xs)) => rat_any (H := H) hr hl
  clear hb
  rcases her with rfl | rfl
  · go_enter Tryz.func123, Tryz.ntmps123
    go_wp2_with (first | (go_at_call 177; go_must (refine hg.mono ?_); rintro y w1 ⟨rfl, hb1, hr1, hR⟩; (have c1 := hb1.cell 1); simp at c1) | (go_at_call 80; go_must (refine (hat _ hr1).mono ?_); rintro y w2 ⟨x, rfl, h1, h2, rfl⟩) | fail)
    go_ret
    exact ⟨rfl, hR⟩
  · go_enter Tryz.func123, Tryz.ntmps123
    go_wp2_with (first | (go_at_call 177; go_must (refine hg.mono ?_); rintro y w1 ⟨rfl, hb1, hr1, hR⟩; (have c1 := hb1.cell 1); simp at c1) | (go_at_call 80; go_must (refine (hat _ hr1).mono ?_); rintro y w2 ⟨x, rfl, h1, h2, rfl⟩; (have hx : ¬ 0 ≤ x := fun h => hno (h2.1 h)); (have hx2 : decide (x ≥ 0) = false := decide_eq_false hx)) | fail)
    go_ret
    exact ⟨rfl, hR⟩
set_option maxRecDepth 100000 in
set_option maxHeartbeats 1000000 in
/-- The document's Give of an item. -/
theorem rgive6_yes (hb : Box w 123 lb #[.pointer (some ⟨rb, 0, none⟩), lv, lsv]) {R : World → Prop} {U V : List Nat} (hX : xs = U ++ H :: V) (hU : H ∉ U) (hl : xs.length ≤ 1000000)
    (hg : Calls Tryz.prog 177 #[.pointer (some ⟨rb, 0, none⟩), .int .u64 H] w fun y w' => y = .returned (.int .i64 0) ∧ Box w' 123 lb #[.pointer (some ⟨rb, 0, none⟩), lv, lsv] ∧ w'.ownsRow 0 26 1 lv xs.length (uvs xs) ∧ R w') :
    Calls Tryz.prog 123 #[.pointer (some ⟨lb, 0, none⟩), .int .u64 H] w fun y w' => y = .returned (.int .i64 0) ∧ ∃ w1 lv', R w1 ∧ Kp (fun k => k = lb) w1 w' ∧ Box w' 123 lb #[.pointer (some ⟨rb, 0, none⟩), lv', lsv] ∧ w'.ownsRow 0 26 1 lv' (U ++ V).length (uvs (U ++ V)) ∧ ∀ k, lv'.ownBlock = some k → w1.heap.size ≤ k := by
  have c0 := hb.cell 0
  simp at c0
  have hat := fun (W : World) (hr : W.ownsRow 0 26 1 lv xs.length (uvs xs)) => rat_yes (H := H) hr (by omega) hX hU
  have hwo := fun (W : World) (hr : W.ownsRow 0 26 1 lv xs.length (uvs xs)) (hb : Box W 123 lb #[.pointer (some ⟨rb, 0, none⟩), lv, lsv]) (hR : R W) => (without_95 (H := H) hr hl hX).mono (R' := fun y w' => ∃ lv' ao nn cp, lv' = .slice ao nn cp ∧ y = .returned (.slice ao nn cp) ∧ w'.frozen? ⟨lb, 1, none⟩ = false ∧ w'.cell? ⟨lb, 1, none⟩ = some lv ∧ Hid (∃ w1, R w1 ∧ Kp (fun k => k = lb) w1 (w'.setCell ⟨lb, 1, none⟩ lv') ∧ Box (w'.setCell ⟨lb, 1, none⟩ lv') 123 lb #[.pointer (some ⟨rb, 0, none⟩), lv', lsv] ∧ (w'.setCell ⟨lb, 1, none⟩ lv').ownsRow 0 26 1 lv' (U ++ V).length (uvs (U ++ V)) ∧ ∀ k, lv'.ownBlock = some k → w1.heap.size ≤ k)) (by
    rintro y w' ⟨lv', rfl, hf, ho⟩
    have hb' := hb.kept hf (by simp)
    have hne : ∀ k, lv'.ownBlock = some k → k ≠ lb := fun k hk e => by
      obtain ⟨cur, hc⟩ := row_block ho k hk
      exact ne_of_type hc hb' (by decide) e
    obtain ⟨ao, cp, hsh, _⟩ := row_shape ho
    refine ⟨lv', ao, _, cp, hsh, by rw [hsh], hb'.fz 1, hb'.cell 1, W, hR, (Kp.of hf).trans ((Kp.refl (fun k => k = lb) _).step (gb_setCell (gb_refl _ (some lb)) _) (fun i hi => .inl (by simpa using hi.symm))) (fun _ h => h) (fun k hk => .inl hk), hb'.set 1 lv', ?_, fun k hk => (ho.lt k hk).1⟩
    have ho0 : w'.ownsRow 0 26 1 lv' (U ++ V).length (uvs (U ++ V)) := by
      refine ⟨ho.1, ?_⟩
      rcases ho.2 with h1 | ⟨g, c, cur, h2, h3, h4⟩
      · exact .inl h1
      · exact .inr ⟨g, c, cur, h2, Nat.zero_le _, h4⟩
    exact row_kept ho0 (gb_setCell (gb_refl _ (some lb)) _) (fun k hk e => hne k hk (by simpa using e)))
  have hu : decide ((U.length : Int) ≥ 0) = true := by simp
  clear hb hX
  generalize U.length = ul at *
  go_enter Tryz.func123, Tryz.ntmps123
  go_wp2_with (first | (go_at_call 177; go_must (refine hg.mono ?_); rintro y w1 ⟨rfl, hb1, hr1, hR⟩; (have c1 := hb1.cell 1); simp at c1; (have hw1 := hwo _ hr1 hb1 hR)) | (go_at_call 80; go_must (refine (hat _ hr1).mono ?_); rintro y w2 ⟨rfl, rfl⟩) | (go_at_call 87; go_must (refine hw1.mono ?_); rintro y w3 ⟨lv', ao, nn, cp, rfl, rfl, z3, c3, hE⟩) | fail)
  go_ret
  obtain ⟨w0, q⟩ := hE.out
  exact ⟨rfl, w0, _, q⟩
end

section
variable {w : World} {P : Nat → Prop} {wb N : Nat} {D : Wd} {lsb : Nat} {vs : Nat → Value} {Y : Nat → List Nat} {cl : Nat → Nat} {S : Lm} {bs : Nat → It} {p n s : Nat → Nat} {D0 : Wd} {H : Nat}
/-- The links of items lead to items of lists. -/
theorem LI.links {cls : Nat → Nat} {T : List Nat} {L : Ls} {X : Nat → Nat → List Nat} (h : LI cls T p n s L X) {G : Nat} (hG : G ∈ T) (hno : ∀ c k, H ∉ X c k) (h0 : ¬ H = 0) : p G ≠ H ∧ n G ≠ H := by
  have hs := h.st G hG
  by_cases e : s G = 4
  · have := h.non G hG e
    omega
  · have hm := h.out G hG (by omega)
    obtain ⟨U, V, hX, h1, h2⟩ := h.split hm
    have hsub : ∀ z, z ∈ U ∨ z ∈ V → z ∈ X (cls G) (s G - 1) := fun z hz => by
      rw [hX]
      rcases hz with hz | hz
      · exact List.mem_append_left _ hz
      · exact List.mem_append_right _ (List.mem_cons_of_mem _ hz)
    refine ⟨fun e2 => ?_, fun e2 => ?_⟩
    · rcases lastD_in (U := U) (P := fun z => z ∈ U) (fun z hz => hz) with h3 | h3
      · omega
      · exact hno _ _ (hsub H (.inl (by rw [← e2, h1]; exact h3)))
    · rcases headD_in (U := V) (P := fun z => z ∈ V) (fun z hz => hz) with h3 | h3
      · omega
      · exact hno _ _ (hsub H (.inr (by rw [← e2, h2]; exact h3)))
theorem row_small {A : Ab} (hI : Inv A) (h3 : A.n = 3) (hm : A.m = 4) : ∀ c, c < A.n → (A.row c).length < 16777216 := fun c hc => by
  have h1 := hI.rl c hc
  have h2 : (List.range A.np).countP (fun p => A.own p = c) ≤ A.np := by
    have := List.countP_le_length (p := fun p => decide (A.own p = c)) (l := List.range A.np)
    rw [List.length_range] at this
    exact this
  have h3 := (hI.toSzs.each hc).2.1
  have h4 := hI.nm
  have h5 : ((List.range A.np).countP fun p => A.own p = c) * A.each c ≤ 4 * 16384 := Nat.mul_le_mul (by omega) h3
  omega
/-- What is left when a chunk was given back. -/
theorem GX.gives (h : GX D cl S bs p n s) (hno : ∀ c k, H ∉ S c k) {A' : Ab} {R' : Rb} {F' G' : Nat → Prop} {B' : Bl} {Q' : Rl} {lv' : Value} {xl' : List Nat} {x k : Nat} (hI : Inv A') (hg : Gives D.A A' H x k) (hf : RFit R') (hr : Rep A' R') (h0 : ¬ H = 0) (hxl : ∀ G, G ∈ xl' ↔ G ∈ D.xl ∧ G ≠ H) : GX { D with F := F', B := B', A := A', G := G', Q := Q', R := R', lv := lv', xl := xl' } cl S bs p n s := by
  have hk := hg.kin
  have hp := fun (G y l : Nat) (hY : IsH D.A G y l) => hk.place hY.hp l
  refine ⟨hI, hk.n.trans h.n3, hk.ps.trans h.ps, hk.m.trans h.m, hf, hr, fun G hG => ?_, fun G hG => ?_, fun G y l hY hn => ?_, ⟨fun c k G hG => ?_, h.li.k3, h.li.nd, h.li.lk, h.li.hd, h.li.tl, h.li.ln, fun G hG => h.li.st G ((hxl G).1 hG).1, fun G hG => h.li.out G ((hxl G).1 hG).1, fun G hG => h.li.non G ((hxl G).1 hG).1, fun hG => h.li.z ((hxl 0).1 hG).1⟩, fun G hG y l hY => ?_⟩
  · obtain ⟨g1, g2⟩ := (hxl G).1 hG
    obtain ⟨y, l, hY, hIt, hsz⟩ := h.its G g1
    refine ⟨y, l, (hg.new G y l).2 ⟨hY, g2⟩, ?_, ?_⟩
    · show IsI D.zs (A'.place y l) _
      rw [hp G y l hY]; exact hIt
    · show _ ≤ A'.sz (A'.own y)
      rw [hk.sz, hk.own y hY.hp]; exact hsz
  · obtain ⟨g1, g2⟩ := (hxl G).1 hG
    obtain ⟨l1, l2⟩ := h.lk G g1
    obtain ⟨m1, m2⟩ := h.li.links g1 hno h0
    exact ⟨l1.imp id (fun hh => (hxl _).2 ⟨hh, m1⟩), l2.imp id (fun hh => (hxl _).2 ⟨hh, m2⟩)⟩
  · obtain ⟨hY1, hne⟩ := (hg.new G y l).1 hY
    show getL D.zs (A'.place y l + 44) 1 0 0 = 0
    rw [hp G y l hY1]
    exact h.bare G y l hY1 (fun hm => hn ((hxl G).2 ⟨hm, hne⟩))
  · obtain ⟨a1, a2, a3⟩ := h.li.sub _ _ _ hG
    exact ⟨(hxl G).2 ⟨a1, fun e => hno _ _ (e ▸ hG)⟩, a2, a3⟩
  · obtain ⟨hY1, hne⟩ := (hg.new G y l).1 hY
    show A'.own y = cl G
    rw [hk.own y hY1.hp]
    exact h.cls G ((hxl G).1 hG).1 y l hY1
set_option maxHeartbeats 1000000 in
theorem GM.gs {er : Int} (h : GM w P wb N D er) : GS w P wb N D := by
  obtain ⟨D', h1, lsb, vs, Y, S, cl, h2, h3⟩ := h
  exact ⟨D', lsb, vs, Y, S, cl, h1.same, h2, h3⟩
theorem Pair.mono {f1 f2 : Nat} {a1 a2 : Array Value} {C C' : Int → World → Prop} (hC : ∀ er w', C er w' → C' er w') (h : Pair w P wb D f1 f2 a1 a2 C) : Pair w P wb D f1 f2 a1 a2 C' := by
  obtain ⟨er, B1, h1, h2⟩ := h
  refine ⟨er, B1, h1, fun w1 w2 hB hf => ?_⟩
  obtain ⟨g1, g2, g3⟩ := h2 w1 w2 hB hf
  exact ⟨g1, g2, g3.mono (fun y w' h => ⟨h.1, hC _ _ h.2⟩)⟩
/-- Give, of what stands in no list. -/
theorem pair_give (hW : GW w P wb N D lsb vs Y S cl) (hd : Dm Y S) (hP : ∀ k, w.heap.size ≤ k → P k) (hN : N < 300) (h64 : H < 18446744073709551616) (hno : ∀ c k, H ∉ S c k) : Pair w P wb D 122 123 #[.pointer (some ⟨D.sb, 0, none⟩), .int .u64 H] #[.pointer (some ⟨D.lb, 0, none⟩), .int .u64 H] (fun er w' => Kp P w w' ∧ GS w' P wb (N + 1) D) := by
  obtain ⟨bs, p, n, s, hX⟩ := hW.gx
  have hM := hW.ms
  have hN1 := hW.nN
  by_cases hx : ∃ x k, IsH D.A H x k
  · obtain ⟨x, k, hH⟩ := hx
    have h0 : ¬ H = 0 := fun e => by
      have h1 := (hH.parts hX.inv.fit).1
      have h2 := (num_lt hX.inv.fit.toFit1 hH.hp hH.hk).2.1
      rw [e] at h1
      omega
    obtain ⟨A', hI', hGi, hprog, hdoc⟩ := give2_yes hX.inv hH (row_small hX.inv hX.n3 hX.m)
    refine ⟨0, fun w1 => ∃ F' B', MS9 w1 P wb { D with F := F', B := B', A := A', zs := D.zs } lsb vs Y ∧ Kp P w w1, ?_, fun w1 w2 hB hf => ?_⟩
    · refine (hprog w D.sb D.F D.B _ _ _ _ _ _ D.zs hM.ms.iss).mono ?_
      rintro y w1 ⟨rfl, hK, F', B', hS, hF⟩
      obtain ⟨g1, g2⟩ := hM.stepS hP hK hS hF
      exact ⟨rfl, F', B', g1, g2⟩
    · obtain ⟨F', B', m1, m3⟩ := hB
      have m1' := m1.kept0 hf
      have hS2 : w.heap.size ≤ w2.heap.size := Nat.le_trans m3.size hf.size
      have hce : Cells w2 wb D := m1'.cells
      have hgR := (hdoc w2 D.rb D.G D.Q _ _ _ D.R m1'.ms.isr hX.rf hX.rep).mono (R' := fun y w3 => y = .returned (.int .i64 0) ∧ Box w3 123 D.lb #[.pointer (some ⟨D.rb, 0, none⟩), D.lv, D.lsv] ∧ w3.ownsRow 0 26 1 D.lv D.xl.length (uvs D.xl) ∧ ∃ G' Q' R', RFit R' ∧ Rep A' R' ∧ MS9 w3 P wb { D with F := F', B := B', A := A', zs := D.zs, G := G', Q := Q', R := R' } lsb vs Y ∧ Kp P w w3) (by
        rintro y w3 ⟨rfl, hK, G', Q', R', hS, hR', hrep', hG'⟩
        obtain ⟨g1, g2⟩ := m1'.stepR (fun k hk => hP k (Nat.le_trans hS2 hk)) hK hS hG'
        exact ⟨rfl, g1.ms.lbx, g1.ms.lrow, G', Q', R', hR', hrep', g1, (m3.step hf (by simp)).trans g2 (fun _ h => h) (fun k hk => .inl hk)⟩)
      refine ⟨m3.step hf (by simp), hce, ?_⟩
      by_cases hm : H ∈ D.xl
      · obtain ⟨U, V, hUV⟩ := List.append_of_mem hm
        have hnd := hW.nd
        rw [hUV] at hnd
        obtain ⟨n1, n2, n3⟩ := List.nodup_append.1 hnd
        obtain ⟨n4, n5⟩ := List.nodup_cons.1 n2
        have hU : H ∉ U := fun hh => n3 _ hh H (by simp) rfl
        have hxl : ∀ G, G ∈ U ++ V ↔ G ∈ D.xl ∧ G ≠ H := fun G => by
          rw [hUV]
          constructor
          · intro hG
            rcases List.mem_append.1 hG with hG | hG
            · exact ⟨List.mem_append_left _ hG, fun e => hU (e ▸ hG)⟩
            · exact ⟨List.mem_append_right _ (List.mem_cons_of_mem _ hG), fun e => n4 (e ▸ hG)⟩
          · rintro ⟨hG, hne⟩
            rcases List.mem_append.1 hG with hG | hG
            · exact List.mem_append_left _ hG
            · rcases List.mem_cons.1 hG with hG | hG
              · exact absurd hG hne
              · exact List.mem_append_right _ hG
        refine (rgive6_yes m1'.ms.lbx hUV hU (by omega) hgR).mono ?_
        rintro y w4 ⟨rfl, w3, lv', ⟨G', Q', R', hR', hrep', g1, g2⟩, hK4, hb4, hr4, hn4⟩
        obtain ⟨q1, q2⟩ := g1.stepL (fun k hk => hP k (Nat.le_trans g2.size hk)) (hK4.mono (fun k hk => .inl (.inl hk))) hb4 hr4 (fun k hk => .inr (hn4 k hk))
        have hlen : (U ++ V).length ≤ D.xl.length := by rw [hUV]; simp
        refine ⟨rfl, g2.trans q2 (fun _ h => h) (fun k hk => .inl hk), { D with F := F', B := B', A := A', zs := D.zs, G := G', Q := Q', R := R', lv := lv', xl := U ++ V }, lsb, vs, Y, S, cl, same_refl D, ⟨q1, ⟨bs, p, n, s, hX.gives hno hI' hGi hR' hrep' h0 hxl⟩, ⟨by omega, ?_, ?_⟩, fun G hG => hW.sub G ((hxl G).1 hG).1, hW.zl, ?_, hW.tb⟩, hd⟩
        · show D.xt.length ≤ _; omega
        · show (U ++ V).length ≤ _; omega
        · exact List.nodup_append.2 ⟨n1, n5, fun a ha b hb => n3 a ha b (List.mem_cons_of_mem _ hb)⟩
      · refine (rgive6_no (.inr rfl) m1'.ms.lbx hm (by omega) hgR).mono ?_
        rintro y w3 ⟨rfl, G', Q', R', hR', hrep', g1, g2⟩
        refine ⟨rfl, g2, { D with F := F', B := B', A := A', zs := D.zs, G := G', Q := Q', R := R' }, lsb, vs, Y, S, cl, same_refl D, ⟨g1, ⟨bs, p, n, s, hX.gives hno hI' hGi hR' hrep' h0 (fun G => ⟨fun hG => ⟨hG, fun e => hm (e ▸ hG)⟩, fun hG => hG.1⟩)⟩, ⟨by omega, ?_, ?_⟩, hW.sub, hW.zl, hW.nd, hW.tb⟩, hd⟩
        · show D.xt.length ≤ _; omega
        · show D.xl.length ≤ _; omega
  · have hx2 : ∀ x k, ¬ IsH D.A H x k := fun x k hh => hx ⟨x, k, hh⟩
    have hm : H ∉ D.xl := fun hm => by
      obtain ⟨x, k, hH, _⟩ := hX.its H hm
      exact hx2 x k hH
    refine Pair.mono (fun er w' h => ⟨h.1, h.2.gs⟩) (pair_still hW hd hN 20 (give_no hM.ms.iss hX.inv.fit h64 hx2) (fun W hf => ?_))
    have hMW := hM.kept0 hf
    refine rgive6_no (xs := D.xl) (R := fun w' => W.grownBy w' none) (.inl rfl) hMW.ms.lbx hm (by omega) ((rgive_no (rfind_bad hMW.ms.isr hX.rf hX.rep hX.inv.fit hx2)).mono ?_)
    rintro y w3 ⟨rfl, hf3⟩
    exact ⟨rfl, (hMW.kept0 hf3).ms.lbx, (hMW.kept0 hf3).ms.lrow, hf3⟩
end
end Go.Proofs.YtjkdflnnpdionaaGreat
