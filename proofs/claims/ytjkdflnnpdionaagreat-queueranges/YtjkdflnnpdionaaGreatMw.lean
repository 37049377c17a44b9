import Derived.Test.YtjkdflnnpdionaaGreatMq
/-
  makes.
-/
namespace Go.Proofs.YtjkdflnnpdionaaGreat
open Go.RowKit
set_option linter.unusedVariables false

theorem MS.kpF {w w' : World} {P : Nat → Prop} {wb sb qb gl gc : Nat} {F : Nat → Prop} {B : Bl} {A : Ab} {zs : List Int} {rb : Nat} {G : Nat → Prop} {Q : Rl} {R : Rb} {lb : Nat} {lv lsv tv : Value} {xl xt : List Nat} {L : Ls} (h : MS w P wb sb qb gl gc F B A zs rb G Q R lb lv lsv tv xl xt L) (hK : Kp F w w') : Kp P w w' := by
  obtain ⟨c, h1, h2, h3, h4, h5, h6, h7, h8⟩ := h.sep.ex
  exact hK.mono (fun k hk => .inl (h1 k hk).2)
theorem MS.kpG {w w' : World} {P : Nat → Prop} {wb sb qb gl gc : Nat} {F : Nat → Prop} {B : Bl} {A : Ab} {zs : List Int} {rb : Nat} {G : Nat → Prop} {Q : Rl} {R : Rb} {lb : Nat} {lv lsv tv : Value} {xl xt : List Nat} {L : Ls} (h : MS w P wb sb qb gl gc F B A zs rb G Q R lb lv lsv tv xl xt L) (hK : Kp G w w') : Kp P w w' := by
  obtain ⟨c, h1, h2, h3, h4, h5, h6, h7, h8⟩ := h.sep.ex
  exact hK.mono (fun k hk => .inl (h2 k hk).2)
theorem MS.kpL {w w' : World} {P : Nat → Prop} {wb sb qb gl gc : Nat} {F : Nat → Prop} {B : Bl} {A : Ab} {zs : List Int} {rb : Nat} {G : Nat → Prop} {Q : Rl} {R : Rb} {lb : Nat} {lv lsv tv : Value} {xl xt : List Nat} {L : Ls} (h : MS w P wb sb qb gl gc F B A zs rb G Q R lb lv lsv tv xl xt L) (hK : Kp (fun k => k = lb ∨ lv.ownBlock = some k) w w') : Kp P w w' := by
  obtain ⟨c, h1, h2, h3, h4, h5, h6, h7, h8⟩ := h.sep.ex
  exact hK.mono (fun k hk => .inl (by rcases hk with rfl | hk; exact h6.2; exact (h3 k hk).2))
theorem MS.kpT {w w' : World} {P : Nat → Prop} {wb sb qb gl gc : Nat} {F : Nat → Prop} {B : Bl} {A : Ab} {zs : List Int} {rb : Nat} {G : Nat → Prop} {Q : Rl} {R : Rb} {lb : Nat} {lv lsv tv : Value} {xl xt : List Nat} {L : Ls} (h : MS w P wb sb qb gl gc F B A zs rb G Q R lb lv lsv tv xl xt L) (hK : Kp (fun k => k = wb ∨ tv.ownBlock = some k) w w') : Kp P w w' := by
  obtain ⟨c, h1, h2, h3, h4, h5, h6, h7, h8⟩ := h.sep.ex
  exact hK.mono (fun k hk => .inl (by rcases hk with rfl | hk; exact h5.2; exact (h4 k hk).2))

/-- The literals of makes. -/
def lits (w : World) (m : Nat) (i : Nat) : World := ((w.alloc (.cells #[.int .u8 (97 + ((i : Int) + 1) % 26), .int .u8 (97 + ((i : Int) + 1) / 26 % 26)] 5)).alloc (.cells #[.int .u8 ((i : Int) + 1)] 5)).alloc (.cells #[.slice (some ⟨m, 0, none⟩) 2 2, .slice (some ⟨m + 1, 0, none⟩) 1 1, .int .u64 ((i : Int) + 1), .int .i64 ((i : Int) + 1), .int .i64 0, .int .u64 ((i : Int) + 1), .int .i64 4, .int .i64 (((i : Int) + 1) % 16)] 129)
def keyB (i : Nat) : List Int := [97 + ((i : Int) + 1) % 26, 97 + ((i : Int) + 1) / 26 % 26]
theorem has_two {w : World} {g : Nat} {x y : Int} (h0 : w.cell? ⟨g, 0, none⟩ = some (.int .u8 x)) (h1 : w.cell? ⟨g, 1, none⟩ = some (.int .u8 y)) : Has w (some ⟨g, 0, none⟩) 2 [x, y] := by
  refine ⟨rfl, fun _ => ⟨g, 0, rfl, fun i hi => ?_⟩⟩
  have : i = 0 ∨ i = 1 := by omega
  rcases this with rfl | rfl
  · exact h0
  · exact h1
theorem has_one {w : World} {g : Nat} {x : Int} (h : w.cell? ⟨g, 0, none⟩ = some (.int .u8 x)) : Has w (some ⟨g, 0, none⟩) 1 [x] := by
  refine ⟨rfl, fun _ => ⟨g, 0, rfl, fun i hi => ?_⟩⟩
  have : i = 0 := by omega
  subst this
  exact h
theorem lits_facts (w : World) (m i : Nat) (hm : w.heap.size = m) : w.grownBy (lits w m i) none ∧ Box (lits w m i) 129 (m + 1 + 1) #[.slice (some ⟨m, 0, none⟩) 2 2, .slice (some ⟨m + 1, 0, none⟩) 1 1, .int .u64 ((i : Int) + 1), .int .i64 ((i : Int) + 1), .int .i64 0, .int .u64 ((i : Int) + 1), .int .i64 4, .int .i64 (((i : Int) + 1) % 16)] ∧ Has (lits w m i) (some ⟨m, 0, none⟩) 2 (keyB i) ∧ Has (lits w m i) (some ⟨m + 1, 0, none⟩) 1 [(i : Int) + 1] := by
  unfold lits
  have f1 := World.grownBy_alloc w (.cells #[.int .u8 (97 + ((i : Int) + 1) % 26), .int .u8 (97 + ((i : Int) + 1) / 26 % 26)] 5) none
  have b1 := Box.new w 5 #[.int .u8 (97 + ((i : Int) + 1) % 26), .int .u8 (97 + ((i : Int) + 1) / 26 % 26)]
  have s1 : (w.alloc (.cells #[.int .u8 (97 + ((i : Int) + 1) % 26), .int .u8 (97 + ((i : Int) + 1) / 26 % 26)] 5)).heap.size = m + 1 := by simp [hm]
  rw [hm] at b1
  generalize w.alloc (.cells #[.int .u8 (97 + ((i : Int) + 1) % 26), .int .u8 (97 + ((i : Int) + 1) / 26 % 26)] 5) = W1 at *
  have f2 := World.grownBy_alloc W1 (.cells #[.int .u8 ((i : Int) + 1)] 5) none
  have b2 := Box.new W1 5 #[.int .u8 ((i : Int) + 1)]
  have s2 : (W1.alloc (.cells #[.int .u8 ((i : Int) + 1)] 5)).heap.size = m + 1 + 1 := by simp [s1]
  rw [s1] at b2
  generalize W1.alloc (.cells #[.int .u8 ((i : Int) + 1)] 5) = W2 at *
  have f3 := World.grownBy_alloc W2 (.cells #[.slice (some ⟨m, 0, none⟩) 2 2, .slice (some ⟨m + 1, 0, none⟩) 1 1, .int .u64 ((i : Int) + 1), .int .i64 ((i : Int) + 1), .int .i64 0, .int .u64 ((i : Int) + 1), .int .i64 4, .int .i64 (((i : Int) + 1) % 16)] 129) none
  have b3 := Box.new W2 129 #[.slice (some ⟨m, 0, none⟩) 2 2, .slice (some ⟨m + 1, 0, none⟩) 1 1, .int .u64 ((i : Int) + 1), .int .i64 ((i : Int) + 1), .int .i64 0, .int .u64 ((i : Int) + 1), .int .i64 4, .int .i64 (((i : Int) + 1) % 16)]
  rw [s2] at b3
  have k1 := b1.kept (gb_trans f2 f3) (by simp)
  have k2 := b2.kept f3 (by simp)
  exact ⟨gb_trans (gb_trans f1 f2) f3, b3, has_two (k1.cell 0) (k1.cell 1), has_one (k2.cell 0)⟩
theorem Has.keptP {w w' : World} {a : Option Addr} {n : Nat} {ys : List Int} {F : Nat → Prop} (h : Has w a n ys) (hK : Kp F w w') (hn : ∀ k, a.map (·.block) = some k → ¬ F k) : Has w' a n ys := by
  refine ⟨h.1, fun h0 => ?_⟩
  obtain ⟨b, o, rfl, hc⟩ := h.2 h0
  refine ⟨b, o, rfl, fun i hi => ?_⟩
  have h1 := hc i hi
  have hlt := World.block_lt_of_cell? _ _ h1
  have hb := hK.block b hlt (hn b rfl)
  simpa [World.cell?, hb] using h1
theorem keyB_len (i : Nat) : (keyB i).length = 2 := rfl
theorem keyB_ok (i : Nat) : isBytes (keyB i) ∧ LegalP (keyB i) := by
  constructor
  · intro z hz
    simp [keyB] at hz
    omega
  · refine ⟨by show 1 ≤ 2; omega, by show 2 ≤ 250; omega, fun j hj => ?_⟩
    rw [keyB_len] at hj
    have : j = 0 ∨ j = 1 := by omega
    rcases this with rfl | rfl
    · show 33 ≤ 97 + ((i : Int) + 1) % 26 ∧ 97 + ((i : Int) + 1) % 26 ≠ 127
      omega
    · show 33 ≤ 97 + ((i : Int) + 1) / 26 % 26 ∧ 97 + ((i : Int) + 1) / 26 % 26 ≠ 127
      omega
/-- The item that makes lays. -/
def newT (i : Nat) : It := ⟨0, 0, 0, 0, (i : Int) + 1, 0, (i : Int) + 1, (i : Int) + 1, 4, ((i : Int) + 1) % 16, 0, keyB i, [(i : Int) + 1]⟩
def bsN (bs : Nat → It) (i : Nat) : Nat → It := fun H => if H = 8 * i + 1 then newT i else bs H
theorem itl_new {zs : List Int} {bs : Nat → It} {p n s : Nat → Nat} {i : Nat} (hI : Itl zs bs p n s i) (hi : i < 64) (hz : zs.length = 16384) :
    Itl (lay (headZ zs (64 * i) 0) (64 * i) (newT i).L.flatten) (bsN bs i) (upf p (8 * i + 1) 0) (upf n (8 * i + 1) 0) (upf s (8 * i + 1) 4) (i + 1) := by
  have h1 : headZ zs (64 * i) 0 = lay zs (64 * i) (hd0 0) := headZ_lay zs (64 * i) 0 (by omega)
  have hl1 : (headZ zs (64 * i) 0).length = 16384 := by rw [h1, length_lay (by rw [hd0_len]; omega), hz]
  have hTl : (newT i).L.flatten.length = 61 := by rw [It.len]; rfl
  intro l hl
  by_cases e : l = i
  · subst e
    have e1 : itm (bsN bs l) (upf p (8 * l + 1) 0) (upf n (8 * l + 1) 0) (upf s (8 * l + 1) 4) (8 * l + 1) = newT l := by
      unfold itm bsN
      rw [upf_same, upf_same, upf_same, if_pos rfl]
      rfl
    have e2 : bsN bs l (8 * l + 1) = newT l := if_pos rfl
    rw [e1, e2]
    refine ⟨⟨lies_lay (by rw [hTl, hl1]; omega), ?_, ?_, ?_, ?_, ?_, ?_, ?_, ?_, ?_, ?_, ?_, ?_, ?_, (keyB_ok l).1, ?_⟩, by show 58 + 2 + 1 ≤ 64; omega⟩
    all_goals first | (show (0 : Int) ≤ 0 ∧ (0 : Int) < _; omega) | skip
    · show 0 ≤ (l : Int) + 1 ∧ (l : Int) + 1 < _; omega
    · show 0 ≤ (l : Int) + 1 ∧ (l : Int) + 1 < _; omega
    · show 0 ≤ (l : Int) + 1 ∧ (l : Int) + 1 < _; omega
    · show (0 : Int) ≤ 4 ∧ (4 : Int) < 256; omega
    · show 0 ≤ ((l : Int) + 1) % 16 ∧ ((l : Int) + 1) % 16 < 256; omega
    · show 1 ≤ 2 ∧ 2 ≤ 250; omega
    · show 1 ≤ 1048576; omega
    · intro z hz
      simp [newT] at hz
      omega
  · have hli : l < i := by omega
    obtain ⟨g1, g2⟩ := hI l hli
    have hne : 8 * l + 1 ≠ 8 * i + 1 := by omega
    have e1 : itm (bsN bs i) (upf p (8 * i + 1) 0) (upf n (8 * i + 1) 0) (upf s (8 * i + 1) 4) (8 * l + 1) = itm bs p n s (8 * l + 1) := by
      unfold itm bsN
      rw [upf_ne _ _ hne, upf_ne _ _ hne, upf_ne _ _ hne, if_neg hne]
    have e2 : bsN bs i (8 * l + 1) = bs (8 * l + 1) := if_neg hne
    rw [e1, e2]
    have hkk := itm_key bs p n s (8 * l + 1)
    refine ⟨?_, g2⟩
    have g3 : IsI (headZ zs (64 * i) 0) (64 * l) (itm bs p n s (8 * l + 1)) := by
      rw [h1]
      exact g1.far (by rw [hd0_len]; omega) (.inl (by rw [hkk.1, hkk.2]; omega))
    exact g3.far (by rw [hTl, hl1]; omega) (.inl (by rw [hkk.1, hkk.2]; omega))
theorem lkd_new {p n : Nat → Nat} {i : Nat} (h : Lkd p n i) : Lkd (upf p (8 * i + 1) 0) (upf n (8 * i + 1) 0) (i + 1) := fun H hH => by
  by_cases e : H = 8 * i + 1
  · subst e
    exact ⟨.inl (upf_same _ _ _), .inl (upf_same _ _ _)⟩
  · rw [hs_succ] at hH ⊢
    have hH' : H ∈ hs i := by simpa [e] using hH
    obtain ⟨g1, g2⟩ := h H hH'
    rw [upf_ne _ _ e, upf_ne _ _ e]
    exact ⟨g1.imp id (List.mem_append_left _), g2.imp id (List.mem_append_left _)⟩

def opMake : Value := .agg #[.int .i64 1, .int .i64 0, .int .i64 0, .int .i64 0, .int .u64 0, .bool false]

set_option maxRecDepth 100000 in
set_option maxHeartbeats 4000000 in
theorem makes_any {w : World} {P : Nat → Prop} {wb qb : Nat} {tv : Value} {i : Nat} {X : Nat → Nat → List Nat} (h : WW w P wb qb tv i X) (hi : i < 64) (hP : ∀ k, w.heap.size ≤ k → P k) :
    Calls Tryz.prog 22 #[.pointer (some ⟨wb, 0, none⟩), opMake] w fun y w' => y = .returned (.bool true) ∧ Kp P w w' ∧ ∃ tv', WW w' P wb qb tv' (i + 1) X := by
  have h64 := h.i64
  have hPw : ∀ W : World, w.heap.size ≤ W.heap.size → ∀ k, W.heap.size ≤ k → P k := fun W hW k hk => hP k (Nat.le_trans hW hk)
  obtain ⟨sb, gl, gc, F, B, A, zs, rb, G, Q, R, lb, lv, lsv, bs, p, n, s, L, fr, hM, hz, hF, hR, hrep, hI, hlk, hLI⟩ := h.ex
  obtain ⟨A1, fr1, hF1, hTS, hTR⟩ := fil_take2 hF (by rw [hF.n]; decide) (by rw [hF.m, hF.each, q_each]; show i < 4 * 64; omega)
  rw [q_hN (by omega)] at hTS hTR
  rw [q_plN (by omega)] at hTS
  obtain ⟨H, hH⟩ : ∃ H, 8 * i + 1 = H := ⟨_, rfl⟩
  rw [hH] at hTS hTR
  simp only [show ((0 : Nat) : Int) = 0 from rfl] at hTS hTR
  have hal := World.grownBy_alloc w (.cells #[.int .i64 1, .int .i64 0, .int .i64 0, .int .i64 0, .int .u64 0, .bool false] 28) none
  have hb0 := Box.new w 28 #[.int .i64 1, .int .i64 0, .int .i64 0, .int .i64 0, .int .u64 0, .bool false]
  have c0 := (hM.kept0 hal).box.cell 0
  simp at c0
  have hFl := hM.iss.lt
  have hGl := hM.isr.lt
  have h51 := (hTS _ sb F B 4 200 64 256 0 0 zs (hM.kept0 hal).iss).mono (R' := fun y w1 => y = .returned (.tuple #[.int .u64 H, .int .i64 0]) ∧ w1.cell? ⟨wb, 2, none⟩ = some (.pointer (some ⟨rb, 0, none⟩)) ∧ Box w1 28 w.heap.size #[.int .i64 1, .int .i64 0, .int .i64 0, .int .i64 0, .int .u64 0, .bool false] ∧ ∃ F1 B1, Hid (Kp P w w1 ∧ MS w1 P wb sb qb gl gc F1 B1 A1 (headZ zs (64 * i) 0) rb G Q R lb lv lsv tv (hs i) (hs i) L)) (by
    rintro y w1 ⟨rfl, hK, F1, B1, hS, hF'⟩
    have hM1 := (hM.kept0 hal).stepS (hPw _ hal.size) hK hS hF'
    exact ⟨rfl, hM1.box.cell 2, hK.box hb0 (fun hF => by have := hFl _ hF; omega), F1, B1, (Kp.of hal).trans ((hM.kept0 hal).kpF hK) (fun _ h => h) (fun k hk => .inl hk), hM1⟩)
  have h52 := fun w1 F1 B1 (hE : Hid (Kp P w w1 ∧ MS w1 P wb sb qb gl gc F1 B1 A1 (headZ zs (64 * i) 0) rb G Q R lb lv lsv tv (hs i) (hs i) L)) (hb1 : Box w1 28 w.heap.size #[.int .i64 1, .int .i64 0, .int .i64 0, .int .i64 0, .int .u64 0, .bool false]) => (hTR w1 rb G Q 200 64 256 R hE.out.2.isr hR hrep).mono (R' := fun y w2 => y = .returned (.tuple #[.int .u64 H, .int .i64 0]) ∧ w2.cell? ⟨wb, 4, none⟩ = some tv ∧ Box w2 28 w.heap.size #[.int .i64 1, .int .i64 0, .int .i64 0, .int .i64 0, .int .u64 0, .bool false] ∧ ∃ G2 Q2 R2, RFit R2 ∧ Rep A1 R2 ∧ Hid (Kp P w w2 ∧ MS w2 P wb sb qb gl gc F1 B1 A1 (headZ zs (64 * i) 0) rb G2 Q2 R2 lb lv lsv tv (hs i) (hs i) L)) (by
    rintro y w2 ⟨rfl, hK, G2, Q2, R2, hS, hR2, hrep2, hG'⟩
    have hM2 := hE.out.2.stepR (hPw _ hE.out.1.size) hK hS hG'
    exact ⟨rfl, hM2.box.cell 4, hK.box hb1 (fun hF => by have := hGl _ hF; omega), G2, Q2, R2, hR2, hrep2, hE.out.1.trans (hE.out.2.kpG hK) (fun _ h => h) (fun k hk => .inl hk), hM2⟩)
  have hwi := fun W => within_any 0 3 (by omega) (by omega) W
  simp only [show (0 : Int) % 3 = 0 from rfl] at hwi
  obtain ⟨at0, ct0, htv, _, ht2, ht3, _⟩ := row_shape hM.trow
  rw [hs_len] at htv ht2
  subst htv
  have hi2 : (i : Int) < 64 := by omega
  have hwl := hM.box.lt
  have htl := hM.tvl
  have hTold := fun w2 F1 B1 G2 Q2 R2 (hE : Hid (Kp P w w2 ∧ MS w2 P wb sb qb gl gc F1 B1 A1 (headZ zs (64 * i) 0) rb G2 Q2 R2 lb lv lsv (.slice at0 i ct0) (hs i) (hs i) L)) (hb2 : Box w2 28 w.heap.size #[.int .i64 1, .int .i64 0, .int .i64 0, .int .i64 0, .int .u64 0, .bool false]) g1 cap1 w4 (ho4 : World.ownsRow w4 0 26 1 (.slice (some ⟨g1, 0, none⟩) (i + 1) cap1) (i + 1) (uvs (hs i) ++ [.int .u64 (H : Int)])) (hg4 : w2.grownBy w4 (Value.slice at0 i ct0).ownBlock) (hat4 : (Value.slice at0 i ct0).ownBlock = some g1 ∨ w2.heap.size ≤ g1) => (show w4.cell? ⟨wb, 4, none⟩ = some (.slice at0 i ct0) ∧ w4.frozen? ⟨wb, 4, none⟩ = false ∧ Box (w4.setCell ⟨wb, 4, none⟩ (.slice (some ⟨g1, 0, none⟩) (i + 1) cap1)) 28 w.heap.size #[.int .i64 1, .int .i64 0, .int .i64 0, .int .i64 0, .int .u64 0, .bool false] ∧ Hid (Kp P w (w4.setCell ⟨wb, 4, none⟩ (.slice (some ⟨g1, 0, none⟩) (i + 1) cap1)) ∧ MS (w4.setCell ⟨wb, 4, none⟩ (.slice (some ⟨g1, 0, none⟩) (i + 1) cap1)) P wb sb qb gl gc F1 B1 A1 (headZ zs (64 * i) 0) rb G2 Q2 R2 lb lv lsv (.slice (some ⟨g1, 0, none⟩) (i + 1) cap1) (hs i) (hs (i + 1)) L) by
    have hT := hE.out.2.stepT (hPw _ hE.out.1.size) hg4 (tv' := .slice (some ⟨g1, 0, none⟩) (i + 1) cap1) (xt' := hs (i + 1)) (by rw [hs_len, hs_succ, uvs_app, hH]; exact ho4) (fun k hk => by simp [Value.ownBlock] at hk; subst hk; exact hat4)
    obtain ⟨hT1, hT2, hT3⟩ := hT
    refine ⟨hT2.cell 4, hT2.fz 4, hT3.box hb2 ?_, hE.out.1.trans (hE.out.2.kpT hT3) (fun _ h => h) (fun k hk => .inl hk), hT1⟩
    rintro (e | e)
    · omega
    · have := htl _ e; omega)
  have h53 := fun (w5 : World) (m : Nat) (hm : w5.heap.size = m) F1 B1 G2 Q2 R2 tv2 (hE : Hid (Kp P w w5 ∧ MS w5 P wb sb qb gl gc F1 B1 A1 (headZ zs (64 * i) 0) rb G2 Q2 R2 lb lv lsv tv2 (hs i) (hs (i + 1)) L)) => (show Calls Tryz.prog 71 #[.pointer (some ⟨lb, 0, none⟩), .int .u64 H] (lits w5 m i) (fun y w7 => y = .returned (.tuple #[]) ∧ w7.cell? ⟨wb, 0, none⟩ = some (.pointer (some ⟨sb, 0, none⟩)) ∧ Box w7 129 (m + 1 + 1) #[.slice (some ⟨m, 0, none⟩) 2 2, .slice (some ⟨m + 1, 0, none⟩) 1 1, .int .u64 ((i : Int) + 1), .int .i64 ((i : Int) + 1), .int .i64 0, .int .u64 ((i : Int) + 1), .int .i64 4, .int .i64 (((i : Int) + 1) % 16)] ∧ Hid (Kp P w w7 ∧ (∀ k, F1 k → k < m) ∧ Has w7 (some ⟨m, 0, none⟩) 2 (keyB i) ∧ Has w7 (some ⟨m + 1, 0, none⟩) 1 [(i : Int) + 1] ∧ ∃ lv2, MS w7 P wb sb qb gl gc F1 B1 A1 (headZ zs (64 * i) 0) rb G2 Q2 R2 lb lv2 lsv tv2 (hs (i + 1)) (hs (i + 1)) L)) by
    obtain ⟨hK5, hM5⟩ := hE.out
    obtain ⟨f1, f2, f3, f4⟩ := lits_facts w5 m i hm
    have hM6 := hM5.kept0 f1
    have l1 := hM5.lvl
    have l2 := hM5.lbx.lt
    have hnb : ∀ k, m ≤ k → ¬ (k = lb ∨ lv.ownBlock = some k) := fun k hk => by
      rintro (rfl | e)
      · omega
      · have := l1 k e; omega
    refine (rlay_new hM6.lbx hM6.lrow (by rw [hs_len]; omega) (H := H) (fun hm2 => by obtain ⟨l, hl, e⟩ := hs_mem.1 hm2; omega)).mono ?_
    rintro y w7 ⟨rfl, hK7, lv2, g1, g2, g3⟩
    rw [← hH, ← hs_succ] at g2
    have g2' : w7.ownsRow 0 26 1 lv2 (hs (i + 1)).length (uvs (hs (i + 1))) := by rw [hs_len]; rw [hs_len] at g2; exact g2
    have hM7 := hM6.stepL (hPw _ (Nat.le_trans hK5.size f1.size)) hK7 g1 g2' g3
    exact ⟨rfl, hM7.box.cell 0, hK7.box f2 (hnb _ (by omega)), (hK5.step f1 (by simp)).trans (hM6.kpL hK7) (fun _ h => h) (fun k hk => .inl hk), fun k hk => by rw [← hm]; exact hM5.iss.lt k hk, f3.keptP hK7 (fun k hk => hnb k (by simp at hk; omega)), f4.keptP hK7 (fun k hk => hnb k (by simp at hk; omega)), lv2, hM7⟩)
  have h54 := fun W7 w7 (hfW : W7.grownBy w7 none) m F1 B1 G2 Q2 R2 tv2 (hR2 : RFit R2) (hrep2 : Rep A1 R2) (hbX : Box W7 129 (m + 1 + 1) #[.slice (some ⟨m, 0, none⟩) 2 2, .slice (some ⟨m + 1, 0, none⟩) 1 1, .int .u64 ((i : Int) + 1), .int .i64 ((i : Int) + 1), .int .i64 0, .int .u64 ((i : Int) + 1), .int .i64 4, .int .i64 (((i : Int) + 1) % 16)]) (hE : Hid (Kp P w W7 ∧ (∀ k, F1 k → k < m) ∧ Has W7 (some ⟨m, 0, none⟩) 2 (keyB i) ∧ Has W7 (some ⟨m + 1, 0, none⟩) 1 [(i : Int) + 1] ∧ ∃ lv2, MS W7 P wb sb qb gl gc F1 B1 A1 (headZ zs (64 * i) 0) rb G2 Q2 R2 lb lv2 lsv tv2 (hs (i + 1)) (hs (i + 1)) L)) => (show Calls Tryz.prog 72 #[.pointer (some ⟨sb, 0, none⟩), .int .u64 H, .agg #[.slice (some ⟨m, 0, none⟩) 2 2, .slice (some ⟨m + 1, 0, none⟩) 1 1, .int .u64 ((i : Int) + 1), .int .i64 ((i : Int) + 1), .int .i64 0, .int .u64 ((i : Int) + 1), .int .i64 4, .int .i64 (((i : Int) + 1) % 16)]] w7 (fun y w8 => y = .returned (.int .i64 0) ∧ w8.cell? ⟨wb, 0, none⟩ = some (.pointer (some ⟨sb, 0, none⟩)) ∧ Box w8 129 (m + 1 + 1) #[.slice (some ⟨m, 0, none⟩) 2 2, .slice (some ⟨m + 1, 0, none⟩) 1 1, .int .u64 ((i : Int) + 1), .int .i64 ((i : Int) + 1), .int .i64 0, .int .u64 ((i : Int) + 1), .int .i64 4, .int .i64 (((i : Int) + 1) % 16)] ∧ Hid (Kp P w w8 ∧ ∃ tv', WW w8 P wb qb tv' (i + 1) X)) by
    obtain ⟨hK70, hFm, f30, f40, lv2, hM70⟩ := hE.out
    have hK7 := hK70.step hfW (by simp)
    have f3 := f30.keptP (F := fun _ => False) (Kp.of hfW) (fun _ _ h => h)
    have f4 := f40.keptP (F := fun _ => False) (Kp.of hfW) (fun _ _ h => h)
    have hM7 := hM70.kept0 hfW
    have hbX7 := hbX.kept hfW (by simp)
    obtain ⟨x, k, x1, x2, x3, x4⟩ := fil_h hF1 (by omega) (l := i) (by omega)
    have hag := hFm _ hM7.iss.fa.2
    have hly := lay_yes hM7.iss hF1.inv.fit x1 (some ⟨m, 0, none⟩) 2 2 (some ⟨m + 1, 0, none⟩) 1 1 ((i : Int) + 1) ((i : Int) + 1) 0 ((i : Int) + 1) 4 (((i : Int) + 1) % 16) (keyB i) [(i : Int) + 1] f3 f4 (keyB_ok i).1 (by intro z hz; simp at hz; omega) (by intro x hx; simp at hx; omega) (by intro x hx; simp at hx; omega) (keyB_ok i).2 (by rw [x4]; omega) ⟨by omega, by omega, by omega, by omega, by omega⟩ (by omega) 0 (by rw [x2]; exact lies_gen (headZ_lies zs (64 * i) 0 (by omega)))
    rw [x2, x3, hH] at hly
    refine hly.mono ?_
    rintro y w8 ⟨rfl, hS8, hf8⟩
    have hK8 : Kp F1 w7 w8 := (Kp.refl _ _).step hf8 (fun j hj => .inl (by simp at hj; exact hj ▸ hM7.iss.fa.2))
    have hM8 := hM7.stepS (hPw _ hK7.size) hK8 hS8 (fun k hk => .inl hk)
    refine ⟨rfl, hM8.box.cell 0, hK8.box hbX7 (fun hh => by have := hFm _ hh; omega), hK7.trans (hM7.kpF hK8) (fun _ h => h) (fun k hk => .inl hk), tv2, by omega, h.tn, sb, gl, gc, F1, B1, A1, _, rb, G2, Q2, R2, lb, lv2, lsv, bsN bs i, _, _, _, L, fr1, hM8, ?_, hF1, hR2, hrep2, itl_new hI hi hz, lkd_new hlk, ?_⟩
    · have hTl : (newT i).L.flatten.length = 61 := by rw [It.len]; rfl
      have hl1 : (headZ zs (64 * i) 0).length = 16384 := by rw [headZ_lay zs (64 * i) 0 (by omega), length_lay (by rw [hd0_len]; omega), hz]
      show (lay (headZ zs (64 * i) 0) (64 * i) (newT i).L.flatten).length = _
      rw [length_lay (by rw [hTl, hl1]; omega), hl1]
    · rw [hs_succ]
      exact hLI.add (fun hm2 => by obtain ⟨l, hl, e⟩ := hs_mem.1 hm2; omega) (by omega))
  clear hTS hTR
  unfold opMake
  go_enter Tryz.func22, Tryz.ntmps22
  go_wp2_with (first | (go_at_call 18; go_must (refine (hwi _).mono ?_); rintro y w' ⟨rfl, rfl⟩) | (go_at_call 16; go_must (refine (num_any _ _).mono ?_); rintro y w' ⟨rfl, rfl⟩) | (go_at_call 69; go_must (refine h51.mono ?_); rintro y w1 ⟨rfl, c2, hb1, F1, B1, hE1⟩) | (go_at_call 70; go_must (with_reducible refine (h52 _ _ _ hE1 hb1).mono ?_); rintro y w2 ⟨rfl, c4, hb2, G2, Q2, R2, hR2, hrep2, hE2⟩; (have hrow := hE2.out.2.trow); rw [hs_len] at hrow; (have ca : ∀ o, (w2.alloc o).cell? ⟨wb, 4, none⟩ = some (.slice at0 i ct0) := fun o => gb_cellN (World.grownBy_alloc w2 o none) c4)) | (at_builtin; go_must (refine push26 rfl _ _ rfl 0 (.slice at0 i ct0) i (uvs (hs i)) (by rfl) hrow (H : Int) (by rfl) (by omega) (Nat.zero_le _) ?_); intro g1 cap1 w4 ho4 hg4 hat4; obtain ⟨e4, z4, hb5, hE5⟩ := hTold _ _ _ _ _ _ hE2 hb2 _ _ _ ho4 hg4 hat4; (have d0 := hb5.cell 0); simp at d0; (have u0 := hE5.out.2.box.cell 0); (have u3 := hE5.out.2.box.cell 3); (have u4 := hE5.out.2.box.cell 4); simp at u0 u3 u4; (have hsz : (w4.setCell ⟨wb, 4, none⟩ (.slice (some ⟨g1, 0, none⟩) (i + 1) cap1)).heap.size = w4.heap.size := by simp); (have hMl := (hE5.out.2.kept0 (lits_facts _ _ i hsz).1).box.cell 3); simp [lits] at hMl; (have h53' := h53 _ _ hsz _ _ _ _ _ _ hE5); unfold lits at h53') | (go_at_call 71; go_must (with_reducible refine h53'.mono ?_); rintro y w7 ⟨rfl, v0, hb7, hE7⟩) | fail)
  have hCC : ∀ W, W.cell? ⟨wb, 0, none⟩ = some (.pointer (some ⟨sb, 0, none⟩)) → Box W 129 (w4.heap.size + 1 + 1) #[.slice (some ⟨w4.heap.size, 0, none⟩) 2 2, .slice (some ⟨w4.heap.size + 1, 0, none⟩) 1 1, .int .u64 ((i : Int) + 1), .int .i64 ((i : Int) + 1), .int .i64 0, .int .u64 ((i : Int) + 1), .int .i64 4, .int .i64 (((i : Int) + 1) % 16)] → (W.cell? ⟨wb, 0, none⟩ = some (.pointer (some ⟨sb, 0, none⟩)) ∧ W.cell? ⟨w4.heap.size + 1 + 1, 0, none⟩ = some (.slice (some ⟨w4.heap.size, 0, none⟩) 2 2) ∧ W.cell? ⟨w4.heap.size + 1 + 1, 1, none⟩ = some (.slice (some ⟨w4.heap.size + 1, 0, none⟩) 1 1) ∧ W.cell? ⟨w4.heap.size + 1 + 1, 2, none⟩ = some (.int .u64 ((i : Int) + 1)) ∧ W.cell? ⟨w4.heap.size + 1 + 1, 3, none⟩ = some (.int .i64 ((i : Int) + 1)) ∧ W.cell? ⟨w4.heap.size + 1 + 1, 4, none⟩ = some (.int .i64 0) ∧ W.cell? ⟨w4.heap.size + 1 + 1, 5, none⟩ = some (.int .u64 ((i : Int) + 1)) ∧ W.cell? ⟨w4.heap.size + 1 + 1, 6, none⟩ = some (.int .i64 4) ∧ W.cell? ⟨w4.heap.size + 1 + 1, 7, none⟩ = some (.int .i64 (((i : Int) + 1) % 16))) := fun W h0 hb => ⟨h0, hb.cell 0, hb.cell 1, hb.cell 2, hb.cell 3, hb.cell 4, hb.cell 5, hb.cell 6, hb.cell 7⟩
  have h7d : w7.grownBy w7.drew none := gb_drew (gb_refl _ _)
  have hC7 := hCC w7.drew (gb_cellN h7d v0) (hb7.kept h7d (by simp))
  have h54' := h54 _ _ h7d _ _ _ _ _ _ _ hR2 hrep2 hb7 hE7
  clear h51 h52 h53 h54 hTold h53' hMl
  go_region_held3 (fun W => W.cell? ⟨wb, 0, none⟩ = some (.pointer (some ⟨sb, 0, none⟩)) ∧ W.cell? ⟨w4.heap.size + 1 + 1, 0, none⟩ = some (.slice (some ⟨w4.heap.size, 0, none⟩) 2 2) ∧ W.cell? ⟨w4.heap.size + 1 + 1, 1, none⟩ = some (.slice (some ⟨w4.heap.size + 1, 0, none⟩) 1 1) ∧ W.cell? ⟨w4.heap.size + 1 + 1, 2, none⟩ = some (.int .u64 ((i : Int) + 1)) ∧ W.cell? ⟨w4.heap.size + 1 + 1, 3, none⟩ = some (.int .i64 ((i : Int) + 1)) ∧ W.cell? ⟨w4.heap.size + 1 + 1, 4, none⟩ = some (.int .i64 0) ∧ W.cell? ⟨w4.heap.size + 1 + 1, 5, none⟩ = some (.int .u64 ((i : Int) + 1)) ∧ W.cell? ⟨w4.heap.size + 1 + 1, 6, none⟩ = some (.int .i64 4) ∧ W.cell? ⟨w4.heap.size + 1 + 1, 7, none⟩ = some (.int .i64 (((i : Int) + 1) % 16))) ((first | with_reducible exact hCC _ v8 hb8 | with_reducible exact hC7 | go_keep)) ((first | (go_at_call 72; with_reducible refine h54'.mono ?_; rintro y w8 ⟨rfl, v8, hb8, hE8⟩) | (go_at_call 16; with_reducible refine (num_any _ _).mono ?_; rintro y w' ⟨rfl, rfl⟩)))
  go_wp2
  go_ret
  exact ⟨rfl, hE8.out⟩
end Go.Proofs.YtjkdflnnpdionaaGreat
/-
  wakes; QueueNames.
-/
namespace Go.Proofs.YtjkdflnnpdionaaGreat
open Go.RowKit
set_option linter.unusedVariables false

def X0 : Nat → Nat → List Nat := fun _ _ => []
theorem li0 : LI (fun _ => 0) (hs 0) (fun _ => 0) (fun _ => 0) (fun _ => 0) L0 X0 :=
  ⟨fun c k H hH => by simp [X0] at hH, fun c k H hH => by simp [X0] at hH, fun _ _ => List.nodup_nil, fun c k U H V e => by simp [X0] at e, fun _ _ => rfl, fun _ _ => rfl, fun _ _ => rfl, fun H hH => by simp [hs] at hH, fun H hH => by simp [hs] at hH, fun H hH => by simp [hs] at hH, by simp [hs]⟩
theorem begun_ww (w : World) : Calls Tryz.prog 12 #[] w fun y w' => ∃ wb qb, y = .returned (.pointer (some ⟨wb, 0, none⟩)) ∧ w.grownBy w' none ∧ WW w' (fun k => w.heap.size ≤ k) wb qb (.slice none 0 0) 0 X0 := by
  refine (begun_any w).mono ?_
  rintro y w' ⟨wb, sb, qb, gl, gc, F, B, zs, rb, G, Q, lb, lsv, rfl, hf, hz, hM, _⟩
  exact ⟨wb, qb, rfl, hf, by omega, fun _ _ => by simp [X0], sb, gl, gc, F, B, qA, zs, rb, G, Q, qR, lb, _, lsv, fun _ => newT 0, fun _ => 0, fun _ => 0, fun _ => 0, L0, 0, hM, hz, q_fil, qR_fit, q_rep, fun l hl => absurd hl (Nat.not_lt_zero _), fun H hH => by simp [hs] at hH, li0⟩

set_option maxRecDepth 100000 in
theorem does_make {w : World} {P : Nat → Prop} {wb qb : Nat} {tv : Value} {i : Nat} {X : Nat → Nat → List Nat} (h : WW w P wb qb tv i X) (hi : i < 64) (hP : ∀ k, w.heap.size ≤ k → P k) :
    Calls Tryz.prog 13 #[.pointer (some ⟨wb, 0, none⟩), opMake] w fun y w' => y = .returned (.bool true) ∧ Kp P w w' ∧ ∃ tv', WW w' P wb qb tv' (i + 1) X := by
  have hal := World.grownBy_alloc w (.cells #[.int .i64 1, .int .i64 0, .int .i64 0, .int .i64 0, .int .u64 0, .bool false] 28) none
  have hmk := (makes_any (h.kept0 hal) hi (fun k hk => hP k (Nat.le_trans hal.size hk))).mono (R' := fun y w' => y = .returned (.bool true) ∧ Hid (Kp P w w' ∧ ∃ tv', WW w' P wb qb tv' (i + 1) X)) (by
    rintro y w' ⟨rfl, hK, hW⟩
    exact ⟨rfl, (Kp.of hal).trans hK (fun _ h => h) (fun k hk => .inl hk), hW⟩)
  unfold opMake at hmk ⊢
  clear h hal
  go_enter Tryz.func13, Tryz.ntmps13
  go_wp2_with (first | (go_at_call 22; go_must (with_reducible refine hmk.mono ?_); rintro y w1 ⟨rfl, hE⟩) | fail)
  go_ret
  exact ⟨rfl, hE.out⟩

theorem kp_grown {w w1 w2 : World} (hf : w.grownBy w1 none) (hK : Kp (fun k => w.heap.size ≤ k) w1 w2) : w.grownBy w2 none :=
  ((Kp.of (F := fun _ => False) hf).trans hK (H := fun _ => False) (fun _ h => h) (fun k hk => .inr hk)).grown (fun i hi => hi.elim)

set_option maxRecDepth 100000 in
set_option maxHeartbeats 2000000 in
theorem wakes_any (w : World) : Calls Tryz.prog 17 #[] w fun y w' => y = .returned (.bool true) ∧ w.grownBy w' none := by
  have hbg := (begun_ww w).mono (R' := fun y w0 => ∃ wb qb : Nat, y = .returned (.pointer (some ⟨wb, 0, none⟩)) ∧ Hid (w.grownBy w0 none ∧ ∃ tv, WW w0 (fun k => w.heap.size ≤ k) wb qb tv 0 X0)) (by
    rintro y w0 ⟨wb, qb, rfl, hf, h⟩
    exact ⟨wb, qb, rfl, hf, _, h⟩)
  have hmk := fun w0 wb qb (i : Nat) (hi : i < 64) (hE : Hid (w.grownBy w0 none ∧ ∃ tv, WW w0 (fun k => w.heap.size ≤ k) wb qb tv i X0)) => (show Calls Tryz.prog 13 #[.pointer (some ⟨wb, 0, none⟩), opMake] w0 (fun y w1 => y = .returned (.bool true) ∧ Hid (w.grownBy w1 none ∧ ∃ tv, WW w1 (fun k => w.heap.size ≤ k) wb qb tv (i + 1) X0)) by
    obtain ⟨hf, tv, hW⟩ := hE.out
    refine (does_make hW hi (fun k hk => Nat.le_trans hf.size hk)).mono ?_
    rintro y w1 ⟨rfl, hK, tv', hW'⟩
    exact ⟨rfl, kp_grown hf hK, tv', hW'⟩)
  have hpu := fun w2 wb qb (hE : Hid (w.grownBy w2 none ∧ ∃ tv, WW w2 (fun k => w.heap.size ≤ k) wb qb tv 2 X0)) => (show Calls Tryz.prog 23 #[.pointer (some ⟨qb, 0, none⟩), .int .u64 1, .int .i64 1] w2 (fun y w3 => y = .returned (.int .i64 0) ∧ w3.cell? ⟨wb, 1, none⟩ = some (.pointer (some ⟨qb, 0, none⟩)) ∧ Hid (w.grownBy w3 none ∧ ∃ tv, WW w3 (fun k => w.heap.size ≤ k) wb qb tv 2 (upX X0 0 0 [1]))) by
    obtain ⟨hf, tv, hW⟩ := hE.out
    refine (ww_push hW (H := 1) (k := 0) (by decide) (by omega) (fun k2 => by simp [X0]) (by simp [X0])).mono ?_
    rintro y w1 ⟨rfl, hK, hW'⟩
    exact ⟨rfl, hW'.cells.1, kp_grown hf hK, tv, hW'⟩)
  have hla := fun w2 wb qb (hE : Hid (w.grownBy w2 none ∧ ∃ tv, WW w2 (fun k => w.heap.size ≤ k) wb qb tv 2 (upX X0 0 0 [1]))) => (show Calls Tryz.prog 24 #[.pointer (some ⟨qb, 0, none⟩), .int .u64 9, .int .i64 1] w2 (fun y w3 => y = .returned (.int .i64 0) ∧ w3.cell? ⟨wb, 1, none⟩ = some (.pointer (some ⟨qb, 0, none⟩)) ∧ Hid (w.grownBy w3 none ∧ ∃ tv, WW w3 (fun k => w.heap.size ≤ k) wb qb tv 2 (upX (upX X0 0 0 [1]) 0 0 [1, 9]))) by
    obtain ⟨hf, tv, hW⟩ := hE.out
    refine (ww_last hW (H := 9) (k := 0) (by decide) (by omega) (fun k2 => by simp [upX, X0]) (by simp [upX])).mono ?_
    rintro y w1 ⟨rfl, hK, hW'⟩
    exact ⟨rfl, hW'.cells.1, kp_grown hf hK, tv, hW'⟩)
  have hhd := fun w2 wb qb (hE : Hid (w.grownBy w2 none ∧ ∃ tv, WW w2 (fun k => w.heap.size ≤ k) wb qb tv 2 (upX (upX X0 0 0 [1]) 0 0 [1, 9]))) => (show Calls Tryz.prog 63 #[.pointer (some ⟨qb, 0, none⟩), .int .i64 0, .int .i64 1] w2 (fun y w3 => y = .returned (.tuple #[.int .u64 1, .bool true]) ∧ w3.cell? ⟨wb, 1, none⟩ = some (.pointer (some ⟨qb, 0, none⟩)) ∧ Hid (w.grownBy w3 none ∧ ∃ tv, WW w3 (fun k => w.heap.size ≤ k) wb qb tv 2 (upX (upX X0 0 0 [1]) 0 0 [1, 9]))) by
    obtain ⟨hf, tv, hW⟩ := hE.out
    refine (ww_head hW (c := 0) (k := 0) (v := 1) (by omega) (by omega) (by simp [upX])).mono ?_
    rintro y w1 ⟨rfl, hf1⟩
    exact ⟨rfl, (hW.kept0 hf1).cells.1, gb_trans hf hf1, tv, hW.kept0 hf1⟩)
  have htl := fun w2 wb qb (hE : Hid (w.grownBy w2 none ∧ ∃ tv, WW w2 (fun k => w.heap.size ≤ k) wb qb tv 2 (upX (upX X0 0 0 [1]) 0 0 [1, 9]))) => (show Calls Tryz.prog 64 #[.pointer (some ⟨qb, 0, none⟩), .int .i64 0, .int .i64 1] w2 (fun y w3 => y = .returned (.tuple #[.int .u64 9, .bool true]) ∧ w3.cell? ⟨wb, 1, none⟩ = some (.pointer (some ⟨qb, 0, none⟩)) ∧ Hid (w.grownBy w3 none ∧ ∃ tv, WW w3 (fun k => w.heap.size ≤ k) wb qb tv 2 (upX (upX X0 0 0 [1]) 0 0 [1, 9]))) by
    obtain ⟨hf, tv, hW⟩ := hE.out
    refine (ww_tail hW (c := 0) (k := 0) (v := 9) (by omega) (by omega) (by simp [upX])).mono ?_
    rintro y w1 ⟨rfl, hf1⟩
    exact ⟨rfl, (hW.kept0 hf1).cells.1, gb_trans hf hf1, tv, hW.kept0 hf1⟩)
  have hln := fun w2 wb qb (hE : Hid (w.grownBy w2 none ∧ ∃ tv, WW w2 (fun k => w.heap.size ≤ k) wb qb tv 2 (upX (upX X0 0 0 [1]) 0 0 [1, 9]))) => (show Calls Tryz.prog 65 #[.pointer (some ⟨qb, 0, none⟩), .int .i64 0, .int .i64 1] w2 (fun y w3 => y = .returned (.int .i64 2) ∧ w3.cell? ⟨wb, 1, none⟩ = some (.pointer (some ⟨qb, 0, none⟩)) ∧ Hid (w.grownBy w3 none)) by
    obtain ⟨hf, tv, hW⟩ := hE.out
    refine (ww_len hW (c := 0) (k := 0) (v := 2) (by omega) (by omega) (by simp [upX])).mono ?_
    rintro y w1 ⟨rfl, hf1⟩
    exact ⟨rfl, (hW.kept0 hf1).cells.1, gb_trans hf hf1⟩)
  have hcs := fun w2 wb qb (hE : Hid (w.grownBy w2 none ∧ ∃ tv, WW w2 (fun k => w.heap.size ≤ k) wb qb tv 2 X0)) => (show ∃ g cap, w2.cell? ⟨wb, 4, none⟩ = some (.slice (some ⟨g, 0, none⟩) 2 cap) ∧ w2.cell? ⟨g, 0, none⟩ = some (.int .u64 1) ∧ w2.cell? ⟨g, 1, none⟩ = some (.int .u64 9) ∧ w2.cell? ⟨wb, 1, none⟩ = some (.pointer (some ⟨qb, 0, none⟩)) by
    obtain ⟨hf, tv, hW⟩ := hE.out
    obtain ⟨e1, e2, e3⟩ := hW.cells
    obtain ⟨ao, cap, rfl, _, _, _, hao⟩ := row_shape e3
    obtain ⟨g, rfl⟩ := hao (by omega)
    exact ⟨g, cap, e2, row_cell e3 0 _ rfl, row_cell e3 1 _ rfl, e1⟩)
  unfold opMake at hmk
  go_enter Tryz.func17, Tryz.ntmps17
  go_wp2_with (first | (go_at_call 12; go_must (refine hbg.mono ?_); rintro y w0 ⟨wb, qb, rfl, hE0⟩) | (go_at_call 13; with_reducible refine (hmk _ _ _ 0 (by omega) hE0).mono ?_; rintro y w1 ⟨rfl, hE1⟩) | (go_at_call 13; with_reducible refine (hmk _ _ _ 1 (by omega) hE1).mono ?_; rintro y w2 ⟨rfl, hE2⟩; obtain ⟨g, cap, q1, q2, q3, q4⟩ := hcs _ _ _ hE2) | (go_at_call 16; go_must (refine (num_any _ _).mono ?_); rintro y w' ⟨rfl, rfl⟩) | fail)
  have hdr := gb_drew (gb_refl w2 none)
  have hEd : Hid (w.grownBy w2.drew none ∧ ∃ tv, WW w2.drew (fun k => w.heap.size ≤ k) wb qb tv 2 X0) := ⟨gb_trans hE2.out.1 hdr, hE2.out.2.choose, hE2.out.2.choose_spec.kept0 hdr⟩
  have q4' := gb_cellN hdr q4
  go_region_law (fail)
  go_wp2_with (first | (go_at_call 16; go_must (refine (num_any _ _).mono ?_); rintro y w' ⟨rfl, rfl⟩) | (go_at_call 23; go_must (with_reducible refine (hpu _ _ _ hEd).mono ?_); rintro y w3 ⟨rfl, d3, hE3⟩) | (go_at_call 24; go_must (with_reducible refine (hla _ _ _ hE3).mono ?_); rintro y w4 ⟨rfl, d4, hE4⟩) | (go_at_call 63; go_must (with_reducible refine (hhd _ _ _ hE4).mono ?_); rintro y w5 ⟨rfl, d5, hE5⟩) | (go_at_call 64; go_must (with_reducible refine (htl _ _ _ hE5).mono ?_); rintro y w6 ⟨rfl, d6, hE6⟩) | (go_at_call 65; go_must (with_reducible refine (hln _ _ _ hE6).mono ?_); rintro y w7 ⟨rfl, d7, hE7⟩) | fail)
  all_goals
    go_ret
    exact ⟨rfl, hE7.out⟩

end Go.Proofs.YtjkdflnnpdionaaGreat
