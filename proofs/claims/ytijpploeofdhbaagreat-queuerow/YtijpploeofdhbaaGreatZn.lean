import Derived.Test.YtijpploeofdhbaaGreatZm
/-
  The law's World: its state.
-/
namespace Go.Proofs.YtijpploeofdhbaaGreat
open Go.RowKit
set_option linter.unusedVariables false

/-- The handles that were told. -/
def hs (i : Nat) : List Nat := (List.range i).map fun l => 8 * l + 1
theorem hs_succ (i : Nat) : hs (i + 1) = hs i ++ [8 * i + 1] := by simp [hs, List.range_succ]
theorem hs_len (i : Nat) : (hs i).length = i := by simp [hs]
theorem hs_mem {i H : Nat} : H ∈ hs i ↔ ∃ l, l < i ∧ H = 8 * l + 1 := by
  simp only [hs, List.mem_map, List.mem_range]
  constructor
  · rintro ⟨l, h1, h2⟩; exact ⟨l, h1, h2.symm⟩
  · rintro ⟨l, h1, h2⟩; exact ⟨l, h1, h2.symm⟩
theorem hs_get {i l : Nat} (h : l < i) : (hs i)[l]? = some (8 * l + 1) := by simp [hs, h]

/-- What the chunks hold. -/
def Itl (zs : List Int) (bs : Nat → It) (p n s : Nat → Nat) (i : Nat) : Prop := ∀ l, l < i → IsI zs (64 * l) (itm bs p n s (8 * l + 1)) ∧ 58 + (bs (8 * l + 1)).key.length + (bs (8 * l + 1)).val.length ≤ 64
def Lkd (p n : Nat → Nat) (i : Nat) : Prop := ∀ H, H ∈ hs i → (p H = 0 ∨ p H ∈ hs i) ∧ (n H = 0 ∨ n H ∈ hs i)

structure WW (w : World) (P : Nat → Prop) (wb qb : Nat) (tv : Value) (i : Nat) (X : Nat → Nat → List Nat) : Prop where
  i64 : i ≤ 64
  tn : ∀ c k, (X c k).length ≤ 1099511627776
  ex : ∃ sb gl gc F B A zs rb G Q R lb lv lsv bs p n s L fr, MS w P wb sb qb gl gc F B A zs rb G Q R lb lv lsv tv (hs i) (hs i) L ∧ zs.length = 16384 ∧ Fil qA A 0 i fr ∧ RFit R ∧ Rep A R ∧ Itl zs bs p n s i ∧ Lkd p n i ∧ LI (fun _ => 0) (hs i) p n s L X

theorem fil_h {A : Ab} {i fr l : Nat} (h : Fil qA A 0 i fr) (hi : i ≤ 64) (hl : l < i) : ∃ x k, IsH A (8 * l + 1) x k ∧ A.place x k = 64 * l ∧ A.own x = 0 ∧ A.sz (A.own x) = 64 := by
  obtain ⟨h1, h2, h3⟩ := h.isH hl
  rw [q_hN (by omega)] at h1
  rw [q_plN (by omega)] at h2
  exact ⟨_, _, h1, h2, h3, by rw [h3, h.sz, q_sz]⟩
theorem isH_eq {A : Ab} (hA : Fit2 A) {H x k y l : Nat} (h1 : IsH A H x k) (h2 : IsH A H y l) : x = y ∧ k = l := by
  have e1 := (h1.parts hA).1
  have e2 := (h2.parts hA).1
  exact num_inj hA.toFit1 h1.hp h1.hk h2.hp h2.hk (by omega)

theorem itl_of {w : World} {sb qb gl gc : Nat} {F : Nat → Prop} {B : Bl} {A : Ab} {zs : List Int} {bs : Nat → It} {p n s : Nat → Nat} {L : Ls} {i fr : Nat} (h : QM w sb qb gl gc F B 4 200 64 256 0 0 A zs (hs i) bs p n s L) (hf : Fil qA A 0 i fr) (hi : i ≤ 64) : Itl zs bs p n s i := fun l hl => by
  obtain ⟨x, k, h1, h2, h3, h4⟩ := fil_h hf hi hl
  obtain ⟨y, m, g1, g2, g3⟩ := h.its (8 * l + 1) (hs_mem.2 ⟨l, hl, rfl⟩)
  obtain ⟨rfl, rfl⟩ := isH_eq h.inv.fit h1 g1
  rw [h2] at g2
  rw [h4] at g3
  exact ⟨g2, g3⟩
theorem qm_of {w : World} {P : Nat → Prop} {wb sb qb gl gc : Nat} {F : Nat → Prop} {B : Bl} {A : Ab} {zs : List Int} {rb : Nat} {G : Nat → Prop} {Q : Rl} {R : Rb} {lb : Nat} {lv lsv tv : Value} {xl xt : List Nat} {L : Ls} {bs : Nat → It} {p n s : Nat → Nat} {i fr : Nat} (h : MS w P wb sb qb gl gc F B A zs rb G Q R lb lv lsv tv xl xt L) (hf : Fil qA A 0 i fr) (hi : i ≤ 64) (hI : Itl zs bs p n s i) (hl : Lkd p n i) : QM w sb qb gl gc F B 4 200 64 256 0 0 A zs (hs i) bs p n s L := by
  have hn : A.n = 3 := hf.n
  obtain ⟨c, h1, h2, h3, h4, h5, h6, h7, h8⟩ := h.sep.ex
  refine ⟨h.iss, hf.inv, by rw [hn]; exact h.qbx, by rw [hn]; exact h.qrow, fun hF => by have := (h1 _ hF).1; omega, fun hF => by have := (h1 _ hF).1; omega, fun H hH => ?_, hl⟩
  obtain ⟨l, hl, rfl⟩ := hs_mem.1 hH
  obtain ⟨x, k, g1, g2, g3, g4⟩ := fil_h hf hi hl
  obtain ⟨e1, e2⟩ := hI l hl
  exact ⟨x, k, g1, by rw [g2]; exact e1, by rw [g4]; exact e2⟩

/-- Its lists. -/
theorem WW.lists {w : World} {P : Nat → Prop} {wb qb : Nat} {tv : Value} {i : Nat} {X : Nat → Nat → List Nat} (h : WW w P wb qb tv i X) : ∃ sb gl gc F B A bs, QL w sb qb gl gc F B 4 200 64 256 0 0 A 16384 (hs i) bs (fun _ => 0) X ∧ A.n = 3 ∧ ∀ w' X', QL w' sb qb gl gc F B 4 200 64 256 0 0 A 16384 (hs i) bs (fun _ => 0) X' → Kp (fun k => F k ∨ k = gl) w w' → WW w' P wb qb tv i X' ∧ Kp P w w' := by
  obtain ⟨sb, gl, gc, F, B, A, zs, rb, G, Q, R, lb, lv, lsv, bs, p, n, s, L, fr, hM, hz, hF, hR, hrep, hI, hl, hLI⟩ := h.ex
  have hn : A.n = 3 := hF.n
  have hq := qm_of hM hF h.i64 hI hl
  refine ⟨sb, gl, gc, F, B, A, bs, ⟨fun H hH x y hX => hF.own x hX.hp, h.tn, p, n, s, L, ⟨zs, hz, hq⟩, hLI⟩, hn, fun w' X' hQ hK => ⟨⟨h.i64, hQ.tn, ?_⟩, ?_⟩⟩
  · obtain ⟨p', n', s', L', ⟨zs', hz', hq'⟩, hLI'⟩ := hQ.ex
    have hb := hq'.box
    have hr := hq'.row
    rw [hn] at hb hr
    exact ⟨sb, gl, gc, F, B, A, zs', rb, G, Q, R, lb, lv, lsv, bs, p', n', s', L', fr, hM.stepQ hK hq'.iss hb hr, hz', hF, hR, hrep, itl_of hq' hF h.i64, hq'.lk, hLI'⟩
  · obtain ⟨c, h1, h2, h3, h4, h5, h6, h7, h8⟩ := hM.sep.ex
    exact hK.mono (fun k hk => .inl (by
      rcases hk with hk | rfl
      · exact (h1 k hk).2
      · exact h8.2))
theorem WW.kept0 {w w' : World} {P : Nat → Prop} {wb qb : Nat} {tv : Value} {i : Nat} {X : Nat → Nat → List Nat} (h : WW w P wb qb tv i X) (hf : w.grownBy w' none) : WW w' P wb qb tv i X := by
  obtain ⟨sb, gl, gc, F, B, A, zs, rb, G, Q, R, lb, lv, lsv, bs, p, n, s, L, fr, hM, hx⟩ := h.ex
  exact ⟨h.i64, h.tn, sb, gl, gc, F, B, A, zs, rb, G, Q, R, lb, lv, lsv, bs, p, n, s, L, fr, hM.kept0 hf, hx⟩

/-- Blocks that are not its own may be left out. -/
theorem WW.less {w : World} {P : Nat → Prop} {wb qb : Nat} {tv : Value} {i : Nat} {X : Nat → Nat → List Nat} (h : WW w P wb qb tv i X) {P' : Nat → Prop} (hP : ∀ k, P k → k < w.heap.size → P' k) : WW w P' wb qb tv i X := by
  obtain ⟨sb, gl, gc, F, B, A, zs, rb, G, Q, R, lb, lv, lsv, bs, p, n, s, L, fr, hM, hx⟩ := h.ex
  obtain ⟨c, h1, h2, h3, h4, h5, h6, h7, h8⟩ := hM.sep.ex
  refine ⟨h.i64, h.tn, sb, gl, gc, F, B, A, zs, rb, G, Q, R, lb, lv, lsv, bs, p, n, s, L, fr, ⟨hM.box, hM.iss, hM.qbx, hM.qrow, hM.isr, hM.lbx, hM.lrow, hM.trow, ⟨c, fun k hk => ⟨(h1 k hk).1, hP k (h1 k hk).2 (hM.iss.lt k hk)⟩, fun k hk => ⟨(h2 k hk).1, hP k (h2 k hk).2 (hM.isr.lt k hk)⟩, fun k hk => ⟨(h3 k hk).1, hP k (h3 k hk).2 (hM.lvl k hk)⟩, fun k hk => ⟨(h4 k hk).1, hP k (h4 k hk).2 (hM.tvl k hk)⟩, ⟨h5.1, hP _ h5.2 hM.box.lt⟩, ⟨h6.1, hP _ h6.2 hM.lbx.lt⟩, ⟨h7.1, hP _ h7.2 hM.qbx.lt⟩, ⟨h8.1, hP _ h8.2 hM.gll⟩⟩⟩, hx⟩

section
variable {w : World} {P : Nat → Prop} {wb qb : Nat} {tv : Value} {i : Nat} {X : Nat → Nat → List Nat}
theorem ww_push (h : WW w P wb qb tv i X) {H k : Nat} (hH : H ∈ hs i) (hk : k < 3) (hno : ∀ k2, H ∉ X 0 k2) (hl : (X 0 k).length < 1099511627776) :
    Calls Tryz.prog 21 #[.pointer (some ⟨qb, 0, none⟩), .int .u64 H, .int .i64 ((k : Int) + 1)] w fun y w' => y = .returned (.int .i64 0) ∧ Kp P w w' ∧ WW w' P wb qb tv i (upX X 0 k (H :: X 0 k)) := by
  obtain ⟨sb, gl, gc, F, B, A, bs, hQ, hn, hback⟩ := h.lists
  refine (q_push hQ hH hk hno hl).mono ?_
  rintro y w' ⟨rfl, hK, hQ'⟩
  obtain ⟨g1, g2⟩ := hback w' _ hQ' hK
  exact ⟨rfl, g2, g1⟩
theorem ww_last (h : WW w P wb qb tv i X) {H k : Nat} (hH : H ∈ hs i) (hk : k < 3) (hno : ∀ k2, H ∉ X 0 k2) (hl : (X 0 k).length < 1099511627776) :
    Calls Tryz.prog 22 #[.pointer (some ⟨qb, 0, none⟩), .int .u64 H, .int .i64 ((k : Int) + 1)] w fun y w' => y = .returned (.int .i64 0) ∧ Kp P w w' ∧ WW w' P wb qb tv i (upX X 0 k (X 0 k ++ [H])) := by
  obtain ⟨sb, gl, gc, F, B, A, bs, hQ, hn, hback⟩ := h.lists
  refine (q_last hQ hH hk hno hl).mono ?_
  rintro y w' ⟨rfl, hK, hQ'⟩
  obtain ⟨g1, g2⟩ := hback w' _ hQ' hK
  exact ⟨rfl, g2, g1⟩
theorem ww_drop (h : WW w P wb qb tv i X) {H k : Nat} {U V : List Nat} (hX : X 0 k = U ++ H :: V) :
    Calls Tryz.prog 23 #[.pointer (some ⟨qb, 0, none⟩), .int .u64 H] w fun y w' => y = .returned (.int .i64 0) ∧ Kp P w w' ∧ WW w' P wb qb tv i (upX X 0 k (U ++ V)) := by
  obtain ⟨sb, gl, gc, F, B, A, bs, hQ, hn, hback⟩ := h.lists
  refine (q_drop hQ (H := H) (k := k) hX).mono ?_
  rintro y w' ⟨rfl, hK, hQ'⟩
  obtain ⟨g1, g2⟩ := hback w' _ hQ' hK
  exact ⟨rfl, g2, g1⟩
theorem ww_shift (h : WW w P wb qb tv i X) {H k k2 : Nat} {U V : List Nat} (hX : X 0 k = U ++ H :: V) (hk2 : k2 < 3) (hl : (X 0 k2).length < 1099511627776) :
    Calls Tryz.prog 24 #[.pointer (some ⟨qb, 0, none⟩), .int .u64 H, .int .i64 ((k2 : Int) + 1)] w fun y w' => y = .returned (.int .i64 0) ∧ Kp P w w' ∧ WW w' P wb qb tv i (upX (upX X 0 k (U ++ V)) 0 k2 (H :: (upX X 0 k (U ++ V)) 0 k2)) := by
  obtain ⟨sb, gl, gc, F, B, A, bs, hQ, hn, hback⟩ := h.lists
  refine (q_shift hQ (H := H) (k := k) hX hk2 hl).mono ?_
  rintro y w' ⟨rfl, hK, hQ'⟩
  obtain ⟨g1, g2⟩ := hback w' _ hQ' hK
  exact ⟨rfl, g2, g1⟩
theorem ww_head (h : WW w P wb qb tv i X) {c k v : Nat} (hc : c < 3) (hk : k < 3) (hv : (X c k).headD 0 = v) :
    Calls Tryz.prog 47 #[.pointer (some ⟨qb, 0, none⟩), .int .i64 c, .int .i64 ((k : Int) + 1)] w fun y w' => y = .returned (.tuple #[.int .u64 v, .bool (decide (¬ v = 0))]) ∧ w.grownBy w' none := by
  obtain ⟨sb, gl, gc, F, B, A, bs, hQ, hn, hback⟩ := h.lists
  obtain ⟨p, n, s, L, ⟨zs, hz, hq⟩, hI⟩ := hQ.ex
  exact q_head hq (by omega) hk v (by rw [hI.hd, hv])
theorem ww_tail (h : WW w P wb qb tv i X) {c k v : Nat} (hc : c < 3) (hk : k < 3) (hv : (X c k).getLastD 0 = v) :
    Calls Tryz.prog 27 #[.pointer (some ⟨qb, 0, none⟩), .int .i64 c, .int .i64 ((k : Int) + 1)] w fun y w' => y = .returned (.tuple #[.int .u64 v, .bool (decide (¬ v = 0))]) ∧ w.grownBy w' none := by
  obtain ⟨sb, gl, gc, F, B, A, bs, hQ, hn, hback⟩ := h.lists
  obtain ⟨p, n, s, L, ⟨zs, hz, hq⟩, hI⟩ := hQ.ex
  exact q_tail hq (by omega) hk v (by rw [hI.tl, hv])
theorem ww_len (h : WW w P wb qb tv i X) {c k v : Nat} (hc : c < 3) (hk : k < 3) (hv : (X c k).length = v) :
    Calls Tryz.prog 28 #[.pointer (some ⟨qb, 0, none⟩), .int .i64 c, .int .i64 ((k : Int) + 1)] w fun y w' => y = .returned (.int .i64 v) ∧ w.grownBy w' none := by
  obtain ⟨sb, gl, gc, F, B, A, bs, hQ, hn, hback⟩ := h.lists
  obtain ⟨p, n, s, L, ⟨zs, hz, hq⟩, hI⟩ := hQ.ex
  exact q_len hq (by omega) hk v (by rw [hI.ln, hv])
/-- The box of the World. -/
theorem WW.cells (h : WW w P wb qb tv i X) : w.cell? ⟨wb, 1, none⟩ = some (.pointer (some ⟨qb, 0, none⟩)) ∧ w.cell? ⟨wb, 4, none⟩ = some tv ∧ w.ownsRow 0 26 1 tv i (uvs (hs i)) := by
  obtain ⟨sb, gl, gc, F, B, A, zs, rb, G, Q, R, lb, lv, lsv, bs, p, n, s, L, fr, hM, hx⟩ := h.ex
  have h1 := hM.trow
  rw [hs_len] at h1
  exact ⟨hM.box.cell 1, hM.box.cell 4, h1⟩
end

/-- An item more. -/
theorem LI.add {cls : Nat → Nat} {T : List Nat} {p n s : Nat → Nat} {L : Ls} {X : Nat → Nat → List Nat} (h : LI cls T p n s L X) {H : Nat} (hH : H ∉ T) (hz : H ≠ 0) : LI cls (T ++ [H]) (upf p H 0) (upf n H 0) (upf s H 4) L X := by
  have hne : ∀ {G}, G ∈ T → G ≠ H := fun hG e => hH (e ▸ hG)
  refine ⟨fun c k G hG => ?_, h.k3, h.nd, fun c k => (h.lk c k).congr fun G hG => ?_, h.hd, h.tl, h.ln, fun G hG => ?_, fun G hG hs => ?_, fun G hG hs => ?_, fun hm => ?_⟩
  · obtain ⟨g1, g2, g3⟩ := h.sub c k G hG
    exact ⟨List.mem_append_left _ g1, by rw [upf_ne _ _ (hne g1)]; exact g2, g3⟩
  · have g1 := (h.sub c k G hG).1
    exact ⟨upf_ne _ _ (hne g1), upf_ne _ _ (hne g1)⟩
  · by_cases e : G = H
    · subst e; rw [upf_same]; omega
    · have hG' : G ∈ T := by simpa [e] using hG
      rw [upf_ne _ _ e]; exact h.st G hG'
  · by_cases e : G = H
    · subst e; rw [upf_same] at hs; omega
    · have hG' : G ∈ T := by simpa [e] using hG
      rw [upf_ne _ _ e] at hs ⊢
      exact h.out G hG' hs
  · by_cases e : G = H
    · subst e; exact ⟨upf_same _ _ _, upf_same _ _ _⟩
    · have hG' : G ∈ T := by simpa [e] using hG
      rw [upf_ne _ _ e] at hs
      rw [upf_ne _ _ e, upf_ne _ _ e]
      exact h.non G hG' hs
  · rcases List.mem_append.1 hm with h1 | h1
    · exact h.z h1
    · simp at h1; exact hz h1.symm
end Go.Proofs.YtijpploeofdhbaaGreat
