import Derived.Test.YtndjimdegkdljaaMd
import Derived.Test.YtndjimdegkdljaaMc
import Derived.Test.YtndjimdegkdljaaYd
/-
  Restart of the document's disk.
-/
namespace Go.Proofs.Ytndjimdegkdljaa
open Go.RowKit Go.MapKept
set_option linter.unusedVariables false
set_option linter.unusedSimpArgs false
attribute [local go_sem] Oper.semAt_some

/-- The numbers below n. -/
def dn : Nat → List Nat
  | 0 => []
  | n + 1 => n :: dn n
theorem mem_dn {n k : Nat} : k ∈ dn n ↔ k < n := by
  induction n with
  | zero => simp [dn]
  | succ n ih => simp only [dn, List.mem_cons, ih]; omega
theorem row_take0 {w : World} {B : Nat} {e : TypeId} {s n c m : Nat} {ao : Option Addr} {xs : List Value} (h : w.ownsRow B e s (.slice ao n c) n xs) (hm : m ≤ n) : w.ownsRow B e s (.slice ao m c) m (xs.take (m * s)) := by
  rcases h.2 with ⟨h1, h2⟩ | ⟨g, c', cur, h1, h2, h3⟩
  · injection h1 with e1 e2 e3
    subst e1 e2 e3
    obtain rfl : m = 0 := by omega
    refine ⟨by simp, .inl ⟨rfl, rfl⟩⟩
  · injection h1 with e1 e2 e3
    subst e1
    exact row_take h hm
theorem Hin.of {w : World} {B : Nat} {e : TypeId} {s n : Nat} {v : Value} {xs : List Value} (h : w.ownsRow B e s v n xs) : Hin w (fun _ => 0) v n s xs := by
  obtain ⟨ao, c, rfl, h1, h2, h3, hp⟩ := row_shape h
  refine ⟨h.1, ao, c, rfl, h2, h3, h1, fun hn => ?_⟩
  obtain ⟨g, rfl⟩ := hp (by omega)
  obtain ⟨cur, hc⟩ := row_block h g rfl
  exact ⟨g, 0, rfl, rfl, lt_of_block hc, fun j u hj => by rw [Nat.zero_add]; exact row_cell h j u hj⟩
theorem own_at7 {W : World} {z g7 c c7 : Nat} (hz : z ≤ W.heap.size) (h : ∀ b, (Value.slice (some ⟨g7, 0, none⟩) c c7).ownBlock = some b → (Value.slice (some ⟨z, 0, none⟩) 0 0).ownBlock = some b ∨ W.heap.size ≤ b) : z ≤ g7 := by
  rcases h g7 rfl with e | e
  · simp only [Value.ownBlock, Option.some.injEq] at e
    omega
  · omega
def Rl.wake (r : Rl) : Rl := { r with pl := .slice none 0 0 }
theorem RR.woken {w : World} {r : Rl} {M : Md} (h : RR w r M) :
    RR ((w.setCell ⟨r.d, 5, none⟩ (.slice none 0 0)).setCell ⟨r.d, 6, none⟩ (.bool false)) r.wake M.wake ∧ Afr w ((w.setCell ⟨r.d, 5, none⟩ (.slice none 0 0)).setCell ⟨r.d, 6, none⟩ (.bool false)) r r.wake := by
  have g : w.grownBy ((w.setCell ⟨r.d, 5, none⟩ (.slice none 0 0)).setCell ⟨r.d, 6, none⟩ (.bool false)) (some r.d) := gb_setCell (gb_setCell (gb_refl _ _) _) _
  have hK : Kp (fun b => b = r.d) w ((w.setCell ⟨r.d, 5, none⟩ (.slice none 0 0)).setCell ⟨r.d, 6, none⟩ (.bool false)) := (Kp.refl _ w).step g (fun i hi => .inl (Option.some.inj hi).symm)
  have nbk : ∀ b, r.col b ≠ 0 → r.col b ≠ 1 → ((w.setCell ⟨r.d, 5, none⟩ (.slice none 0 0)).setCell ⟨r.d, 6, none⟩ (.bool false)).heap[b]? = w.heap[b]? := fun b h0 h1 => hK.block b (h.lt b h0) (fun e => h1 (by rw [e, h.cd]))
  refine ⟨?_, ?_⟩
  · exact {
      box := (h.box.set 5 _).set 6 _
      fl := row_same h.fl (fun b hb => nbk b (by rw [h.cf b hb]; decide) (by rw [h.cf b hb]; decide))
      fr := fun k hl => row_same (h.fr k hl) (fun b hb => nbk b (by rw [h.cr k b hl hb]; omega) (by rw [h.cr k b hl hb]; omega))
      sf := by
        obtain ⟨L, a1, a2⟩ := h.sf
        exact ⟨L, row_same a1 (fun b hb => nbk b (by rw [h.cs b hb]; decide) (by rw [h.cs b hb]; decide)), a2⟩
      ch := row_same h.ch (fun b hb => nbk b (by rw [h.cc b hb]; decide) (by rw [h.cc b hb]; decide))
      pl := ⟨[], World.ownsRow_nil _ _ _ _, by simp, fun i => rfl⟩
      cd := h.cd
      cf := h.cf
      cs := h.cs
      cc := h.cc
      cp := fun b hb => by simp [Rl.wake, Value.ownBlock] at hb
      cr := h.cr
      lt := fun b hb => Nat.lt_of_lt_of_le (h.lt b hb) hK.size
      ok := h.ok.wake }
  · refine ⟨hK.mono (fun b hb => .inl ?_), rfl, fun b hl hb => hb⟩
    rw [hb, h.cd]; decide
/-- File k cut: its new row, its cells in the list of files. -/
theorem rcut_fin {w w7 : World} {r : Rl} {M : Md} (h : RR w r M) {k : Nat} (hk : k < M.files.length) {gf fcp : Nat} (ef : r.fv = .slice (some ⟨gf, 0, none⟩) M.files.length fcp) (c : Nat) (hc : c ≤ (M.file k).1.length) {g7 c7 : Nat}
    (hown : w7.ownsRow 0 5 1 (.slice (some ⟨g7, 0, none⟩) c c7) c (((M.file k).1.take c).map b8)) (g : w.grownBy w7 none) (hg7 : w.heap.size ≤ g7) :
    RR ((w7.setCell ⟨gf, k * 2, none⟩ (.slice (some ⟨g7, 0, none⟩) c c7)).setCell ⟨gf, k * 2 + 1, none⟩ (.int .i64 (c : Int))) (r.put k (.slice (some ⟨g7, 0, none⟩) c c7)) (M.put k ((M.file k).1.take c, c)) ∧
      Afr w ((w7.setCell ⟨gf, k * 2, none⟩ (.slice (some ⟨g7, 0, none⟩) c c7)).setCell ⟨gf, k * 2 + 1, none⟩ (.int .i64 (c : Int))) r (r.put k (.slice (some ⟨g7, 0, none⟩) c c7)) := by
  have hgfd : r.fv.ownBlock = some gf := by rw [ef]; rfl
  have hgl := h.lt gf (by rw [h.cf gf hgfd]; decide)
  have gd : w7.grownBy ((w7.setCell ⟨gf, k * 2, none⟩ (.slice (some ⟨g7, 0, none⟩) c c7)).setCell ⟨gf, k * 2 + 1, none⟩ (.int .i64 (c : Int))) (some gf) := gb_setCell (gb_setCell (gb_refl _ _) _) _
  have hnb := h.ok.nb (M.file k) (List.mem_of_getElem? (file_some hk))
  have hlt : ((M.file k).1.take c).length = c := by rw [List.length_take]; omega
  have row3 := row_kept h.fl g (by simp)
  rw [ef] at row3
  have s1 := row_set row3 (k * 2 + 0) (.slice (some ⟨g7, 0, none⟩) c c7)
  have s2 := row_set s1 (k * 2 + 1) (.int .i64 (c : Int))
  let F1 : Nat → List Value := fun j => if j = k then [.slice (some ⟨g7, 0, none⟩) c c7, .int .i64 ((M.file k).2 : Int)] else flsL r M j
  have l1 : ∀ i, (F1 i).length = 2 := fun i => by
    by_cases hi : i = k
    · simp only [F1, if_pos hi]; rfl
    · simp only [F1, if_neg hi]; rfl
  have e1 : ∀ j, j ≠ k → F1 j = flsL r M j := fun j hj => if_neg hj
  have e1k : F1 k = (flsL r M k).set 0 (.slice (some ⟨g7, 0, none⟩) c c7) := by
    show (if k = k then _ else _) = _
    rw [if_pos rfl]
    rfl
  have e2 : ∀ j, j ≠ k → flsL (r.put k (.slice (some ⟨g7, 0, none⟩) c c7)) (M.put k ((M.file k).1.take c, c)) j = F1 j := fun j hj => by
    rw [e1 j hj]
    show [upd r.rb k _ j, .int .i64 (((M.put k _).file j).2 : Int)] = _
    rw [upd_other _ _ hj, file_put M k j _ hk, if_neg hj]
  have e2k : flsL (r.put k (.slice (some ⟨g7, 0, none⟩) c c7)) (M.put k ((M.file k).1.take c, c)) k = (F1 k).set 1 (.int .i64 (c : Int)) := by
    rw [e1k]
    show [upd r.rb k _ k, .int .i64 (((M.put k _).file k).2 : Int)] = _
    rw [upd_same, file_put M k k _ hk, if_pos rfl]
    rfl
  rw [rng_set (fun i => fls_len r M i) (by omega) _ e1 e1k hk] at s2
  rw [rng_set l1 (by omega) _ e2 e2k hk] at s2
  refine h.filed (f := ((M.file k).1.take c, c)) (v := .slice (some ⟨g7, 0, none⟩) c c7) hk (by simp only [hlt]; omega) (by simp only [hlt]; omega) (by rw [ef]; exact s2) ?_ ?_ ?_
  · simp only [hlt]
    refine row_kept hown gd (fun x hx e => ?_)
    simp only [Value.ownBlock, Option.some.injEq] at hx
    have := Option.some.inj e
    omega
  · exact (Kp.of g).step gd (fun i hi => .inl (.inl (by rw [hgfd]; exact hi)))
  · intro x hx
    simp only [Value.ownBlock, Option.some.injEq] at hx
    exact .inr (by omega)
set_option maxRecDepth 100000 in
set_option maxHeartbeats 4000000 in
theorem rrestart_12 {w : World} {r : Rl} {M : Md} (h : RR w r M) {lv : Value} {ls : List Int} (hlv : Hin w r.col lv ls.length 1 (ls.map (Value.int .i64))) (nk : Int) (hsm : ∀ k, (M.file k).1.length ≤ 1000000000) :
    Calls Try.prog 12 #[pv r.d, .agg #[lv, .int .i64 nk]] w fun e w' => e = .returned (.tuple #[]) ∧ ∃ r', RR w' r' (((M.settle (btw nk M.ch.length).toNat).cutBy (dn M.files.length) ls).wake) ∧ Afr w w' r r' := by
  obtain ⟨t38, T38⟩ := ty38
  have hnf := h.ok.nf
  have hna := h.ok.na
  obtain ⟨_, la, lc, el, hlc1, hlc2, hlc3, hlp⟩ := id hlv
  have hbt := btw_in nk (M.ch.length : Int) (by omega)
  obtain ⟨n, hn⟩ : ∃ n : Nat, btw nk (M.ch.length : Int) = (n : Int) := ⟨_, (Int.toNat_of_nonneg hbt.1).symm⟩
  have h50 := fun W => between_50 nk (M.ch.length : Int) W
  rw [hn] at h50 hbt ⊢
  rw [Int.toNat_natCast]
  have g0 := gb_alloc (gb_refl w none) (.cells #[lv, .int .i64 nk] 42)
  have B0 := Box.new w 42 #[lv, .int .i64 nk]
  have h0 := h.gb g0
  have hlv0 := hlv.gb g0
  obtain ⟨cao, ccp, ec, -⟩ := row_shape h.ch
  obtain ⟨W, hW⟩ : ∃ W, w.alloc (.cells #[lv, .int .i64 nk] 42) = W := ⟨_, rfl⟩
  have hs0 : W.heap.size = w.heap.size + 1 := by rw [← hW]; simp
  rw [hW] at g0 B0 h0 hlv0
  have c1 : W.cell? ⟨w.heap.size, 1, none⟩ = some (.int .i64 nk) := B0.cell 1
  have c3 : W.cell? ⟨r.d, 3, none⟩ = some r.cv := h0.box.cell 3
  rw [ec] at c3
  have h49 := fun (V : World) (gV : W.grownBy V none) => after_49 (h0.gb gV) (n : Int) (by omega) (by omega)
  simp only [Int.toNat_natCast] at h49
  have hcz : r.col w.heap.size = 0 := by
    by_cases hz : r.col w.heap.size = 0
    · exact hz
    · have := h.lt _ hz; omega
  have HH := Lib.hid (And.intro h (And.intro h0 (And.intro g0 (And.intro hlv0 (And.intro B0 (And.intro hs0 hcz))))))
  have hdl := h0.lt r.d (by rw [h0.cd]; decide)
  clear h h0 hlv hlv0 ec B0 g0 hcz
  subst el
  generalize hcl : M.ch.length = cl at *
  go_enter Try.func12, Try.ntmps12
  go_upto_region 1 with fail
  go_region_with (first
    | (go_at_call 50; go_must (refine (h50 _).mono ?_); rintro y w9 ⟨rfl, hw9⟩; have hw8 := hw9.symm; subst hw8)
    | (go_at_call 49; go_must (refine (h49 _ (gb_drew (gb_refl _ _))).mono ?_); rintro y w9 ⟨v9, L9, rfl, hN9, hR9, hL9, g9⟩; obtain ⟨va, vc, ev, -⟩ := row_shape hN9; subst ev; (have b9 := HH.out.2.1.box.kept (gb_trans (gb_drew (gb_refl W none)) g9) (by simp)); (have c2 : w9.cell? ⟨r.d, 2, none⟩ = some r.sf := b9.cell 2); (have f2 : w9.frozen? ⟨r.d, 2, none⟩ = false := b9.fz 2); (have k3 : w9.cell? ⟨r.d, 3, none⟩ = some r.cv := b9.cell 3); (have f3 : w9.frozen? ⟨r.d, 3, none⟩ = false := b9.fz 3); (have H9 := Lib.hid (And.intro hN9 (And.intro hR9 (And.intro hL9 (And.intro g9 b9))))); clear hN9 hR9 hL9 g9 b9))
  all_goals
    obtain ⟨hN9, hR9, hL9, g9, b9⟩ := H9.out
    obtain ⟨h, h0, g0, hlv0, B0, hs0, hcz⟩ := HH.out
    have gW9 : w.grownBy w9 none := gb_trans g0 (gb_trans (gb_drew (gb_refl W none)) g9)
    have gd : w9.grownBy ((w9.setCell ⟨r.d, 2, none⟩ (.slice va L9.length vc)).setCell ⟨r.d, 3, none⟩ (.slice none 0 0)) (some r.d) := gb_setCell (gb_setCell (gb_refl _ _) _) _
    have R := h.settled (n := n) (v := .slice va L9.length vc) (L := L9) (row_base (row_kept hN9 gd (fun j hj e => by have := (row_ge hN9 hj).1; have e2 := Option.some.inj e; have : W.drew.heap.size = w.heap.size + 1 := hs0; omega)) (Nat.zero_le _)) hR9 hL9 (fun b hb => by have := (row_ge hN9 hb).1; have : W.drew.heap.size = w.heap.size + 1 := hs0; omega) ((b9.set 2 _).set 3 _) ((Kp.of gW9).step gd (fun i hi => .inl (Option.some.inj hi).symm))
    have hcz9 : (r.settle (.slice va L9.length vc)).col w.heap.size = 0 := by
      by_cases hz : (r.settle (.slice va L9.length vc)).col w.heap.size = 0
      · exact hz
      · have hz' : (if (Value.slice va L9.length vc).ownBlock = some w.heap.size then 3 else r.col w.heap.size) ≠ 0 := hz
        rw [if_neg (fun e => by have := (row_ge hN9 e).1; have : W.drew.heap.size = w.heap.size + 1 := hs0; omega)] at hz'
        exact absurd hcz hz'
    have hlv9 := hlv0.gb (gb_trans (gb_drew (gb_refl W none)) g9)
    have hlvV : Hin ((w9.setCell ⟨r.d, 2, none⟩ (.slice va L9.length vc)).setCell ⟨r.d, 3, none⟩ (.slice none 0 0)) r.col (.slice la ls.length lc) ls.length 1 (ls.map (Value.int .i64)) := hlv9.keep (fun b hb hc => gd.block b hb (fun e => by rw [Option.some.inj e, h.cd] at hc; omega)) gd.size
    have hlvW : Hin ((w9.setCell ⟨r.d, 2, none⟩ (.slice va L9.length vc)).setCell ⟨r.d, 3, none⟩ (.slice none 0 0)) (fun b => if b < w.heap.size then r.col b else 1) (.slice la ls.length lc) ls.length 1 (ls.map (Value.int .i64)) := by
      obtain ⟨e1, ao, c, e2, e3, e4, e5, e6⟩ := hlvV
      refine ⟨e1, ao, c, e2, e3, e4, e5, fun hn0 => ?_⟩
      obtain ⟨bb, oo, f1, f2, f3, f4⟩ := e6 hn0
      obtain ⟨b2, o2, k1, k2, k3, k4⟩ := hlp hn0
      injection e2 with e2 _ _
      rw [f1, k1] at e2
      have e7 := (Addr.mk.inj (Option.some.inj e2)).1
      exact ⟨bb, oo, f1, by rw [← e7] at *; simp only [if_pos k3]; exact k2, f3, f4⟩
    have bxV : Box ((w9.setCell ⟨r.d, 2, none⟩ (.slice va L9.length vc)).setCell ⟨r.d, 3, none⟩ (.slice none 0 0)) 42 w.heap.size #[.slice la ls.length lc, .int .i64 nk] := (B0.kept (gb_trans (gb_drew (gb_refl W none)) g9) (by simp)).kept gd (fun e => by have := Option.some.inj e; rw [this, h.cd] at hcz; omega)
    obtain ⟨M1, hM1⟩ : ∃ M1, M.settle n = M1 := ⟨_, rfl⟩
    obtain ⟨r1, hr1⟩ : ∃ r1, r.settle (.slice va L9.length vc) = r1 := ⟨_, rfl⟩
    have hd1 : r1.d = r.d := by rw [← hr1]; rfl
    have hfile : ∀ k, M1.file k = M.file k := fun k => by rw [← hM1]; rfl
    have hfl1 : M.files.length = M1.files.length := by rw [← hM1]; rfl
    rw [hM1, hr1] at R
    rw [hr1] at hcz9
    clear hN9 hR9 hL9 g9 b9 h h0 g0 hlv0 B0 H9 hlv9 hlvV h49 h50 c1 c3 gd gW9 HH hW
    go_upto_region 3 with fail
    obtain ⟨V, hV⟩ : ∃ V, (w9.setCell ⟨r.d, 2, none⟩ (.slice va L9.length vc)).setCell ⟨r.d, 3, none⟩ (.slice none 0 0) = V := ⟨_, rfl⟩
    rw [hV] at R hlvW bxV ⊢
    have HV := Lib.hid (And.intro R (And.intro hlvW (And.intro bxV hcz9)))
    obtain ⟨nf, hnff⟩ : ∃ nf, M1.files.length = nf := ⟨_, rfl⟩
    have HN := Lib.hid (And.intro hM1 (And.intro hfl1 (And.intro hfile (And.intro hcl hnff))))
    rw [hfl1, hnff] at hnf
    clear R hlvW bxV hV hcz9 hr1 hfl1 hfile hM1 c2 f2 k3 f3 hcl hnff hn hbt
    go_wp2_with fail
    go_loopw [4] (fun x4 wr => ∃ (i : Nat) (r' : Rl), i ≤ nf ∧ x4 = .int .i64 (i : Int) ∧ RR wr r' (M1.cutBy (dn i) ls) ∧ Afr V wr r1 r') (fun x4 _ => nf - (intOf x4).toNat)
    case atStart => exact ⟨0, r1, by omega, rfl, by rw [show dn 0 = [] from rfl, cutBy_nil]; exact HV.out.1.1, Afr.refl _ _⟩
    case round =>
      obtain ⟨i, r', hi, rfl, hR, hA⟩ := hrel
      have hd' : r'.d = r.d := hA.d.trans hd1
      have hbx := hR.box
      rw [hd'] at hbx
      have hclen : (M1.cutBy (dn i) ls).files.length = nf := by rw [cutBy_len]; exact HN.out.2.2.2.2
      by_cases hlt : i < nf
      · have hif : i < (M1.cutBy (dn i) ls).files.length := by rw [hclen]; exact hlt
        have hin : i ∉ dn i := by rw [mem_dn]; omega
        have hfe : (M1.cutBy (dn i) ls).file i = M1.file i := by rw [cutBy_file M1 _ ls i (by rw [← cutBy_len M1 (dn i) ls]; exact hif), if_neg hin]
        have hfr := hR.fr i hif
        have hfle := HV.out.1.1.ok.fl (M1.file i) (List.mem_of_getElem? (file_some (by rw [← cutBy_len M1 (dn i) ls]; exact hif)))
        have hfsm : (M1.file i).1.length ≤ 1000000000 := by rw [HN.out.2.2.1]; exact hsm i
        have hcl := cutN_le (M1.file i) ls[i]? hfle
        obtain ⟨fao, fcp, ef, -, -, hfcp, hfpos⟩ := row_shape hR.fl
        rw [hclen] at ef hfpos
        obtain ⟨gf, rfl⟩ := hfpos (by omega)
        have hfl := hR.fl
        rw [ef, hclen] at hfl
        obtain ⟨bao, bcp, eb, -, hbc, hbcm, -⟩ := row_shape hfr
        rw [hfe] at eb hbc hfr
        rw [eb] at hfr
        obtain ⟨f, hf⟩ : ∃ f, M1.file i = f := ⟨_, rfl⟩
        rw [hf] at eb hbc hfr hfle hfsm hcl
        have q0 : wr.cell? ⟨gf, i * 2, none⟩ = some (.slice bao f.1.length bcp) := by
          have := row_cell hfl (i * 2 + 0) _ (by rw [rng_get (fun i => fls_len r' _ i) hlt (by omega)]; rfl)
          rw [eb] at this
          exact this
        have q1 : wr.cell? ⟨gf, i * 2 + 1, none⟩ = some (.int .i64 (f.2 : Int)) := by
          have := row_cell hfl (i * 2 + 1) _ (by rw [rng_get (fun i => fls_len r' _ i) hlt (by omega)]; rfl)
          rw [hfe, hf] at this
          exact this
        have c1 : wr.cell? ⟨r.d, 1, none⟩ = some r'.fv := hbx.cell 1
        rw [ef] at c1
        have hbx42 := hA.kp.box HV.out.2.2.1 (by rw [HV.out.2.2.2]; simp)
        have c0 : wr.cell? ⟨w.heap.size, 0, none⟩ = some (.slice la ls.length lc) := hbx42.cell 0
        obtain ⟨c, hc⟩ : ∃ c, cutN f ls[i]? = c := ⟨_, rfl⟩
        rw [hc] at hcl
        have hcf : cutF ls i f = (f.1.take c, c) := by unfold cutF; rw [hc]
        have hbt := Hin.of (row_take0 hfr hcl)
        rw [Nat.mul_one, ← List.map_take] at hbt
        have hone := b8_one (f.1.take c)
        have hflH := Lib.hid hfl
        have HOK := Lib.hid HV.out.1.1.ok.fl
        have HQ := Lib.hid (And.intro hR (And.intro hA (And.intro hif (And.intro ef (And.intro hfe (And.intro hf hcf))))))
        have hki : (i : Int) < (nf : Int) := by omega
        unfold maxLen at hbcm hfcp
        have i0 : (0 : Int) ≤ (c : Int) := by omega
        have i1 : (c : Int) ≤ (bcp : Int) := by omega
        have i2 : c ≤ bcp := by omega
        have hwi : IntKind.i64.wrap ((i : Int) + 1) = (i : Int) + 1 := by rw [IntKind.wrap_i64]; omega
        have HC := Lib.hid hc
        clear hbx hbx42 hR hA hif hfe hf hcf ef eb hfr hfl hfpos hclen hc
        generalize hys : (f.1.take c).map b8 = ys at *
        go_upto_if 43 with fail
        go_cut [5] from 43 to 62 (fun v wd => v = .int .i64 (c : Int) ∧ wr.grownBy wd none)
        case first =>
          by_cases hkn : i < ls.length
          · obtain ⟨x, hx⟩ : ∃ x, ls[i]? = some x := ⟨_, List.getElem?_eq_getElem hkn⟩
            have hlw : Hin wr (fun b => if b < w.heap.size then r.col b else 1) (.slice la ls.length lc) ls.length 1 (ls.map (Value.int .i64)) := HV.out.2.1.kp HQ.out.2.1.kp (fun b hb hc0 => by
              by_cases hbl : b < w.heap.size
              · rw [if_pos hbl] at hc0
                exact HV.out.1.2.col b hbl hb hc0
              · rw [if_neg hbl] at hc0
                omega)
            obtain ⟨_, lao, lcc, e2, _, _, _, e6⟩ := hlw
            obtain ⟨lb, lo, f1, _, _, f4⟩ := e6 (by omega)
            injection e2 with e2 _ e3
            subst e3
            rw [f1] at e2
            subst e2
            have q3 : wr.cell? ⟨lb, lo + i, none⟩ = some (.int .i64 x) := f4 i _ (by rw [List.getElem?_map, hx]; rfl)
            have hbt2 := btw_in x ((f.1.length : Int) - (f.2 : Int)) (by omega)
            have h50 := fun W => between_50 x ((f.1.length : Int) - (f.2 : Int)) W
            obtain ⟨mo, hmo⟩ : ∃ mo : Nat, btw x ((f.1.length : Int) - (f.2 : Int)) = (mo : Int) := ⟨_, (Int.toNat_of_nonneg hbt2.1).symm⟩
            rw [hmo] at h50 hbt2
            have hcz : c = f.2 + mo := by
              rw [← HC.out, hx]
              unfold cutN
              simp only [hmo, Int.toNat_natCast]
            have hkn2 : (i : Int) < ((ls.length : Nat) : Int) := by omega
            have hk0 : (0 : Int) ≤ (i : Int) := by omega
            have hw1 : IntKind.i64.wrap ((f.1.length : Int) - (f.2 : Int)) = (f.1.length : Int) - (f.2 : Int) := by rw [IntKind.wrap_i64]; omega
            have hw2 : IntKind.i64.wrap ((f.2 : Int) + (mo : Int)) = ((c : Nat) : Int) := by rw [IntKind.wrap_i64]; omega
            clear hlp hmo hcz hx f1 f4 e6 HV HQ hbt hone
            generalize hnl : ls.length = nl at *
            go_upto_region 8 with fail
            go_quiet ((go_at_call 50; exact Calls.quiet_of_same (h50 _)))
            go_wp2_with fail
            go_meet
            exact ⟨rfl, gb_drewN (gb_refl _ _) _⟩
          · have hcz : c = f.2 := by
              rw [← HC.out, List.getElem?_eq_none (by omega)]
              rfl
            have hkn2 : ((ls.length : Nat) : Int) ≤ (i : Int) := by omega
            clear HV HQ hbt hone hlp
            generalize hnl : ls.length = nl at *
            go_wp2_with fail
            go_meet
            exact ⟨by rw [hcz], gb_refl _ _⟩
        case rest =>
          obtain ⟨rfl, gX⟩ := hcut
          obtain ⟨X, hX⟩ : ∃ X, X = wc := ⟨_, rfl⟩
          subst hX
          clear HV
          have cX1 := gb_cellN gX c1
          have qX0 := gb_cellN gX q0
          have hdl2 : r.d < _ := World.block_lt_of_cell? _ _ cX1
          have hgl2 : gf < _ := World.block_lt_of_cell? _ _ qX0
          have gZ : X.grownBy (X.drew.alloc (.cells #[] 5)) none := gb_alloc (gb_drew (gb_refl X none)) _
          have cZ1 := gb_cellN gZ cX1
          have qZ0 := gb_cellN gZ qX0
          have qZ1 := gb_cellN (gb_trans gX gZ) q1
          have hbtZ := hbt.gb (gb_trans gX gZ)
          have hflZ := row_kept hflH.out (gb_trans gX gZ) (by simp)
          have hE0 : (X.drew.alloc (.cells #[] 5)).ownsRow 0 5 1 (.slice (some ⟨X.heap.size, 0, none⟩) 0 0) 0 [] := ⟨rfl, .inr ⟨X.heap.size, 0, #[], rfl, Nat.zero_le _, heap_alloc_new _ _, Nat.le_refl _, by unfold maxLen; omega, rfl, rfl⟩⟩
          clear hbt q0 q1 c0 c1
          go_upto_region 9 with fail
          go_region_law (refine step_hin T38 (w := X.drew.alloc (.cells #[] 5)) (by rfl) (.tmp 68) (.tmp 78) (by rfl) (.slice (some ⟨X.heap.size, 0, none⟩) 0 0) 0 [] (by rfl) hE0 c (.slice bao c bcp) ys (by rfl) hbtZ hone (by omega) ?_; intro a7 c7 w7 hown7 hg7 hat7 hsm7; obtain ⟨g7, rfl⟩ := hsm7 ⟨_, rfl⟩; rw [Nat.zero_add, List.nil_append] at hown7; have hg8 : (X.drew.alloc (.cells #[] 5)).grownBy w7 (some X.heap.size) := hg7; have s7 := gb_cell hg8 cZ1 (by simp; omega); have u7 := gb_cell hg8 qZ0 (by simp; omega); have rf7 := row_kept hflZ hg8 (fun x hx e => by simp [Value.ownBlock] at hx; have := Option.some.inj e; omega); have f7 : w7.frozen? ⟨gf, i * 2, none⟩ = false := (by obtain ⟨cur, hcur⟩ := row_block rf7 gf rfl; simp [World.frozen?, hcur]); have f8 : w7.frozen? ⟨gf, i * 2 + 1, none⟩ = false := (by obtain ⟨cur, hcur⟩ := row_block rf7 gf rfl; simp [World.frozen?, hcur]); have u8 := gb_cell hg8 qZ1 (by simp; omega); have hb7 : X.heap.size ≤ g7 := own_at7 (W := X.drew.alloc (.cells #[] 5)) (z := X.heap.size) (by simp) hat7; have HW7 := Lib.hid (And.intro hown7 (And.intro hg8 hb7)); clear hown7 hg7 hg8 hat7 hb7 rf7)
          all_goals
            obtain ⟨hown7, hg8, hb7⟩ := HW7.out
            have gw7 : wr.grownBy w7 none := gb_mine (gb_trans gX gZ) hg8 (by have := gX.size; omega)
            go_wp2_with fail
            obtain ⟨hR, hA, hif, ef, hfe, hf, hcf⟩ := HQ.out
            have hT := rcut_fin hR hif (gf := gf) (fcp := fcp) (by rw [ef, cutBy_len, HN.out.2.2.2.2]) c (by rw [hfe, hf]; exact hcl) (g7 := g7) (c7 := c7) (by rw [hfe, hf, hys]; exact hown7) gw7 (by have := gX.size; omega)
            have hif1 : i < M1.files.length := by rw [HN.out.2.2.2.2]; exact hlt
            have hst := cutBy_step M1 (dn i) ls i hif1 HOK.out
            rw [hfe, hf] at hst hT
            rw [hcf] at hst
            rw [hst] at hT
            refine ⟨⟨i + 1, _, by omega, by first | rfl | simp, hT.1, hA.trans hT.2⟩, by simp [intOf]; omega⟩
      · obtain rfl : i = nf := by omega
        have d1 : decide ((i : Int) < (i : Int)) = false := by simp
        obtain ⟨fao, fcp, ef, -⟩ := row_shape hR.fl
        rw [hclen] at ef
        have q1 : wr.cell? ⟨r.d, 1, none⟩ = some r'.fv := hbx.cell 1
        rw [ef] at q1
        have q5 : wr.cell? ⟨r.d, 5, none⟩ = some r'.pl := hbx.cell 5
        have q6 : wr.cell? ⟨r.d, 6, none⟩ = some _ := hbx.cell 6
        have z5 : wr.frozen? ⟨r.d, 5, none⟩ = false := hbx.fz 5
        have z6 : wr.frozen? ⟨r.d, 6, none⟩ = false := hbx.fz 6
        have hwk := hR.woken
        rw [hd'] at hwk
        have HZ := Lib.hid (show _ ∧ _ from ⟨hwk.1, HV.out.1.2.trans (hA.trans hwk.2)⟩)
        clear hwk hbx hR hA ef hclen HV
        go_wp2_with fail
        go_end0
        obtain ⟨hM1, hfl1, hfile, hcl, hnff⟩ := HN.out
        refine ⟨rfl, r'.wake, ?_, HZ.out.2⟩
        rw [hM1, hfl1, hnff]
        exact HZ.out.1
end Go.Proofs.Ytndjimdegkdljaa
