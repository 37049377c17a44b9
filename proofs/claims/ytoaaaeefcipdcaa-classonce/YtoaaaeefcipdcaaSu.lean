import Derived.Test.YtoaaaeefcipdcaaSt
/-
  Give.
-/
namespace Go.Proofs.Ytoaaaeefcipdcaa
open Go.RowKit
set_option linter.unusedVariables false

section
variable {w : World} {sb : Nat} {F : Nat → Prop} {B : Bl} {b c d e f g : Int} {A : Ab} {zs : List Int}

theorem give_no (h : IsS w sb F B b c d e f g A zs) (hA : Fit2 A) {H : Nat} (h64 : H < 18446744073709551616) (hH : ∀ p k, ¬ IsH A H p k) :
    Calls Try.prog 25 #[.pointer (some ⟨sb, 0, none⟩), .int .u64 H] w fun y w' => y = .returned (.int .i64 20) ∧ w.grownBy w' none := by
  have hg := good_no h hA h64 hH
  clear h hH
  go_enter Try.func25, Try.ntmps25
  go_wp2_with (first | (go_at_call 67; go_must (refine hg.mono ?_); rintro y w1 ⟨rfl, hf⟩) | fail)
  go_ret
  exact ⟨rfl, hf⟩

/-- A Set behind the first writes of Give. -/
def Ab.gave (A : Ab) (p k v : Nat) : Ab := ((A.stkn p k false).sgen p k v).stk (A.own p) (A.tk (A.own p) - 1)

set_option maxRecDepth 100000 in
set_option maxHeartbeats 4000000 in
theorem give_yes (h : IsS w sb F B b c d e f g A zs) (hI : Inv A) {H p k : Nat} (hH : IsH A H p k) (v : Nat) (hv : Hid (v = (A.gen p k + 1) % 4294967296)) :
    Calls Try.prog 25 #[.pointer (some ⟨sb, 0, none⟩), .int .u64 H] w fun y w' => y = .returned (.int .i64 0) ∧ Kp F w w' ∧ ∃ F' B', IsS w' sb F' B' b c d e f g (A.given p k v) zs ∧ ∀ k, F' k → F k ∨ w.heap.size ≤ k := by
  have hA := hI.fit
  have hp := hH.hp
  have hk := hH.hk
  have ht := hH.ht
  have ho := hA.on p hp
  obtain ⟨o, hoo⟩ : ∃ o, o = A.own p := ⟨_, rfl⟩
  have hpos : 1 ≤ A.tk o := by
    rw [hoo, hI.tc _ ho, tkc_give hp hk ht (A.own p)]; simp
  have hrt := hA.rt _ ho
  have hpl := (place_le hA.toFit1 hp hk).1
  have hgn := hA.gn p k
  have hg := (good_yes h hA hH).mono (R' := fun y w1 => y = .returned (.tuple #[.pointer (some ⟨B.cb p, k * 2, none⟩), .int .i64 (A.place p k), .int .i64 (A.own p)]) ∧ w.grownBy w1 none ∧ IsS w1 sb F B b c d e f g A zs) (by rintro y w1 ⟨rfl, hf⟩; exact ⟨rfl, hf, h.kept0 hf⟩)
  have hnum := fun W => numberOf_60 (A.place p k) (by omega) W
  rw [show A.place p k / 8 + 1 = A.num p k from rfl] at hnum
  -- all that is known of a world behind 'good'
  have pk : ∀ w1, IsS w1 sb F B b c d e f g A zs →
      (w1.cell? ⟨B.cb p, k * 2, none⟩ = some (.int .u32 (A.gen p k)) ∧ w1.cell? ⟨B.cb p, k * 2 + 1, none⟩ = some (.bool true) ∧ (∀ j, w1.frozen? ⟨B.cb p, j, none⟩ = false) ∧ w1.cell? ⟨sb, 8, none⟩ = some (.slice (some ⟨B.kb, 0, none⟩) A.n B.kc) ∧ w1.cell? ⟨B.kb, o * 4 + 3, none⟩ = some (.int .i64 (A.tk o)) ∧ (∀ j, w1.frozen? ⟨B.kb, j, none⟩ = false) ∧ B.cb p ≠ B.kb ∧ B.cb p ≠ sb ∧ B.kb ≠ sb) ∧
      IsS (((w1.setCell ⟨B.cb p, k * 2 + 1, none⟩ (.bool false)).setCell ⟨B.cb p, k * 2, none⟩ (.int .u32 (v : Int))).setCell ⟨B.kb, o * 4 + 3, none⟩ (.int .i64 ((A.tk o : Int) - 1))) sb F B b c d e f g (A.gave p k v) zs ∧
      Kp F w1 (((w1.setCell ⟨B.cb p, k * 2 + 1, none⟩ (.bool false)).setCell ⟨B.cb p, k * 2, none⟩ (.int .u32 (v : Int))).setCell ⟨B.kb, o * 4 + 3, none⟩ (.int .i64 ((A.tk o : Int) - 1))) := by
    intro w1 h1
    obtain ⟨c0, c1⟩ := ccell h1 hp hk
    rw [ht] at c1
    have hcb := h1.chunks p hp
    have c8 := h1.sc 8
    simp [setC] at c8
    obtain ⟨kcur, hkb⟩ := h1.kbl
    have k3 := h1.kcell ho (j := 3) (by omega)
    simp only [kindC, List.getElem?_cons_zero, List.getElem?_cons_succ] at k3
    rw [← hoo] at k3
    have s1 := h1.stkn hp hk false
    have s2 := s1.sgen (p := p) (k := k) hp hk v
    have s3 := s2.stk (i := A.own p) ho (A.tk (A.own p) - 1)
    have e1 : ((A.tk (A.own p) - 1 : Nat) : Int) = (A.tk o : Int) - 1 := by rw [← hoo]; omega
    rw [e1, ← hoo] at s3
    refine ⟨⟨c0, c1, fun j => by simp [World.frozen?, hcb], c8, k3, fun j => by simp [World.frozen?, hkb], ne_of_type hcb hkb (by decide), ne_of_type hcb h1.box (by decide), ne_of_type hkb h1.box (by decide)⟩, by unfold Ab.gave; rw [← hoo]; exact s3, ?_⟩
    exact ((h1.kp_set (h1.fc p hp) _).trans (s1.kp_set (h1.fc p hp) _) (fun _ h => h) (fun _ h => .inl h)).trans (s2.kp_set h1.fk _) (fun _ h => h) (fun _ h => .inl h)
  have hwv : IntKind.u32.wrap ((A.gen p k : Int) + 1) = v := by
    have := hv.out
    rw [IntKind.wrap_u32]; omega
  have hn2 := hA.n2
  have HG : Hid (∀ q : Ab, q = A.gave p k v → q.push o (A.num p k) = A.given p k v) := by
    intro q hq; rw [hq, hoo]; rfl
  rw [← hoo] at hg hrt ho
  have hrowe : (A.gave p k v).row = A.row := rfl
  have hne : (A.gave p k v).n = A.n := rfl
  clear h hH ht hI hv hoo
  generalize hAG : A.given p k v = AG at *
  generalize hAV : A.gave p k v = AV at *
  generalize A.place p k = pl at *
  generalize A.num p k = x at *
  generalize A.gen p k = gn at *
  go_enter Try.func25, Try.ntmps25
  go_wp2_with (first | (go_at_call 67; go_must (refine hg.mono ?_); rintro y w1 ⟨rfl, hf, hS1⟩; obtain ⟨⟨p0, p1, pz, p8, p3, kz, n1, n2, n3⟩, hS3, hK3⟩ := pk w1 hS1; (have pz0 := pz (k * 2)); (have pz1 := pz (k * 2 + 1)); (have kz3 := kz (o * 4 + 3)); clear pk hg) | fail)
  have hK1 : Kp F w (((w1.setCell ⟨B.cb p, k * 2 + 1, none⟩ (.bool false)).setCell ⟨B.cb p, k * 2, none⟩ (.int .u32 (v : Int))).setCell ⟨B.kb, o * 4 + 3, none⟩ (.int .i64 ((A.tk o : Int) - 1))) := (Kp.of (F := F) hf).trans hK3 (fun _ h => h) (fun _ h => .inl h)
  generalize ((w1.setCell ⟨B.cb p, k * 2 + 1, none⟩ (.bool false)).setCell ⟨B.cb p, k * 2, none⟩ (.int .u32 (v : Int))).setCell ⟨B.kb, o * 4 + 3, none⟩ (.int .i64 ((A.tk o : Int) - 1)) = W at *
  clear p0 p1 pz p8 p3 kz pz0 pz1 kz3 hK3 hS1 hf n1 n2 n3
  have hoAV : o < AV.n := by rw [hne]; exact ho
  have r2 := hS3.kcell (i := o) hoAV (j := 2) (by omega)
  simp only [kindC, List.getElem?_cons_zero, List.getElem?_cons_succ] at r2
  have hrow := hS3.rows o hoAV
  obtain ⟨cur, hcur⟩ := hS3.kbl
  have rz : W.frozen? ⟨B.kb, o * 4 + 2, none⟩ = false := by simp [World.frozen?, hcur]
  have hlen : (AV.row o).length ≤ 16777216 := by rw [hrowe]; omega
  have hnk : (B.rv o).ownBlock = some B.kb → False := fun e => by
    obtain ⟨cur2, hc2⟩ := row_block hrow _ e
    exact ne_of_type hcur hc2 (by decide) rfl
  have HS : Hid (IsS W sb F B b c d e f g AV zs) := hS3
  have HK : Hid (Kp F w W) := hK1
  have hsw : Hid (w.heap.size ≤ W.heap.size) := hK1.size
  obtain ⟨iu, hu0, hy0, hy1, hy2⟩ := info_parts Try.info126
  generalize hrl : (AV.row o).length = rl at *
  generalize hrx : u32s (AV.row o) = rx at *
  generalize hrvv : B.rv o = rvv at *
  have hbk : ∀ o', (W.alloc o').cell? ⟨B.kb, o * 4 + 2, none⟩ = some rvv := fun o' => gb_cellN (World.grownBy_alloc W o' none) r2
  clear hS3 hK1 hrowe hne
  go_wp2
  first | (go_region_law ((first | (go_simp; go_at_call 68; refine (hnum _).mono ?_; rintro y w6 ⟨rfl, rfl⟩) | (refine step_append_lies _ (by rfl) _ _ _ (by rfl) 0 126 iu _ 1 4 Try.underlying110 hu0 hy0 hy1 hy2 rfl (by omega) rvv rl rx (by rfl) (World.ownsRow.alloc (w := W) hrow _) ⟨W.heap.size, 0, none⟩ 1 1 [.int .u32 (x : Int)] (by rfl) (by rfl) (World.news_of_block (cs := #[.int .u32 (x : Int)]) (t := 126) (fr := (0, 0)) (heap_alloc_new W _)) (by simp [Value.oneCell']) (by omega) (by unfold maxLen; omega) (by omega) (Nat.zero_le _) (W.heap.size + 1) (by simp) ?_; intro g3 cap3 w7 hown7 hgrow7 hat7 hlt7; have hg7 : W.grownBy w7 rvv.ownBlock := gb_trans (by first | exact gb_drew (gb_alloc (gb_refl _ _) _) | exact gb_alloc (gb_drew (gb_refl _ _)) _) hgrow7; have hcur7 : w7.heap[B.kb]? = some (.cells cur 112 (0, 0)) := (by rw [hg7.block B.kb (lt_of_block hcur) (fun e => hnk e.symm)]; exact hcur); have b4 : w7.cell? ⟨B.kb, o * 4 + 2, none⟩ = some rvv := gb_cell hg7 r2 (fun e => hnk e.symm); have b5 : w7.frozen? ⟨B.kb, o * 4 + 2, none⟩ = false := (by simp [World.frozen?, hcur7]))))) | fail
  all_goals
    obtain ⟨hS8, hK8⟩ := HS.out.push (i := o) (x := x) hoAV (g2 := g3) (cap2 := cap3) (by rw [hrl, hrx]; exact hown7) (by rw [hrvv]; exact hg7) (by rw [hrvv]; rcases hat7 with h | h; exact .inl h; exact .inr (by omega))
    rw [hrl, HG.out AV rfl] at hS8
    rw [hrl] at hK8
    have HF9 : Hid (∀ k, (F k ∨ k = g3) → F k ∨ w.heap.size ≤ k) := by
      rintro k (hk | hk)
      · exact .inl hk
      · subst hk
        rcases hat7 with h | h
        · exact .inl (HS.out.fr o _ hoAV (by rw [hrvv]; exact h))
        · have := hsw.out; exact .inr (by omega)
    have HE : Hid (_ ∧ _) := ⟨hS8, HK.out.trans hK8 (fun _ h => h) (fun k hk => .inl hk)⟩
    clear hS8 hK8 b4 b5 hcur7 hg7 hown7 hgrow7 hat7 hlt7 hrow hcur r2 rz hbk hu0 hy0 hy1 hy2 hrl hrx hrvv hnum
    generalize w7.setCell ⟨B.kb, o * 4 + 2, none⟩ (.slice (some ⟨g3, 0, none⟩) (rl + 1) cap3) = W9 at *
    go_wp2
    go_ret
    exact ⟨rfl, HE.out.2, _, _, HE.out.1, HF9.out⟩
end

end Go.Proofs.Ytoaaaeefcipdcaa
