import Derived.Test.YtjkdflnnpdionaaGreatQr
import Derived.Test.YtjkdflnnpdionaaGreatNs
import Derived.Deep.RegionHeld3
/-
  QueueRanges, the walk.
-/
namespace Go.Proofs.YtjkdflnnpdionaaGreat
open Go.RowKit Go.Shelf
set_option linter.unusedVariables false
attribute [local go_sem] Oper.semAt_some

set_option maxRecDepth 100000 in
set_option maxHeartbeats 16000000 in
theorem queueRanges_any (cc kk : Int) {w : World} {a va : Option Addr} {n c nv vc : Nat} (hO : OpsIn w a n) (hn : n ≤ maxLen) (hV : VisIn w va nv) (hnv : nv ≤ maxLen) :
    Calls Tryz.prog 4 #[.agg #[.slice a n c, .int .i64 cc, .int .i64 kk, .slice va nv vc]] w fun y w' => y = .returned (.bool true) ∧ w.grownBy w' none := by
  have hml : (n : Int) ≤ 9223372036854775807 := by unfold maxLen at hn; omega
  have hmv : (nv : Int) ≤ 9223372036854775807 := by unfold maxLen at hnv; omega
  have hal := World.grownBy_alloc w (.cells #[.slice a n c, .int .i64 cc, .int .i64 kk, .slice va nv vc] 38) none
  have hal2 := World.grownBy_alloc (w.alloc (.cells #[.slice a n c, .int .i64 cc, .int .i64 kk, .slice va nv vc] 38)) (.cells #[.bool false] 4) none
  have hb1 := (Box.new w 38 #[.slice a n c, .int .i64 cc, .int .i64 kk, .slice va nv vc]).kept hal2 (by simp)
  have hb2 := Box.new (w.alloc (.cells #[.slice a n c, .int .i64 cc, .int .i64 kk, .slice va nv vc] 38)) 4 #[.bool false]
  rw [World.size_alloc] at hb2
  have hz2 : ((w.alloc (.cells #[.slice a n c, .int .i64 cc, .int .i64 kk, .slice va nv vc] 38)).alloc (.cells #[.bool false] 4)).heap.size = w.heap.size + 1 + 1 := by simp
  have h12 := (begun_gs ((w.alloc (.cells #[.slice a n c, .int .i64 cc, .int .i64 kk, .slice va nv vc] 38)).alloc (.cells #[.bool false] 4))).mono (R' := fun y w3 => ∃ wb E, y = .returned (.pointer (some ⟨wb, 0, none⟩)) ∧ Hid (Lss w w3 wb 0 E [(4, w.heap.size + 1, #[.bool false]), (38, w.heap.size, #[.slice a n c, .int .i64 cc, .int .i64 kk, .slice va nv vc])])) (by
    rintro y w3 ⟨wb, E, rfl, hf, hG⟩
    rw [hz2] at hG
    refine ⟨wb, E, rfl, fun k => w.heap.size + 1 + 1 ≤ k, gb_trans hal (gb_trans hal2 hf), hG, fun k hk => by have := hf.size; omega, fun k hk => by omega, fun t b vs hx => ?_⟩
    rcases List.mem_cons.1 hx with e | hx
    · cases e
      exact ⟨hb2.kept hf (by simp), by omega, by omega⟩
    · have e : (t, b, vs) = (38, w.heap.size, #[.slice a n c, .int .i64 cc, .int .i64 kk, .slice va nv vc]) := by simpa using hx
      cases e
      exact ⟨hb1.kept hf (by simp), by omega, by omega⟩)
  have hwc := fun z W => within_any z 3 (by omega) (by omega) W
  have hef := fun bs cs W => eql_func 41 fn41 (.func 66) bs cs W
  clear hn hal hal2 hz2 hb1 hb2
  refine (callsIn_wide (n := 8)).1 ?_
  refine callsIn_of_wp_marks Tryz.func4 rfl trivial ?_ rfl
  simp only [Tryz.ntmps4, List.size_toArray, List.length_cons, List.length_nil, Nat.reduceAdd, Nat.reduceSub, Array.replicate_succ, Array.replicate_zero, List.push_toArray, List.append_toArray, List.nil_append, List.cons_append]
  gi_wp2_with (first | (refine ⟨trivial, ?_⟩; gi_at_call 12; refine (callsIn_wide.2 h12).mono ?_; rintro y w3 ⟨wb, E, rfl, hE⟩))
  have hE3 := hE.out.add (World.grownBy_alloc w3 (.cells #[.pointer (some ⟨wb, 0, none⟩)] 23) none) (Box.new w3 23 #[.pointer (some ⟨wb, 0, none⟩)]) (Nat.le_refl _)
  obtain ⟨B3, hB3⟩ : ∃ B3, w3.heap.size = B3 := ⟨_, rfl⟩
  rw [hB3] at hE3 ⊢
  obtain ⟨LL, hLL⟩ : ∃ LL : List (TypeId × Nat × Array Value), LL = [(23, B3, #[.pointer (some ⟨wb, 0, none⟩)]), (4, w.heap.size + 1, #[.bool false]), (38, w.heap.size, #[.slice a n c, .int .i64 cc, .int .i64 kk, .slice va nv vc])] := ⟨_, rfl⟩
  rw [← hLL] at hE3
  have HLL : Hid (LL = [(23, B3, #[.pointer (some ⟨wb, 0, none⟩)]), (4, w.heap.size + 1, #[.bool false]), (38, w.heap.size, #[.slice a n c, .int .i64 cc, .int .i64 kk, .slice va nv vc])]) := hLL
  have m23 : ((23, B3, #[.pointer (some ⟨wb, 0, none⟩)]) : TypeId × Nat × Array Value) ∈ LL := by rw [hLL]; simp
  have m38 : ((38, w.heap.size, #[.slice a n c, .int .i64 cc, .int .i64 kk, .slice va nv vc]) : TypeId × Nat × Array Value) ∈ LL := by rw [hLL]; simp
  have m4 : ((4, w.heap.size + 1, #[.bool false]) : TypeId × Nat × Array Value) ∈ LL := by rw [hLL]; simp
  have hx3 : ∀ {V j}, Hid (Lss w V wb j E LL) → V.cell? ⟨B3, 0, none⟩ = some (.pointer (some ⟨wb, 0, none⟩)) ∧ V.cell? ⟨w.heap.size, 0, none⟩ = some (.slice a n c) ∧ V.cell? ⟨w.heap.size, 1, none⟩ = some (.int .i64 cc) ∧ V.cell? ⟨w.heap.size, 2, none⟩ = some (.int .i64 kk) := fun h => ⟨(h.out.box m23).cell 0, (h.out.box m38).cell 0, (h.out.box m38).cell 1, (h.out.box m38).cell 2⟩
  have HE3 : Hid (Lss w (w3.alloc (.cells #[.pointer (some ⟨wb, 0, none⟩)] 23)) wb 0 E LL) := hE3
  clear hE hE3 h12 hLL hB3
  generalize w3.alloc (.cells #[.pointer (some ⟨wb, 0, none⟩)] 23) = w4 at *
  rename_i QQ K0 hK0
  have key : ∀ (u4 u17 u18 u19 u20 u21 u22 u23 u24 u25 u26 u27 u28 u29 u30 u31 u32 u33 u34 u35 : Value) (j : Nat) (V : World), j ≤ 250 → Hid (Lss w V wb j E LL) → K0 { tmps := #[.agg #[.slice a n c, .int .i64 cc, .int .i64 kk, .slice va nv vc], .pointer (some ⟨w.heap.size, 0, none⟩), .pointer (some ⟨w.heap.size + 1, 0, none⟩), .pointer (some ⟨B3, 0, none⟩), u4, undef, undef, undef, undef, undef, undef, undef, undef, undef, .pointer (some ⟨wb, 0, none⟩), .pointer (some ⟨wb, 0, none⟩), .bool false, u17, u18, u19, u20, u21, u22, u23, u24, u25, u26, u27, u28, u29, u30, u31, u32, u33, u34, u35, undef, undef, undef, undef, undef, undef, undef, undef, undef, undef, undef, undef, undef, undef, undef, undef, undef, undef, undef, undef, undef, undef, undef, undef, undef, undef, undef, undef, undef, undef, undef, undef, undef, undef, undef, undef, undef, undef, undef, undef, undef, undef, undef, undef, undef, undef, undef, undef, undef, undef, undef, undef, undef, undef, undef, undef, undef, undef, undef, undef, undef, undef, undef, undef, undef, undef, undef, undef, undef, undef, undef, undef, undef, undef, undef, undef, undef, undef, undef, undef, undef, undef], defers := [] } V := by
    intro u4 u17 u18 u19 u20 u21 u22 u23 u24 u25 u26 u27 u28 u29 u30 u31 u32 u33 u34 u35 j V hj hE
    refine hK0 _ _ ?_
    clear hK0 HE3 hO
    obtain ⟨P, D, lsb, hsE, hR⟩ := hE.out.rg hj
    have hcel := hR.gt.cells
    obtain ⟨y0, y1, y2, y3⟩ := hx3 hE
    obtain ⟨p0, p1, p2, p3⟩ := hcel
    obtain ⟨ci, hci⟩ : ∃ ci : Nat, cc % 3 = (ci : Int) := ⟨(cc % 3).toNat, by omega⟩
    obtain ⟨ki, hki⟩ : ∃ ki : Nat, kk % 3 = (ki : Int) := ⟨(kk % 3).toNat, by omega⟩
    have hw1 := hwc cc
    have hw2 := hwc kk
    rw [hci] at hw1
    rw [hki] at hw2
    have ek : IntKind.i64.wrap (1 + (ki : Int)) = (ki : Int) + 1 := by rw [IntKind.wrap_i64]; omega
    have h19 := (all_19 D.qb ci ((ki : Int) + 1) V).mono (R' := fun y w' => y = .returned (.func (.func 66) #[] #[.pointer (some ⟨V.heap.size, 0, none⟩), .pointer (some ⟨V.heap.size + 1, 0, none⟩), .pointer (some ⟨V.heap.size + 1 + 1, 0, none⟩)]) ∧ Hid (V.grownBy w' none ∧ w'.heap.size = V.heap.size + 3 ∧ Box w' 29 V.heap.size #[.pointer (some ⟨D.qb, 0, none⟩)] ∧ Box w' 3 (V.heap.size + 1) #[.int .i64 ci] ∧ Box w' 3 (V.heap.size + 1 + 1) #[.int .i64 ((ki : Int) + 1)])) (by
      rintro y w' ⟨rfl, rfl⟩
      exact ⟨rfl, box3_facts V D.qb ci ((ki : Int) + 1) _ rfl⟩)
    have HR : Hid (Rg w V P wb 250 D lsb LL (.slice none 0 0) []) := hR
    clear hR hE hx3 hwc p0 p2 p3 y1 hci hki
    gi_wp2_with (first | (refine ⟨trivial, ?_⟩; gi_at_call 18; first | (with_reducible refine (callsIn_wide.2 (hw1 _)).mono ?_; rintro y w' ⟨rfl, rfl⟩) | (with_reducible refine (callsIn_wide.2 (hw2 _)).mono ?_; rintro y w' ⟨rfl, rfl⟩)) | (refine ⟨trivial, ?_⟩; gi_at_call 19; refine (callsIn_wide.2 h19).mono ?_; rintro y V5 ⟨rfl, hE5⟩))
    have HB5 := hE5.out
    obtain ⟨hg5, hs5, bq, bc, bkd⟩ := HB5
    obtain ⟨s0, hs0⟩ : ∃ s0, V.heap.size = s0 := ⟨_, rfl⟩
    rw [hs0] at hs5 bq bc bkd ⊢
    have hg6 := World.grownBy_alloc V5 (.cells #[.int .i64 0] 3) none
    have bk0 := Box.new V5 3 #[.int .i64 0]
    obtain ⟨V6, hV6⟩ : ∃ V6, V5.alloc (.cells #[.int .i64 0] 3) = V6 := ⟨_, rfl⟩
    rw [hV6] at hg6 bk0 ⊢
    have hg56 := gb_trans hg5 hg6
    obtain ⟨L4, hL4⟩ : ∃ L4 : List (TypeId × Nat × Array Value), L4 = [(29, s0, #[.pointer (some ⟨D.qb, 0, none⟩)]), (3, s0 + 1, #[.int .i64 ci]), (3, s0 + 1 + 1, #[.int .i64 ((ki : Int) + 1)])] ++ LL := ⟨_, rfl⟩
    have hR4 := HR.out.addL (M := [(29, s0, #[.pointer (some ⟨D.qb, 0, none⟩)]), (3, s0 + 1, #[.int .i64 ci]), (3, s0 + 1 + 1, #[.int .i64 ((ki : Int) + 1)])]) hg5 (by
      intro t b vs hx
      simp only [List.mem_cons, List.not_mem_nil, or_false] at hx
      rcases hx with hx | hx | hx
      · cases hx; exact ⟨bq, by omega⟩
      · cases hx; exact ⟨bc, by omega⟩
      · cases hx; exact ⟨bkd, by omega⟩)
    rw [← hL4] at hR4
    have hR6 := hR4.add hg6 bk0 (Nat.le_refl _)
    have n38 : ((38, w.heap.size, #[.slice a n c, .int .i64 cc, .int .i64 kk, .slice va nv vc]) : TypeId × Nat × Array Value) ∈ L4 := by rw [hL4]; exact List.mem_append_right _ m38
    have n23 : ((23, B3, #[.pointer (some ⟨wb, 0, none⟩)]) : TypeId × Nat × Array Value) ∈ L4 := by rw [hL4]; exact List.mem_append_right _ m23
    have n4 : ((4, w.heap.size + 1, #[.bool false]) : TypeId × Nat × Array Value) ∈ L4 := by rw [hL4]; exact List.mem_append_right _ m4
    have q29 : ((29, s0, #[.pointer (some ⟨D.qb, 0, none⟩)]) : TypeId × Nat × Array Value) ∈ L4 := by rw [hL4]; simp
    have q3c : ((3, s0 + 1, #[.int .i64 ci]) : TypeId × Nat × Array Value) ∈ L4 := by rw [hL4]; simp
    have q3k : ((3, s0 + 1 + 1, #[.int .i64 ((ki : Int) + 1)]) : TypeId × Nat × Array Value) ∈ L4 := by rw [hL4]; simp
    obtain ⟨n1, hn1⟩ : ∃ n1, V6.heap.size = n1 := ⟨_, rfl⟩
    have hlb4 : ∀ t b vs, (t, b, vs) ∈ L4 → b < V5.heap.size := fun t b vs hx => (hR4.bx t b vs hx).1.lt
    have hV5n : V5.heap.size < n1 := by rw [← hn1, ← hV6]; simp
    have HL4 : Hid (∀ t b vs, (t, b, vs) ∈ L4 → b < n1) := fun t b vs hx => by have := hlb4 t b vs hx; omega
    have hfb0 : Hid (∀ k, FB D lsb k → k < n1) := fun k hk => by have := hR6.lt k hk; omega
    have HS6 : Hid (Rs w V6 wb n1 D lsb ((3, V5.heap.size, #[.int .i64 ((0 : Nat) : Int)]) :: L4) []) := ⟨_, D, Mr.refl D, hR6, trivial⟩
    obtain ⟨qb, hqb⟩ : ∃ qb, D.qb = qb := ⟨_, rfl⟩
    rw [hqb] at q29 ⊢
    have HBK : Hid (w.heap.size < V5.heap.size) := by
      have h1 := hR4.gr.size
      have h2 := hlb4 _ _ _ n38
      exact h2
    clear hE5 hg5 hs5 bq bc bkd hg6 bk0 hg56 hR4 hR6 hV6 hlb4 hL4 h19 hw1 hw2 y0 y2 y3 HR
    generalize V5.heap.size = bk at *
    have hres : ∀ (tmps : Array Value) (W : World), tmps[2]? = some (.pointer (some ⟨w.heap.size + 1, 0, none⟩)) → Box W 4 (w.heap.size + 1) #[.bool true] → w.grownBy W none → LeavesInM Fence.wide 8 Tryz.prog Tryz.f4 tmps (fun y w' => y = .returned (.bool true) ∧ w.grownBy w' none) [] .returning W := fun tmps W ht hb hg => by
      have hc := hb.cell 0
      simp at hc
      refine ⟨_, ?_, rfl, hg⟩
      simp [results, Tryz.f4, go_sem, hc, ht]
    refine wpIn_loop (fun ac W => ∃ (k bk : Nat) (u9 u10 u11 u12 u13 u52 u53 u54 u55 u56 u57 u58 u59 u60 u61 u62 u63 u104 u105 u106 u107 u108 u109 u110 u111 u112 : Value) (ds : List Deferred), k ≤ 2 ∧ ac = { tmps := #[.agg #[.slice a n c, .int .i64 cc, .int .i64 kk, .slice va nv vc], .pointer (some ⟨w.heap.size, 0, none⟩), .pointer (some ⟨w.heap.size + 1, 0, none⟩), .pointer (some ⟨B3, 0, none⟩), u4, .int .i64 ci, .int .i64 ((ki : Int) + 1), .func (.func 66) #[] #[.pointer (some ⟨s0, 0, none⟩), .pointer (some ⟨s0 + 1, 0, none⟩), .pointer (some ⟨s0 + 1 + 1, 0, none⟩)], .pointer (some ⟨bk, 0, none⟩), u9, u10, u11, u12, u13, .pointer (some ⟨wb, 0, none⟩), .pointer (some ⟨wb, 0, none⟩), .bool false, u17, u18, u19, u20, u21, u22, u23, u24, u25, u26, u27, u28, u29, u30, u31, u32, u33, u34, u35, .pointer (some ⟨w.heap.size, 1, none⟩), .int .i64 cc, .int .i64 ci, .pointer (some ⟨w.heap.size, 2, none⟩), .int .i64 kk, .int .i64 ki, .int .i64 ((ki : Int) + 1), .pointer (some ⟨wb, 0, none⟩), .pointer (some ⟨wb, 0, none⟩), .pointer (some ⟨wb, 1, none⟩), .pointer (some ⟨qb, 0, none⟩), .int .i64 ci, .int .i64 ((ki : Int) + 1), .func (.func 66) #[] #[.pointer (some ⟨s0, 0, none⟩), .pointer (some ⟨s0 + 1, 0, none⟩), .pointer (some ⟨s0 + 1 + 1, 0, none⟩)], .func (.func 66) #[] #[.pointer (some ⟨s0, 0, none⟩), .pointer (some ⟨s0 + 1, 0, none⟩), .pointer (some ⟨s0 + 1 + 1, 0, none⟩)], .bool false, u52, u53, u54, u55, u56, u57, u58, u59, u60, u61, u62, u63, undef, undef, undef, undef, undef, undef, undef, undef, undef, undef, undef, undef, undef, undef, undef, undef, undef, undef, undef, undef, undef, undef, undef, undef, undef, undef, undef, undef, undef, undef, undef, undef, undef, undef, undef, undef, undef, undef, undef, undef, u104, u105, u106, u107, u108, u109, u110, u111, u112, undef, undef, undef, undef, undef], defers := ds } ∧ Hid (Rs w W wb n1 D lsb ((3, bk, #[.int .i64 (k : Int)]) :: L4) ds ∧ w.heap.size < bk ∧ n1 ≤ W.heap.size)) (fun ac W => 2 - (intOf ((W.cell? ⟨ptrOf (ac.tmps[8]?), 0, none⟩).getD undef)).toNat) ?start ?round
    case start => exact ⟨0, bk, _, _, _, _, _, _, _, _, _, _, _, _, _, _, _, _, _, _, _, _, _, _, _, _, _, _, [], by omega, rfl, HS6, HBK.out, by omega⟩
    case round =>
      rintro _ W ⟨k, bk2, u9, u10, u11, u12, u13, u52, u53, u54, u55, u56, u57, u58, u59, u60, u61, u62, u63, u104, u105, u106, u107, u108, u109, u110, u111, u112, ds, hk, rfl, hSt⟩
      obtain ⟨⟨P1, D1, hm1, hR1, hD1⟩, hbk, hn1W0⟩ := hSt.out
      clear hSt
      by_cases hk2 : k < 2
      · have e1 : decide ((k : Int) < 2) = true := decide_eq_true (by omega)
        have e1' : (k : Int) < 2 := by omega
        obtain ⟨R, hR9, hz0, hR64, hrall, hql⟩ := hR1.gt.list ci ((ki : Int) + 1)
        have ck := (hR1.box (t := 3) (b := bk2) (vs := #[.int .i64 (k : Int)]) (by simp)).cell 0
        have c3 := (hR1.box (List.mem_cons_of_mem _ n23)).cell 0
        obtain ⟨_, _, _, p3⟩ := hR1.gt.cells
        have h20 := hrall W (gb_refl _ _)
        have hqq : D1.qb = qb := hm1.same.2.1.trans hqb
        rw [hqq] at hql
        simp only [List.getElem?_toArray, List.getElem?_cons_zero] at ck c3
        clear hrall
        gi_wp2_with (first | (refine ⟨trivial, ?_⟩; gi_at_call 20; refine (callsIn_wide.2 h20).mono ?_; rintro y W1 ⟨v, rfl, hg1, hr1⟩; (obtain ⟨ra, rc, hrs, _, _, _, hra⟩ := row_shape hr1); subst hrs))
        obtain ⟨T7, hT7⟩ : ∃ T7, W1.heap.size = T7 := ⟨_, rfl⟩
        have g7 := World.grownBy_alloc W1 (.cells #[.slice ra R.length rc] 45) none
        have b7 := Box.new W1 45 #[.slice ra R.length rc]
        have s7 : (W1.alloc (.cells #[.slice ra R.length rc] 45)).heap.size = T7 + 1 := by simp [hT7]
        obtain ⟨X1, hX1⟩ : ∃ X1, W1.alloc (.cells #[.slice ra R.length rc] 45) = X1 := ⟨_, rfl⟩
        rw [hX1] at g7 b7 s7 ⊢
        have g8 := World.grownBy_alloc X1 (.cells #[.int .i64 0] 3) none
        have b8 := Box.new X1 3 #[.int .i64 0]
        have s8 : (X1.alloc (.cells #[.int .i64 0] 3)).heap.size = T7 + 1 + 1 := by simp [s7]
        rw [s7] at b8
        obtain ⟨X2, hX2⟩ : ∃ X2, X1.alloc (.cells #[.int .i64 0] 3) = X2 := ⟨_, rfl⟩
        rw [hX2] at g8 b8 s8 ⊢
        have g9 := World.grownBy_alloc X2 (.cells #[.bool false] 4) none
        have b9 := Box.new X2 4 #[.bool false]
        have s9 : (X2.alloc (.cells #[.bool false] 4)).heap.size = T7 + 1 + 1 + 1 := by simp [s8]
        rw [s8] at b9
        obtain ⟨V0, hV0⟩ : ∃ V0, X2.alloc (.cells #[.bool false] 4) = V0 := ⟨_, rfl⟩
        rw [hV0] at g9 b9 s9 ⊢
        rw [hT7] at b7 ⊢
        have g89 := gb_trans g8 g9
        have g79 := gb_trans g7 g89
        have gW0 := gb_trans hg1 g79
        obtain ⟨v0, hv0⟩ : ∃ v0, V0.heap.size = v0 := ⟨_, rfl⟩
        have hWT : W.heap.size ≤ T7 := by have := hg1.size; omega
        have hRr := (hR1.rows hg1 (rv' := .slice ra R.length rc) (R' := R) (row_base hr1 (Nat.zero_le _)) (fun k hk => own_baseR hr1 k hk)).addL (M := [(3, T7 + 1, #[.int .i64 ((0 : Nat) : Int)]), (4, T7 + 1 + 1, #[.bool false]), (45, T7, #[.slice ra R.length rc])]) g79 (by
          intro t b vs hx
          simp only [List.mem_cons, List.not_mem_nil, or_false] at hx
          rcases hx with hx | hx | hx
          · cases hx; exact ⟨b8.kept g9 (by simp), by omega⟩
          · cases hx; exact ⟨b9, by omega⟩
          · cases hx; exact ⟨b7.kept g89 (by simp), by omega⟩)
        obtain ⟨L6, hL6⟩ : ∃ L6 : List (TypeId × Nat × Array Value), L6 = (45, T7, #[.slice ra R.length rc]) :: (3, bk2, #[.int .i64 (k : Int)]) :: L4 := ⟨_, rfl⟩
        have hI0 : Hid (Ir w V0 wb n1 D lsb L6 (T7 + 1) 0 false (.slice ra R.length rc) R ds v0) := by
          rw [hL6]
          exact ⟨_, D1, hm1, hRr, hD1.grow gW0, by omega⟩
        have hbk2 := (hR1.box (t := 3) (b := bk2) (vs := #[.int .i64 (k : Int)]) (by simp)).lt
        have hn1W : Hid (∀ k, FB D lsb k → k < v0) := fun k hk => by
          have := hfb0.out k hk
          omega
        have hL6T : Hid (∀ t b vs, (t, b, vs) ∈ L6 → b < T7 + 1) := fun t b vs hx => by
          rw [hL6] at hx
          simp only [List.mem_cons] at hx
          rcases hx with hx | hx | hx
          · cases hx; omega
          · cases hx; omega
          · have := (hR1.bx t b vs (List.mem_cons_of_mem _ hx)).1.lt; omega
        have hdsW : Hid (∀ d, d ∈ ds → ∀ D', d.target = .collected D' → D' < v0) := fun d hd D' hD' => by have := hD1.lt d hd D' hD'; omega
        have hww : Hid (w.heap.size ≤ v0 ∧ T7 + 1 + 1 < v0) := ⟨by have := hR1.gr.size; omega, by omega⟩
        obtain ⟨GG, hGG⟩ : ∃ GG : Nat → Prop, GG = fun k => FB D lsb k ∨ k = T7 + 1 ∨ k = T7 + 1 + 1 := ⟨_, rfl⟩
        have hG1 : Hid (∀ k, FB D lsb k → GG k) := by rw [hGG]; exact fun k hk => .inl hk
        have hG2 : Hid (GG (T7 + 1) ∧ GG (T7 + 1 + 1)) := by rw [hGG]; exact ⟨.inr (.inl rfl), .inr (.inr rfl)⟩
        have hG3 : ∀ k, GG k → k < v0 := by
          rw [hGG]
          rintro k (hk | rfl | rfl)
          · exact hn1W.out k hk
          · have := hww.out; omega
          · have := hww.out; omega
        have HR64 : Hid (∀ x, x ∈ R → x < 18446744073709551616) := hR64
        have i38 : ((38, w.heap.size, #[.slice a n c, .int .i64 cc, .int .i64 kk, .slice va nv vc]) : TypeId × Nat × Array Value) ∈ L6 := by rw [hL6]; exact List.mem_cons_of_mem _ (List.mem_cons_of_mem _ n38)
        have i23 : ((23, B3, #[.pointer (some ⟨wb, 0, none⟩)]) : TypeId × Nat × Array Value) ∈ L6 := by rw [hL6]; exact List.mem_cons_of_mem _ (List.mem_cons_of_mem _ n23)
        have i45 : ((45, T7, #[.slice ra R.length rc]) : TypeId × Nat × Array Value) ∈ L6 := by rw [hL6]; simp
        have ik : ((3, bk2, #[.int .i64 (k : Int)]) : TypeId × Nat × Array Value) ∈ L6 := by rw [hL6]; simp
        have iL : Hid (∀ x, x ∈ L4 → x ∈ L6) := by rw [hL6]; exact fun x hx => List.mem_cons_of_mem _ (List.mem_cons_of_mem _ hx)
        have hc29 := (hR1.box (List.mem_cons_of_mem _ q29)).kept gW0 (by simp)
        have hc3c := (hR1.box (List.mem_cons_of_mem _ q3c)).kept gW0 (by simp)
        have hc3k := (hR1.box (List.mem_cons_of_mem _ q3k)).kept gW0 (by simp)
        have hVis : Hid (∀ i, i < nv → ∃ b o, va = some ⟨b, o, none⟩ ∧ ∃ (d x y : Int) (ot st : Bool), ∀ V, w.grownBy V none → V.cell? ⟨b, o + i * 5, none⟩ = some (.int .i64 d) ∧ V.cell? ⟨b, o + i * 5 + 1, none⟩ = some (.int .i64 x) ∧ V.cell? ⟨b, o + i * 5 + 2, none⟩ = some (.int .i64 y) ∧ V.cell? ⟨b, o + i * 5 + 3, none⟩ = some (.bool ot) ∧ V.cell? ⟨b, o + i * 5 + 4, none⟩ = some (.bool st)) := fun i hi => by
          obtain ⟨b, o, h0, d, x, y, ot, st, a0, a1, a2, a3, a4⟩ := hV i hi
          exact ⟨b, o, h0, d, x, y, ot, st, fun V hf => ⟨gb_cellN hf a0, gb_cellN hf a1, gb_cellN hf a2, gb_cellN hf a3, gb_cellN hf a4⟩⟩
        have HGW : Hid (W.grownBy V0 none) := gW0
        have hk9 : Hid (k < 2) := hk2
        clear g7 b7 s7 g8 b8 s8 g9 b9 s9 g89 g79 hRr hL6 hD1 hR1 hX1 hX2 hV0 hr1 hra hg1 h20 hGG gW0
        refine range_list (n := 8) rfl (by decide) (gf := 66) (lb := #[.pointer (some ⟨s0, 0, none⟩), .pointer (some ⟨s0 + 1, 0, none⟩), .pointer (some ⟨s0 + 1 + 1, 0, none⟩)]) rfl trivial (enters_of Tryz.func66 (by kernel_rfl) rfl) R
          (KD GG) (fun h k => h.trans k) (fun W l r r' _ h => KD.put h)
          (fun pre V => Hid (Ir w V wb n1 D lsb L6 (T7 + 1) pre.length false (.slice ra R.length rc) R ds v0))
          (fun cd pre V => cd = .exit 4 ∧ ∃ nn, Hid (Ir w V wb n1 D lsb L6 (T7 + 1) nn true (.slice ra R.length rc) R ds v0))
          ?a1 ?hIg ?hIxg ?hIp ?hIxp ?h0 ?hit ?assign ?body ?done ?stop
        case assign =>
          intro l x V K hK
          gi_wp2
          exact hK
        case hIg =>
          intro pre A B h hg
          exact h.out.grow hg
        case hIxg =>
          rintro cd pre A B ⟨h0, nn, h⟩ hg
          exact ⟨h0, nn, h.out.grow hg⟩
        case hIp =>
          intro pre V l o o' h hl ho hc
          exact h.out.put ho hc (by rw [← hv0]; exact hl) hww.out.1 hdsW.out
        case hIxp =>
          rintro cd pre V l o o' ⟨h0, nn, h⟩ hl ho hc
          exact ⟨h0, nn, h.out.put ho hc (by rw [← hv0]; exact hl) hww.out.1 hdsW.out⟩
        case h0 => exact hI0
        case hit =>
          intro o
          have ga : V0.grownBy ((V0.alloc (.deferred (some []))).alloc o) none := gb_alloc (gb_alloc (gb_refl _ none) _) _
          refine all_seq (w := V0) (n₀ := V0.heap.size) (by decide) hz0 hR9 (fun W' hW' => hql W' (gb_trans HGW.out ⟨hW'.os, hW'.tape, hW'.output, hW'.size, fun k hk _ => hW'.block k hk⟩)) ⟨ga.os, ga.tape, ga.output, ga.size, fun k hk => ga.block k hk (by simp)⟩ ga.size ((hc29.kept ga (by simp)).cell 0) ((hc3c.kept ga (by simp)).cell 0) ((hc3k.kept ga (by simp)).cell 0) (fun k hk => ?_)
          have := hG3 k hk
          have := ga.size
          omega
        case body =>
          clear hc29 hc3c hc3k hql hz0 hI0
          rintro l pre x V hI hpre
          have hlt : pre.length < R.length := by have := hpre.length_le; simp at this; omega
          have hRx : R[pre.length]? = some x := by
            obtain ⟨r, hr⟩ := hpre
            rw [← hr]; simp
          have h64 := HR64.out x (List.mem_of_getElem? hRx)
          obtain ⟨g, hag⟩ : ∃ g, ra = some ⟨g, 0, none⟩ := by
            obtain ⟨ao', cc', e, _, _, _, hao⟩ := row_shape hI.out.row
            simp at e
            obtain ⟨g, hg⟩ := hao (by omega)
            exact ⟨g, by rw [e.1, hg]⟩
          subst hag
          have cx := row_cell hI.out.row pre.length (.int .u64 (x : Nat)) (uvs_get hRx)
          obtain ⟨cn, cst, fn_, fst_⟩ := hI.out.cells
          have cwant := (hI.out.box i45).cell 0
          simp only [List.getElem?_toArray, List.getElem?_cons_zero] at cwant
          obtain ⟨hN, hN1, hN2⟩ := hI.out.next (m := (pre.length : Int) + 1) (by simp) hL6T.out hG2.out.1
          have cvs := (hN.box i38).cell 3
          have ckk := (hN.box ik).cell 0
          have cww := (hN.box i23).cell 0
          obtain ⟨cn2, cst2, fn2, fst2⟩ := hN.cells
          rw [show ((pre.length + 1 : Nat) : Int) = (pre.length : Int) + 1 by omega] at cn2
          have hmo : Tryz.prog.follows .mixedOrders = true := by kernel_rfl
          simp only [List.getElem?_toArray, List.getElem?_cons_zero, List.getElem?_cons_succ] at cvs ckk cww
          have HN : Hid (Ir w (V.setCell ⟨T7 + 1, 0, none⟩ (.int .i64 ((pre.length : Int) + 1))) wb n1 D lsb L6 (T7 + 1) (pre.length + 1) false (.slice (some ⟨g, 0, none⟩) R.length rc) R ds v0 ∧ KeepsFrom v0 V (V.setCell ⟨T7 + 1, 0, none⟩ (.int .i64 ((pre.length : Int) + 1))) ∧ KD GG V (V.setCell ⟨T7 + 1, 0, none⟩ (.int .i64 ((pre.length : Int) + 1)))) := ⟨hN, hN1, hN2⟩
          have e2 : decide ((pre.length : Int) ≥ (R.length : Int)) = false := decide_eq_false (by omega)
          have e3 : (pre.length : Int) < (R.length : Int) := by omega
          have e3' : ¬ (R.length : Int) ≤ (pre.length : Int) := by omega
          have e4 : IntKind.i64.wrap ((pre.length : Int) + 1) = (pre.length : Int) + 1 := by rw [IntKind.wrap_i64]; omega
          have HX : Hid (pre ++ [x] <+: R) := hpre
          clear hpre hRx hI hN hN1 hN2
          by_cases hv0' : nv = 0
          · subst hv0'
            gi_wp2
            have h := HN.out
            exact ⟨h.2.1, h.2.2, h.1⟩
          · obtain ⟨ix, hix⟩ : ∃ ix, (pre.length + 1 + k) % nv = ix := ⟨_, rfl⟩
            have hixl : ix < nv := by rw [← hix]; exact Nat.mod_lt _ (by omega)
            have hrem : ((pre.length : Int) + 1 + (k : Int)).tmod (nv : Int) = (ix : Int) := by
              rw [← hix]
              show ((pre.length + 1 + k : Nat) : Int).tmod (nv : Int) = _
              exact (Int.ofNat_tmod _ _).symm
            have hkk9 := hk9.out
            have e5 : IntKind.i64.wrap ((pre.length : Int) + 1 + (k : Int)) = (pre.length : Int) + 1 + (k : Int) := by rw [IntKind.wrap_i64]; omega
            have e6 : ¬ (nv : Int) = 0 := by omega
            have e6' : ((nv : Int) == 0) = false := by simpa using e6
            have e7 : (ix : Int) < nv := by omega
            have e8 : ¬ (ix : Int) < 0 := by omega
            obtain ⟨vb, vo, hva, dd, xx, yy, ot, st, hcs⟩ := hVis.out ix hixl
            subst hva
            have HCS : Hid (∀ V, w.grownBy V none → V.cell? ⟨vb, vo + ix * 5, none⟩ = some (.int .i64 dd) ∧ V.cell? ⟨vb, vo + ix * 5 + 1, none⟩ = some (.int .i64 xx) ∧ V.cell? ⟨vb, vo + ix * 5 + 2, none⟩ = some (.int .i64 yy) ∧ V.cell? ⟨vb, vo + ix * 5 + 3, none⟩ = some (.bool ot) ∧ V.cell? ⟨vb, vo + ix * 5 + 4, none⟩ = some (.bool st)) := hcs
            clear hcs hix hV
            gi_wp2
            clear cx cn cst fn_ fst_ cwant e2 e3 e3' e4
            obtain ⟨z0, z1, z2, z3, z4⟩ := HCS.out _ HN.out.1.gr
            generalize (V.setCell ⟨T7 + 1, 0, none⟩ (.int .i64 ((pre.length : Int) + 1))) = U1 at *
            refine wpIn_mono (Q := fun e a' w' => e = Exit.normal ∧ a' = { tmps := #[Value.agg #[Value.slice a n c, Value.int IntKind.i64 cc, Value.int IntKind.i64 kk, Value.slice (some { block := vb, off := vo }) nv vc], Value.pointer (some { block := w.heap.size, off := 0 }), Value.pointer (some { block := w.heap.size + 1, off := 0 }), Value.pointer (some { block := B3, off := 0 }), u4, Value.int IntKind.i64 ↑ci, Value.int IntKind.i64 (↑ki + 1), Value.func (Fn.func 66) #[] #[Value.pointer (some { block := s0, off := 0 }), Value.pointer (some { block := s0 + 1, off := 0 }), Value.pointer (some { block := s0 + 1 + 1, off := 0 })], Value.pointer (some { block := bk2, off := 0 }), Value.pointer (some { block := T7, off := 0 }), Value.pointer (some { block := T7 + 1, off := 0 }), Value.pointer (some { block := T7 + 1 + 1, off := 0 }), Value.int IntKind.u64 ↑x, Value.pointer (some { block := U1.heap.size, off := 0 }), Value.pointer (some { block := wb, off := 0 }), Value.pointer (some { block := wb, off := 0 }), Value.bool false, u17, u18, u19, u20, u21, u22, u23, u24, u25, u26, u27, u28, u29, u30, u31, u32, u33, u34, u35, Value.pointer (some { block := w.heap.size, off := 1 }), Value.int IntKind.i64 cc, Value.int IntKind.i64 ↑ci, Value.pointer (some { block := w.heap.size, off := 2 }), Value.int IntKind.i64 kk, Value.int IntKind.i64 ↑ki, Value.int IntKind.i64 (↑ki + 1), Value.pointer (some { block := wb, off := 0 }), Value.pointer (some { block := wb, off := 0 }), Value.pointer (some { block := wb, off := 1 }), Value.pointer (some { block := qb, off := 0 }), Value.int IntKind.i64 ↑ci, Value.int IntKind.i64 (↑ki + 1), Value.func (Fn.func 66) #[] #[Value.pointer (some { block := s0, off := 0 }), Value.pointer (some { block := s0 + 1, off := 0 }), Value.pointer (some { block := s0 + 1 + 1, off := 0 })], Value.func (Fn.func 66) #[] #[Value.pointer (some { block := s0, off := 0 }), Value.pointer (some { block := s0 + 1, off := 0 }), Value.pointer (some { block := s0 + 1 + 1, off := 0 })], Value.bool false, Value.int IntKind.i64 ↑k, Value.bool true, u54, u55, Value.pointer (some { block := wb, off := 0 }), Value.pointer (some { block := wb, off := 0 }), Value.pointer (some { block := wb, off := 3 }), Value.pointer (some { block := D1.lb, off := 0 }), Value.int IntKind.i64 ↑ci, Value.int IntKind.i64 (↑ki + 1), Value.slice (some { block := g, off := 0 }) R.length rc, Value.func (Fn.func 66) #[] #[Value.pointer (some { block := s0, off := 0 }), Value.pointer (some { block := s0 + 1, off := 0 }), Value.pointer (some { block := s0 + 1 + 1, off := 0 })], Value.int IntKind.u64 ↑x, Value.bool false, Value.bool false, Value.int IntKind.i64 ↑pre.length, Value.slice (some { block := g, off := 0 }) R.length rc, Value.int IntKind.i64 ↑R.length, Value.bool false, Value.bool false, Value.bool false, Value.int IntKind.u64 ↑x, Value.slice (some { block := g, off := 0 }) R.length rc, Value.int IntKind.i64 ↑pre.length, Value.pointer (some { block := g, off := pre.length }), Value.int IntKind.u64 ↑x, Value.bool false, Value.bool false, Value.int IntKind.i64 ↑pre.length, Value.int IntKind.i64 (↑pre.length + 1), Value.pointer (some { block := w.heap.size, off := 3 }), Value.slice (some { block := vb, off := vo }) nv vc, Value.int IntKind.i64 ↑nv, Value.bool false, Value.pointer (some { block := w.heap.size, off := 3 }), Value.slice (some { block := vb, off := vo }) nv vc, Value.int IntKind.i64 (↑pre.length + 1), Value.int IntKind.i64 ↑k, Value.int IntKind.i64 (↑pre.length + 1 + ↑k), Value.pointer (some { block := w.heap.size, off := 3 }), Value.slice (some { block := vb, off := vo }) nv vc, Value.int IntKind.i64 ↑nv, Value.int IntKind.i64 ↑ix, Value.pointer (some { block := vb, off := vo + ix * 5 }), Value.agg #[Value.int IntKind.i64 dd, Value.int IntKind.i64 xx, Value.int IntKind.i64 yy, Value.bool ot, Value.bool st], undef, undef, undef, undef, undef, undef, undef, u104, u105, u106, u107, u108, u109, u110, u111, u112, undef, undef, undef, undef, undef], defers := [] } ∧ w' = U1.drew.alloc (.cells #[.int .i64 dd, .int .i64 xx, .int .i64 yy, .bool ot, .bool st] 52)) ?reg ?rest
            case reg =>
              have hSS : ∀ W, U1.grownBy W none → U1.grownBy W none ∧ W.cell? ⟨w.heap.size, 3, none⟩ = some (.slice (some ⟨vb, vo, none⟩) nv vc) ∧ W.cell? ⟨T7 + 1, 0, none⟩ = some (.int .i64 ((pre.length : Int) + 1)) ∧ W.cell? ⟨bk2, 0, none⟩ = some (.int .i64 (k : Int)) ∧ W.cell? ⟨vb, vo + ix * 5, none⟩ = some (.int .i64 dd) ∧ W.cell? ⟨vb, vo + ix * 5 + 1, none⟩ = some (.int .i64 xx) ∧ W.cell? ⟨vb, vo + ix * 5 + 2, none⟩ = some (.int .i64 yy) ∧ W.cell? ⟨vb, vo + ix * 5 + 3, none⟩ = some (.bool ot) ∧ W.cell? ⟨vb, vo + ix * 5 + 4, none⟩ = some (.bool st) ∧ True := fun W hf => ⟨hf, gb_cellN hf cvs, gb_cellN hf cn2, gb_cellN hf ckk, gb_cellN hf z0, gb_cellN hf z1, gb_cellN hf z2, gb_cellN hf z3, gb_cellN hf z4, trivial⟩
              clear HN HX HCS HR64 hL6T hdsW hww hn1W hVis HGW hG1 hG2 hG3 iL i38 i23 i45 ik HLL HL4 hfb0
              refine region_round (R := fun a' w' => a' = { tmps := #[Value.agg #[Value.slice a n c, Value.int IntKind.i64 cc, Value.int IntKind.i64 kk, Value.slice (some { block := vb, off := vo }) nv vc], Value.pointer (some { block := w.heap.size, off := 0 }), Value.pointer (some { block := w.heap.size + 1, off := 0 }), Value.pointer (some { block := B3, off := 0 }), u4, Value.int IntKind.i64 ↑ci, Value.int IntKind.i64 (↑ki + 1), Value.func (Fn.func 66) #[] #[Value.pointer (some { block := s0, off := 0 }), Value.pointer (some { block := s0 + 1, off := 0 }), Value.pointer (some { block := s0 + 1 + 1, off := 0 })], Value.pointer (some { block := bk2, off := 0 }), Value.pointer (some { block := T7, off := 0 }), Value.pointer (some { block := T7 + 1, off := 0 }), Value.pointer (some { block := T7 + 1 + 1, off := 0 }), Value.int IntKind.u64 ↑x, Value.pointer (some { block := U1.heap.size, off := 0 }), Value.pointer (some { block := wb, off := 0 }), Value.pointer (some { block := wb, off := 0 }), Value.bool false, u17, u18, u19, u20, u21, u22, u23, u24, u25, u26, u27, u28, u29, u30, u31, u32, u33, u34, u35, Value.pointer (some { block := w.heap.size, off := 1 }), Value.int IntKind.i64 cc, Value.int IntKind.i64 ↑ci, Value.pointer (some { block := w.heap.size, off := 2 }), Value.int IntKind.i64 kk, Value.int IntKind.i64 ↑ki, Value.int IntKind.i64 (↑ki + 1), Value.pointer (some { block := wb, off := 0 }), Value.pointer (some { block := wb, off := 0 }), Value.pointer (some { block := wb, off := 1 }), Value.pointer (some { block := qb, off := 0 }), Value.int IntKind.i64 ↑ci, Value.int IntKind.i64 (↑ki + 1), Value.func (Fn.func 66) #[] #[Value.pointer (some { block := s0, off := 0 }), Value.pointer (some { block := s0 + 1, off := 0 }), Value.pointer (some { block := s0 + 1 + 1, off := 0 })], Value.func (Fn.func 66) #[] #[Value.pointer (some { block := s0, off := 0 }), Value.pointer (some { block := s0 + 1, off := 0 }), Value.pointer (some { block := s0 + 1 + 1, off := 0 })], Value.bool false, Value.int IntKind.i64 ↑k, Value.bool true, u54, u55, Value.pointer (some { block := wb, off := 0 }), Value.pointer (some { block := wb, off := 0 }), Value.pointer (some { block := wb, off := 3 }), Value.pointer (some { block := D1.lb, off := 0 }), Value.int IntKind.i64 ↑ci, Value.int IntKind.i64 (↑ki + 1), Value.slice (some { block := g, off := 0 }) R.length rc, Value.func (Fn.func 66) #[] #[Value.pointer (some { block := s0, off := 0 }), Value.pointer (some { block := s0 + 1, off := 0 }), Value.pointer (some { block := s0 + 1 + 1, off := 0 })], Value.int IntKind.u64 ↑x, Value.bool false, Value.bool false, Value.int IntKind.i64 ↑pre.length, Value.slice (some { block := g, off := 0 }) R.length rc, Value.int IntKind.i64 ↑R.length, Value.bool false, Value.bool false, Value.bool false, Value.int IntKind.u64 ↑x, Value.slice (some { block := g, off := 0 }) R.length rc, Value.int IntKind.i64 ↑pre.length, Value.pointer (some { block := g, off := pre.length }), Value.int IntKind.u64 ↑x, Value.bool false, Value.bool false, Value.int IntKind.i64 ↑pre.length, Value.int IntKind.i64 (↑pre.length + 1), Value.pointer (some { block := w.heap.size, off := 3 }), Value.slice (some { block := vb, off := vo }) nv vc, Value.int IntKind.i64 ↑nv, Value.bool false, Value.pointer (some { block := w.heap.size, off := 3 }), Value.slice (some { block := vb, off := vo }) nv vc, Value.int IntKind.i64 (↑pre.length + 1), Value.int IntKind.i64 ↑k, Value.int IntKind.i64 (↑pre.length + 1 + ↑k), Value.pointer (some { block := w.heap.size, off := 3 }), Value.slice (some { block := vb, off := vo }) nv vc, Value.int IntKind.i64 ↑nv, Value.int IntKind.i64 ↑ix, Value.pointer (some { block := vb, off := vo + ix * 5 }), Value.agg #[Value.int IntKind.i64 dd, Value.int IntKind.i64 xx, Value.int IntKind.i64 yy, Value.bool ot, Value.bool st], undef, undef, undef, undef, undef, undef, undef, u104, u105, u106, u107, u108, u109, u110, u111, u112, undef, undef, undef, undef, undef], defers := [] } ∧ w' = U1.drew.alloc (.cells #[.int .i64 dd, .int .i64 xx, .int .i64 yy, .bool ot, .bool st] 52)) (S := fun W => U1.grownBy W none ∧ W.cell? ⟨w.heap.size, 3, none⟩ = some (.slice (some ⟨vb, vo, none⟩) nv vc) ∧ W.cell? ⟨T7 + 1, 0, none⟩ = some (.int .i64 ((pre.length : Int) + 1)) ∧ W.cell? ⟨bk2, 0, none⟩ = some (.int .i64 (k : Int)) ∧ W.cell? ⟨vb, vo + ix * 5, none⟩ = some (.int .i64 dd) ∧ W.cell? ⟨vb, vo + ix * 5 + 1, none⟩ = some (.int .i64 xx) ∧ W.cell? ⟨vb, vo + ix * 5 + 2, none⟩ = some (.int .i64 yy) ∧ W.cell? ⟨vb, vo + ix * 5 + 3, none⟩ = some (.bool ot) ∧ W.cell? ⟨vb, vo + ix * 5 + 4, none⟩ = some (.bool st) ∧ True) (by kernel_rfl) (hdf_of (by kernel_rfl)) (hSS _ (gb_drew (gb_refl U1 none))) (fun hSA => ?_)
              have hgA := hSA.1
              obtain ⟨Wd, hWd⟩ : ∃ Wd, U1.drew = Wd := ⟨_, rfl⟩
              rw [hWd] at hgA hSA ⊢
              have hWs : Wd.heap.size = U1.heap.size := by rw [← hWd]; rfl
              refine wpAnyH_take (i := 0) (oi := { dst := some 86, op := Op.fieldAddr 38 (Operand.tmp 1) 3, type := 0, pos := _, after := #[], guard := none }) (v := ?_) rfl (by kernel_rfl) (by kernel_rfl) (by kernel_rfl) (fun _ _ _ h => by cases h.1) (Or.inl ⟨by rfl, ?_⟩) (by first | trivial | assumption) ?_
              rotate_left 1
              · (intro W hSw; go_simp; (try (with_reducible rfl)))
              try simp only [Act.put, List.setIfInBounds_toArray, List.set_cons_zero, List.set_cons_succ]
              refine wpAnyH_take (i := 1) (oi := { dst := some 87, op := Op.load 36 (Operand.tmp 86), type := 36, pos := _, after := #[{ on := 0, ground := Ground.data }], guard := none }) (v := ?_) rfl (by kernel_rfl) (by kernel_rfl) (by kernel_rfl) (fun _ _ _ h => by cases h.1) (Or.inl ⟨by rfl, ?_⟩) (by first | trivial | assumption) ?_
              rotate_left 1
              · (intro W hSw; obtain ⟨hg0, y0, y1, y2, y3, y4, y5, y6, y7, y8⟩ := hSw; go_simp; (try (with_reducible rfl)))
              try simp only [Act.put, List.setIfInBounds_toArray, List.set_cons_zero, List.set_cons_succ]
              refine wpAnyH_take (i := 2) (oi := { dst := some 88, op := Op.load 3 (Operand.tmp 10), type := 3, pos := _, after := #[], guard := none }) (v := ?_) rfl (by kernel_rfl) (by kernel_rfl) (by kernel_rfl) (fun _ _ _ h => by cases h.1) (Or.inl ⟨by rfl, ?_⟩) (by first | trivial | assumption) ?_
              rotate_left 1
              · (intro W hSw; obtain ⟨hg0, y0, y1, y2, y3, y4, y5, y6, y7, y8⟩ := hSw; go_simp; (try (with_reducible rfl)))
              try simp only [Act.put, List.setIfInBounds_toArray, List.set_cons_zero, List.set_cons_succ]
              refine wpAnyH_take (i := 3) (oi := { dst := some 89, op := Op.load 3 (Operand.tmp 8), type := 3, pos := _, after := #[], guard := none }) (v := ?_) rfl (by kernel_rfl) (by kernel_rfl) (by kernel_rfl) (fun _ _ _ h => by cases h.1) (Or.inl ⟨by rfl, ?_⟩) (by first | trivial | assumption) ?_
              rotate_left 1
              · (intro W hSw; obtain ⟨hg0, y0, y1, y2, y3, y4, y5, y6, y7, y8⟩ := hSw; go_simp; (try (with_reducible rfl)))
              try simp only [Act.put, List.setIfInBounds_toArray, List.set_cons_zero, List.set_cons_succ]
              refine wpAnyH_take (i := 4) (oi := { dst := some 90, op := Op.binOp BinOp.add 3 (Operand.tmp 88) (Operand.tmp 89) 3, type := 3, pos := _, after := #[{ on := 2, ground := Ground.data }, { on := 3, ground := Ground.data }], guard := none }) (v := ?_) rfl (by kernel_rfl) (by kernel_rfl) (by kernel_rfl) (fun _ _ _ h => by cases h.1) (Or.inl ⟨by rfl, ?_⟩) (by first | trivial | assumption) ?_
              rotate_left 1
              · (intro W hSw; go_simp; (try (with_reducible rfl)))
              try simp only [Act.put, List.setIfInBounds_toArray, List.set_cons_zero, List.set_cons_succ]
              refine wpAnyH_take (i := 5) (oi := { dst := some 91, op := Op.fieldAddr 38 (Operand.tmp 1) 3, type := 0, pos := _, after := #[], guard := none }) (v := ?_) rfl (by kernel_rfl) (by kernel_rfl) (by kernel_rfl) (fun _ _ _ h => by cases h.1) (Or.inl ⟨by rfl, ?_⟩) (by first | trivial | assumption) ?_
              rotate_left 1
              · (intro W hSw; go_simp; (try (with_reducible rfl)))
              try simp only [Act.put, List.setIfInBounds_toArray, List.set_cons_zero, List.set_cons_succ]
              refine wpAnyH_take (i := 6) (oi := { dst := some 92, op := Op.load 36 (Operand.tmp 91), type := 36, pos := _, after := #[{ on := 5, ground := Ground.data }], guard := none }) (v := ?_) rfl (by kernel_rfl) (by kernel_rfl) (by kernel_rfl) (fun _ _ _ h => by cases h.1) (Or.inl ⟨by rfl, ?_⟩) (by first | trivial | assumption) ?_
              rotate_left 1
              · (intro W hSw; obtain ⟨hg0, y0, y1, y2, y3, y4, y5, y6, y7, y8⟩ := hSw; go_simp; (try (with_reducible rfl)))
              try simp only [Act.put, List.setIfInBounds_toArray, List.set_cons_zero, List.set_cons_succ]
              refine wpAnyH_take (i := 7) (oi := { dst := some 93, op := Op.call { callee := Callee.builtin Builtin.len, args := #[Operand.tmp 92], argTypes := #[36] }, type := 3, pos := _, after := #[{ on := 6, ground := Ground.data }], guard := none }) (v := ?_) rfl (by kernel_rfl) (by kernel_rfl) (by kernel_rfl) (fun _ _ _ h => by cases h.1) (Or.inl ⟨by rfl, ?_⟩) (by first | trivial | assumption) ?_
              rotate_left 1
              · (intro W hSw; go_simp; (try (with_reducible rfl)))
              try simp only [Act.put, List.setIfInBounds_toArray, List.set_cons_zero, List.set_cons_succ]
              refine wpAnyH_take (i := 8) (oi := { dst := some 94, op := Op.binOp BinOp.rem 3 (Operand.tmp 90) (Operand.tmp 93) 3, type := 3, pos := _, after := #[{ on := 4, ground := Ground.data }, { on := 7, ground := Ground.data }], guard := none }) (v := ?_) rfl (by kernel_rfl) (by kernel_rfl) (by kernel_rfl) (fun _ _ _ h => by cases h.1) (Or.inl ⟨by rfl, ?_⟩) (by first | trivial | assumption) ?_
              rotate_left 1
              · (intro W hSw; go_simp; (try (with_reducible rfl)))
              try simp only [Act.put, List.setIfInBounds_toArray, List.set_cons_zero, List.set_cons_succ]
              refine wpAnyH_take (i := 9) (oi := { dst := some 95, op := Op.indexAddr 36 (Operand.tmp 87) (Operand.tmp 94), type := 0, pos := _, after := #[{ on := 1, ground := Ground.data }, { on := 8, ground := Ground.data }], guard := none }) (v := ?_) rfl (by kernel_rfl) (by kernel_rfl) (by kernel_rfl) (fun _ _ _ h => by cases h.1) (Or.inl ⟨by rfl, ?_⟩) (by first | trivial | assumption) ?_
              rotate_left 1
              · (intro W hSw; go_simp; (try (with_reducible rfl)))
              try simp only [Act.put, List.setIfInBounds_toArray, List.set_cons_zero, List.set_cons_succ]
              refine wpAnyH_take (i := 10) (oi := { dst := some 96, op := Op.load 52 (Operand.tmp 95), type := 52, pos := _, after := #[{ on := 9, ground := Ground.data }], guard := none }) (v := ?_) rfl (by kernel_rfl) (by kernel_rfl) (by kernel_rfl) (fun _ _ _ h => by cases h.1) (Or.inl ⟨by rfl, ?_⟩) (by first | trivial | assumption) ?_
              rotate_left 1
              · (intro W hSw; obtain ⟨hg0, y0, y1, y2, y3, y4, y5, y6, y7, y8⟩ := hSw; go_simp; (try (with_reducible rfl)))
              try simp only [Act.put, List.setIfInBounds_toArray, List.set_cons_zero, List.set_cons_succ]
              refine wpAnyH_ready (rs := [11]) (by kernel_rfl) (by simp) ?_
              refine (AllReadyH.cons rfl (fun K hK => ?_) AllReadyH.nil)
              go_simp
              have hgN := gb_trans hgA (World.grownBy_alloc Wd (.cells #[.int .i64 0, .int .i64 0, .int .i64 0, .bool false, .bool false] 52) none)
              refine hK.out _ _ (hSS _ hgN) (fun hS => ?_)
              clear hK K hS
              try simp only [Act.put, List.setIfInBounds_toArray, List.set_cons_zero, List.set_cons_succ]
              refine wpAnyH_ready (rs := [12]) (by kernel_rfl) (by simp) ?_
              refine (AllReadyH.cons rfl (fun K hK => ?_) AllReadyH.nil)
              go_simp
              refine hK.out _ _ (hSS _ (gb_trans hgA (World.grownBy_alloc Wd _ none))) (fun hS => ?_)
              clear hK K hS
              try simp only [Act.put, List.setIfInBounds_toArray, List.set_cons_zero, List.set_cons_succ]
              refine wpAnyH_done (by kernel_rfl) ?_ _
              exact ⟨rfl, rfl, by rw [← hWd]⟩
            case rest =>
              rintro e a' w' ⟨rfl, rfl, rfl⟩
              have hgN : U1.grownBy (U1.drew.alloc (.cells #[.int .i64 dd, .int .i64 xx, .int .i64 yy, .bool ot, .bool st] 52)) none := gb_trans (gb_drew (gb_refl _ _)) (World.grownBy_alloc _ _ _)
              have hbN : Box (U1.drew.alloc (.cells #[.int .i64 dd, .int .i64 xx, .int .i64 yy, .bool ot, .bool st] 52)) 52 U1.heap.size #[.int .i64 dd, .int .i64 xx, .int .i64 yy, .bool ot, .bool st] := Box.new U1.drew 52 #[.int .i64 dd, .int .i64 xx, .int .i64 yy, .bool ot, .bool st]
              have hcv := HN.out.1.visit hgN hbN (Nat.le_refl _) dd xx yy ot st h64 hn1W.out hG1.out
              have cwN := gb_cellN hgN cww
              have b0 := hbN.cell 0
              have b1 := hbN.cell 1
              have b2 := hbN.cell 2
              have b3 := hbN.cell 3
              have b4 := hbN.cell 4
              simp only [List.getElem?_toArray, List.getElem?_cons_zero, List.getElem?_cons_succ] at b0 b1 b2 b3 b4
              have HM : Hid (KeepsFrom v0 V (U1.drew.alloc (.cells #[.int .i64 dd, .int .i64 xx, .int .i64 yy, .bool ot, .bool st] 52)) ∧ KD GG V (U1.drew.alloc (.cells #[.int .i64 dd, .int .i64 xx, .int .i64 yy, .bool ot, .bool st] 52))) := ⟨HN.out.2.1.trans (KeepsFrom.of_grownBy hgN (by simp)), HN.out.2.2.trans (KD.grown hgN (by simp))⟩
              clear HN hgN hbN z0 z1 z2 z3 z4 cvs ckk cww cn2 cst2 fn2 fst2 hrem e5 e6 e6' e7 e8
              generalize U1.drew.alloc (.cells #[.int .i64 dd, .int .i64 xx, .int .i64 yy, .bool ot, .bool st] 52) = U2 at *
              generalize U1.heap.size = bv at *
              cases st
              · gi_wp2_with (refine ⟨trivial, ?_⟩; gi_at_call 21; refine (CallsIn.inRound l (callsIn_wide.2 hcv)).mono ?_; rintro y U3 ⟨rfl, hb3, hI3⟩; (have b5 := hb3.cell 4); simp only [List.getElem?_toArray, List.getElem?_cons_zero, List.getElem?_cons_succ] at b5)
                exact ⟨HM.out.1.trans hI3.out.2.1, HM.out.2.trans hI3.out.2.2, hI3.out.1⟩
              · gi_wp2_with (refine ⟨trivial, ?_⟩; gi_at_call 21; refine (CallsIn.inRound l (callsIn_wide.2 hcv)).mono ?_; rintro y U3 ⟨rfl, hb3, hI3⟩; (have b5 := hb3.cell 4); simp only [List.getElem?_toArray, List.getElem?_cons_zero, List.getElem?_cons_succ] at b5; (obtain ⟨_, d2, _, d4⟩ := hI3.out.1.cells))
                have h := hI3.out.1.stops hL6T.out hG2.out.2
                exact .inr ⟨4, rfl, by rw [hv0]; exact (HM.out.1.trans hI3.out.2.1).trans h.2.1, (HM.out.2.trans hI3.out.2.2).trans h.2.2, rfl, _, h.1⟩
        case done =>
          clear hc29 hc3c hc3k hql hz0 hI0 hVis hV
          rintro M V hM hI hK
          obtain ⟨cn, cst, _, _⟩ := hI.out.cells
          have cwant := (hI.out.box i45).cell 0
          have ckk := (hI.out.box ik).cell 0
          simp only [List.getElem?_toArray, List.getElem?_cons_zero] at cwant ckk
          have ekk : IntKind.i64.wrap ((k : Int) + 1) = (k : Int) + 1 := by have := hk9.out; rw [IntKind.wrap_i64]; omega
          have HI : Hid (Ir w V wb n1 D lsb L6 (T7 + 1) R.length false (.slice ra R.length rc) R ds v0) := hI
          have HK : Hid (V.heap[M]? = some (Obj.deferred (some [])) ∧ v0 ≤ M) := ⟨hK, by rw [← hv0]; exact hM⟩
          clear hI hK hM
          gi_wp2
          have hsz := HI.out.sz
          have hb3 := (HI.out.box ik).lt
          have hwv := hww.out
          have hkv := HK.out
          have hrs := HI.out.rs (World.grownBy_alloc V (.cells #[.int .i64 ((k : Int) + 1)] 3) none) iL.out (Box.new V 3 #[.int .i64 ((k : Int) + 1)]) (Nat.le_refl _) hkv.1 (by omega) (fun d hd D' hD' => by have := hdsW.out d hd D' hD'; omega)
          refine ⟨⟨k + 1, V.heap.size, _, _, _, _, _, _, _, _, _, _, _, _, _, _, _, _, _, _, _, _, _, _, _, _, _, _, _, by have := hk9.out; omega, rfl, ?_⟩, ?_⟩
          · rw [show ((k + 1 : Nat) : Int) = (k : Int) + 1 by omega]
            exact ⟨hrs, by omega, by simp; omega⟩
          · have := hk9.out
            simp [ptrOf, intOf, ck]
            omega
        case stop =>
          clear hc29 hc3c hc3k hql hz0 hI0 hVis hV
          rintro M cd pre V hM _ ⟨rfl, nn, hI⟩ hK
          obtain ⟨cn, cst, _, _⟩ := hI.out.cells
          have ckk := (hI.out.box ik).cell 0
          simp only [List.getElem?_toArray, List.getElem?_cons_zero] at ckk
          have ekk : IntKind.i64.wrap ((k : Int) + 1) = (k : Int) + 1 := by have := hk9.out; rw [IntKind.wrap_i64]; omega
          have HI : Hid (Ir w V wb n1 D lsb L6 (T7 + 1) nn true (.slice ra R.length rc) R ds v0) := hI
          have HK : Hid (V.heap[M]? = some (Obj.deferred (some [])) ∧ v0 ≤ M) := ⟨hK, by rw [← hv0]; exact hM⟩
          clear hI hK hM
          gi_wp2
          have hsz := HI.out.sz
          have hb3 := (HI.out.box ik).lt
          have hwv := hww.out
          have hkv := HK.out
          have hrs := HI.out.rs (World.grownBy_alloc V (.cells #[.int .i64 ((k : Int) + 1)] 3) none) iL.out (Box.new V 3 #[.int .i64 ((k : Int) + 1)]) (Nat.le_refl _) hkv.1 (by omega) (fun d hd D' hD' => by have := hdsW.out d hd D' hD'; omega)
          refine ⟨⟨k + 1, V.heap.size, _, _, _, _, _, _, _, _, _, _, _, _, _, _, _, _, _, _, _, _, _, _, _, _, _, _, _, by have := hk9.out; omega, rfl, ?_⟩, ?_⟩
          · rw [show ((k + 1 : Nat) : Int) = (k : Int) + 1 by omega]
            exact ⟨hrs, by omega, by simp; omega⟩
          · have := hk9.out
            simp [ptrOf, intOf, ck]
            omega
      · obtain rfl : k = 2 := by omega
        have e1 : decide (((2 : Nat) : Int) < 2) = false := by decide
        have ck := (hR1.box (t := 3) (b := bk2) (vs := #[.int .i64 ((2 : Nat) : Int)]) (by simp)).cell 0
        have c3 := (hR1.box (List.mem_cons_of_mem _ n23)).cell 0
        have hbr := hR1.box (List.mem_cons_of_mem _ n4)
        have c4 := hbr.cell 0
        have f4 := hbr.fz 0
        simp only [List.getElem?_toArray, List.getElem?_cons_zero] at ck c3 c4
        have h15 := ends_15 (hR1.gt.gs (same_refl D1))
        have hwk := fun W => wakes_any W
        have HB : Hid (Box W 4 (w.heap.size + 1) #[.bool false]) := hbr
        have HG : Hid (w.grownBy W none) := hR1.gr
        have HD : Hid (Dfr n1 ds W) := hD1
        have hwn := HL4.out _ _ _ n38
        have HWN : Hid (w.heap.size ≤ n1) := Nat.le_of_lt hwn
        clear hV hbr hR1 hD1 hwn hfb0 HL4 HLL HS6 hef
        gi_wp2_with (first | (refine ⟨trivial, ?_⟩; gi_at_call 15; refine (callsIn_wide.2 h15).mono ?_; rintro y X1 ⟨rfl, hf1⟩) | (refine ⟨trivial, ?_⟩; gi_at_call 17; refine (callsIn_wide.2 (hwk _)).mono ?_; rintro y X2 ⟨rfl, hf2⟩; (have d4 := gb_cellN (gb_trans hf1 hf2) c4); (have g4 := (HB.out.kept (gb_trans hf1 hf2) (by simp)).fz 0)))
        have hf12 := gb_trans hf1 hf2
        have hbx := HB.out.kept hf12 (by simp)
        exact dfr_leaves (N := n1) (t2 := w.heap.size + 1) HWN.out (fun W h1 h2 => hres _ W rfl h1 h2) ds _ ((HD.out.grow hf12).cell hbx) (hbx.set 0 _) (gb_mine (gb_trans HG.out hf12) (gb_setCell (gb_refl _ (some (w.heap.size + 1))) _) (by omega))
  clear hK0
  gi_loopw [4] (fun iv wr => ∃ j : Nat, j ≤ 250 ∧ iv = .int .i64 j ∧ Hid (Lss w wr wb j E LL)) (fun iv _ => 250 - (intOf iv).toNat)
  case atStart => exact ⟨0, by omega, rfl, HE3⟩
  case round =>
    obtain ⟨j, hj, rfl, hEj⟩ := hrel
    obtain ⟨y0, y1, y2, y3⟩ := hx3 hEj
    have e4 : IntKind.i64.wrap ((j : Int) + 1) = (j : Int) + 1 := by rw [IntKind.wrap_i64]; omega
    by_cases hlt : j < n ∧ j < 250
    · obtain ⟨b, o, ha, v, hv, g0, g1, g2, g3, g4, g5⟩ := hO j hlt.1
      subst ha
      have hd1 : decide ((j : Int) < n) = true := decide_eq_true (by omega)
      have hd2 : decide ((j : Int) < 250) = true := decide_eq_true (by omega)
      have hl1 : (j : Int) < n := by omega
      have hl2 : (j : Int) < 250 := by omega
      have hl3 : ¬ (j : Int) < 0 := by omega
      have hEd : Hid (Lss w wr.drew wb j E LL) := hEj.out.kept0 (gb_drew (gb_refl _ _))
      have h13 := hEd.out.does (by omega) v hv
      have hcs : ∀ W j', Hid (Lss w W wb j' E LL) → (W.cell? ⟨B3, 0, none⟩ = some (.pointer (some ⟨wb, 0, none⟩)) ∧ W.cell? ⟨w.heap.size, 0, none⟩ = some (.slice (some ⟨b, o, none⟩) n c)) ∧ W.cell? ⟨b, o + j * 6, none⟩ = some (.int .i64 v.d) ∧ W.cell? ⟨b, o + j * 6 + 1, none⟩ = some (.int .i64 v.a) ∧ W.cell? ⟨b, o + j * 6 + 2, none⟩ = some (.int .i64 v.b) ∧ W.cell? ⟨b, o + j * 6 + 3, none⟩ = some (.int .i64 v.c) ∧ W.cell? ⟨b, o + j * 6 + 4, none⟩ = some (.int .u64 v.h) ∧ W.cell? ⟨b, o + j * 6 + 5, none⟩ = some (.bool v.r) := fun W j' h => ⟨⟨(hx3 h).1, (hx3 h).2.1⟩, gb_cellN h.out.gr g0, gb_cellN h.out.gr g1, gb_cellN h.out.gr g2, gb_cellN h.out.gr g3, gb_cellN h.out.gr g4, gb_cellN h.out.gr g5⟩
      have hk0 := hcs _ _ hEd
      unfold Opv.cs at h13
      obtain ⟨d0, a0, b0, c0v, h0v, r0⟩ := v
      dsimp only at *
      clear hO hEj HE3 hx3 hEd g0 g1 g2 g3 g4 g5 hv y2 y3
      gi_wp2
      refine wpIn_wide.2 ?_
      go_region_held3 (fun W => (W.cell? ⟨B3, 0, none⟩ = some (.pointer (some ⟨wb, 0, none⟩)) ∧ W.cell? ⟨w.heap.size, 0, none⟩ = some (.slice (some ⟨b, o, none⟩) n c)) ∧ W.cell? ⟨b, o + j * 6, none⟩ = some (.int .i64 d0) ∧ W.cell? ⟨b, o + j * 6 + 1, none⟩ = some (.int .i64 a0) ∧ W.cell? ⟨b, o + j * 6 + 2, none⟩ = some (.int .i64 b0) ∧ W.cell? ⟨b, o + j * 6 + 3, none⟩ = some (.int .i64 c0v) ∧ W.cell? ⟨b, o + j * 6 + 4, none⟩ = some (.int .u64 h0v) ∧ W.cell? ⟨b, o + j * 6 + 5, none⟩ = some (.bool r0)) ((first | with_reducible exact hk1 | with_reducible exact hk0 | go_keep)) ((first | (go_at_call 13; with_reducible refine h13.mono ?_; rintro y w5 ⟨rfl, hE5⟩; (have hk1 := hcs _ _ hE5))))
      gi_wp2
      exact ⟨⟨j + 1, by omega, by go_num, hE5⟩, by simp [intOf]; omega⟩
    · have hE9 : Hid (Lss w wr wb j E LL) := hEj
      clear hO HE3 hx3 hEj
      by_cases h1 : j < n
      · have hj2 : j = 250 := by omega
        subst hj2
        have hd1 : decide (((250 : Nat) : Int) < n) = true := decide_eq_true (by omega)
        have hl1 : (250 : Int) < n := by omega
        gi_wp2
        with_reducible exact key _ _ _ _ _ _ _ _ _ _ _ _ _ _ _ _ _ _ _ _ 250 _ (by omega) hE9
      · have hd1 : decide ((j : Int) < n) = false := decide_eq_false (by omega)
        have hl1 : ¬ (j : Int) < n := by omega
        gi_wp2
        with_reducible exact key _ _ _ _ _ _ _ _ _ _ _ _ _ _ _ _ _ _ _ _ j _ (by omega) hE9
end Go.Proofs.YtjkdflnnpdionaaGreat
