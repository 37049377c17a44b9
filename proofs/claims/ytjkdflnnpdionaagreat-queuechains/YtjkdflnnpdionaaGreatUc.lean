import Derived.Test.YtjkdflnnpdionaaGreatUb
import Derived.Test.YtjkdflnnpdionaaGreatPa
/-
  chain: a list, there and back.
-/
namespace Go.Proofs.YtjkdflnnpdionaaGreat
open Go.RowKit Go.Shelf
set_option linter.unusedVariables false
attribute [local go_sem] Oper.semAt_some

def lenOf : Option Value → Nat
  | some (.slice _ n _) => n
  | _ => 0
set_option maxRecDepth 100000 in
set_option maxHeartbeats 4000000 in
theorem chain_81 {w : World} {sb qb c : Nat} {kd : Int} {L : List Nat} (hC : Ch w sb qb c kd L) : Calls Tryz.prog 81 #[.pointer (some ⟨qb, 0, none⟩), .int .i64 c, .int .i64 kd] w fun y w' => ∃ v', y = .returned (.tuple #[v', .bool true]) ∧ w.grownBy w' none ∧ w'.ownsRow 0 50 1 v' L.length (uvs L) := by
  have h9 := hC.l9
  have hz := hC.z
  obtain ⟨i0, hi, hz0, hz1, hz2⟩ := info_parts Tryz.info50h
  have h41 := fun fn bs cs W => eql_func 41 fn41 fn bs cs W
  generalize hN0 : w.heap.size = N0
  have hgb : ∀ {B : World}, Below N0 w B → w.grownBy B none := fun h => ⟨h.os, h.tape, h.output, h.size, fun k hk _ => h.block k (by omega)⟩
  have hbg : ∀ {A B : World}, A.grownBy B none → N0 ≤ A.heap.size → Below N0 A B := fun h1 h2 => ⟨h1.os, h1.tape, h1.output, h1.size, fun k hk => h1.block k (by omega) (by simp)⟩
  -- the results' cells
  have a0 := World.grownBy_alloc w (.cells #[.slice none 0 0] 81) none
  have b0 := Box.new w 81 #[.slice none 0 0]
  rw [hN0] at b0
  have z0 : (w.alloc (.cells #[.slice none 0 0] 81)).heap.size = N0 + 1 := by simp [hN0]
  obtain ⟨wa, hwa⟩ : ∃ wa, w.alloc (.cells #[.slice none 0 0] 81) = wa := ⟨_, rfl⟩
  rw [hwa] at a0 b0 z0
  have a1 := World.grownBy_alloc wa (.cells #[.bool false] 4) none
  have b1 := Box.new wa 4 #[.bool false]
  rw [z0] at b1
  have z1 : (wa.alloc (.cells #[.bool false] 4)).heap.size = N0 + 1 + 1 := by simp [z0]
  obtain ⟨wb, hwb⟩ : ∃ wb, wa.alloc (.cells #[.bool false] 4) = wb := ⟨_, rfl⟩
  rw [hwb] at a1 b1 z1
  have b0' := b0.kept a1 (by simp)
  have hg1 := gb_trans a0 a1
  have hln := hC.ln wb hg1
  refine (callsIn_wide (n := 8)).1 ?_
  refine callsIn_of_wp_marks Tryz.func81 rfl trivial ?_ rfl
  simp only [Tryz.ntmps81, List.size_toArray, List.length_cons, List.length_nil, Nat.reduceAdd, Nat.reduceSub, Array.replicate_succ, Array.replicate_zero, List.push_toArray, List.append_toArray, List.nil_append, List.cons_append]
  have hl0 : ¬ (L.length : Int) < 0 := by omega
  have hl1 : ¬ (L.length : Int) > 1000 := by omega
  have d0 : decide ((L.length : Int) < 0) = false := decide_eq_false hl0
  have d1 : decide ((L.length : Int) > 1000) = false := decide_eq_false hl1
  have hsz2 : ∀ W : World, wb.grownBy W none → N0 + 1 + 1 ≤ W.heap.size := fun W hf => by have := hf.size; omega
  obtain ⟨F8, hF8⟩ : ∃ F8 : World → World → Prop, F8 = fun (w2 : World) (w5 : World) => ((w2.alloc (.cells #[.int .i64 L.length] 3)).alloc (.cells #[.slice none 0 0] 81)).grownBy w5 none := ⟨_, rfl⟩
  have hhd := fun (w2 : World) (hf : wb.grownBy w2 none) => (hC.hd ((w2.alloc (.cells #[.int .i64 L.length] 3)).alloc (.cells #[.slice none 0 0] 81)) (gb_alloc (gb_alloc (gb_trans hg1 hf) _) _)).mono (R' := fun y w' => y = .returned (pr (L.headD 0)) ∧ F8 w2 w') (by
    rintro y w' ⟨rfl, hf'⟩
    rw [hF8]
    exact ⟨rfl, hf'⟩)
  unfold pr at hhd
  gi_wp2_with (first
    | (refine ⟨trivial, ?_⟩; gi_at_call 65; refine (callsIn_wide.2 hln).mono ?_; rintro y w2 ⟨rfl, hg2⟩)
    | (refine ⟨trivial, ?_⟩; gi_at_call 63; refine (callsIn_wide.2 (hhd w2 hg2)).mono ?_; rintro y w5 ⟨rfl, hE5⟩))
  rw [hF8] at hE5
  obtain ⟨b8, hb8⟩ : ∃ b8, w2.heap.size = b8 := ⟨_, rfl⟩
  have q8 := Box.new w2 3 #[.int .i64 L.length]
  have e8 := World.grownBy_alloc w2 (.cells #[.int .i64 L.length] 3) none
  have q9 := Boxed.new (w2.alloc (.cells #[.int .i64 L.length] 3)) 81 (.slice none 0 0)
  have e9 := World.grownBy_alloc (w2.alloc (.cells #[.int .i64 L.length] 3)) (.cells #[.slice none 0 0] 81) none
  have zz : (w2.alloc (.cells #[.int .i64 L.length] 3)).heap.size = b8 + 1 := by simp [hb8]
  rw [zz] at q9
  rw [hb8] at q8
  have hs2 := hsz2 w2 hg2
  rw [hb8] at hs2
  have he5 := gb_trans e9 hE5
  have x6 := ((b0'.kept hg2 (by simp)).kept e8 (by simp)).kept he5 (by simp)
  have x7 := ((b1.kept hg2 (by simp)).kept e8 (by simp)).kept he5 (by simp)
  have x8 := q8.kept he5 (by simp)
  have x9 := q9.kept hE5 (by simp)
  have hw5 := gb_trans (gb_trans (gb_trans hg1 hg2) e8) he5
  have hB5 := hbg hw5 (by omega)
  have hs5 : b8 + 1 + 1 ≤ w5.heap.size := by have := hE5.size; simp at this; omega
  simp only [hb8]
  clear hF8 hE5 hln hhd q8 q9 e8 e9 he5 zz b0' b1 b0 a0 a1 z0 z1 hsz2 hg1 hw5
  gi_loopw [10, 11] (fun hv ov wr => ∃ U V : List Nat, L = U ++ V ∧ hv = .int .u64 (V.headD 0 : Nat) ∧ ov = .bool (decide (¬ V.headD 0 = 0)) ∧ Below N0 w wr ∧ w5.heap.size ≤ wr.heap.size ∧ Box wr 81 N0 #[.slice none 0 0] ∧ Box wr 4 (N0 + 1) #[.bool false] ∧ Box wr 3 b8 #[.int .i64 L.length] ∧ ∃ v, Boxed wr (b8 + 1) 81 v ∧ wr.ownsRow (b8 + 1) 50 1 v U.length (uvs U)) (fun _ _ wr => L.length - lenOf (wr.cell? ⟨b8 + 1, 0, none⟩))
  case atStart => exact ⟨[], L, rfl, by simp, by simp, hB5, Nat.le_refl _, x6, x7, x8, _, x9, World.ownsRow_nil _ _ _ _⟩
  case round =>
    obtain ⟨U, V, hL, rfl, rfl, hB, hs, y6, y7, y8, v, y9, yr⟩ := hrel
    have hBs := hB.size
    have c8 := y8.cell 0
    simp only [List.getElem?_toArray, List.getElem?_cons_zero] at c8
    have c9 := y9.cell
    obtain ⟨ao, cc, rfl, _, _, _, hao⟩ := row_shape yr
    cases V with
    | nil =>
      obtain rfl : L = U := hL.trans (List.append_nil U)
      rcases List.eq_nil_or_concat L with hL0 | ⟨L', x, hLx⟩
      · have HL0 : Hid (L = []) := hL0
        have hlast : L.getLastD 0 = 0 := by rw [hL0]; rfl
        have htl := hC.tl wr (hgb hB)
        have hsqC := hC.sq
        rw [hlast] at htl
        unfold pr at htl
        have HS : Hid (Box wr 81 N0 #[.slice none 0 0] ∧ Box wr 4 (N0 + 1) #[.bool false] ∧ Box wr 3 b8 #[.int .i64 L.length] ∧ Boxed wr (b8 + 1) 81 (.slice ao L.length cc) ∧ wr.ownsRow (b8 + 1) 50 1 (.slice ao L.length cc) L.length (uvs L) ∧ Below N0 w wr) := ⟨y6, y7, y8, y9, yr, hB⟩
        have hcv : ∀ W, wr.grownBy W none → W.cell? ⟨b8, 0, none⟩ = some (.int .i64 L.length) ∧ W.cell? ⟨b8 + 1, 0, none⟩ = some (.slice ao L.length cc) := fun W hf => ⟨(y8.kept hf (by simp)).cell 0, (y9.kept hf (by simp)).cell⟩
        obtain ⟨ln, hln⟩ : ∃ ln, L.length = ln := ⟨_, rfl⟩
        have hn0 : ln = 0 := by rw [← hln, hL0]; rfl
        have hp1 : ¬ (ln : Int) > 0 := by omega
        have hp2 : decide ((ln : Int) > 0) = false := decide_eq_false hp1
        have hp3 : (ln : Int) = 0 := by omega
        have w1' : IntKind.i64.wrap ((ln : Int) - 1) = -1 := by rw [IntKind.wrap_i64]; omega
        have w2' : IntKind.i64.wrap (-1 : Int) = -1 := by decide
        simp only [List.headD_nil]
        clear hL x6 x7 x8 x9 y6 y7 y8 y9 yr hlast hao hC hL0
        simp only [hln] at hcv c8 c9 d0 d1 hl0 hl1 ⊢
        have HLn : Hid (L.length = ln) := hln
        clear hln
        have hp4 : decide ((ln : Int) = 0) = true := decide_eq_true hp3
        have HN0 : Hid (ln = 0) := hn0
        clear hn0
        gi_wp2_with (first
          | (refine ⟨trivial, ?_⟩; gi_at_call 64; refine (callsIn_wide.2 htl).mono ?_; rintro y w8 ⟨rfl, hf8⟩; obtain ⟨r8, r9⟩ := hcv _ hf8))
        gi_loopw [14] (fun iv wq => iv = .int .i64 (-1) ∧ wr.grownBy wq none) (fun iv _ => (intOf iv + 1).toNat)
        case atStart => exact ⟨rfl, hf8⟩
        case round =>
          obtain ⟨rfl, hgq⟩ := hrel
          obtain ⟨p8, p9⟩ := hcv _ hgq
          obtain ⟨s, hsq⟩ : ∃ s, wr.heap.size = s := ⟨_, rfl⟩
          have h19 := (all_19 qb c kd wr).mono (R' := fun y w' => y = .returned (.func (.func 66) #[] #[.pointer (some ⟨s, 0, none⟩), .pointer (some ⟨s + 1, 0, none⟩), .pointer (some ⟨s + 1 + 1, 0, none⟩)]) ∧ wr.grownBy w' none ∧ w'.heap.size = s + 3 ∧ Box w' 29 s #[.pointer (some ⟨qb, 0, none⟩)] ∧ Box w' 3 (s + 1) #[.int .i64 c] ∧ Box w' 3 (s + 1 + 1) #[.int .i64 kd]) (by
            rintro y w' ⟨rfl, rfl⟩
            rw [hsq]
            exact ⟨rfl, box3_facts wr qb c kd s hsq⟩)
          gi_wp2_with (first | (refine ⟨trivial, ?_⟩; gi_at_call 19; refine (callsIn_wide.2 h19).mono ?_; rintro z w9 ⟨rfl, hf9, f2, f3, f4, f5⟩))
          have hgr := gb_trans hgq hf9
          have hss := hgq.size
          rw [hsq] at hss
          obtain ⟨g6, g7, g8, g9, g10, g11⟩ := HS.out
          have y6 := g6.kept hgr (by simp)
          have y7 := g7.kept hgr (by simp)
          have y8 := g8.kept hgr (by simp)
          have y9 := g9.kept hgr (by simp)
          have yr := row_kept g10 hgr (by simp)
          have hB9 := g11.trans (hbg hgr (by omega))
          have e6 := World.grownBy_alloc w9 (.cells #[.int .i64 0] 3) none
          have x18 := Box.new w9 3 #[.int .i64 0]
          rw [f2] at x18
          have v6 := y6.kept e6 (by simp)
          have v7 := y7.kept e6 (by simp)
          have v8 := y8.kept e6 (by simp)
          have v9 := y9.kept e6 (by simp)
          have vr := row_kept yr e6 (by simp)
          have t1 := f3.kept e6 (by simp)
          have t2 := f4.kept e6 (by simp)
          have t3 := f5.kept e6 (by simp)
          have hs9 := hgr.size
          have hB10 := hB9.trans (hbg e6 (by omega))
          have z10 : (w9.alloc (.cells #[.int .i64 0] 3)).heap.size = s + 3 + 1 := by simp [f2]
          generalize w9.alloc (.cells #[.int .i64 0] 3) = w10 at *
          clear y6 y7 y8 y9 yr g6 g7 g8 g9 g10 e6 f3 f4 f5 HS h19
          obtain ⟨b18, hb18⟩ : ∃ b18, s + 3 = b18 := ⟨_, rfl⟩
          rw [hb18] at x18 z10
          have hLn := HLn.out
          rw [hLn] at v8 v9 vr
          have hb8l : b8 + 1 < b18 := by omega
          have hN0l : N0 + 1 < b8 := by omega
          clear hgq hf9 f2 hgr g11 hB9 hs9 hg2 hB5 hB
          refine range_list (n := 8) rfl (by decide) (gf := 66) (lb := #[.pointer (some ⟨s, 0, none⟩), .pointer (some ⟨s + 1, 0, none⟩), .pointer (some ⟨s + 1 + 1, 0, none⟩)]) rfl trivial (enters_of Tryz.func66 (by kernel_rfl) rfl) L
            (KD (fun k => k = b18)) (fun h k => h.trans k) (fun W l r r' _ h => KD.put h)
            (fun pre V => Below N0 w V ∧ w10.heap.size ≤ V.heap.size ∧ Box V 81 N0 #[.slice none 0 0] ∧ Box V 4 (N0 + 1) #[.bool false] ∧ Box V 3 b8 #[.int .i64 ln] ∧ Boxed V (b8 + 1) 81 (.slice ao ln cc) ∧ V.ownsRow (b8 + 1) 50 1 (.slice ao ln cc) ln (uvs L) ∧ Box V 3 b18 #[.int .i64 (pre.length : Nat)])
            (fun _ _ _ => False) ?na1 ?nhIg (fun _ _ _ _ h _ => h) ?nhIp (fun _ _ _ _ _ _ h _ _ _ => h) ?nh0 ?nhit ?nassign ?nbody ?ndone ?nstop
          case nassign =>
            intro l x V K hK
            gi_wp2
            exact hK
          case nhIg =>
            rintro pre A B ⟨hB, hs, u6, u7, u8, u9, ur, u18⟩ hg
            exact ⟨hB.trans (hbg hg (by have := hB.size; omega)), Nat.le_trans hs hg.size, u6.kept hg (by simp), u7.kept hg (by simp), u8.kept hg (by simp), u9.kept hg (by simp), row_kept ur hg (by simp), u18.kept hg (by simp)⟩
          case nhIp =>
            rintro pre V l o o' ⟨hB, hs, u6, u7, u8, u9, ur, u18⟩ hl ho hc
            have hg := grownBy_putObj' V l o'
            exact ⟨hB.trans ((Below.refl _ V).grown hg (by have := hB.size; omega) (fun k e => by cases e; omega)), Nat.le_trans hs hg.size, u6.kept hg (by simp; omega), u7.kept hg (by simp; omega), u8.kept hg (by simp; omega), u9.kept hg (by simp; omega), ownsRow_putObj ur _ ho hc, u18.kept hg (by simp; omega)⟩
          case nh0 => exact ⟨hB10, Nat.le_refl _, v6, v7, v8, v9, vr, x18⟩
          case nhit =>
            intro o
            have ga : w10.grownBy ((w10.alloc (.deferred (some []))).alloc o) none := gb_alloc (gb_alloc (gb_refl _ none) _) _
            have hsz : ((w10.alloc (.deferred (some []))).alloc o).heap.size = w10.heap.size + 1 + 1 := by simp
            exact all_seq (w := w) (n₀ := N0) (by decide) hz h9 (fun W' hW' => hsqC W' (hgb hW')) (hB10.trans (hbg ga (by omega))) (by omega) ((t1.kept ga (by simp)).cell 0) ((t2.kept ga (by simp)).cell 0) ((t3.kept ga (by simp)).cell 0) (fun k hk => by omega)
          case nstop =>
            rintro D' c' pre V _ _ h _
            exact h.elim
          case nbody =>
            rintro l pre x V _ hpre
            rw [HL0.out] at hpre
            have := hpre.length_le
            simp at this
          case ndone =>
            rintro D' V hD ⟨hB, hs, u6, u7, u8, u9, ur, u18⟩ hK
            have c6 := u6.cell 0
            have c7 := u7.cell 0
            have c8 := u8.cell 0
            have c9 := u9.cell
            have c18 := u18.cell 0
            have z6 := u6.fz 0
            have z7 := u7.fz 0
            simp only [List.getElem?_toArray, List.getElem?_cons_zero] at c6 c7 c8 c18
            rw [hLn] at c18
            gi_wp2
            gi_region
            gi_wp2
            have b6 := u6.set 0 (.slice ao ln cc)
            have hg6 := grownBy_setCell' V N0 (.slice ao ln cc)
            have b7 := u7.kept hg6 (by simp)
            have br := row_kept ur hg6 (fun k hk e => by have := own_base ur k hk; simp at e; omega)
            have hB1 := hB.trans ((Below.refl N0 V).grown hg6 (by have := hB.size; omega) (fun k e => by cases e; exact Nat.le_refl _))
            have hK1 : (V.setCell ⟨N0, 0, none⟩ (.slice ao ln cc)).heap[D']? = some (Obj.deferred (some [])) := by
              rw [hg6.block D' (Array.getElem?_eq_some_iff.1 hK).1 (by simp; omega)]
              exact hK
            generalize V.setCell ⟨N0, 0, none⟩ (.slice ao ln cc) = V1 at *
            have a7 := b7.set 0 (.bool true)
            have hg7 := grownBy_setCell' V1 (N0 + 1) (.bool true)
            have a6 := b6.kept hg7 (by simp)
            have ar := row_kept br hg7 (fun k hk e => by have := own_base br k hk; simp at e; omega)
            have hB2 := hB1.trans ((Below.refl N0 V1).grown hg7 (by have := hB1.size; omega) (fun k e => by cases e; omega))
            have hK2 : (V1.setCell ⟨N0 + 1, 0, none⟩ (.bool true)).heap[D']? = some (Obj.deferred (some [])) := by
              rw [hg7.block D' (Array.getElem?_eq_some_iff.1 hK1).1 (by simp; omega)]
              exact hK1
            generalize V1.setCell ⟨N0 + 1, 0, none⟩ (.bool true) = V2 at *
            have hK3 : V2.drew.heap[D']? = some (Obj.deferred (some [])) := hK2
            refine ⟨by simp, .inl ⟨_, _, rfl, run_takeDeferred hK3, ?_⟩⟩
            have hgd : V2.grownBy V2.drew none := gb_drew (gb_refl _ _)
            have hgD := grownBy_putObj' V2.drew D' (.deferred none)
            have x6' := (a6.kept hgd (by simp)).kept hgD (by simp; omega)
            have x7' := (a7.kept hgd (by simp)).kept hgD (by simp; omega)
            have q6 : (V2.drew.putObj D' (Obj.deferred none)).cell? ⟨N0, 0, none⟩ = some (.slice ao ln cc) := x6'.cell 0
            have q7 : (V2.drew.putObj D' (Obj.deferred none)).cell? ⟨N0 + 1, 0, none⟩ = some (.bool true) := x7'.cell 0
            have hrr := ownsRow_putObj (row_kept ar hgd (by simp)) (.deferred none) hK3 rfl
            have hBd := (hB2.trans (hbg hgd (by have := hB2.size; omega))).trans ((Below.refl N0 V2.drew).grown hgD (by have := hB2.size; simp; omega) (fun k e => by cases e; omega))
            refine ⟨.tuple #[.slice ao ln cc, .bool true], ?_, .slice ao ln cc, rfl, hgb hBd, ?_⟩
            · simp [results, Tryz.f81, go_sem, q6, q7]
            · rw [hLn]
              exact row_base hrr (Nat.zero_le _)
      · rw [List.concat_eq_append] at hLx
        have hn0 : 0 < L.length := by rw [hLx]; simp
        obtain ⟨g, rfl⟩ := hao hn0
        have hlast : L.getLastD 0 = x := by rw [hLx]; simp
        have hx0 : x ≠ 0 := fun e => hz (by rw [hLx, e]; simp)
        have hget : L[L.length - 1]? = some x := by rw [hLx]; simp
        have hcv : ∀ W, wr.grownBy W none → W.cell? ⟨b8, 0, none⟩ = some (.int .i64 L.length) ∧ W.cell? ⟨b8 + 1, 0, none⟩ = some (.slice (some ⟨g, 0, none⟩) L.length cc) := fun W hf => ⟨(y8.kept hf (by simp)).cell 0, (y9.kept hf (by simp)).cell⟩
        have hce : ∀ W, wr.grownBy W none → ∀ (i y : Nat), L[i]? = some y → W.cell? ⟨g, i, none⟩ = some (.int .u64 (y : Nat)) := fun W hf i y e => row_cell (row_kept yr hf (by simp)) i _ (uvs_get e)
        have htl := hC.tl wr (hgb hB)
        have hsqC := hC.sq
        rw [hlast] at htl
        unfold pr at htl
        have hah : ∀ (i y : Nat), L[i]? = some y → ∃ a : Nat, (∀ W, wr.grownBy W none → Calls Tryz.prog 92 #[.pointer (some ⟨qb, 0, none⟩), .int .u64 y] W fun z w' => z = .returned (pr a) ∧ W.grownBy w' none) ∧ (i = 0 → a = 0) ∧ (0 < i → a ≠ 0 ∧ L[i - 1]? = some a) := fun i y e => by
          have hi := (List.getElem?_eq_some_iff.1 e).1
          have hsp : L = L.take i ++ y :: L.drop (i + 1) := by
            have h1 := (List.take_append_drop i L).symm
            rw [List.drop_eq_getElem_cons hi] at h1
            rw [(List.getElem?_eq_some_iff.1 e).2] at h1
            exact h1
          refine ⟨(L.take i).getLastD 0, fun W hf => hC.ah _ _ _ hsp W (gb_trans (hgb hB) hf), fun h0 => by subst h0; simp, fun h0 => ?_⟩
          have hl : L[i - 1]? = some ((L.take i).getLastD 0) := by
            rw [List.getLastD_eq_getLast?, List.getLast?_eq_getElem?, List.length_take, List.getElem?_take_of_lt (by omega), show min i L.length - 1 = i - 1 by omega]
            rw [List.getElem?_eq_getElem (by omega)]
            rfl
          refine ⟨fun e0 => hz ?_, hl⟩
          rw [e0] at hl
          exact List.mem_of_getElem? hl
        have w1' : IntKind.i64.wrap ((L.length : Int) - 1) = (L.length : Int) - 1 := by rw [IntKind.wrap_i64]; omega
        have hq0 : ¬ ((L.length : Int) - 1) < 0 := by omega
        have hq1 : ((L.length : Int) - 1) < L.length := by omega
        have hq2 : ((L.length : Int) - 1).toNat = L.length - 1 := by omega
        have hp1 : (L.length : Int) > 0 := by omega
        have hp2 : decide ((L.length : Int) > 0) = true := decide_eq_true hp1
        have hp3 : ¬ (L.length : Int) = 0 := by omega
        have hxb : decide (¬ x = 0) = true := decide_eq_true hx0
        have HS : Hid (Box wr 81 N0 #[.slice none 0 0] ∧ Box wr 4 (N0 + 1) #[.bool false] ∧ Box wr 3 b8 #[.int .i64 L.length] ∧ Boxed wr (b8 + 1) 81 (.slice (some ⟨g, 0, none⟩) L.length cc) ∧ wr.ownsRow (b8 + 1) 50 1 (.slice (some ⟨g, 0, none⟩) L.length cc) L.length (uvs L) ∧ Below N0 w wr) := ⟨y6, y7, y8, y9, yr, hB⟩
        simp only [List.headD_nil]
        clear hLx hL x6 x7 x8 x9 y6 y7 y8 y9 yr hlast hao hC
        obtain ⟨ln, hln⟩ : ∃ ln, L.length = ln := ⟨_, rfl⟩
        have hget2 : ∀ i, i < ln → ∃ y, L[i]? = some y := fun i hi => ⟨L[i], List.getElem?_eq_getElem (by omega)⟩
        simp only [hln] at hget hcv w1' hq0 hq1 hq2 hp1 hp2 hp3 c8 c9 d0 d1 hl0 hl1 hn0 ⊢
        have HLn : Hid (L.length = ln) := hln
        clear hln
        gi_wp2_with (first
          | (refine ⟨trivial, ?_⟩; gi_at_call 64; refine (callsIn_wide.2 htl).mono ?_; rintro y w8 ⟨rfl, hf8⟩; obtain ⟨r8, r9⟩ := hcv _ hf8; have rx := hce _ hf8 _ _ hget))
        gi_loopw [14] (fun iv wq => ∃ j : Nat, j ≤ ln ∧ iv = .int .i64 ((j : Int) - 1) ∧ wr.grownBy wq none) (fun iv _ => (intOf iv + 1).toNat)
        case atStart => exact ⟨ln, by omega, rfl, hf8⟩
        case round =>
          obtain ⟨j, hj, rfl, hgq⟩ := hrel
          obtain ⟨p8, p9⟩ := hcv _ hgq
          rcases Nat.eq_zero_or_pos j with rfl | hj0
          · have q1 : ((0 : Nat) : Int) - 1 = -1 := rfl
            rw [q1]
            obtain ⟨s, hsq⟩ : ∃ s, wr.heap.size = s := ⟨_, rfl⟩
            have h19 := (all_19 qb c kd wr).mono (R' := fun y w' => y = .returned (.func (.func 66) #[] #[.pointer (some ⟨s, 0, none⟩), .pointer (some ⟨s + 1, 0, none⟩), .pointer (some ⟨s + 1 + 1, 0, none⟩)]) ∧ wr.grownBy w' none ∧ w'.heap.size = s + 3 ∧ Box w' 29 s #[.pointer (some ⟨qb, 0, none⟩)] ∧ Box w' 3 (s + 1) #[.int .i64 c] ∧ Box w' 3 (s + 1 + 1) #[.int .i64 kd]) (by
              rintro y w' ⟨rfl, rfl⟩
              rw [hsq]
              exact ⟨rfl, box3_facts wr qb c kd s hsq⟩)
            gi_wp2_with (first | (refine ⟨trivial, ?_⟩; gi_at_call 19; refine (callsIn_wide.2 h19).mono ?_; rintro z w9 ⟨rfl, hf9, f2, f3, f4, f5⟩))
            have hgr := gb_trans hgq hf9
            have hss := hgq.size
            rw [hsq] at hss
            obtain ⟨g6, g7, g8, g9, g10, g11⟩ := HS.out
            have y6 := g6.kept hgr (by simp)
            have y7 := g7.kept hgr (by simp)
            have y8 := g8.kept hgr (by simp)
            have y9 := g9.kept hgr (by simp)
            have yr := row_kept g10 hgr (by simp)
            have hB9 := g11.trans (hbg hgr (by omega))
            have e6 := World.grownBy_alloc w9 (.cells #[.int .i64 0] 3) none
            have x18 := Box.new w9 3 #[.int .i64 0]
            rw [f2] at x18
            have v6 := y6.kept e6 (by simp)
            have v7 := y7.kept e6 (by simp)
            have v8 := y8.kept e6 (by simp)
            have v9 := y9.kept e6 (by simp)
            have vr := row_kept yr e6 (by simp)
            have t1 := f3.kept e6 (by simp)
            have t2 := f4.kept e6 (by simp)
            have t3 := f5.kept e6 (by simp)
            have hs9 := hgr.size
            have hB10 := hB9.trans (hbg e6 (by omega))
            have z10 : (w9.alloc (.cells #[.int .i64 0] 3)).heap.size = s + 3 + 1 := by simp [f2]
            generalize w9.alloc (.cells #[.int .i64 0] 3) = w10 at *
            clear y6 y7 y8 y9 yr g6 g7 g8 g9 g10 e6 f3 f4 f5 hah hget2 hce hcv HS htl h19
            obtain ⟨b18, hb18⟩ : ∃ b18, s + 3 = b18 := ⟨_, rfl⟩
            rw [hb18] at x18 z10
            have hLn := HLn.out
            rw [hLn] at v8 v9 vr
            have hb8l : b8 + 1 < b18 := by omega
            have hN0l : N0 + 1 < b8 := by omega
            clear hgq hf9 f2 hgr g11 hB9 hs9 hg2 hB5 hB
            refine range_list (n := 8) rfl (by decide) (gf := 66) (lb := #[.pointer (some ⟨s, 0, none⟩), .pointer (some ⟨s + 1, 0, none⟩), .pointer (some ⟨s + 1 + 1, 0, none⟩)]) rfl trivial (enters_of Tryz.func66 (by kernel_rfl) rfl) L
              (KD (fun k => k = b18)) (fun h k => h.trans k) (fun W l r r' _ h => KD.put h)
              (fun pre V => Below N0 w V ∧ w10.heap.size ≤ V.heap.size ∧ Box V 81 N0 #[.slice none 0 0] ∧ Box V 4 (N0 + 1) #[.bool false] ∧ Box V 3 b8 #[.int .i64 ln] ∧ Boxed V (b8 + 1) 81 (.slice (some ⟨g, 0, none⟩) ln cc) ∧ V.ownsRow (b8 + 1) 50 1 (.slice (some ⟨g, 0, none⟩) ln cc) ln (uvs L) ∧ Box V 3 b18 #[.int .i64 (pre.length : Nat)])
              (fun _ _ _ => False) ?a1 ?hIg (fun _ _ _ _ h _ => h) ?hIp (fun _ _ _ _ _ _ h _ _ _ => h) ?h0 ?hit ?assign ?body ?done ?stop
            case assign =>
              intro l x V K hK
              gi_wp2
              exact hK
            case hIg =>
              rintro pre A B ⟨hB, hs, u6, u7, u8, u9, ur, u18⟩ hg
              exact ⟨hB.trans (hbg hg (by have := hB.size; omega)), Nat.le_trans hs hg.size, u6.kept hg (by simp), u7.kept hg (by simp), u8.kept hg (by simp), u9.kept hg (by simp), row_kept ur hg (by simp), u18.kept hg (by simp)⟩
            case hIp =>
              rintro pre V l o o' ⟨hB, hs, u6, u7, u8, u9, ur, u18⟩ hl ho hc
              have hg := grownBy_putObj' V l o'
              exact ⟨hB.trans ((Below.refl _ V).grown hg (by have := hB.size; omega) (fun k e => by cases e; omega)), Nat.le_trans hs hg.size, u6.kept hg (by simp; omega), u7.kept hg (by simp; omega), u8.kept hg (by simp; omega), u9.kept hg (by simp; omega), ownsRow_putObj ur _ ho hc, u18.kept hg (by simp; omega)⟩
            case h0 => exact ⟨hB10, Nat.le_refl _, v6, v7, v8, v9, vr, x18⟩
            case hit =>
              intro o
              have ga : w10.grownBy ((w10.alloc (.deferred (some []))).alloc o) none := gb_alloc (gb_alloc (gb_refl _ none) _) _
              have hsz : ((w10.alloc (.deferred (some []))).alloc o).heap.size = w10.heap.size + 1 + 1 := by simp
              exact all_seq (w := w) (n₀ := N0) (by decide) hz h9 (fun W' hW' => hsqC W' (hgb hW')) (hB10.trans (hbg ga (by omega))) (by omega) ((t1.kept ga (by simp)).cell 0) ((t2.kept ga (by simp)).cell 0) ((t3.kept ga (by simp)).cell 0) (fun k hk => by omega)
            case stop =>
              rintro D' c' pre V _ _ h _
              exact h.elim
            case body =>
              rintro l pre x V ⟨hB, hs, u6, u7, u8, u9, ur, u18⟩ hpre
              have hlt : pre.length < ln := by have := hpre.length_le; simp at this; omega
              have hLx : L[pre.length]? = some x := by
                obtain ⟨r, hr⟩ := hpre
                rw [← hr]; simp
              have hcx := row_cell ur pre.length (.int .u64 (x : Nat)) (uvs_get hLx)
              have c8 := u8.cell 0
              have c9 := u9.cell
              have c18 := u18.cell 0
              have z18 := u18.fz 0
              simp only [List.getElem?_toArray, List.getElem?_cons_zero] at c8 c18
              have hg18 := grownBy_setCell' V b18 (.int .i64 ((pre.length : Int) + 1))
              have hbx : V.heap[b18]? = some (.cells #[.int .i64 (pre.length : Nat)] 3 (0, 0)) := u18
              have v18 := u18.set 0 (.int .i64 ((pre.length : Int) + 1))
              have HF : Hid (KeepsFrom w10.heap.size V (V.setCell ⟨b18, 0, none⟩ (.int .i64 ((pre.length : Int) + 1))) ∧ KD (fun k => k = b18) V (V.setCell ⟨b18, 0, none⟩ (.int .i64 ((pre.length : Int) + 1))) ∧ (Below N0 w (V.setCell ⟨b18, 0, none⟩ (.int .i64 ((pre.length : Int) + 1))) ∧ w10.heap.size ≤ (V.setCell ⟨b18, 0, none⟩ (.int .i64 ((pre.length : Int) + 1))).heap.size ∧ Box (V.setCell ⟨b18, 0, none⟩ (.int .i64 ((pre.length : Int) + 1))) 81 N0 #[.slice none 0 0] ∧ Box (V.setCell ⟨b18, 0, none⟩ (.int .i64 ((pre.length : Int) + 1))) 4 (N0 + 1) #[.bool false] ∧ Box (V.setCell ⟨b18, 0, none⟩ (.int .i64 ((pre.length : Int) + 1))) 3 b8 #[.int .i64 ln] ∧ Boxed (V.setCell ⟨b18, 0, none⟩ (.int .i64 ((pre.length : Int) + 1))) (b8 + 1) 81 (.slice (some ⟨g, 0, none⟩) ln cc) ∧ (V.setCell ⟨b18, 0, none⟩ (.int .i64 ((pre.length : Int) + 1))).ownsRow (b8 + 1) 50 1 (.slice (some ⟨g, 0, none⟩) ln cc) ln (uvs L) ∧ Box (V.setCell ⟨b18, 0, none⟩ (.int .i64 ((pre.length : Int) + 1))) 3 b18 #[.int .i64 ((pre ++ [x]).length : Nat)])) := by
                refine ⟨KeepsFrom.of_grownBy hg18 (fun j hj => by cases hj; omega), KD.grown hg18 (fun r hr => by cases hr; exact ⟨rfl, _, hbx, rfl⟩), hB.trans ((Below.refl _ V).grown hg18 (by have := hB.size; omega) (fun k e => by cases e; omega)), Nat.le_trans hs hg18.size, u6.kept hg18 (by simp; omega), u7.kept hg18 (by simp; omega), u8.kept hg18 (by simp; omega), u9.kept hg18 (by simp; omega), row_kept ur hg18 (fun k hk e => ?_), ?_⟩
                · obtain ⟨cur, hcur⟩ := row_block ur k hk
                  exact ne_of_type hcur u18 (by decide) (by simpa using e)
                · rw [List.length_append, List.length_singleton]
                  exact v18
              have e1 : ¬ (ln : Int) ≤ (pre.length : Int) := by omega
              have e2 : (pre.length : Int) < (ln : Int) := by omega
              have e3 : decide ((pre.length : Int) ≥ (ln : Int)) = false := decide_eq_false (by omega)
              have e4 : IntKind.i64.wrap ((pre.length : Int) + 1) = (pre.length : Int) + 1 := by rw [IntKind.wrap_i64]; omega
              clear hpre hLx ur u6 u7 hg18 hbx v18 hB hLn
              clear h41 hsqC rx r8 r9 hget hxb hp1 hp2 hp3 hq1 hq2 w1' v6 v7 v8 v9 vr t1 t2 t3 x18 hB10 hss q1 d0 d1
              gi_wp2
              have h := HF.out
              simp only [List.length_append, List.length_singleton] at h
              obtain ⟨g1, g2, g3, g4, g5, g6, g7, g8, g9, g10⟩ := h
              rw [z10] at g1
              exact ⟨g1, g2, g3, by omega, g5, g6, g7, g8, g9, g10⟩
            case done =>
              rintro D' V hD ⟨hB, hs, u6, u7, u8, u9, ur, u18⟩ hK
              have c6 := u6.cell 0
              have c7 := u7.cell 0
              have c8 := u8.cell 0
              have c9 := u9.cell
              have c18 := u18.cell 0
              have z6 := u6.fz 0
              have z7 := u7.fz 0
              simp only [List.getElem?_toArray, List.getElem?_cons_zero] at c6 c7 c8 c18
              rw [hLn] at c18
              gi_wp2
              gi_region
              gi_wp2
              have b6 := u6.set 0 (.slice (some ⟨g, 0, none⟩) ln cc)
              have hg6 := grownBy_setCell' V N0 (.slice (some ⟨g, 0, none⟩) ln cc)
              have b7 := u7.kept hg6 (by simp)
              have br := row_kept ur hg6 (fun k hk e => by have := own_base ur k hk; simp at e; omega)
              have hB1 := hB.trans ((Below.refl N0 V).grown hg6 (by have := hB.size; omega) (fun k e => by cases e; exact Nat.le_refl _))
              have hK1 : (V.setCell ⟨N0, 0, none⟩ (.slice (some ⟨g, 0, none⟩) ln cc)).heap[D']? = some (Obj.deferred (some [])) := by
                rw [hg6.block D' (Array.getElem?_eq_some_iff.1 hK).1 (by simp; omega)]
                exact hK
              generalize V.setCell ⟨N0, 0, none⟩ (.slice (some ⟨g, 0, none⟩) ln cc) = V1 at *
              have a7 := b7.set 0 (.bool true)
              have hg7 := grownBy_setCell' V1 (N0 + 1) (.bool true)
              have a6 := b6.kept hg7 (by simp)
              have ar := row_kept br hg7 (fun k hk e => by have := own_base br k hk; simp at e; omega)
              have hB2 := hB1.trans ((Below.refl N0 V1).grown hg7 (by have := hB1.size; omega) (fun k e => by cases e; omega))
              have hK2 : (V1.setCell ⟨N0 + 1, 0, none⟩ (.bool true)).heap[D']? = some (Obj.deferred (some [])) := by
                rw [hg7.block D' (Array.getElem?_eq_some_iff.1 hK1).1 (by simp; omega)]
                exact hK1
              generalize V1.setCell ⟨N0 + 1, 0, none⟩ (.bool true) = V2 at *
              have hK3 : V2.drew.heap[D']? = some (Obj.deferred (some [])) := hK2
              refine ⟨by simp, .inl ⟨_, _, rfl, run_takeDeferred hK3, ?_⟩⟩
              have hgd : V2.grownBy V2.drew none := gb_drew (gb_refl _ _)
              have hgD := grownBy_putObj' V2.drew D' (.deferred none)
              have x6' := (a6.kept hgd (by simp)).kept hgD (by simp; omega)
              have x7' := (a7.kept hgd (by simp)).kept hgD (by simp; omega)
              have q6 : (V2.drew.putObj D' (Obj.deferred none)).cell? ⟨N0, 0, none⟩ = some (.slice (some ⟨g, 0, none⟩) ln cc) := x6'.cell 0
              have q7 : (V2.drew.putObj D' (Obj.deferred none)).cell? ⟨N0 + 1, 0, none⟩ = some (.bool true) := x7'.cell 0
              have hrr := ownsRow_putObj (row_kept ar hgd (by simp)) (.deferred none) hK3 rfl
              have hBd := (hB2.trans (hbg hgd (by have := hB2.size; omega))).trans ((Below.refl N0 V2.drew).grown hgD (by have := hB2.size; simp; omega) (fun k e => by cases e; omega))
              refine ⟨.tuple #[.slice (some ⟨g, 0, none⟩) ln cc, .bool true], ?_, .slice (some ⟨g, 0, none⟩) ln cc, rfl, hgb hBd, ?_⟩
              · simp [results, Tryz.f81, go_sem, q6, q7]
              · rw [hLn]
                exact row_base hrr (Nat.zero_le _)
          · obtain ⟨i, rfl⟩ : ∃ i, j = i + 1 := ⟨j - 1, by omega⟩
            obtain ⟨y, hy⟩ := hget2 i (by omega)
            have ry := hce _ hgq _ _ hy
            obtain ⟨a, hac, ha0, ha1⟩ := hah i y hy
            have hac' := hac _ hgq
            unfold pr at hac'
            have q1 : ((i + 1 : Nat) : Int) - 1 = (i : Int) := by omega
            rw [q1]
            have q2 : decide ((i : Int) ≥ 0) = true := decide_eq_true (by omega)
            have q3 : IntKind.i64.wrap ((i : Int) - 1) = (i : Int) - 1 := by rw [IntKind.wrap_i64]; omega
            have q4 : (i : Int) < ln := by omega
            have q5 : ¬ (i : Int) < 0 := by omega
            rcases Nat.eq_zero_or_pos i with rfl | hi0
            · obtain rfl := ha0 rfl
              gi_wp2_with (first | (refine ⟨trivial, ?_⟩; gi_at_call 92; refine (callsIn_wide.2 hac').mono ?_; rintro z w9 ⟨rfl, hf9⟩))
              go_roundw
              case rel => exact ⟨0, by omega, by simp, gb_trans hgq hf9⟩
              case measure => simp [intOf]
            · obtain ⟨hane, hap⟩ := ha1 hi0
              have q6 : ((i : Int) - 1).toNat = i - 1 := by omega
              have q7 : (i : Int) - 1 < ln := by omega
              have q8 : ¬ (i : Int) - 1 < 0 := by omega
              have q9 : (i : Int) > 0 := by omega
              have q10 : decide ((i : Int) > 0) = true := decide_eq_true q9
              have q11 : ¬ (i : Int) = 0 := by omega
              have q12 : decide (¬ a = 0) = true := decide_eq_true hane
              have hfin : ((i : Nat) : Int) - 1 = (i : Int) - 1 := rfl
              gi_wp2_with (first | (refine ⟨trivial, ?_⟩; gi_at_call 92; refine (callsIn_wide.2 hac').mono ?_; rintro z w9 ⟨rfl, hf9⟩; obtain ⟨s8, s9⟩ := hcv _ (gb_trans hgq hf9); have rp := hce _ (gb_trans hgq hf9) _ _ hap))
              go_roundw
              case rel => exact ⟨i, by omega, by simp, gb_trans hgq hf9⟩
              case measure => simp [intOf]
    | cons H V =>
      have hH0 : H ≠ 0 := fun e => hz (by rw [hL, e]; simp)
      have hlt : U.length < L.length := by rw [hL]; simp
      have hd : decide ((U.length : Int) ≤ L.length) = true := decide_eq_true (by omega)
      have hbh := fun W (hf : w.grownBy W none) => hC.bh U H V hL W hf
      have HF : Hid (∀ {w1 : World} {v' : Value}, (wr.alloc (.cells #[.int .u64 (H : Nat)] 50)).grownBy w1 (Value.slice ao U.length cc).ownBlock → ∀ {t : TypeId} {b : Nat} {us : Array Value}, Box wr t b us → t ≠ 50 → b ≠ b8 + 1 → Box (w1.setCell ⟨b8 + 1, 0, none⟩ v') t b us) := by
        intro w1 v' hgrow t b us hbx ht hbn
        have h1 := hbx.kept (World.grownBy_alloc wr (.cells #[.int .u64 (H : Nat)] 50) none) (by simp)
        refine (h1.kept hgrow (fun e => ?_)).kept (grownBy_setCell' w1 (b8 + 1) v') (by simp; omega)
        obtain ⟨cur, hcur⟩ := row_block yr b e.symm
        exact ne_of_type hcur hbx (fun e => ht e.symm) rfl
      have e0 : (decide (¬ (H : Nat) = 0)) = true := decide_eq_true hH0
      have HL : Hid (L = (U ++ [H]) ++ V) := by show _ = _; rw [hL]; simp
      simp only [List.headD_cons]
      clear hL
      gi_wp2_with (first
        | (gi_at_builtin; refine wpListIn_append_own _ rfl _ _ 81 rfl (b8 + 1) 50 i0 (.int .u64 0) 1 8 Tryz.underlying81 hi hz0 hz1 hz2 rfl (by decide) _ _ _ rfl (yr.alloc _) ⟨wr.heap.size, 0, none⟩ 1 1 [.int .u64 (H : Nat)] rfl rfl (cell_one_new _ _ _) (by simp [Value.oneCell']) (by unfold maxLen; omega) (by omega) (by simp; omega) ?_; intro v' w1 hown' hgrow _; obtain ⟨g', cap', rfl⟩ := ownsRow_succ hown'; obtain ⟨hv1, hv2, hr2, hk2, hb2⟩ := y9.appended (by decide) yr (by omega) (Nat.le_refl _) hown' hgrow; have hc1 := hv1.cell; have hf1 := hv1.frozen)
        | (refine ⟨trivial, ?_⟩; gi_at_call 93; refine (callsIn_wide.2 (hbh _ (hgb (hB.trans (hb2.mono (by omega)))))).mono ?_; rintro y w7 ⟨rfl, hf7⟩))
      go_roundw
      case rel =>
        refine ⟨U ++ [H], V, HL.out, by simp, by simp, (hB.trans (hb2.mono (by omega))).trans (hbg hf7 (by have := hb2.size; omega)), ?_, (HF.out hgrow y6 (by decide) (by omega)).kept hf7 (by simp), (HF.out hgrow y7 (by decide) (by omega)).kept hf7 (by simp), (HF.out hgrow y8 (by decide) (by omega)).kept hf7 (by simp), _, hv2.kept hf7 (by simp), ?_⟩
        · have h1 := hb2.size
          have h2 := hf7.size
          omega
        · have := row_kept hr2 hf7 (by simp)
          simpa [uvs] using this
      case measure =>
        have c9' := (hv2.kept hf7 (by simp)).cell
        rw [c9, c9']
        simp only [lenOf]
        omega
end Go.Proofs.YtjkdflnnpdionaaGreat
