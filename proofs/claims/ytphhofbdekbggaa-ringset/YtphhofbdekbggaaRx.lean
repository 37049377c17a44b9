/-
  circle.
-/
import Derived.Test.YtphhofbdekbggaaRw
namespace Go.Proofs.Ytphhofbdekbggaa
open Go.RowKit Go.MapKept Go.Sort
open Go.ChangeMaps (setBlock)
set_option linter.unusedVariables false
set_option linter.unusedSimpArgs false
attribute [local go_sem] Oper.semAt_some

theorem made_p (N : Nat) : (madeCells (Value.agg #[.int .u32 0, .int .i64 0, .int .i64 0]).cells N).size = N := by
  simp [madeCells, Value.cells]
theorem run_make_p (N : Nat) (h : N ≤ 1000000) (w : World) : ∃ cs : Array Value, cs.size = N * 3 ∧ (Instr.makeSlice 30 (.int .i64 0) (.int .i64 N)).run Try.prog w = .ok (.slice (some ⟨w.heap.size, 0, none⟩) 0 N) (w.alloc (.cells cs 49)) := by
  obtain ⟨i0, hi, hz0, hz1, hz2⟩ := info_parts Try.info49
  have := run_make (P := Try.prog) w 30 49 i0 _ Try.underlying30 hi hz0 .i64 .i64 0 N (by omega) (by omega) (by rw [hz2]; omega) (by omega)
  rw [this, hz1]
  exact ⟨_, made_p (N * 3), by simp⟩
theorem owned_p (B : Nat) (w : World) (N : Nat) (cs : Array Value) (hcs : cs.size = N * 3) (hB : B ≤ w.heap.size) (hN : N ≤ 1000000) : (w.alloc (.cells cs 49)).ownsRow B 49 3 (.slice (some ⟨w.heap.size, 0, none⟩) 0 N) 0 [] :=
  ⟨rfl, .inr ⟨w.heap.size, N, cs, rfl, hB, heap_alloc_new w _, Nat.zero_le _, by unfold maxLen; omega, hcs, rfl⟩⟩
set_option maxRecDepth 100000 in
set_option maxHeartbeats 4000000 in
theorem circle_50 {w : World} {a : Option Addr} {g n c : Nat} {L : List Sv} (h : SvAt w g L) (hn : L.length = n) (ha : 0 < n → a = some ⟨g, 0, none⟩) (hn2 : n ≤ 256) (hok : ∀ i, i < n → svOk (sat L i) = true) :
    Calls Try.prog 50 #[.slice a n c] w fun e w' => (∃ g' cap ps, e = .returned (.slice (some ⟨g', 0, none⟩) ps.length cap) ∧ w.heap.size ≤ g' ∧ Circle L ps ∧ PtAt w' g' ps ∧ ps.length ≤ 512 * n) ∧ w.grownBy w' none := by
  have h63 := places_63 (c := c) h hn ha hn2 hok
  have h64 : ∀ (wr : World) (gp cp : Nat) (Q M : List Pt), Mp L n 0 M → Q.Perm M → M.length ≤ 512 * n → w.heap.size ≤ gp → w.grownBy wr none → wr.ownsRow w.heap.size 49 3 (.slice (some ⟨gp, 0, none⟩) Q.length cp) Q.length (flatP Q) →
      Calls Try.prog 64 #[.slice (some ⟨gp, 0, none⟩) Q.length cp, .func (.func 65) #[] #[]] wr fun e w' => e = .returned (.tuple #[]) ∧ (∃ d : List Pt, d.length = Q.length ∧ d.Perm M ∧ Srt d ∧ PtAt w' gp d ∧ (∀ i, i < Q.length * 3 → w'.frozen? ⟨gp, i, none⟩ = false) ∧ gp < w'.heap.size) ∧ w.grownBy w' none := by
    intro wr gp cp Q M hMp hQ hlM hgp hg hrow
    have hlt := (World.ownsRow.lt hrow gp rfl).2
    have hl := hQ.length_eq
    have hc := sort_64 gp 0 cp Q.toArray wr (holdsP hrow rfl) hlt (by simp; omega)
    rw [show Q.toArray.size = Q.length by simp] at hc
    refine hc.mono ?_
    rintro e w' ⟨rfl, d', q, os, hp, hs, rfl⟩
    obtain ⟨hp1, hp2, hp3⟩ := hp
    have hsz : d'.size = Q.length := by rw [hp1]; simp
    have hperm : d'.toList.Perm Q := by
      have e1 : d'.extract 0 Q.length = d' := by rw [← hsz]; simp
      have e2 : Q.toArray.extract 0 Q.length = Q.toArray := by simp
      rw [e1, e2] at hp3
      simpa using hp3
    have hH := holdsK_sortWorldK_c encPt 3 wr gp 0 Q.toArray d' q os (holdsP hrow rfl) hlt (by simp [hsz])
    refine ⟨rfl, ⟨d'.toList, by simpa using hsz, hperm.trans hQ, srt_of hMp hsz (hperm.trans hQ) hs, PtAt.of_holds hH, fun i hi => ?_, ?_⟩, gb_far hg (gb_sort encPt 3 wr gp 0 q d' os hlt) (B := w.heap.size) (fun i e => by cases e; exact hgp) (Nat.le_refl _)⟩
    · have := (hH i (by simpa [hsz] using hi)).2
      rwa [Nat.zero_add] at this
    · exact Nat.lt_of_lt_of_le hlt (gb_sort encPt 3 wr gp 0 q d' os hlt).size
  clear h ha hok
  go_enter Try.func50, Try.ntmps50
  go_wp2_with (first | (go_at_call 63; go_must (refine h63.mono ?_); rintro y w1 ⟨⟨b, M, rfl, hb, ⟨es, cl, hb1, hs, hr⟩, hMp, hlM⟩, hg1⟩; (have hlen : (Builtin.len_ #[98] 3 #[.map (some b)]).run Try.prog w1 = .ok (.int .i64 M.length) w1 := (show M.length = es.size from by have := congrArg List.length hr; simpa using this.symm) ▸ run_len_map w1 98 3 b es cl (by kernel_rfl) hb1); (obtain ⟨cs, hcs, hmk⟩ := run_make_p M.length (by omega) w1); (have hbl := lt_of_block hb1); (have hb2 : (w1.alloc (.cells cs 49)).heap[b]? = some (.map es cl) := ((World.grownBy_alloc w1 (.cells cs 49) none).block b hbl (by simp)).trans hb1); (have hrun := rg_start hb2)) | fail)
  have hE0 := owned_p w.heap.size w1 M.length cs hcs (by omega) (by omega)
  have hga : w.grownBy (w1.alloc (.cells cs 49)) none := gb_alloc hg1 _
  have hz1 : (w1.alloc (.cells cs 49)).heap.size = w1.heap.size + 1 := by simp
  have hit : ((w1.alloc (.cells cs 49)).alloc (.mapIter (some b) cl #[] cl)).heap[w1.heap.size + 1]? = some (.mapIter (some b) cl #[] cl) := by rw [← hz1]; exact heap_alloc_new _ _
  have hb3 : ((w1.alloc (.cells cs 49)).alloc (.mapIter (some b) cl #[] cl)).heap[b]? = some (.map es cl) := ((World.grownBy_alloc _ (.mapIter (some b) cl #[] cl) none).block b (lt_of_block hb2) (by simp)).trans hb2
  have hE1 : ((w1.alloc (.cells cs 49)).alloc (.mapIter (some b) cl #[] cl)).ownsRow w.heap.size 49 3 (.slice (some ⟨w1.heap.size, 0, none⟩) 0 M.length) 0 [] := World.ownsRow.alloc hE0 _
  have hgb : w.grownBy ((w1.alloc (.cells cs 49)).alloc (.mapIter (some b) cl #[] cl)) none := gb_alloc hga _
  have hsz1 : w.heap.size ≤ w1.heap.size := hg1.size
  have HS : Hid (Stamped es cl ∧ EntM es M ∧ Mp L n 0 M) := ⟨hs, hr, hMp⟩
  clear hs hMp hE0 hga hz1 hb2 hb1 hrun hmk hlen hcs hg1
  generalize (w1.alloc (.cells cs 49)).alloc (.mapIter (some b) cl #[] cl) = W at *
  generalize w1.heap.size = z at *
  clear h63
  have hbz : b < z := hbl
  have H64 : Hid _ := h64
  clear h64
  go_loopw [4] (fun l wr => ∃ (seen : Array Nat) (Q : List Pt) (gp cp : Nat), l = .slice (some ⟨gp, 0, none⟩) Q.length cp ∧ wr.heap[z + 1]? = some (.mapIter (some b) cl seen cl) ∧ wr.heap[b]? = some (.map es cl) ∧ Told es M seen Q ∧ wr.ownsRow w.heap.size 49 3 (.slice (some ⟨gp, 0, none⟩) Q.length cp) Q.length (flatP Q) ∧ gp ≠ z + 1 ∧ gp ≠ b ∧ w.grownBy wr none) (fun _ wr => itL es (z + 1) wr)
  case atStart => exact ⟨#[], [], z, M.length, rfl, hit, hb3, Told.start HS.out.2.1, hE1, by omega, by omega, hgb⟩
  case round =>
    clear hit hb3 hE1 hgb hr
    obtain ⟨seen, Q, gp, cp, rfl, hiter, hbr, hT, hrow, hgz, hgbn, hg⟩ := hrel
    obtain ⟨hs, _, hMp⟩ := HS.out
    have hgpl := World.ownsRow.lt hrow gp rfl
    rcases run_next_at (P := Try.prog) wr 0 (z + 1) b cl cl seen es cl hiter hbr hs.1 (Nat.le_refl _) with ⟨h0, hnx⟩ | ⟨e, he, w1', hw1, hnx⟩
    · have hQ := hT.done h0
      have h64 := H64.out wr gp cp Q M hMp hQ hlM hgpl.1 hg hrow
      obtain ⟨ao, cx, hsh, _, hqc, hcm, _⟩ := row_shape hrow
      obtain ⟨rfl, rfl⟩ : some ⟨gp, 0, none⟩ = ao ∧ cp = cx := by simpa using hsh
      have hlq := hQ.length_eq
      have hqb : Q.length ≤ 1000000 := by omega
      have HG : Hid (w.heap.size ≤ gp ∧ Mp L L.length 0 M ∧ Q.length ≤ 512 * n) := ⟨hgpl.1, by rw [hn]; exact hMp, by omega⟩
      clear hiter hbr hT hrow hgz hgbn hg hs hMp H64 HS hQ hlq hlM hsh hgpl h0
      go_wp2_with (first
        | (go_at_call 64; go_must (refine h64.mono ?_); rintro y w6 ⟨rfl, ⟨d, d1, d2, d3, d4, d5, d6⟩, hg6⟩; (have h68 := compact_68 gp Q.length cp d w6 d1 hqb hqc hcm d4 d5 d6); (have HD : Hid (d.length = Q.length ∧ d.Perm M ∧ Srt d) := ⟨d1, d2, d3⟩); clear d1 d2 d3 d4 d5 d6)
        | (go_at_call 68; go_must (refine h68.mono ?_); rintro y w7 ⟨rfl, p7, g7⟩) | fail)
      go_ret
      obtain ⟨d1, d2, d3⟩ := HD.out
      have hci := circle_of HG.out.2.1 (fun p => d2.mem_iff) d3
      rw [d1] at hci
      exact ⟨⟨gp, cp, cpt d Q.length, rfl, HG.out.1, hci, p7, by have := cpt_len d Q.length; have := HG.out.2.2; omega⟩, gb_far hg6 g7 (B := w.heap.size) (fun i e => by cases e; exact HG.out.1) (Nat.le_refl _)⟩
    · obtain ⟨p, e1, e2, hT2, hlQ, hle⟩ := hT.next hs.2.1 he
      have hmem := (left_sub es seen).subset he
      have hr2 : (setBlock w1' (z + 1) (.mapIter (some b) cl (seen.push e.born) cl)).heap[z + 1]? = some (.mapIter (some b) cl (seen.push e.born) cl) := setB_at hw1 hiter
      have hg2 := gb_setB (r := z + 1) hw1 (.mapIter (some b) cl (seen.push e.born) cl)
      have hb2 := (hg2.block b (lt_of_block hbr) (by simp; omega)).trans hbr
      have hen := run_entry_at (P := Try.prog) _ (z + 1) b cl seen es cl e hr2 hb2 hmem hs.2.1
      obtain ⟨V, hV⟩ : ∃ V, setBlock w1' (z + 1) (.mapIter (some b) cl (seen.push e.born) cl) = V := ⟨_, rfl⟩
      rw [hV] at hr2 hg2 hb2 hen hnx
      rw [e1, e2] at hnx hen
      have hme : itL es (z + 1) V < itL es (z + 1) wr := by
        unfold itL
        rw [hr2, hiter]
        exact hle
      have hrV : V.ownsRow w.heap.size 49 3 (.slice (some ⟨gp, 0, none⟩) Q.length cp) Q.length (flatP Q) := row_kept hrow hg2 (fun q hq => by
        simp [Value.ownBlock] at hq
        subst hq
        simpa using hgz)
      have hgV : w.grownBy V none := gb_far hg hg2 (B := w.heap.size) (fun i e => by cases e; omega) (Nat.le_refl _)
      obtain ⟨pa, pb, pc⟩ := p
      simp only [keyV] at hnx hen
      have hVz := lt_of_block hr2
      have hVs : w.heap.size ≤ V.heap.size := hgV.size
      obtain ⟨V2, hV2⟩ : ∃ V2, V.alloc (.cells #[.int .u32 pa, .int .i64 pb] 101) = V2 := ⟨_, rfl⟩
      have c0 : V2.cell? ⟨V.heap.size, 0, none⟩ = some (.int .u32 pa) := by rw [← hV2]; simp
      have c1 : V2.cell? ⟨V.heap.size, 1, none⟩ = some (.int .i64 pb) := by rw [← hV2]; simp
      have hr3 : V2.ownsRow w.heap.size 49 3 (.slice (some ⟨gp, 0, none⟩) Q.length cp) Q.length (flatP Q) := by rw [← hV2]; exact World.ownsRow.alloc hrV _
      have hgV2 : V.grownBy V2 none := by rw [← hV2]; exact gb_alloc (gb_refl _ _) _
      have hV2s : w.heap.size ≤ V2.heap.size := by have := hgV2.size; omega
      have hl5 : Q.length ≤ 100000000000 := by omega
      have HX : Hid (∀ (g1 cap1 : Nat) (w4 : World), w4.ownsRow w.heap.size 49 3 (.slice (some ⟨g1, 0, none⟩) (Q.length + 1) cap1) (Q.length + 1) (flatP Q ++ flatP [(pa, pb, pc)]) → V2.grownBy w4 (Value.slice (some ⟨gp, 0, none⟩) Q.length cp).ownBlock → ((Value.slice (some ⟨gp, 0, none⟩) Q.length cp).ownBlock = some g1 ∨ V2.heap.size ≤ g1) →
          (w4.heap[z + 1]? = some (.mapIter (some b) cl (seen.push e.born) cl) ∧ w4.heap[b]? = some (.map es cl) ∧ w4.ownsRow w.heap.size 49 3 (.slice (some ⟨g1, 0, none⟩) (Q ++ [(pa, pb, pc)]).length cap1) (Q ++ [(pa, pb, pc)]).length (flatP (Q ++ [(pa, pb, pc)])) ∧ g1 ≠ z + 1 ∧ g1 ≠ b ∧ w.grownBy w4 none) ∧ itL es (z + 1) w4 < itL es (z + 1) wr) := fun g1 cap1 w4 o4 g4 a4 => by
        have ew : w4.heap[z + 1]? = some (.mapIter (some b) cl (seen.push e.born) cl) := (g4.block (z + 1) (by have := hgV2.size; omega) (by simp [Value.ownBlock]; omega)).trans ((hgV2.block (z + 1) hVz (by simp)).trans hr2)
        have eb : w4.heap[b]? = some (.map es cl) := (g4.block b (by have := hgV2.size; omega) (by simp [Value.ownBlock]; omega)).trans ((hgV2.block b (by omega) (by simp)).trans hb2)
        refine ⟨⟨ew, eb, by simpa [flatP_app] using o4, ?_, ?_, gb_far (gb_trans hgV hgV2) g4 (B := w.heap.size) (fun i e => by simp [Value.ownBlock] at e; omega) (Nat.le_refl _)⟩, ?_⟩
        · rcases a4 with a4 | a4
          · simp [Value.ownBlock] at a4; omega
          · have := hgV2.size; omega
        · rcases a4 with a4 | a4
          · simp [Value.ownBlock] at a4; omega
          · have := hgV2.size; omega
        · unfold itL at hme ⊢
          rw [ew]
          rw [hr2] at hme
          exact hme
      have HT : Hid (Told es M (seen.push e.born) (Q ++ [(pa, pb, pc)])) := hT2
      have hlen : (Q ++ [(pa, pb, pc)]).length = Q.length + 1 := by simp
      have HLN : Hid ((Q ++ [(pa, pb, pc)]).length = Q.length + 1) := hlen
      clear hlen hT2 hT hrow hrV hr2 hg2 hb2 hgV hme hV hiter hbr hg hs hMp H64 HS hgpl hlM hlQ hle hgz hgbn hmem he e1 e2 hVz hgV2
      go_wp2_with (at_builtin; go_must (refine pushP rfl _ _ rfl w.heap.size _ Q.length _ (by rfl) hr3 (pa, pb, pc) (by rfl) hl5 hV2s ?_); intro g1 cap1 w4 o4 g4 a4; (have HA : Hid _ := HX.out g1 cap1 w4 o4 g4 a4); clear o4 g4 a4)
      obtain ⟨⟨x1, x2, x3, x4, x5, x6⟩, x7⟩ := HA.out
      exact ⟨⟨seen.push e.born, Q ++ [(pa, pb, pc)], g1, cap1, by rw [HLN.out], x1, x2, HT.out, x3, x4, x5, x6⟩, x7⟩
end Go.Proofs.Ytphhofbdekbggaa
