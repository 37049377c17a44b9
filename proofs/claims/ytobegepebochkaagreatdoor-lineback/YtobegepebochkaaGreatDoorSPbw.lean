import Derived.Test.YtobegepebochkaaGreatDoorSTr
import Derived.Test.YtobegepebochkaaGreatDoorSPbt
import Derived.Test.YtobegepebochkaaGreatDoorSTv
import Derived.Test.YtobegepebochkaaGreatDoorSPbn
import Derived.Lib.SlBytesConst
import Derived.Deep.CutRange
import Derived.Test.YtobegepebochkaaGreatDoorSPar
set_option linter.unusedVariables false
set_option linter.unusedSimpArgs false
namespace Go.Proofs.YtobegepebochkaaGreatDoor
open Go.RowKit Go.Maps
theorem IsF.kept0 {w w' : World} {fb : Nat} {F : Fd} {kv : Value} (h : IsF w fb F kv) (hf : w.grownBy w' none) : IsF w' fb F kv := by
  obtain ⟨hd, lf, ck, cd, cm, hx, h1, h2⟩ := h
  exact ⟨hd, lf, ck, cd, cm, ⟨hx.box.kept hf (by simp), hx.str.kp (Kp.of (F := fun _ => False) hf) (fun _ _ h => h.elim) (fun _ _ h => h), row_kept hx.kept hf (by simp)⟩, h1, h2⟩
def FW (B0 : Nat) (w : World) (fb : Nat) (F : Fd) : Prop := ∃ kv, IsF w fb F kv ∧ B0 ≤ fb ∧ ∀ k, kv.ownBlock = some k → B0 ≤ k
theorem FW.kept0 {B0 : Nat} {w w' : World} {fb : Nat} {F : Fd} (h : FW B0 w fb F) (hf : w.grownBy w' none) : FW B0 w' fb F := by
  obtain ⟨kv, h1, h2, h3⟩ := h
  exact ⟨kv, h1.kept0 hf, h2, h3⟩
theorem FW.held {B0 : Nat} {w : World} {fb : Nat} {F : Fd} (h : FW B0 w fb F) {n : Nat} (hn : F.kept.length = n) :
    Calls Tryz.prog 50 #[.pointer (some ⟨fb, 0, none⟩)] w fun e w' => e = .returned (.int .i64 n) ∧ w' = w := by
  obtain ⟨kv, ⟨hd, lf, ck, cd, cm, hx, -, -⟩, -, -⟩ := h
  obtain ⟨ao, cp, e, -, -, -, -⟩ := row_shape hx.kept
  rw [hn] at e
  exact held_50 hx.box e
theorem FW.taken {B0 : Nat} {w : World} {fb : Nat} {F : Fd} (h : FW B0 w fb F) :
    Calls Tryz.prog 52 #[.pointer (some ⟨fb, 0, none⟩)] w fun e w' => e = .returned (.int .i64 F.taken) ∧ w' = w := by
  obtain ⟨kv, ⟨hd, lf, ck, cd, cm, hx, -, -⟩, -, -⟩ := h
  exact taken_52 hx.box
theorem FW.ended {B0 : Nat} {w : World} {fb : Nat} {F : Fd} (h : FW B0 w fb F) :
    Calls Tryz.prog 51 #[.pointer (some ⟨fb, 0, none⟩)] w fun e w' => e = .returned (.bool F.ended) ∧ w' = w := by
  obtain ⟨kv, ⟨hd, lf, ck, cd, cm, hx, -, -⟩, -, -⟩ := h
  exact ended_51 hx.box
theorem FW.feed {B0 : Nat} {w : World} {fb : Nat} {F : Fd} (h : FW B0 w fb F) (hB : 3 < B0) (hok : F.Ok) {v : Value} {l : Bs} (hv : ∀ X : Nat → Prop, (∀ k, X k → k = fb ∨ (B0 ≤ k ∧ ∃ kv, IsF w fb F kv ∧ kv.ownBlock = some k)) → Ck w X v l) (hl2 : l.length ≤ 34359738368) (ht : F.taken + l.length ≤ 2199023255552) (hE : Er w) :
    Calls Tryz.prog 45 #[.pointer (some ⟨fb, 0, none⟩), v] w fun e w' => ∃ rv q, e = .returned rv ∧ FW B0 w' fb (F.run l).1 ∧ (∃ X, Ss w' w.heap.size X rv q) ∧ q.map Tld.s = (F.run l).2 ∧ Kp (fun k => B0 ≤ k) w w' := by
  obtain ⟨kv, hF, h2, h3⟩ := id h
  have hX : ∀ n, n ≤ 3 → ¬ XF fb kv n := by
    rintro n hn (e | e)
    · omega
    · have := h3 n e; omega
  obtain ⟨_, _, _, _, _, hx, -, -⟩ := id hF
  have hfb := hx.box.lt
  refine (feed_45 hF hok (hv _ ?_) hl2 ht hE ⟨hX 2 (by omega), hX 3 (by omega)⟩ (read_136 fb)).mono ?_
  · rintro k (e | e)
    · exact .inl e
    · exact .inr ⟨h3 k e, kv, hF, e⟩
  · rintro e w' ⟨rv, kv', q, rfl, q1, q2, q3, q4, q5, -⟩
    refine ⟨rv, q, rfl, ⟨kv', q1, h2, fun k hk => ?_⟩, ⟨_, q2⟩, q3, q4.mono ?_⟩
    · rcases q5 k hk with e | e
      · exact h3 k e
      · omega
    · rintro i (e | e)
      · subst e; exact .inl h2
      · exact .inl (h3 i e)
theorem FW.feedN {B0 : Nat} {w : World} {fb : Nat} {F : Fd} (h : FW B0 w fb F) (hB : 3 < B0) (hok : F.Ok) (l : Bs) (hl2 : l.length ≤ 34359738368) (ht : F.taken + l.length ≤ 2199023255552) (hE : Er w) {C : Array Value} {fr : Nat × Nat} (hC : C = (l.map b8).toArray) :
    Calls Tryz.prog 45 #[.pointer (some ⟨fb, 0, none⟩), .slice (some ⟨w.heap.size, 0, none⟩) l.length l.length] (w.alloc (.cells C 5 fr)) fun e w' => ∃ rv q, e = .returned rv ∧ FW B0 w' fb (F.run l).1 ∧ (∃ X, Ss w' (w.heap.size + 1) X rv q) ∧ q.map Tld.s = (F.run l).2 ∧ Kp (fun k => B0 ≤ k) w w' ∧ Er w' := by
  have ga := gb_alloc (gb_refl w none) (.cells C 5 fr)
  have hs : (w.alloc (.cells C 5 fr)).heap.size = w.heap.size + 1 := by simp
  have h0 := h
  obtain ⟨kv0, ⟨_, _, _, _, _, hx, -, -⟩, hb0, -⟩ := h0
  have hfb := hx.box.lt
  have hc := (h.kept0 ga).feed hB hok (v := .slice (some ⟨w.heap.size, 0, none⟩) l.length l.length) (l := l) ?_ hl2 ht (hE.kept ga)
  · rw [hs] at hc
    refine hc.mono ?_
    rintro e w' ⟨rv, q, rfl, q1, q2, q3, q4⟩
    refine ⟨rv, q, rfl, q1, q2, q3, (Kp.of ga).trans q4 (fun i h => h) (fun i h => .inl h), (hE.kept ga).kp q4 (by omega) (by omega)⟩
  · intro X hX
    refine .inr ⟨w.heap.size, 0, l.length, rfl, Nat.le_refl _, by omega, by simp, fun hx' => ?_, fun i x hi => ?_⟩
    · rcases hX _ hx' with e | ⟨-, kv, ⟨_, _, _, _, _, hy, -, -⟩, e⟩
      · omega
      · have c1 : (w.alloc (.cells C 5 fr)).cell? ⟨fb, 4, none⟩ = some kv := hy.box.cell 4
        have c2 : (w.alloc (.cells C 5 fr)).cell? ⟨fb, 4, none⟩ = some kv0 := gb_cellN ga (hx.box.cell 4)
        rw [c2] at c1
        injection c1 with c1
        subst c1
        have := row_lt hx.kept _ e
        omega
    · rw [Nat.zero_add, cell_of_row _ _ _ _ _ _ (heap_alloc_new w (.cells C 5 fr)), hC]
      simp [hi]
abbrev wk1 : Bs := [115, 101, 116, 32, 97, 32, 48, 32, 48, 32, 49, 13, 10, 120]
def wkF1 : Fd := ((fd0 9).run wk1).1
def wkF2 : Fd := (wkF1.run [13]).1
def wkF3 : Fd := (wkF2.run [10]).1
theorem wk_k1 : wkF1.kept.length = 14 := by rfl
theorem wk_k3 : wkF3.kept.length = 0 := by rfl
theorem wk_t1 : wkF1.taken = 14 := by rfl
theorem wk_t2 : wkF2.taken = 15 := by rfl
theorem wk_t3 : wkF3.taken = 16 := by rfl
theorem wk_e3 : wkF3.ended = false := by rfl
theorem Ss.one {w : World} {B : Nat} {X : Nat → Prop} {v : Value} {q : List Tld} {s : Stp} (h : Ss w B X v q) (hs : q.map Tld.s = [s]) : ∃ g cp ck cd cm, v = .slice (some ⟨g, 0, none⟩) 1 cp ∧ 1 ≤ cp ∧ (∀ (i : Nat) (u : Value), (stpL s ck cd cm)[i]? = some u → w.cell? ⟨g, i, none⟩ = some u) ∧ StR w X s ck cd cm := by
  obtain ⟨x, rfl⟩ : ∃ x, q = [x] := by
    cases q with
    | nil => cases hs
    | cons x t => cases t with
      | nil => exact ⟨x, rfl⟩
      | cons y t => simp at hs
  simp at hs
  subst hs
  have hr := h.row
  obtain ⟨ao, c, e, -, h2, -, h3⟩ := row_shape hr
  obtain ⟨g, rfl⟩ := h3 (by simp)
  subst e
  refine ⟨g, c, x.ck, x.cd, x.cm, rfl, h2, fun i u hu => row_cell hr i u (by simpa using hu), h.all x (by simp)⟩
theorem Ss.none {w : World} {B : Nat} {X : Nat → Prop} {v : Value} {q : List Tld} (h : Ss w B X v q) (hs : q.map Tld.s = []) : ∃ a c, v = .slice a 0 c := by
  have : q = [] := by simpa using hs
  subst this
  obtain ⟨ao, c, e, -⟩ := row_shape h.row
  exact ⟨ao, c, e⟩
end Go.Proofs.YtobegepebochkaaGreatDoor
namespace Go.Proofs.YtobegepebochkaaGreatDoor
open Go.RowKit Go.Maps
set_option maxRecDepth 100000 in
set_option maxHeartbeats 4000000 in
theorem new_41 (w : World) (n : Int) (hn : n ≤ 9223372036854775807) (hn2 : -9223372036854775808 ≤ n) :
    Calls Tryz.prog 41 #[.int .i64 n] w fun e w' => e = .returned (.pointer (some ⟨w.heap.size, 0, none⟩)) ∧ IsF w' w.heap.size (fd0 n) (.slice none 0 0) ∧ w.grownBy w' none := by
  have hmf : ∀ (fn : Fn) (first cap : Array Value) (w : World), (Instr.makeFunc fn first cap).run Tryz.prog w = .ok (.func fn first cap) w := fun _ _ _ _ => rfl
  have hm : max n 0 = (n.toNat : Int) := by omega
  obtain ⟨k, hk⟩ : ∃ k, n.toNat = k := ⟨_, rfl⟩
  rw [hk] at hm
  have hend : ∀ w', w' = w.alloc (.cells (fdA w.heap.size (fd0 n) (.slice none 0 0) 0 0 (.slice none 0 0) (.slice none 0 0) (.slice none 0 0)) 136) → IsF w' w.heap.size (fd0 n) (.slice none 0 0) ∧ w.grownBy w' none := by
    rintro w' rfl
    exact ⟨⟨0, 0, _, _, _, isf_nil (Box.new w 136 _) rfl rfl rfl rfl, fun e => by simp [fd0] at e, fun e => by simp [fd0] at e⟩, gb_alloc (gb_refl _ none) _⟩
  have hf : fd0 n = ⟨k, 0, false, 0, [], 0, 0, stp0, 0⟩ := by simp [fd0, hk]
  rw [hf] at hend ⊢
  go_enter Tryz.func41, Tryz.ntmps41
  go_wp2
  go_ret
  refine ⟨rfl, hend _ ?_⟩
  rfl
end Go.Proofs.YtobegepebochkaaGreatDoor
namespace Go.Proofs.YtobegepebochkaaGreatDoor
open Go.RowKit Go.Maps
set_option maxRecDepth 100000 in
set_option maxHeartbeats 4000000 in
theorem wakes_48 {w : World} (hE : Er w) : Calls Tryz.prog 48 #[] w fun e w' => e = .returned (.bool true) ∧ w.grownBy w' none := by
  have h3 : 3 < w.heap.size := by
    obtain ⟨-, c, d, e2⟩ := hE
    exact lt_of_cell e2
  have h41 := new_41 w 9 (by omega) (by omega)
  have ok0 : (fd0 9).Ok := fd0_ok (by omega)
  have ok1 : wkF1.Ok := ok_run _ ok0
  have ok2 : wkF2.Ok := ok_run _ ok1
  go_enter Tryz.func48, Tryz.ntmps48
  go_upto_region 4 with (go_at_call 41; go_must ((with_reducible refine h41.mono ?_); rintro e w1 ⟨rfl, i1, g1⟩))
  have f1 : FW w.heap.size w1 w.heap.size (fd0 9) := ⟨_, i1, Nat.le_refl _, fun k hk => by simp [Value.ownBlock] at hk⟩
  have hE1 := hE.kept g1
  have c1 : Calls Tryz.prog 45 #[.pointer (some ⟨w.heap.size, 0, none⟩), .slice (some ⟨w1.heap.size, 0, none⟩) 14 14] (w1.alloc (.cells #[.int .u8 115, .int .u8 101, .int .u8 116, .int .u8 32, .int .u8 97, .int .u8 32, .int .u8 48, .int .u8 32, .int .u8 48, .int .u8 32, .int .u8 49, .int .u8 13, .int .u8 10, .int .u8 120] 5 (14, 15))) fun e w' => ∃ rv q, e = .returned rv ∧ FW w.heap.size w' w.heap.size wkF1 ∧ (∃ X, Ss w' (w1.heap.size + 1) X rv q) ∧ q.map Tld.s = [] ∧ Kp (fun k => w.heap.size ≤ k) w1 w' ∧ Er w' := f1.feedN h3 ok0 wk1 (by decide) (by decide) hE1 rfl
  have hcv1 := Lib.run_convert_bytes_const (P := Tryz.prog) w1 38 5 #[.int .u8 115, .int .u8 101, .int .u8 116, .int .u8 32, .int .u8 97, .int .u8 32, .int .u8 48, .int .u8 32, .int .u8 48, .int .u8 32, .int .u8 49, .int .u8 13, .int .u8 10, .int .u8 120] 14 14 Tryz.underlying38 Tryz.underlying5
  clear i1 h41
  go_upto_region 5 with (go_at_call 45; go_must ((with_reducible refine c1.mono ?_); rintro e w2 ⟨rv1, q1, rfl, f2, ⟨X1, s1⟩, t1, k1, hE2⟩; (obtain ⟨a1, cp1, rfl⟩ := s1.none t1)))
  have h50 := f2.held wk_k1
  have c2 : Calls Tryz.prog 45 #[.pointer (some ⟨w.heap.size, 0, none⟩), .slice (some ⟨w2.heap.size, 0, none⟩) 1 1] (w2.alloc (.cells #[.int .u8 13] 5)) fun e w' => ∃ rv q, e = .returned rv ∧ FW w.heap.size w' w.heap.size wkF2 ∧ (∃ X, Ss w' (w2.heap.size + 1) X rv q) ∧ q.map Tld.s = [] ∧ Kp (fun k => w.heap.size ≤ k) w2 w' ∧ Er w' := f2.feedN h3 ok1 [13] (by decide) (by rw [wk_t1]; decide) hE2 rfl
  clear c1 s1 t1 f1 hcv1
  go_upto_region 6 with (go_at_call 50; go_must ((with_reducible refine h50.mono ?_); rintro e w9 ⟨rfl, rfl⟩))
  go_upto_region 7 with (go_at_call 45; go_must ((with_reducible refine c2.mono ?_); rintro e w3 ⟨rv2, q2, rfl, f3, ⟨X2, s2⟩, t2, k2, hE3⟩; (obtain ⟨a2, cp2, rfl⟩ := s2.none t2)))
  have c3 : Calls Tryz.prog 45 #[.pointer (some ⟨w.heap.size, 0, none⟩), .slice (some ⟨w3.heap.size, 0, none⟩) 1 1] (w3.alloc (.cells #[.int .u8 10] 5)) fun e w' => ∃ rv q, e = .returned rv ∧ FW w.heap.size w' w.heap.size wkF3 ∧ (∃ X, Ss w' (w3.heap.size + 1) X rv q) ∧ q.map Tld.s = [⟨⟨5, [[97]], 0, 0, 0, 0, false, [], []⟩, [120], false, 0, [], 0, 0, 16⟩] ∧ Kp (fun k => w.heap.size ≤ k) w3 w' ∧ Er w' := f3.feedN h3 ok2 [10] (by decide) (by rw [wk_t2]; decide) hE3 rfl
  clear c2 s2 t2 h50
  go_upto_region 8 with (go_at_call 45; go_must ((with_reducible refine c3.mono ?_); rintro e w4 ⟨rv3, q3, rfl, f4, ⟨X3, s3⟩, t3, k3, hE4⟩; (obtain ⟨g, cp, ck, cd, cm, rfl, hcp, hcl, hst⟩ := s3.one t3)))
  have j50 := f4.held wk_k3
  have j52 := f4.taken
  have j51 := f4.ended
  rw [wk_t3] at j52
  rw [wk_e3] at j51
  have d0 : w4.cell? ⟨g, 0, none⟩ = some (.int .i64 5) := hcl 0 _ rfl
  have d6 : w4.cell? ⟨g, 6, none⟩ = some cd := hcl 6 _ rfl
  have d14 : w4.cell? ⟨g, 14, none⟩ = some (.int .i64 0) := hcl 14 _ rfl
  have d15 : w4.cell? ⟨g, 15, none⟩ = some (.int .i64 16) := hcl 15 _ rfl
  have hby : By w4 cd [120] := by
    have hd := hst.data
    obtain ⟨ao, c, e, -, h2, -, h4⟩ := row_shape hd
    obtain ⟨dg, rfl⟩ := h4 (by simp)
    subst e
    refine .inr ⟨dg, 0, c, rfl, by decide, row_lt hd dg rfl, fun i x hi => ?_⟩
    rw [Nat.zero_add]
    refine row_cell hd i _ ?_
    rw [List.getElem?_map, hi]; rfl
  have hcv := hby.conv
  have hend : w.grownBy w4 none := by
    have k := ((Kp.of (F := fun k => w.heap.size ≤ k) g1).trans k1 (fun i h => h) (fun i h => .inl h)).trans (k2.trans k3 (fun i h => h) (fun i h => .inl h)) (fun i h => h) (fun i h => .inl h)
    exact k.grown (fun i h => h)
  obtain ⟨da, dn, dc, rfl⟩ : ∃ a n c, cd = .slice a n c := by
    obtain ⟨ao, c, e, -⟩ := row_shape hst.data
    exact ⟨_, _, _, e⟩
  clear c3 s3 t3 f2 f3 f4 hst hby hcl k1 k2 k3 hE2 hE3 hE4 hE1 hE g1 ok0 ok1 ok2
  go_wp2_with (first | (go_at_call 50; go_must ((with_reducible refine j50.mono ?_); rintro e w9 ⟨rfl, rfl⟩)) | (go_at_call 52; go_must ((with_reducible refine j52.mono ?_); rintro e w9 ⟨rfl, rfl⟩)) | (go_at_call 51; go_must ((with_reducible refine j51.mono ?_); rintro e w9 ⟨rfl, rfl⟩)))
  go_ret
  exact ⟨rfl, hend⟩
end Go.Proofs.YtobegepebochkaaGreatDoor
namespace Go.Proofs.YtobegepebochkaaGreatDoor
open Go.RowKit Go.Maps
def FX (B : Nat) (w : World) (fb : Nat) (F : Fd) : Prop := ∃ kv, IsF w fb F kv ∧ ∀ k, kv.ownBlock = some k → B ≤ k
theorem FX.held {B : Nat} {w : World} {fb : Nat} {F : Fd} (h : FX B w fb F) :
    Calls Tryz.prog 50 #[.pointer (some ⟨fb, 0, none⟩)] w fun e w' => e = .returned (.int .i64 (F.kept.length : Int)) ∧ w' = w := by
  obtain ⟨kv, ⟨hd, lf, ck, cd, cm, hx, -, -⟩, -⟩ := h
  obtain ⟨ao, cp, e, -, -, -, -⟩ := row_shape hx.kept
  exact held_50 hx.box e
theorem FX.taken {B : Nat} {w : World} {fb : Nat} {F : Fd} (h : FX B w fb F) :
    Calls Tryz.prog 52 #[.pointer (some ⟨fb, 0, none⟩)] w fun e w' => e = .returned (.int .i64 F.taken) ∧ w' = w := by
  obtain ⟨kv, ⟨hd, lf, ck, cd, cm, hx, -, -⟩, -⟩ := h
  exact taken_52 hx.box
theorem FX.ended {B : Nat} {w : World} {fb : Nat} {F : Fd} (h : FX B w fb F) :
    Calls Tryz.prog 51 #[.pointer (some ⟨fb, 0, none⟩)] w fun e w' => e = .returned (.bool F.ended) ∧ w' = w := by
  obtain ⟨kv, ⟨hd, lf, ck, cd, cm, hx, -, -⟩, -⟩ := h
  exact ended_51 hx.box
end Go.Proofs.YtobegepebochkaaGreatDoor
