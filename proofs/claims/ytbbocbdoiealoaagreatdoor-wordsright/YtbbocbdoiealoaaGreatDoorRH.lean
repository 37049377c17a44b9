import Derived.Test.YtbbocbdoiealoaaGreatDoorRG
import Derived.Test.YtbbocbdoiealoaaGreatDoorRHa
set_option linter.unusedVariables false
set_option linter.unusedSimpArgs false
namespace Go.Proofs.YtbbocbdoiealoaaGreatDoor
open Go.RowKit
def Ws (w : World) (v : Value) (ws : List Bs) : Prop := (ws = [] ∧ ∃ a c, v = .slice a 0 c) ∨ ∃ g o c, v = .slice (some ⟨g, o, none⟩) ws.length c ∧ ws.length ≤ c ∧ g < w.heap.size ∧ ∀ i x, ws[i]? = some x → w.cell? ⟨g, o + i, none⟩ = some (sv x)
structure Rok (r : Rw) : Prop where
  le : r.wants.length ≤ 100 ∧ r.may.length ≤ 100
  lt : ∀ a ∈ r.wants ++ r.may, a ∈ Lts
  en : r.wants ++ r.may = [] → r.endless = false
theorem Rok.lett {r : Rw} (h : Rok r) {n i : Nat} (ht : takes r n = true) (hi : i < n) : 0 < (r.wants ++ r.may).length ∧ lett r i ∈ Lts := by
  have h0 : 0 < (r.wants ++ r.may).length := by
    rcases Nat.eq_zero_or_pos (r.wants ++ r.may).length with h1 | h1
    · have h2 := List.length_eq_zero_iff.1 h1
      have h3 := h.en h2
      rw [List.length_append] at h1
      simp [takes, h3] at ht
      omega
    · exact h1
  refine ⟨h0, h.lt _ ?_⟩
  have h1 : min i ((r.wants ++ r.may).length - 1) < (r.wants ++ r.may).length := by omega
  rw [Go.Proofs.YtbbocbdoiealoaaGreatDoor.lett, List.getD, List.getElem?_eq_getElem h1]
  exact List.getElem_mem h1
theorem lt_of_cell {w : World} {x : Addr} {v : Value} (h : w.cell? x = some v) : x.block < w.heap.size := by
  unfold World.cell? at h
  split at h
  · rename_i h1; exact lt_of_block h1
  · cases h
theorem cell_lt {w : World} {x : Addr} (h : ∃ t p, w.cell? x = some (.iface t p)) : x.block < w.heap.size := by
  obtain ⟨t, p, h⟩ := h
  exact lt_of_cell h
theorem below_low {B B' : Nat} {w w' : World} (h : Below B w w') (hB : B' ≤ B) : Below B' w w' := ⟨h.os, h.tape, h.output, h.size, fun k hk => h.block k (by omega)⟩
theorem fcs_get : ∀ (l : List Fl) (i : Nat) (f : Fl), l[i]? = some f → (fcs l)[i * 3]? = some (.int .u8 f.letter.toNat) ∧ (fcs l)[i * 3 + 1]? = some (sv f.arg) ∧ (fcs l)[i * 3 + 2]? = some (.bool f.has)
  | [], i, f, h => by simp at h
  | x :: t, 0, f, h => by simp at h; subst h; exact ⟨rfl, rfl, rfl⟩
  | x :: t, i + 1, f, h => by
    have h1 := fcs_get t i f (by simpa using h)
    have e : fcs (x :: t) = [.int .u8 x.letter.toNat, sv x.arg, .bool x.has] ++ fcs t := rfl
    rw [e, show (i + 1) * 3 = 3 + i * 3 by omega]
    refine ⟨?_, ?_, ?_⟩
    · rw [List.getElem?_append_right (by simp)]; simpa using h1.1
    · rw [List.getElem?_append_right (by simp; omega)]; simpa [Nat.add_assoc, Nat.add_sub_cancel_left] using h1.2.1
    · rw [List.getElem?_append_right (by simp; omega)]; simpa [Nat.add_assoc, Nat.add_sub_cancel_left] using h1.2.2
theorem fcs_cells {w : World} {B g n c : Nat} {l : List Fl} (h : w.ownsRow B 79 3 (.slice (some ⟨g, 0, none⟩) n c) n (fcs l)) (i : Nat) (f : Fl) (hf : l[i]? = some f) :
    w.cell? ⟨g, i * 3, none⟩ = some (.int .u8 f.letter.toNat) ∧ w.cell? ⟨g, i * 3 + 1, none⟩ = some (sv f.arg) ∧ w.cell? ⟨g, i * 3 + 2, none⟩ = some (.bool f.has) := by
  obtain ⟨h1, h2, h3⟩ := fcs_get l i f hf
  exact ⟨row_cell h _ _ h1, row_cell h _ _ h2, row_cell h _ _ h3⟩
def RdP (r : Rw) (ws : List Bs) (w : World) (e : Ending) (w' : World) : Prop :=
  ((∃ c kv mv, readS r ws = .inl c ∧ e = .returned (.agg (cmA c kv mv)) ∧ w'.ownsRow w.heap.size 9 1 kv c.keys.length (c.keys.map sv) ∧ w'.ownsRow w.heap.size 79 3 mv c.mt.length (fcs c.mt)) ∨ ∃ t, readS r ws = .inr t ∧ e = up ⟨t.toArray⟩) ∧ w.grownBy w' none
abbrev Z31 (v : Int) (q : Bool) : Array Value := #[.int .i64 v, .slice none 0 0, .int .u64 0, .int .i64 0, .int .u64 0, .int .u64 0, .slice none 0 0, .bool q, .bool false, .slice none 0 0, .string ⟨#[]⟩]
theorem rd0 (w : World) (rv0 : Int) (rw0 rm0 : Bs) (re0 rq0 q : Bool) :
    IsM (((w.alloc (.cells #[.int .i64 rv0, sv rw0, sv rm0, .bool re0, .bool rq0] 151)).alloc (.cells (Z31 0 false) 41)).alloc (.cells (Z31 rv0 q) 41)) (w.heap.size + 1 + 1) (w.heap.size + 1 + 1) (cmd0 rv0 q) (.slice none 0 0) (.slice none 0 0) ∧
    Box (((w.alloc (.cells #[.int .i64 rv0, sv rw0, sv rm0, .bool re0, .bool rq0] 151)).alloc (.cells (Z31 0 false) 41)).alloc (.cells (Z31 rv0 q) 41)) 151 w.heap.size #[.int .i64 rv0, sv rw0, sv rm0, .bool re0, .bool rq0] ∧
    Box (((w.alloc (.cells #[.int .i64 rv0, sv rw0, sv rm0, .bool re0, .bool rq0] 151)).alloc (.cells (Z31 0 false) 41)).alloc (.cells (Z31 rv0 q) 41)) 41 (w.heap.size + 1) (Z31 0 false) ∧
    w.grownBy (((w.alloc (.cells #[.int .i64 rv0, sv rw0, sv rm0, .bool re0, .bool rq0] 151)).alloc (.cells (Z31 0 false) 41)).alloc (.cells (Z31 rv0 q) 41)) none := by
  have hb := Box.new ((w.alloc (.cells #[.int .i64 rv0, sv rw0, sv rm0, .bool re0, .bool rq0] 151)).alloc (.cells (Z31 0 false) 41)) 41 (Z31 rv0 q)
  have hc := Box.new (w.alloc (.cells #[.int .i64 rv0, sv rw0, sv rm0, .bool re0, .bool rq0] 151)) 41 (Z31 0 false)
  simp only [World.size_alloc] at hb hc
  exact ⟨⟨hb, Nat.le_refl _, World.ownsRow_nil _ _ _ _, World.ownsRow_nil _ _ _ _⟩, (Box.new w 151 _).kept (gb_alloc (gb_alloc (gb_refl _ none) _) _) (by simp), hc.kept (gb_alloc (gb_refl _ none) _) (by simp), gb_alloc (gb_alloc (gb_alloc (gb_refl w none) _) _) _⟩
def rdV (r : Rw) (q : Bool) (vs : List Bs) : Cmd ⊕ Bs := if takes r vs.length then fin r.verb (takeL r 0 (cmd0 r.verb q) vs) else .inr badLine
theorem take1_len {c d : Cmd} {a : UInt8} {x : Bs} (h : take1 c a x = .inl d) : d.keys.length ≤ c.keys.length + 1 ∧ d.mt.length ≤ c.mt.length + 1 ∧ d.verb = c.verb := by
  unfold take1 at h
  repeat' split at h
  all_goals first
    | (injection h with h; subst h; simp)
    | cases h
theorem take1_fl {c d : Cmd} {a : UInt8} {x : Bs} {N : Nat} (h : take1 c a x = .inl d) (hx : x.length ≤ N) (hc : ∀ f ∈ c.mt, f.arg.length ≤ N) : ∀ f ∈ d.mt, f.arg.length ≤ N := by
  unfold take1 at h
  repeat' split at h
  all_goals first
    | (injection h with h; subst h; first | exact hc | (intro f hf; simp only [List.mem_append, List.mem_singleton] at hf; rcases hf with hf | rfl; exact hc f hf; simp; omega))
    | cases h
set_option maxRecDepth 100000 in
set_option maxHeartbeats 4000000 in
theorem read_4 {w : World} (rv0 : Int) (rw0 rm0 : Bs) (re0 rq0 : Bool) (hR : Rok ⟨rv0, rw0, rm0, re0, rq0⟩) (ws : List Bs) (hws : ∀ x ∈ ws, x ≠ [] ∧ x.length ≤ 1099511627776) (m : Nat) (hm : ws.length = m + 1) (hmm : m ≤ 1000000000) (g o cp : Nat) (hg : g < w.heap.size) (hcp : m + 1 ≤ cp) (hc : ∀ i x, ws[i]? = some x → w.cell? ⟨g, o + i, none⟩ = some (sv x)) (hE : Er w) (hq : rq0 = true) (hwm : rw0.length ≤ m) (hl : ws.getLast? = some noreply) :
    Calls Tryz.prog 108 #[rv ⟨rv0, rw0, rm0, re0, rq0⟩, .slice (some ⟨g, o, none⟩) (m + 1) cp] w fun e w' => RdP ⟨rv0, rw0, rm0, re0, rq0⟩ ws w e w' := by
  subst hq
  have hcl : w.cell? ⟨g, o + m, none⟩ = some (sv noreply) := hc m noreply (by rw [List.getLast?_eq_getElem?, hm] at hl; exact hl)
  have hrd : readS ⟨rv0, rw0, rm0, re0, true⟩ ws = rdV ⟨rv0, rw0, rm0, re0, true⟩ true ws.dropLast := by
    have : qt ⟨rv0, rw0, rm0, re0, true⟩ ws = true := by simp [qt, hl, hm, hwm]
    simp [readS, rdV, this]
  have hvl : ws.dropLast.length = m := by rw [List.length_dropLast, hm]; rfl
  have hvc : ∀ i x, ws.dropLast[i]? = some x → x ∈ ws ∧ w.cell? ⟨g, o + i, none⟩ = some (sv x) := by
    intro i x hx
    have h1 : i < ws.dropLast.length := (List.getElem?_eq_some_iff.1 hx).1
    have h2 : ws[i]? = some x := by
      rw [List.getElem?_dropLast] at hx
      split at hx
      · exact hx
      · cases hx
    exact ⟨List.mem_of_getElem? h2, hc i x h2⟩
  obtain ⟨hM3, hr3, hrB, hgw3⟩ := rd0 w rv0 rw0 rm0 re0 true true
  have hcl3 := gb_cellN (gb_alloc (gb_alloc (gb_alloc (gb_refl w none) (.cells #[.int .i64 rv0, sv rw0, sv rm0, .bool re0, .bool true] 151)) (.cells (Z31 0 false) 41)) (.cells (Z31 rv0 false) 41)) hcl
  have e1 : wrap64 (((m + 1 : Nat) : Int) - 1) = (m : Int) := by unfold wrap64; omega
  have d1 : ((rw0.length : Int) ≤ (m : Int)) := by omega
  have d2 : ((m : Int) ≤ (cp : Int)) := by omega
  obtain ⟨vs, hvs⟩ : ∃ vs, ws.dropLast = vs := ⟨_, rfl⟩
  rw [hvs] at hrd hvl hvc
  clear hc hcl hl hvs hm
  have hRok := hR.le
  have hT := fun W => takes_31 ⟨rv0, rw0, rm0, re0, true⟩ m (by omega) hRok.1 hRok.2 W
  obtain ⟨tk, htk⟩ : ∃ tk, takes ⟨rv0, rw0, rm0, re0, true⟩ m = tk := ⟨_, rfl⟩
  simp only [htk] at hT
  cases tk with
  | false =>
    have HR : Hid (readS ⟨rv0, rw0, rm0, re0, true⟩ ws = .inr badLine) := by
      show _ = _
      rw [hrd]; simp [rdV, hvl, htk]
    clear hrd hvl htk hrB hM3 hr3
    go_enter Tryz.func108, Tryz.ntmps108
    go_wp2_with (first | (go_at_call 148; with_reducible refine (hT _).mono ?_; rintro e w4 ⟨rfl, hg4⟩) | (go_at_call 146; with_reducible refine (giveUp_27 _ _).mono ?_; rintro e w5 ⟨rfl, rfl⟩))
    exact ⟨rfl, .inr ⟨_, HR.out, rfl⟩, gb_trans hgw3 hg4⟩
  | true =>
    have HR : Hid (readS ⟨rv0, rw0, rm0, re0, true⟩ ws = fin rv0 (takeL ⟨rv0, rw0, rm0, re0, true⟩ 0 (cmd0 rv0 true) vs)) := by
      show _ = _
      rw [hrd]; simp [rdV, hvl, htk]
    clear hrd
    go_enter Tryz.func108, Tryz.ntmps108
    go_wp2_with (first | (go_at_call 148; with_reducible refine (hT _).mono ?_; rintro e w4 ⟨rfl, hg4⟩; (have h4 := hM3.kept hg4); (have hr4 := hr3.kept hg4 (by simp)); (have hrB4 := hrB.kept hg4 (by simp)); (have hgw4 := gb_trans hgw3 hg4); clear hM3 hr3 hg4 hgw3 hrB hT))
    have hgl : ∀ wr, Below (w.heap.size + 1 + 1) w4 wr → Er wr ∧ Box wr 151 w.heap.size #[.int .i64 rv0, sv rw0, sv rm0, .bool re0, .bool true] ∧ Box wr 41 (w.heap.size + 1) (Z31 0 false) ∧ ∀ i x, vs[i]? = some x → x ∈ ws ∧ wr.cell? ⟨g, o + i, none⟩ = some (sv x) := by
      intro wr hb
      have hkp : ∀ k, k < w.heap.size + 1 + 1 → wr.heap[k]? = w4.heap[k]? := fun k hk => hb.block k hk
      have hE4 := hE.kept hgw4
      refine ⟨?_, (hkp _ (by omega)).trans hr4, (hkp _ (by omega)).trans hrB4, fun i x hx => ⟨(hvc i x hx).1, ?_⟩⟩
      · obtain ⟨⟨a, b, h1⟩, c, d, h2⟩ := hE4
        have hs := hgw4.size
        refine ⟨⟨a, b, ?_⟩, c, d, ?_⟩
        · exact (hb.cell (p := ⟨2, 0, none⟩) (by have := cell_lt hE.1; dsimp only at this ⊢; omega)).trans h1
        · exact (hb.cell (p := ⟨3, 0, none⟩) (by have := cell_lt hE.2; dsimp only at this ⊢; omega)).trans h2
      · exact (hb.cell (p := ⟨g, o + i, none⟩) (by dsimp only; omega)).trans (gb_cellN hgw4 (hvc i x hx).2)
    go_loopw [44] (fun x wr => ∃ k : Nat, k ≤ m ∧ x = .int .i64 k ∧ Below (w.heap.size + 1 + 1) w4 wr ∧ ∃ c kv mv, IsM wr (w.heap.size + 1 + 1) (w.heap.size + 1 + 1) c kv mv ∧ takeL ⟨rv0, rw0, rm0, re0, true⟩ 0 (cmd0 rv0 true) vs = takeL ⟨rv0, rw0, rm0, re0, true⟩ k c (vs.drop k) ∧ c.keys.length ≤ k ∧ c.mt.length ≤ k ∧ (∀ f ∈ c.mt, f.arg.length ≤ 1099511627776) ∧ c.verb = rv0) (fun x _ => m - (intOf x).toNat)
    case atStart => exact ⟨0, by omega, rfl, Below.refl _ _, _, _, _, h4, rfl, Nat.le_refl _, Nat.le_refl _, by simp [cmd0], rfl⟩
    case round =>
      obtain ⟨k, hk, rfl, hbl, c, kv, mv, hM, htl, hk1, hk2, hfl, hcv⟩ := hrel
      obtain ⟨hEr, hbr, hbB, hcs⟩ := hgl wr hbl
      have HTL := Lib.hid htl
      have hlt : k < m ∨ k = m := by omega
      rcases hlt with hlt | hke
      · obtain ⟨x, hx⟩ : ∃ x, vs[k]? = some x := ⟨_, List.getElem?_eq_getElem (by omega)⟩
        obtain ⟨hxm, cx⟩ := hcs k x hx
        obtain ⟨hx0, hxl⟩ := hws x hxm
        have hdr : vs.drop k = x :: vs.drop (k + 1) := by
          rw [List.getElem?_eq_some_iff] at hx
          obtain ⟨h1, rfl⟩ := hx
          exact List.drop_eq_getElem_cons h1
        have d1 : decide ((k : Int) < (m : Int)) = true := decide_eq_true (by omega)
        have hle := hR.lett htk hlt
        have h33 := fun W => letter_33 ⟨rv0, rw0, rm0, re0, true⟩ k (by omega) hRok.1 hRok.2 hle.1 W
        have y0 := hbr.cell 0
        have y1 := hbr.cell 1
        have y2 := hbr.cell 2
        have y3 := hbr.cell 3
        have y4 := hbr.cell 4
        rw [show (#[Value.int .i64 rv0, sv rw0, sv rm0, .bool re0, .bool true] : Array Value)[0]? = some (.int .i64 rv0) from rfl] at y0
        rw [show (#[Value.int .i64 rv0, sv rw0, sv rm0, .bool re0, .bool true] : Array Value)[1]? = some (sv rw0) from rfl] at y1
        rw [show (#[Value.int .i64 rv0, sv rw0, sv rm0, .bool re0, .bool true] : Array Value)[2]? = some (sv rm0) from rfl] at y2
        rw [show (#[Value.int .i64 rv0, sv rw0, sv rm0, .bool re0, .bool true] : Array Value)[3]? = some (.bool re0) from rfl] at y3
        rw [show (#[Value.int .i64 rv0, sv rw0, sv rm0, .bool re0, .bool true] : Array Value)[4]? = some (.bool true) from rfl] at y4
        cases ht : take1 c (lett ⟨rv0, rw0, rm0, re0, true⟩ k) x with
        | inl d =>
          have h32 := fun W (hW : IsM W (w.heap.size + 1 + 1) (w.heap.size + 1 + 1) c kv mv) (hE : Er W) => take_yes hW hE x hxl hx0 (by omega) (by omega) _ hle.2 ht
          have HD : Hid (takeL ⟨rv0, rw0, rm0, re0, true⟩ 0 (cmd0 rv0 true) vs = takeL ⟨rv0, rw0, rm0, re0, true⟩ (k + 1) d (vs.drop (k + 1)) ∧ d.keys.length ≤ k + 1 ∧ d.mt.length ≤ k + 1 ∧ (∀ f ∈ d.mt, f.arg.length ≤ 1099511627776) ∧ d.verb = rv0) := by
            have h1 := take1_len ht
            refine ⟨?_, by omega, by omega, take1_fl ht hxl hfl, by rw [h1.2.2, hcv]⟩
            rw [htl, hdr, takeL, ht]
          clear htl hdr ht hx hcs hgl hk1 hk2 hfl hcv
          go_wp2_with (first | (go_at_call 150; with_reducible refine (h33 _).mono ?_; rintro e w5 ⟨rfl, hg5⟩) | (go_at_call 149; with_reducible refine (h32 _ (hM.kept hg5) (hEr.kept hg5)).mono ?_; rintro e w6 ⟨rfl, ⟨kv', mv', hM6⟩, hb6⟩))
          refine ⟨⟨k + 1, by omega, by simp, (hbl.trans (below_grown hg5 (Nat.le_of_lt hM.lt))).trans hb6, d, kv', mv', hM6, HD.out⟩, by simp [intOf]; omega⟩
        | inr t =>
          have h32 := fun W (hW : IsM W (w.heap.size + 1 + 1) (w.heap.size + 1 + 1) c kv mv) (hE : Er W) => take_no hW hE x hxl _ hle.2 t ht
          have HD : Hid (readS ⟨rv0, rw0, rm0, re0, true⟩ ws = .inr t) := by
            show _ = _
            rw [HR.out, htl, hdr, takeL, ht]; rfl
          clear htl hdr ht hx hcs hgl hk1 hk2 hfl hcv HR HTL
          go_wp2_with (first | (go_at_call 150; with_reducible refine (h33 _).mono ?_; rintro e w5 ⟨rfl, hg5⟩) | (go_at_call 149; with_reducible refine (h32 _ (hM.kept hg5) (hEr.kept hg5)).mono ?_; rintro e w6 ⟨rfl, hb6⟩))
          refine ⟨rfl, .inr ⟨_, HD.out, rfl⟩, gb_below ?_⟩
          exact (below_grown hgw4 (Nat.le_refl _)).trans (below_low ((hbl.trans (below_grown hg5 (Nat.le_of_lt hM.lt))).trans hb6) (by omega))
      · subst hke
        have HC : Hid (readS ⟨rv0, rw0, rm0, re0, true⟩ ws = fin rv0 (.inl c)) := by
          show _ = _
          rw [HR.out, htl, List.drop_eq_nil_of_le (by omega)]; rfl
        have d1 : decide ((k : Int) < (k : Int)) = false := decide_eq_false (by omega)
        have hF : Fs wr mv c.mt := by
          obtain ⟨ao, cp', rfl, ha, -, -, -⟩ := row_shape hM.mr
          rcases hmr : hM.mr.2 with ⟨h1, h2⟩ | ⟨g', c', cur, h1, h2⟩
          · injection h1 with h1 h1' h1''
            exact .inl ⟨List.length_eq_zero_iff.1 h1', _, _, by rw [h1']⟩
          · injection h1 with h1 h1' h1''
            subst h1
            refine .inr ⟨g', cp', rfl, fun i f hf => ?_⟩
            exact fcs_cells hM.mr i f hf
        have y0 : wr.cell? ⟨w.heap.size, 0, none⟩ = some (.int .i64 rv0) := hbr.cell 0
        have y9 : wr.cell? ⟨w.heap.size + 1 + 1, 9, none⟩ = some mv := hM.box.cell 9
        clear htl hcs hgl HR HTL
        obtain ⟨ft, hft⟩ : ∃ ft, flS rv0 [] c.mt = ft := ⟨_, rfl⟩
        simp only [fin, hft] at HC
        have h34 := flags_34 rv0 mv c.mt hfl (by omega) wr hEr hF
        rw [hft] at h34
        clear hft hF
        have hgN : ∀ w7, wr.grownBy w7 none → w.grownBy w7 none := fun w7 hg7 => gb_below ((below_grown hgw4 (Nat.le_refl _)).trans (below_low (hbl.trans (below_grown hg7 (Nat.le_of_lt hM.lt))) (by omega)))
        by_cases hf0 : ft = []
        · subst hf0
          rw [if_pos rfl] at HC
          obtain ⟨ka, kc, rfl, -, -, -, -⟩ := row_shape hM.kr
          obtain ⟨ma, mc, rfl, -, -, -, -⟩ := row_shape hM.mr
          go_wp2_with (go_at_call 39; go_must ((with_reducible refine h34.mono ?_); rintro e w7 ⟨rfl, hg7⟩; (have m0 : w7.cell? ⟨w.heap.size + 1 + 1, 0, none⟩ = some (.int .i64 c.verb) := (hM.kept hg7).box.cell 0); (have m1 : w7.cell? ⟨w.heap.size + 1 + 1, 1, none⟩ = some (.slice ka c.keys.length kc) := (hM.kept hg7).box.cell 1); (have m2 : w7.cell? ⟨w.heap.size + 1 + 1, 2, none⟩ = some (.int .u64 c.flags) := (hM.kept hg7).box.cell 2); (have m3 : w7.cell? ⟨w.heap.size + 1 + 1, 3, none⟩ = some (.int .i64 c.exp) := (hM.kept hg7).box.cell 3); (have m4 : w7.cell? ⟨w.heap.size + 1 + 1, 4, none⟩ = some (.int .u64 c.tok) := (hM.kept hg7).box.cell 4); (have m5 : w7.cell? ⟨w.heap.size + 1 + 1, 5, none⟩ = some (.int .u64 c.del) := (hM.kept hg7).box.cell 5); (have m6 : w7.cell? ⟨w.heap.size + 1 + 1, 6, none⟩ = some (.slice none 0 0) := (hM.kept hg7).box.cell 6); (have m7 : w7.cell? ⟨w.heap.size + 1 + 1, 7, none⟩ = some (.bool c.nr) := (hM.kept hg7).box.cell 7); (have m8 : w7.cell? ⟨w.heap.size + 1 + 1, 8, none⟩ = some (.bool false) := (hM.kept hg7).box.cell 8); (have m9 : w7.cell? ⟨w.heap.size + 1 + 1, 9, none⟩ = some (.slice ma c.mt.length mc) := (hM.kept hg7).box.cell 9); (have m10 : w7.cell? ⟨w.heap.size + 1 + 1, 10, none⟩ = some (sv c.what) := (hM.kept hg7).box.cell 10); (have r0 : w7.cell? ⟨w.heap.size + 1, 0, none⟩ = some (.int .i64 0) := (hbB.kept hg7 (by simp)).cell 0); (have r1 : w7.cell? ⟨w.heap.size + 1, 1, none⟩ = some (.slice none 0 0) := (hbB.kept hg7 (by simp)).cell 1); (have r2 : w7.cell? ⟨w.heap.size + 1, 2, none⟩ = some (.int .u64 0) := (hbB.kept hg7 (by simp)).cell 2); (have r3 : w7.cell? ⟨w.heap.size + 1, 3, none⟩ = some (.int .i64 0) := (hbB.kept hg7 (by simp)).cell 3); (have r4 : w7.cell? ⟨w.heap.size + 1, 4, none⟩ = some (.int .u64 0) := (hbB.kept hg7 (by simp)).cell 4); (have r5 : w7.cell? ⟨w.heap.size + 1, 5, none⟩ = some (.int .u64 0) := (hbB.kept hg7 (by simp)).cell 5); (have r6 : w7.cell? ⟨w.heap.size + 1, 6, none⟩ = some (.slice none 0 0) := (hbB.kept hg7 (by simp)).cell 6); (have r7 : w7.cell? ⟨w.heap.size + 1, 7, none⟩ = some (.bool false) := (hbB.kept hg7 (by simp)).cell 7); (have r8 : w7.cell? ⟨w.heap.size + 1, 8, none⟩ = some (.bool false) := (hbB.kept hg7 (by simp)).cell 8); (have r9 : w7.cell? ⟨w.heap.size + 1, 9, none⟩ = some (.slice none 0 0) := (hbB.kept hg7 (by simp)).cell 9); (have r10 : w7.cell? ⟨w.heap.size + 1, 10, none⟩ = some (.string ⟨#[]⟩) := (hbB.kept hg7 (by simp)).cell 10); (have z0 := (hbB.kept hg7 (by simp)).fz 0); (have z1 := (hbB.kept hg7 (by simp)).fz 1); (have z2 := (hbB.kept hg7 (by simp)).fz 2); (have z3 := (hbB.kept hg7 (by simp)).fz 3); (have z4 := (hbB.kept hg7 (by simp)).fz 4); (have z5 := (hbB.kept hg7 (by simp)).fz 5); (have z6 := (hbB.kept hg7 (by simp)).fz 6); (have z7 := (hbB.kept hg7 (by simp)).fz 7); (have z8 := (hbB.kept hg7 (by simp)).fz 8); (have z9 := (hbB.kept hg7 (by simp)).fz 9); (have z10 := (hbB.kept hg7 (by simp)).fz 10)))
          obtain ⟨hbx, hgx⟩ := box11 (v0 := .int .i64 rv0) (v1 := .slice ka c.keys.length kc) (v2 := .int .u64 c.flags) (v3 := .int .i64 c.exp) (v4 := .int .u64 c.tok) (v5 := .int .u64 c.del) (v6 := .slice none 0 0) (v7 := .bool c.nr) (v8 := .bool false) (v9 := .slice ma c.mt.length mc) (v10 := .string ⟨c.what.toArray⟩) (hbB.kept hg7 (by simp))
          refine ⟨rfl, _, load31 hbx _ rfl, .inl ⟨c, .slice ka c.keys.length kc, .slice ma c.mt.length mc, HC.out, by rw [← hcv], ?_, ?_⟩, gb_mine (hgN _ hg7) hgx (by omega)⟩
          · refine row_base (row_kept (hM.kept hg7).kr hgx ?_) (by omega : w.heap.size ≤ w.heap.size + 1 + 1)
            exact row_box (hM.kept hg7).kr (hbB.kept hg7 (by simp)) (by omega)
          · refine row_base (row_kept (hM.kept hg7).mr hgx ?_) (by omega : w.heap.size ≤ w.heap.size + 1 + 1)
            exact row_box (hM.kept hg7).mr (hbB.kept hg7 (by simp)) (by omega)
        · rw [if_neg hf0] at HC
          have d2 : (ft == []) = false := beq_eq_false_iff_ne.2 hf0
          have d3 : ft.isEmpty = false := by simpa using hf0
          go_wp2_with (first | (go_at_call 39; with_reducible refine h34.mono ?_; rintro e w7 ⟨rfl, hg7⟩) | (go_at_call 146; with_reducible refine (giveUp_27 _ _).mono ?_; rintro e w8 ⟨rfl, rfl⟩))
          exact ⟨rfl, .inr ⟨_, HC.out, rfl⟩, hgN _ hg7⟩
set_option maxRecDepth 100000 in
set_option maxHeartbeats 4000000 in
theorem read_1 {w : World} (rv0 : Int) (rw0 rm0 : Bs) (re0 rq0 : Bool) (hR : Rok ⟨rv0, rw0, rm0, re0, rq0⟩) (ws : List Bs) (hws : ∀ x ∈ ws, x ≠ [] ∧ x.length ≤ 1099511627776) (n : Nat) (hn : ws.length = n) (hmm : n ≤ 1000000000) (g o cp : Nat) (hg : g < w.heap.size) (hcp : n ≤ cp) (hc : ∀ i x, ws[i]? = some x → w.cell? ⟨g, o + i, none⟩ = some (sv x)) (hE : Er w) (hq : rq0 = false) :
    Calls Tryz.prog 108 #[rv ⟨rv0, rw0, rm0, re0, rq0⟩, .slice (some ⟨g, o, none⟩) n cp] w fun e w' => RdP ⟨rv0, rw0, rm0, re0, rq0⟩ ws w e w' := by
  subst hq
  have hrd : readS ⟨rv0, rw0, rm0, re0, false⟩ ws = rdV ⟨rv0, rw0, rm0, re0, false⟩ false ws := by
    have : qt ⟨rv0, rw0, rm0, re0, false⟩ ws = false := by simp [qt]
    simp [readS, rdV, this]
  have hvl := hn
  have hvc : ∀ i x, ws[i]? = some x → x ∈ ws ∧ w.cell? ⟨g, o + i, none⟩ = some (sv x) := fun i x hx => ⟨List.mem_of_getElem? hx, hc i x hx⟩
  obtain ⟨hM3, hr3, hrB, hgw3⟩ := rd0 w rv0 rw0 rm0 re0 false false
  obtain ⟨vs, hvs⟩ : ∃ vs, ws = vs := ⟨_, rfl⟩
  clear hc hn
  have hRok := hR.le
  have hT := fun W => takes_31 ⟨rv0, rw0, rm0, re0, false⟩ n (by omega) hRok.1 hRok.2 W
  obtain ⟨tk, htk⟩ : ∃ tk, takes ⟨rv0, rw0, rm0, re0, false⟩ n = tk := ⟨_, rfl⟩
  simp only [htk] at hT
  cases tk with
  | false =>
    have HR : Hid (readS ⟨rv0, rw0, rm0, re0, false⟩ ws = .inr badLine) := by
      show _ = _
      rw [hrd]; simp [rdV, hvl, htk]
    clear hrd hvl htk hrB hM3 hr3
    go_enter Tryz.func108, Tryz.ntmps108
    go_wp2_with (first | (go_at_call 148; with_reducible refine (hT _).mono ?_; rintro e w4 ⟨rfl, hg4⟩) | (go_at_call 146; with_reducible refine (giveUp_27 _ _).mono ?_; rintro e w5 ⟨rfl, rfl⟩))
    exact ⟨rfl, .inr ⟨_, HR.out, rfl⟩, gb_trans hgw3 hg4⟩
  | true =>
    have HR : Hid (readS ⟨rv0, rw0, rm0, re0, false⟩ ws = fin rv0 (takeL ⟨rv0, rw0, rm0, re0, false⟩ 0 (cmd0 rv0 false) ws)) := by
      show _ = _
      rw [hrd]; simp [rdV, hvl, htk]
    clear hrd
    go_enter Tryz.func108, Tryz.ntmps108
    go_wp2_with (first | (go_at_call 148; with_reducible refine (hT _).mono ?_; rintro e w4 ⟨rfl, hg4⟩; (have h4 := hM3.kept hg4); (have hr4 := hr3.kept hg4 (by simp)); (have hrB4 := hrB.kept hg4 (by simp)); (have hgw4 := gb_trans hgw3 hg4); clear hM3 hr3 hg4 hgw3 hrB hT))
    have hgl : ∀ wr, Below (w.heap.size + 1 + 1) w4 wr → Er wr ∧ Box wr 151 w.heap.size #[.int .i64 rv0, sv rw0, sv rm0, .bool re0, .bool false] ∧ Box wr 41 (w.heap.size + 1) (Z31 0 false) ∧ ∀ i x, ws[i]? = some x → x ∈ ws ∧ wr.cell? ⟨g, o + i, none⟩ = some (sv x) := by
      intro wr hb
      have hkp : ∀ k, k < w.heap.size + 1 + 1 → wr.heap[k]? = w4.heap[k]? := fun k hk => hb.block k hk
      have hE4 := hE.kept hgw4
      refine ⟨?_, (hkp _ (by omega)).trans hr4, (hkp _ (by omega)).trans hrB4, fun i x hx => ⟨(hvc i x hx).1, ?_⟩⟩
      · obtain ⟨⟨a, b, h1⟩, c, d, h2⟩ := hE4
        have hs := hgw4.size
        refine ⟨⟨a, b, ?_⟩, c, d, ?_⟩
        · exact (hb.cell (p := ⟨2, 0, none⟩) (by have := cell_lt hE.1; dsimp only at this ⊢; omega)).trans h1
        · exact (hb.cell (p := ⟨3, 0, none⟩) (by have := cell_lt hE.2; dsimp only at this ⊢; omega)).trans h2
      · exact (hb.cell (p := ⟨g, o + i, none⟩) (by dsimp only; omega)).trans (gb_cellN hgw4 (hvc i x hx).2)
    go_loopw [44] (fun x wr => ∃ k : Nat, k ≤ n ∧ x = .int .i64 k ∧ Below (w.heap.size + 1 + 1) w4 wr ∧ ∃ c kv mv, IsM wr (w.heap.size + 1 + 1) (w.heap.size + 1 + 1) c kv mv ∧ takeL ⟨rv0, rw0, rm0, re0, false⟩ 0 (cmd0 rv0 false) ws = takeL ⟨rv0, rw0, rm0, re0, false⟩ k c (ws.drop k) ∧ c.keys.length ≤ k ∧ c.mt.length ≤ k ∧ (∀ f ∈ c.mt, f.arg.length ≤ 1099511627776) ∧ c.verb = rv0) (fun x _ => n - (intOf x).toNat)
    case atStart => exact ⟨0, by omega, rfl, Below.refl _ _, _, _, _, h4, rfl, Nat.le_refl _, Nat.le_refl _, by simp [cmd0], rfl⟩
    case round =>
      obtain ⟨k, hk, rfl, hbl, c, kv, mv, hM, htl, hk1, hk2, hfl, hcv⟩ := hrel
      obtain ⟨hEr, hbr, hbB, hcs⟩ := hgl wr hbl
      have HTL := Lib.hid htl
      have hlt : k < n ∨ k = n := by omega
      rcases hlt with hlt | hke
      · obtain ⟨x, hx⟩ : ∃ x, ws[k]? = some x := ⟨_, List.getElem?_eq_getElem (by omega)⟩
        obtain ⟨hxm, cx⟩ := hcs k x hx
        obtain ⟨hx0, hxl⟩ := hws x hxm
        have hdr : ws.drop k = x :: ws.drop (k + 1) := by
          rw [List.getElem?_eq_some_iff] at hx
          obtain ⟨h1, rfl⟩ := hx
          exact List.drop_eq_getElem_cons h1
        have d1 : decide ((k : Int) < (n : Int)) = true := decide_eq_true (by omega)
        have hle := hR.lett htk hlt
        have h33 := fun W => letter_33 ⟨rv0, rw0, rm0, re0, false⟩ k (by omega) hRok.1 hRok.2 hle.1 W
        have y0 := hbr.cell 0
        have y1 := hbr.cell 1
        have y2 := hbr.cell 2
        have y3 := hbr.cell 3
        have y4 := hbr.cell 4
        rw [show (#[Value.int .i64 rv0, sv rw0, sv rm0, .bool re0, .bool false] : Array Value)[0]? = some (.int .i64 rv0) from rfl] at y0
        rw [show (#[Value.int .i64 rv0, sv rw0, sv rm0, .bool re0, .bool false] : Array Value)[1]? = some (sv rw0) from rfl] at y1
        rw [show (#[Value.int .i64 rv0, sv rw0, sv rm0, .bool re0, .bool false] : Array Value)[2]? = some (sv rm0) from rfl] at y2
        rw [show (#[Value.int .i64 rv0, sv rw0, sv rm0, .bool re0, .bool false] : Array Value)[3]? = some (.bool re0) from rfl] at y3
        rw [show (#[Value.int .i64 rv0, sv rw0, sv rm0, .bool re0, .bool false] : Array Value)[4]? = some (.bool false) from rfl] at y4
        cases ht : take1 c (lett ⟨rv0, rw0, rm0, re0, false⟩ k) x with
        | inl d =>
          have h32 := fun W (hW : IsM W (w.heap.size + 1 + 1) (w.heap.size + 1 + 1) c kv mv) (hE : Er W) => take_yes hW hE x hxl hx0 (by omega) (by omega) _ hle.2 ht
          have HD : Hid (takeL ⟨rv0, rw0, rm0, re0, false⟩ 0 (cmd0 rv0 false) ws = takeL ⟨rv0, rw0, rm0, re0, false⟩ (k + 1) d (ws.drop (k + 1)) ∧ d.keys.length ≤ k + 1 ∧ d.mt.length ≤ k + 1 ∧ (∀ f ∈ d.mt, f.arg.length ≤ 1099511627776) ∧ d.verb = rv0) := by
            have h1 := take1_len ht
            refine ⟨?_, by omega, by omega, take1_fl ht hxl hfl, by rw [h1.2.2, hcv]⟩
            rw [htl, hdr, takeL, ht]
          clear htl hdr ht hx hcs hgl hk1 hk2 hfl hcv
          go_wp2_with (first | (go_at_call 150; with_reducible refine (h33 _).mono ?_; rintro e w5 ⟨rfl, hg5⟩) | (go_at_call 149; with_reducible refine (h32 _ (hM.kept hg5) (hEr.kept hg5)).mono ?_; rintro e w6 ⟨rfl, ⟨kv', mv', hM6⟩, hb6⟩))
          refine ⟨⟨k + 1, by omega, by simp, (hbl.trans (below_grown hg5 (Nat.le_of_lt hM.lt))).trans hb6, d, kv', mv', hM6, HD.out⟩, by simp [intOf]; omega⟩
        | inr t =>
          have h32 := fun W (hW : IsM W (w.heap.size + 1 + 1) (w.heap.size + 1 + 1) c kv mv) (hE : Er W) => take_no hW hE x hxl _ hle.2 t ht
          have HD : Hid (readS ⟨rv0, rw0, rm0, re0, false⟩ ws = .inr t) := by
            show _ = _
            rw [HR.out, htl, hdr, takeL, ht]; rfl
          clear htl hdr ht hx hcs hgl hk1 hk2 hfl hcv HR HTL
          go_wp2_with (first | (go_at_call 150; with_reducible refine (h33 _).mono ?_; rintro e w5 ⟨rfl, hg5⟩) | (go_at_call 149; with_reducible refine (h32 _ (hM.kept hg5) (hEr.kept hg5)).mono ?_; rintro e w6 ⟨rfl, hb6⟩))
          refine ⟨rfl, .inr ⟨_, HD.out, rfl⟩, gb_below ?_⟩
          exact (below_grown hgw4 (Nat.le_refl _)).trans (below_low ((hbl.trans (below_grown hg5 (Nat.le_of_lt hM.lt))).trans hb6) (by omega))
      · subst hke
        have HC : Hid (readS ⟨rv0, rw0, rm0, re0, false⟩ ws = fin rv0 (.inl c)) := by
          show _ = _
          rw [HR.out, htl, List.drop_eq_nil_of_le (by omega)]; rfl
        have d1 : decide ((k : Int) < (k : Int)) = false := decide_eq_false (by omega)
        have hF : Fs wr mv c.mt := by
          obtain ⟨ao, cp', rfl, ha, -, -, -⟩ := row_shape hM.mr
          rcases hmr : hM.mr.2 with ⟨h1, h2⟩ | ⟨g', c', cur, h1, h2⟩
          · injection h1 with h1 h1' h1''
            exact .inl ⟨List.length_eq_zero_iff.1 h1', _, _, by rw [h1']⟩
          · injection h1 with h1 h1' h1''
            subst h1
            refine .inr ⟨g', cp', rfl, fun i f hf => ?_⟩
            exact fcs_cells hM.mr i f hf
        have y0 : wr.cell? ⟨w.heap.size, 0, none⟩ = some (.int .i64 rv0) := hbr.cell 0
        have y9 : wr.cell? ⟨w.heap.size + 1 + 1, 9, none⟩ = some mv := hM.box.cell 9
        clear htl hcs hgl HR HTL
        obtain ⟨ft, hft⟩ : ∃ ft, flS rv0 [] c.mt = ft := ⟨_, rfl⟩
        simp only [fin, hft] at HC
        have h34 := flags_34 rv0 mv c.mt hfl (by omega) wr hEr hF
        rw [hft] at h34
        clear hft hF
        have hgN : ∀ w7, wr.grownBy w7 none → w.grownBy w7 none := fun w7 hg7 => gb_below ((below_grown hgw4 (Nat.le_refl _)).trans (below_low (hbl.trans (below_grown hg7 (Nat.le_of_lt hM.lt))) (by omega)))
        by_cases hf0 : ft = []
        · subst hf0
          rw [if_pos rfl] at HC
          obtain ⟨ka, kc, rfl, -, -, -, -⟩ := row_shape hM.kr
          obtain ⟨ma, mc, rfl, -, -, -, -⟩ := row_shape hM.mr
          go_wp2_with (go_at_call 39; go_must ((with_reducible refine h34.mono ?_); rintro e w7 ⟨rfl, hg7⟩; (have m0 : w7.cell? ⟨w.heap.size + 1 + 1, 0, none⟩ = some (.int .i64 c.verb) := (hM.kept hg7).box.cell 0); (have m1 : w7.cell? ⟨w.heap.size + 1 + 1, 1, none⟩ = some (.slice ka c.keys.length kc) := (hM.kept hg7).box.cell 1); (have m2 : w7.cell? ⟨w.heap.size + 1 + 1, 2, none⟩ = some (.int .u64 c.flags) := (hM.kept hg7).box.cell 2); (have m3 : w7.cell? ⟨w.heap.size + 1 + 1, 3, none⟩ = some (.int .i64 c.exp) := (hM.kept hg7).box.cell 3); (have m4 : w7.cell? ⟨w.heap.size + 1 + 1, 4, none⟩ = some (.int .u64 c.tok) := (hM.kept hg7).box.cell 4); (have m5 : w7.cell? ⟨w.heap.size + 1 + 1, 5, none⟩ = some (.int .u64 c.del) := (hM.kept hg7).box.cell 5); (have m6 : w7.cell? ⟨w.heap.size + 1 + 1, 6, none⟩ = some (.slice none 0 0) := (hM.kept hg7).box.cell 6); (have m7 : w7.cell? ⟨w.heap.size + 1 + 1, 7, none⟩ = some (.bool c.nr) := (hM.kept hg7).box.cell 7); (have m8 : w7.cell? ⟨w.heap.size + 1 + 1, 8, none⟩ = some (.bool false) := (hM.kept hg7).box.cell 8); (have m9 : w7.cell? ⟨w.heap.size + 1 + 1, 9, none⟩ = some (.slice ma c.mt.length mc) := (hM.kept hg7).box.cell 9); (have m10 : w7.cell? ⟨w.heap.size + 1 + 1, 10, none⟩ = some (sv c.what) := (hM.kept hg7).box.cell 10); (have r0 : w7.cell? ⟨w.heap.size + 1, 0, none⟩ = some (.int .i64 0) := (hbB.kept hg7 (by simp)).cell 0); (have r1 : w7.cell? ⟨w.heap.size + 1, 1, none⟩ = some (.slice none 0 0) := (hbB.kept hg7 (by simp)).cell 1); (have r2 : w7.cell? ⟨w.heap.size + 1, 2, none⟩ = some (.int .u64 0) := (hbB.kept hg7 (by simp)).cell 2); (have r3 : w7.cell? ⟨w.heap.size + 1, 3, none⟩ = some (.int .i64 0) := (hbB.kept hg7 (by simp)).cell 3); (have r4 : w7.cell? ⟨w.heap.size + 1, 4, none⟩ = some (.int .u64 0) := (hbB.kept hg7 (by simp)).cell 4); (have r5 : w7.cell? ⟨w.heap.size + 1, 5, none⟩ = some (.int .u64 0) := (hbB.kept hg7 (by simp)).cell 5); (have r6 : w7.cell? ⟨w.heap.size + 1, 6, none⟩ = some (.slice none 0 0) := (hbB.kept hg7 (by simp)).cell 6); (have r7 : w7.cell? ⟨w.heap.size + 1, 7, none⟩ = some (.bool false) := (hbB.kept hg7 (by simp)).cell 7); (have r8 : w7.cell? ⟨w.heap.size + 1, 8, none⟩ = some (.bool false) := (hbB.kept hg7 (by simp)).cell 8); (have r9 : w7.cell? ⟨w.heap.size + 1, 9, none⟩ = some (.slice none 0 0) := (hbB.kept hg7 (by simp)).cell 9); (have r10 : w7.cell? ⟨w.heap.size + 1, 10, none⟩ = some (.string ⟨#[]⟩) := (hbB.kept hg7 (by simp)).cell 10); (have z0 := (hbB.kept hg7 (by simp)).fz 0); (have z1 := (hbB.kept hg7 (by simp)).fz 1); (have z2 := (hbB.kept hg7 (by simp)).fz 2); (have z3 := (hbB.kept hg7 (by simp)).fz 3); (have z4 := (hbB.kept hg7 (by simp)).fz 4); (have z5 := (hbB.kept hg7 (by simp)).fz 5); (have z6 := (hbB.kept hg7 (by simp)).fz 6); (have z7 := (hbB.kept hg7 (by simp)).fz 7); (have z8 := (hbB.kept hg7 (by simp)).fz 8); (have z9 := (hbB.kept hg7 (by simp)).fz 9); (have z10 := (hbB.kept hg7 (by simp)).fz 10)))
          obtain ⟨hbx, hgx⟩ := box11 (v0 := .int .i64 rv0) (v1 := .slice ka c.keys.length kc) (v2 := .int .u64 c.flags) (v3 := .int .i64 c.exp) (v4 := .int .u64 c.tok) (v5 := .int .u64 c.del) (v6 := .slice none 0 0) (v7 := .bool c.nr) (v8 := .bool false) (v9 := .slice ma c.mt.length mc) (v10 := .string ⟨c.what.toArray⟩) (hbB.kept hg7 (by simp))
          refine ⟨rfl, _, load31 hbx _ rfl, .inl ⟨c, .slice ka c.keys.length kc, .slice ma c.mt.length mc, HC.out, by rw [← hcv], ?_, ?_⟩, gb_mine (hgN _ hg7) hgx (by omega)⟩
          · refine row_base (row_kept (hM.kept hg7).kr hgx ?_) (by omega : w.heap.size ≤ w.heap.size + 1 + 1)
            exact row_box (hM.kept hg7).kr (hbB.kept hg7 (by simp)) (by omega)
          · refine row_base (row_kept (hM.kept hg7).mr hgx ?_) (by omega : w.heap.size ≤ w.heap.size + 1 + 1)
            exact row_box (hM.kept hg7).mr (hbB.kept hg7 (by simp)) (by omega)
        · rw [if_neg hf0] at HC
          have d2 : (ft == []) = false := beq_eq_false_iff_ne.2 hf0
          have d3 : ft.isEmpty = false := by simpa using hf0
          go_wp2_with (first | (go_at_call 39; with_reducible refine h34.mono ?_; rintro e w7 ⟨rfl, hg7⟩) | (go_at_call 146; with_reducible refine (giveUp_27 _ _).mono ?_; rintro e w8 ⟨rfl, rfl⟩))
          exact ⟨rfl, .inr ⟨_, HC.out, rfl⟩, hgN _ hg7⟩
set_option maxRecDepth 100000 in
set_option maxHeartbeats 4000000 in
theorem read_2 {w : World} (rv0 : Int) (rw0 rm0 : Bs) (re0 rq0 : Bool) (hR : Rok ⟨rv0, rw0, rm0, re0, rq0⟩) (ws : List Bs) (hws : ∀ x ∈ ws, x ≠ [] ∧ x.length ≤ 1099511627776) (n : Nat) (hn : ws.length = n) (hmm : n ≤ 1000000000) (g o cp : Nat) (hg : g < w.heap.size) (hcp : n ≤ cp) (hc : ∀ i x, ws[i]? = some x → w.cell? ⟨g, o + i, none⟩ = some (sv x)) (hE : Er w) (hq : rq0 = true) (l : Nat) (hl : n = l + 1) (hw : l < rw0.length) :
    Calls Tryz.prog 108 #[rv ⟨rv0, rw0, rm0, re0, rq0⟩, .slice (some ⟨g, o, none⟩) n cp] w fun e w' => RdP ⟨rv0, rw0, rm0, re0, rq0⟩ ws w e w' := by
  subst hq
  have hrd : readS ⟨rv0, rw0, rm0, re0, true⟩ ws = rdV ⟨rv0, rw0, rm0, re0, true⟩ false ws := by
    have : qt ⟨rv0, rw0, rm0, re0, true⟩ ws = false := by
      have : ¬ rw0.length + 1 ≤ ws.length := by omega
      simp [qt, this]
    simp [readS, rdV, this]
  have hvl := hn
  have hvc : ∀ i x, ws[i]? = some x → x ∈ ws ∧ w.cell? ⟨g, o + i, none⟩ = some (sv x) := fun i x hx => ⟨List.mem_of_getElem? hx, hc i x hx⟩
  obtain ⟨hM3, hr3, hrB, hgw3⟩ := rd0 w rv0 rw0 rm0 re0 true false
  have e1 : wrap64 ((n : Int) - 1) = (l : Int) := by unfold wrap64; omega
  have e2 : (n : Int) - 1 = (l : Int) := by omega
  have d0 : decide ((rw0.length : Int) ≤ (l : Int)) = false := decide_eq_false (by omega)
  obtain ⟨vs, hvs⟩ : ∃ vs, ws = vs := ⟨_, rfl⟩
  clear hc hn hl
  have hRok := hR.le
  have hT := fun W => takes_31 ⟨rv0, rw0, rm0, re0, true⟩ n (by omega) hRok.1 hRok.2 W
  obtain ⟨tk, htk⟩ : ∃ tk, takes ⟨rv0, rw0, rm0, re0, true⟩ n = tk := ⟨_, rfl⟩
  simp only [htk] at hT
  cases tk with
  | false =>
    have HR : Hid (readS ⟨rv0, rw0, rm0, re0, true⟩ ws = .inr badLine) := by
      show _ = _
      rw [hrd]; simp [rdV, hvl, htk]
    clear hrd hvl htk hrB hM3 hr3
    go_enter Tryz.func108, Tryz.ntmps108
    go_wp2_with (first | (go_at_call 148; with_reducible refine (hT _).mono ?_; rintro e w4 ⟨rfl, hg4⟩) | (go_at_call 146; with_reducible refine (giveUp_27 _ _).mono ?_; rintro e w5 ⟨rfl, rfl⟩))
    exact ⟨rfl, .inr ⟨_, HR.out, rfl⟩, gb_trans hgw3 hg4⟩
  | true =>
    have HR : Hid (readS ⟨rv0, rw0, rm0, re0, true⟩ ws = fin rv0 (takeL ⟨rv0, rw0, rm0, re0, true⟩ 0 (cmd0 rv0 false) ws)) := by
      show _ = _
      rw [hrd]; simp [rdV, hvl, htk]
    clear hrd
    go_enter Tryz.func108, Tryz.ntmps108
    go_wp2_with (first | (go_at_call 148; with_reducible refine (hT _).mono ?_; rintro e w4 ⟨rfl, hg4⟩; (have h4 := hM3.kept hg4); (have hr4 := hr3.kept hg4 (by simp)); (have hrB4 := hrB.kept hg4 (by simp)); (have hgw4 := gb_trans hgw3 hg4); clear hM3 hr3 hg4 hgw3 hrB hT))
    have hgl : ∀ wr, Below (w.heap.size + 1 + 1) w4 wr → Er wr ∧ Box wr 151 w.heap.size #[.int .i64 rv0, sv rw0, sv rm0, .bool re0, .bool true] ∧ Box wr 41 (w.heap.size + 1) (Z31 0 false) ∧ ∀ i x, ws[i]? = some x → x ∈ ws ∧ wr.cell? ⟨g, o + i, none⟩ = some (sv x) := by
      intro wr hb
      have hkp : ∀ k, k < w.heap.size + 1 + 1 → wr.heap[k]? = w4.heap[k]? := fun k hk => hb.block k hk
      have hE4 := hE.kept hgw4
      refine ⟨?_, (hkp _ (by omega)).trans hr4, (hkp _ (by omega)).trans hrB4, fun i x hx => ⟨(hvc i x hx).1, ?_⟩⟩
      · obtain ⟨⟨a, b, h1⟩, c, d, h2⟩ := hE4
        have hs := hgw4.size
        refine ⟨⟨a, b, ?_⟩, c, d, ?_⟩
        · exact (hb.cell (p := ⟨2, 0, none⟩) (by have := cell_lt hE.1; dsimp only at this ⊢; omega)).trans h1
        · exact (hb.cell (p := ⟨3, 0, none⟩) (by have := cell_lt hE.2; dsimp only at this ⊢; omega)).trans h2
      · exact (hb.cell (p := ⟨g, o + i, none⟩) (by dsimp only; omega)).trans (gb_cellN hgw4 (hvc i x hx).2)
    go_loopw [44] (fun x wr => ∃ k : Nat, k ≤ n ∧ x = .int .i64 k ∧ Below (w.heap.size + 1 + 1) w4 wr ∧ ∃ c kv mv, IsM wr (w.heap.size + 1 + 1) (w.heap.size + 1 + 1) c kv mv ∧ takeL ⟨rv0, rw0, rm0, re0, true⟩ 0 (cmd0 rv0 false) ws = takeL ⟨rv0, rw0, rm0, re0, true⟩ k c (ws.drop k) ∧ c.keys.length ≤ k ∧ c.mt.length ≤ k ∧ (∀ f ∈ c.mt, f.arg.length ≤ 1099511627776) ∧ c.verb = rv0) (fun x _ => n - (intOf x).toNat)
    case atStart => exact ⟨0, by omega, rfl, Below.refl _ _, _, _, _, h4, rfl, Nat.le_refl _, Nat.le_refl _, by simp [cmd0], rfl⟩
    case round =>
      obtain ⟨k, hk, rfl, hbl, c, kv, mv, hM, htl, hk1, hk2, hfl, hcv⟩ := hrel
      obtain ⟨hEr, hbr, hbB, hcs⟩ := hgl wr hbl
      have HTL := Lib.hid htl
      have hlt : k < n ∨ k = n := by omega
      rcases hlt with hlt | hke
      · obtain ⟨x, hx⟩ : ∃ x, ws[k]? = some x := ⟨_, List.getElem?_eq_getElem (by omega)⟩
        obtain ⟨hxm, cx⟩ := hcs k x hx
        obtain ⟨hx0, hxl⟩ := hws x hxm
        have hdr : ws.drop k = x :: ws.drop (k + 1) := by
          rw [List.getElem?_eq_some_iff] at hx
          obtain ⟨h1, rfl⟩ := hx
          exact List.drop_eq_getElem_cons h1
        have d1 : decide ((k : Int) < (n : Int)) = true := decide_eq_true (by omega)
        have hle := hR.lett htk hlt
        have h33 := fun W => letter_33 ⟨rv0, rw0, rm0, re0, true⟩ k (by omega) hRok.1 hRok.2 hle.1 W
        have y0 := hbr.cell 0
        have y1 := hbr.cell 1
        have y2 := hbr.cell 2
        have y3 := hbr.cell 3
        have y4 := hbr.cell 4
        rw [show (#[Value.int .i64 rv0, sv rw0, sv rm0, .bool re0, .bool true] : Array Value)[0]? = some (.int .i64 rv0) from rfl] at y0
        rw [show (#[Value.int .i64 rv0, sv rw0, sv rm0, .bool re0, .bool true] : Array Value)[1]? = some (sv rw0) from rfl] at y1
        rw [show (#[Value.int .i64 rv0, sv rw0, sv rm0, .bool re0, .bool true] : Array Value)[2]? = some (sv rm0) from rfl] at y2
        rw [show (#[Value.int .i64 rv0, sv rw0, sv rm0, .bool re0, .bool true] : Array Value)[3]? = some (.bool re0) from rfl] at y3
        rw [show (#[Value.int .i64 rv0, sv rw0, sv rm0, .bool re0, .bool true] : Array Value)[4]? = some (.bool true) from rfl] at y4
        cases ht : take1 c (lett ⟨rv0, rw0, rm0, re0, true⟩ k) x with
        | inl d =>
          have h32 := fun W (hW : IsM W (w.heap.size + 1 + 1) (w.heap.size + 1 + 1) c kv mv) (hE : Er W) => take_yes hW hE x hxl hx0 (by omega) (by omega) _ hle.2 ht
          have HD : Hid (takeL ⟨rv0, rw0, rm0, re0, true⟩ 0 (cmd0 rv0 false) ws = takeL ⟨rv0, rw0, rm0, re0, true⟩ (k + 1) d (ws.drop (k + 1)) ∧ d.keys.length ≤ k + 1 ∧ d.mt.length ≤ k + 1 ∧ (∀ f ∈ d.mt, f.arg.length ≤ 1099511627776) ∧ d.verb = rv0) := by
            have h1 := take1_len ht
            refine ⟨?_, by omega, by omega, take1_fl ht hxl hfl, by rw [h1.2.2, hcv]⟩
            rw [htl, hdr, takeL, ht]
          clear htl hdr ht hx hcs hgl hk1 hk2 hfl hcv
          go_wp2_with (first | (go_at_call 150; with_reducible refine (h33 _).mono ?_; rintro e w5 ⟨rfl, hg5⟩) | (go_at_call 149; with_reducible refine (h32 _ (hM.kept hg5) (hEr.kept hg5)).mono ?_; rintro e w6 ⟨rfl, ⟨kv', mv', hM6⟩, hb6⟩))
          refine ⟨⟨k + 1, by omega, by simp, (hbl.trans (below_grown hg5 (Nat.le_of_lt hM.lt))).trans hb6, d, kv', mv', hM6, HD.out⟩, by simp [intOf]; omega⟩
        | inr t =>
          have h32 := fun W (hW : IsM W (w.heap.size + 1 + 1) (w.heap.size + 1 + 1) c kv mv) (hE : Er W) => take_no hW hE x hxl _ hle.2 t ht
          have HD : Hid (readS ⟨rv0, rw0, rm0, re0, true⟩ ws = .inr t) := by
            show _ = _
            rw [HR.out, htl, hdr, takeL, ht]; rfl
          clear htl hdr ht hx hcs hgl hk1 hk2 hfl hcv HR HTL
          go_wp2_with (first | (go_at_call 150; with_reducible refine (h33 _).mono ?_; rintro e w5 ⟨rfl, hg5⟩) | (go_at_call 149; with_reducible refine (h32 _ (hM.kept hg5) (hEr.kept hg5)).mono ?_; rintro e w6 ⟨rfl, hb6⟩))
          refine ⟨rfl, .inr ⟨_, HD.out, rfl⟩, gb_below ?_⟩
          exact (below_grown hgw4 (Nat.le_refl _)).trans (below_low ((hbl.trans (below_grown hg5 (Nat.le_of_lt hM.lt))).trans hb6) (by omega))
      · subst hke
        have HC : Hid (readS ⟨rv0, rw0, rm0, re0, true⟩ ws = fin rv0 (.inl c)) := by
          show _ = _
          rw [HR.out, htl, List.drop_eq_nil_of_le (by omega)]; rfl
        have d1 : decide ((k : Int) < (k : Int)) = false := decide_eq_false (by omega)
        have hF : Fs wr mv c.mt := by
          obtain ⟨ao, cp', rfl, ha, -, -, -⟩ := row_shape hM.mr
          rcases hmr : hM.mr.2 with ⟨h1, h2⟩ | ⟨g', c', cur, h1, h2⟩
          · injection h1 with h1 h1' h1''
            exact .inl ⟨List.length_eq_zero_iff.1 h1', _, _, by rw [h1']⟩
          · injection h1 with h1 h1' h1''
            subst h1
            refine .inr ⟨g', cp', rfl, fun i f hf => ?_⟩
            exact fcs_cells hM.mr i f hf
        have y0 : wr.cell? ⟨w.heap.size, 0, none⟩ = some (.int .i64 rv0) := hbr.cell 0
        have y9 : wr.cell? ⟨w.heap.size + 1 + 1, 9, none⟩ = some mv := hM.box.cell 9
        clear htl hcs hgl HR HTL
        obtain ⟨ft, hft⟩ : ∃ ft, flS rv0 [] c.mt = ft := ⟨_, rfl⟩
        simp only [fin, hft] at HC
        have h34 := flags_34 rv0 mv c.mt hfl (by omega) wr hEr hF
        rw [hft] at h34
        clear hft hF
        have hgN : ∀ w7, wr.grownBy w7 none → w.grownBy w7 none := fun w7 hg7 => gb_below ((below_grown hgw4 (Nat.le_refl _)).trans (below_low (hbl.trans (below_grown hg7 (Nat.le_of_lt hM.lt))) (by omega)))
        by_cases hf0 : ft = []
        · subst hf0
          rw [if_pos rfl] at HC
          obtain ⟨ka, kc, rfl, -, -, -, -⟩ := row_shape hM.kr
          obtain ⟨ma, mc, rfl, -, -, -, -⟩ := row_shape hM.mr
          go_wp2_with (go_at_call 39; go_must ((with_reducible refine h34.mono ?_); rintro e w7 ⟨rfl, hg7⟩; (have m0 : w7.cell? ⟨w.heap.size + 1 + 1, 0, none⟩ = some (.int .i64 c.verb) := (hM.kept hg7).box.cell 0); (have m1 : w7.cell? ⟨w.heap.size + 1 + 1, 1, none⟩ = some (.slice ka c.keys.length kc) := (hM.kept hg7).box.cell 1); (have m2 : w7.cell? ⟨w.heap.size + 1 + 1, 2, none⟩ = some (.int .u64 c.flags) := (hM.kept hg7).box.cell 2); (have m3 : w7.cell? ⟨w.heap.size + 1 + 1, 3, none⟩ = some (.int .i64 c.exp) := (hM.kept hg7).box.cell 3); (have m4 : w7.cell? ⟨w.heap.size + 1 + 1, 4, none⟩ = some (.int .u64 c.tok) := (hM.kept hg7).box.cell 4); (have m5 : w7.cell? ⟨w.heap.size + 1 + 1, 5, none⟩ = some (.int .u64 c.del) := (hM.kept hg7).box.cell 5); (have m6 : w7.cell? ⟨w.heap.size + 1 + 1, 6, none⟩ = some (.slice none 0 0) := (hM.kept hg7).box.cell 6); (have m7 : w7.cell? ⟨w.heap.size + 1 + 1, 7, none⟩ = some (.bool c.nr) := (hM.kept hg7).box.cell 7); (have m8 : w7.cell? ⟨w.heap.size + 1 + 1, 8, none⟩ = some (.bool false) := (hM.kept hg7).box.cell 8); (have m9 : w7.cell? ⟨w.heap.size + 1 + 1, 9, none⟩ = some (.slice ma c.mt.length mc) := (hM.kept hg7).box.cell 9); (have m10 : w7.cell? ⟨w.heap.size + 1 + 1, 10, none⟩ = some (sv c.what) := (hM.kept hg7).box.cell 10); (have r0 : w7.cell? ⟨w.heap.size + 1, 0, none⟩ = some (.int .i64 0) := (hbB.kept hg7 (by simp)).cell 0); (have r1 : w7.cell? ⟨w.heap.size + 1, 1, none⟩ = some (.slice none 0 0) := (hbB.kept hg7 (by simp)).cell 1); (have r2 : w7.cell? ⟨w.heap.size + 1, 2, none⟩ = some (.int .u64 0) := (hbB.kept hg7 (by simp)).cell 2); (have r3 : w7.cell? ⟨w.heap.size + 1, 3, none⟩ = some (.int .i64 0) := (hbB.kept hg7 (by simp)).cell 3); (have r4 : w7.cell? ⟨w.heap.size + 1, 4, none⟩ = some (.int .u64 0) := (hbB.kept hg7 (by simp)).cell 4); (have r5 : w7.cell? ⟨w.heap.size + 1, 5, none⟩ = some (.int .u64 0) := (hbB.kept hg7 (by simp)).cell 5); (have r6 : w7.cell? ⟨w.heap.size + 1, 6, none⟩ = some (.slice none 0 0) := (hbB.kept hg7 (by simp)).cell 6); (have r7 : w7.cell? ⟨w.heap.size + 1, 7, none⟩ = some (.bool false) := (hbB.kept hg7 (by simp)).cell 7); (have r8 : w7.cell? ⟨w.heap.size + 1, 8, none⟩ = some (.bool false) := (hbB.kept hg7 (by simp)).cell 8); (have r9 : w7.cell? ⟨w.heap.size + 1, 9, none⟩ = some (.slice none 0 0) := (hbB.kept hg7 (by simp)).cell 9); (have r10 : w7.cell? ⟨w.heap.size + 1, 10, none⟩ = some (.string ⟨#[]⟩) := (hbB.kept hg7 (by simp)).cell 10); (have z0 := (hbB.kept hg7 (by simp)).fz 0); (have z1 := (hbB.kept hg7 (by simp)).fz 1); (have z2 := (hbB.kept hg7 (by simp)).fz 2); (have z3 := (hbB.kept hg7 (by simp)).fz 3); (have z4 := (hbB.kept hg7 (by simp)).fz 4); (have z5 := (hbB.kept hg7 (by simp)).fz 5); (have z6 := (hbB.kept hg7 (by simp)).fz 6); (have z7 := (hbB.kept hg7 (by simp)).fz 7); (have z8 := (hbB.kept hg7 (by simp)).fz 8); (have z9 := (hbB.kept hg7 (by simp)).fz 9); (have z10 := (hbB.kept hg7 (by simp)).fz 10)))
          obtain ⟨hbx, hgx⟩ := box11 (v0 := .int .i64 rv0) (v1 := .slice ka c.keys.length kc) (v2 := .int .u64 c.flags) (v3 := .int .i64 c.exp) (v4 := .int .u64 c.tok) (v5 := .int .u64 c.del) (v6 := .slice none 0 0) (v7 := .bool c.nr) (v8 := .bool false) (v9 := .slice ma c.mt.length mc) (v10 := .string ⟨c.what.toArray⟩) (hbB.kept hg7 (by simp))
          refine ⟨rfl, _, load31 hbx _ rfl, .inl ⟨c, .slice ka c.keys.length kc, .slice ma c.mt.length mc, HC.out, by rw [← hcv], ?_, ?_⟩, gb_mine (hgN _ hg7) hgx (by omega)⟩
          · refine row_base (row_kept (hM.kept hg7).kr hgx ?_) (by omega : w.heap.size ≤ w.heap.size + 1 + 1)
            exact row_box (hM.kept hg7).kr (hbB.kept hg7 (by simp)) (by omega)
          · refine row_base (row_kept (hM.kept hg7).mr hgx ?_) (by omega : w.heap.size ≤ w.heap.size + 1 + 1)
            exact row_box (hM.kept hg7).mr (hbB.kept hg7 (by simp)) (by omega)
        · rw [if_neg hf0] at HC
          have d2 : (ft == []) = false := beq_eq_false_iff_ne.2 hf0
          have d3 : ft.isEmpty = false := by simpa using hf0
          go_wp2_with (first | (go_at_call 39; with_reducible refine h34.mono ?_; rintro e w7 ⟨rfl, hg7⟩) | (go_at_call 146; with_reducible refine (giveUp_27 _ _).mono ?_; rintro e w8 ⟨rfl, rfl⟩))
          exact ⟨rfl, .inr ⟨_, HC.out, rfl⟩, hgN _ hg7⟩
set_option maxRecDepth 100000 in
set_option maxHeartbeats 4000000 in
theorem read_3 {w : World} (rv0 : Int) (rw0 rm0 : Bs) (re0 rq0 : Bool) (hR : Rok ⟨rv0, rw0, rm0, re0, rq0⟩) (ws : List Bs) (hws : ∀ x ∈ ws, x ≠ [] ∧ x.length ≤ 1099511627776) (n : Nat) (hn : ws.length = n) (hmm : n ≤ 1000000000) (g o cp : Nat) (hg : g < w.heap.size) (hcp : n ≤ cp) (hc : ∀ i x, ws[i]? = some x → w.cell? ⟨g, o + i, none⟩ = some (sv x)) (hE : Er w) (hq : rq0 = true) (l : Nat) (hl : n = l + 1) (hw : rw0.length ≤ l) (hne : ws.getLast? ≠ some noreply) :
    Calls Tryz.prog 108 #[rv ⟨rv0, rw0, rm0, re0, rq0⟩, .slice (some ⟨g, o, none⟩) n cp] w fun e w' => RdP ⟨rv0, rw0, rm0, re0, rq0⟩ ws w e w' := by
  subst hq
  have hrd : readS ⟨rv0, rw0, rm0, re0, true⟩ ws = rdV ⟨rv0, rw0, rm0, re0, true⟩ false ws := by
    have : qt ⟨rv0, rw0, rm0, re0, true⟩ ws = false := by
      have : decide (ws.getLast? = some noreply) = false := decide_eq_false hne
      simp only [qt, this, Bool.and_false]
    simp [readS, rdV, this]
  obtain ⟨y, hy⟩ : ∃ y, ws[l]? = some y := ⟨_, List.getElem?_eq_getElem (by omega)⟩
  have hyn : y ≠ noreply := by
    rintro rfl
    apply hne
    rw [List.getLast?_eq_getElem?, hn, hl]
    exact hy
  have hyb : (y == noreply) = false := beq_eq_false_iff_ne.2 hyn
  have hcl3 := gb_cellN (gb_alloc (gb_alloc (gb_alloc (gb_refl w none) (.cells #[.int .i64 rv0, sv rw0, sv rm0, .bool re0, .bool true] 151)) (.cells (Z31 0 false) 41)) (.cells (Z31 rv0 false) 41)) (hc l y hy)
  have hvl := hn
  have hvc : ∀ i x, ws[i]? = some x → x ∈ ws ∧ w.cell? ⟨g, o + i, none⟩ = some (sv x) := fun i x hx => ⟨List.mem_of_getElem? hx, hc i x hx⟩
  obtain ⟨hM3, hr3, hrB, hgw3⟩ := rd0 w rv0 rw0 rm0 re0 true false
  have e1 : wrap64 ((n : Int) - 1) = (l : Int) := by unfold wrap64; omega
  have e2 : (n : Int) - 1 = (l : Int) := by omega
  have d0 : ((rw0.length : Int) ≤ (l : Int)) := by omega
  have d00 : ((l : Int) < (n : Int)) := by omega
  obtain ⟨vs, hvs⟩ : ∃ vs, ws = vs := ⟨_, rfl⟩
  clear hc hn hl hy hyn hne
  have hRok := hR.le
  have hT := fun W => takes_31 ⟨rv0, rw0, rm0, re0, true⟩ n (by omega) hRok.1 hRok.2 W
  obtain ⟨tk, htk⟩ : ∃ tk, takes ⟨rv0, rw0, rm0, re0, true⟩ n = tk := ⟨_, rfl⟩
  simp only [htk] at hT
  cases tk with
  | false =>
    have HR : Hid (readS ⟨rv0, rw0, rm0, re0, true⟩ ws = .inr badLine) := by
      show _ = _
      rw [hrd]; simp [rdV, hvl, htk]
    clear hrd hvl htk hrB hM3 hr3
    go_enter Tryz.func108, Tryz.ntmps108
    go_wp2_with (first | (go_at_call 148; with_reducible refine (hT _).mono ?_; rintro e w4 ⟨rfl, hg4⟩) | (go_at_call 146; with_reducible refine (giveUp_27 _ _).mono ?_; rintro e w5 ⟨rfl, rfl⟩))
    exact ⟨rfl, .inr ⟨_, HR.out, rfl⟩, gb_trans hgw3 hg4⟩
  | true =>
    have HR : Hid (readS ⟨rv0, rw0, rm0, re0, true⟩ ws = fin rv0 (takeL ⟨rv0, rw0, rm0, re0, true⟩ 0 (cmd0 rv0 false) ws)) := by
      show _ = _
      rw [hrd]; simp [rdV, hvl, htk]
    clear hrd
    go_enter Tryz.func108, Tryz.ntmps108
    go_wp2_with (first | (go_at_call 148; with_reducible refine (hT _).mono ?_; rintro e w4 ⟨rfl, hg4⟩; (have h4 := hM3.kept hg4); (have hr4 := hr3.kept hg4 (by simp)); (have hrB4 := hrB.kept hg4 (by simp)); (have hgw4 := gb_trans hgw3 hg4); clear hM3 hr3 hg4 hgw3 hrB hT))
    have hgl : ∀ wr, Below (w.heap.size + 1 + 1) w4 wr → Er wr ∧ Box wr 151 w.heap.size #[.int .i64 rv0, sv rw0, sv rm0, .bool re0, .bool true] ∧ Box wr 41 (w.heap.size + 1) (Z31 0 false) ∧ ∀ i x, ws[i]? = some x → x ∈ ws ∧ wr.cell? ⟨g, o + i, none⟩ = some (sv x) := by
      intro wr hb
      have hkp : ∀ k, k < w.heap.size + 1 + 1 → wr.heap[k]? = w4.heap[k]? := fun k hk => hb.block k hk
      have hE4 := hE.kept hgw4
      refine ⟨?_, (hkp _ (by omega)).trans hr4, (hkp _ (by omega)).trans hrB4, fun i x hx => ⟨(hvc i x hx).1, ?_⟩⟩
      · obtain ⟨⟨a, b, h1⟩, c, d, h2⟩ := hE4
        have hs := hgw4.size
        refine ⟨⟨a, b, ?_⟩, c, d, ?_⟩
        · exact (hb.cell (p := ⟨2, 0, none⟩) (by have := cell_lt hE.1; dsimp only at this ⊢; omega)).trans h1
        · exact (hb.cell (p := ⟨3, 0, none⟩) (by have := cell_lt hE.2; dsimp only at this ⊢; omega)).trans h2
      · exact (hb.cell (p := ⟨g, o + i, none⟩) (by dsimp only; omega)).trans (gb_cellN hgw4 (hvc i x hx).2)
    go_loopw [44] (fun x wr => ∃ k : Nat, k ≤ n ∧ x = .int .i64 k ∧ Below (w.heap.size + 1 + 1) w4 wr ∧ ∃ c kv mv, IsM wr (w.heap.size + 1 + 1) (w.heap.size + 1 + 1) c kv mv ∧ takeL ⟨rv0, rw0, rm0, re0, true⟩ 0 (cmd0 rv0 false) ws = takeL ⟨rv0, rw0, rm0, re0, true⟩ k c (ws.drop k) ∧ c.keys.length ≤ k ∧ c.mt.length ≤ k ∧ (∀ f ∈ c.mt, f.arg.length ≤ 1099511627776) ∧ c.verb = rv0) (fun x _ => n - (intOf x).toNat)
    case atStart => exact ⟨0, by omega, rfl, Below.refl _ _, _, _, _, h4, rfl, Nat.le_refl _, Nat.le_refl _, by simp [cmd0], rfl⟩
    case round =>
      obtain ⟨k, hk, rfl, hbl, c, kv, mv, hM, htl, hk1, hk2, hfl, hcv⟩ := hrel
      obtain ⟨hEr, hbr, hbB, hcs⟩ := hgl wr hbl
      have HTL := Lib.hid htl
      have hlt : k < n ∨ k = n := by omega
      rcases hlt with hlt | hke
      · obtain ⟨x, hx⟩ : ∃ x, ws[k]? = some x := ⟨_, List.getElem?_eq_getElem (by omega)⟩
        obtain ⟨hxm, cx⟩ := hcs k x hx
        obtain ⟨hx0, hxl⟩ := hws x hxm
        have hdr : ws.drop k = x :: ws.drop (k + 1) := by
          rw [List.getElem?_eq_some_iff] at hx
          obtain ⟨h1, rfl⟩ := hx
          exact List.drop_eq_getElem_cons h1
        have d1 : decide ((k : Int) < (n : Int)) = true := decide_eq_true (by omega)
        have hle := hR.lett htk hlt
        have h33 := fun W => letter_33 ⟨rv0, rw0, rm0, re0, true⟩ k (by omega) hRok.1 hRok.2 hle.1 W
        have y0 := hbr.cell 0
        have y1 := hbr.cell 1
        have y2 := hbr.cell 2
        have y3 := hbr.cell 3
        have y4 := hbr.cell 4
        rw [show (#[Value.int .i64 rv0, sv rw0, sv rm0, .bool re0, .bool true] : Array Value)[0]? = some (.int .i64 rv0) from rfl] at y0
        rw [show (#[Value.int .i64 rv0, sv rw0, sv rm0, .bool re0, .bool true] : Array Value)[1]? = some (sv rw0) from rfl] at y1
        rw [show (#[Value.int .i64 rv0, sv rw0, sv rm0, .bool re0, .bool true] : Array Value)[2]? = some (sv rm0) from rfl] at y2
        rw [show (#[Value.int .i64 rv0, sv rw0, sv rm0, .bool re0, .bool true] : Array Value)[3]? = some (.bool re0) from rfl] at y3
        rw [show (#[Value.int .i64 rv0, sv rw0, sv rm0, .bool re0, .bool true] : Array Value)[4]? = some (.bool true) from rfl] at y4
        cases ht : take1 c (lett ⟨rv0, rw0, rm0, re0, true⟩ k) x with
        | inl d =>
          have h32 := fun W (hW : IsM W (w.heap.size + 1 + 1) (w.heap.size + 1 + 1) c kv mv) (hE : Er W) => take_yes hW hE x hxl hx0 (by omega) (by omega) _ hle.2 ht
          have HD : Hid (takeL ⟨rv0, rw0, rm0, re0, true⟩ 0 (cmd0 rv0 false) ws = takeL ⟨rv0, rw0, rm0, re0, true⟩ (k + 1) d (ws.drop (k + 1)) ∧ d.keys.length ≤ k + 1 ∧ d.mt.length ≤ k + 1 ∧ (∀ f ∈ d.mt, f.arg.length ≤ 1099511627776) ∧ d.verb = rv0) := by
            have h1 := take1_len ht
            refine ⟨?_, by omega, by omega, take1_fl ht hxl hfl, by rw [h1.2.2, hcv]⟩
            rw [htl, hdr, takeL, ht]
          clear htl hdr ht hx hcs hgl hk1 hk2 hfl hcv
          go_wp2_with (first | (go_at_call 150; with_reducible refine (h33 _).mono ?_; rintro e w5 ⟨rfl, hg5⟩) | (go_at_call 149; with_reducible refine (h32 _ (hM.kept hg5) (hEr.kept hg5)).mono ?_; rintro e w6 ⟨rfl, ⟨kv', mv', hM6⟩, hb6⟩))
          refine ⟨⟨k + 1, by omega, by simp, (hbl.trans (below_grown hg5 (Nat.le_of_lt hM.lt))).trans hb6, d, kv', mv', hM6, HD.out⟩, by simp [intOf]; omega⟩
        | inr t =>
          have h32 := fun W (hW : IsM W (w.heap.size + 1 + 1) (w.heap.size + 1 + 1) c kv mv) (hE : Er W) => take_no hW hE x hxl _ hle.2 t ht
          have HD : Hid (readS ⟨rv0, rw0, rm0, re0, true⟩ ws = .inr t) := by
            show _ = _
            rw [HR.out, htl, hdr, takeL, ht]; rfl
          clear htl hdr ht hx hcs hgl hk1 hk2 hfl hcv HR HTL
          go_wp2_with (first | (go_at_call 150; with_reducible refine (h33 _).mono ?_; rintro e w5 ⟨rfl, hg5⟩) | (go_at_call 149; with_reducible refine (h32 _ (hM.kept hg5) (hEr.kept hg5)).mono ?_; rintro e w6 ⟨rfl, hb6⟩))
          refine ⟨rfl, .inr ⟨_, HD.out, rfl⟩, gb_below ?_⟩
          exact (below_grown hgw4 (Nat.le_refl _)).trans (below_low ((hbl.trans (below_grown hg5 (Nat.le_of_lt hM.lt))).trans hb6) (by omega))
      · subst hke
        have HC : Hid (readS ⟨rv0, rw0, rm0, re0, true⟩ ws = fin rv0 (.inl c)) := by
          show _ = _
          rw [HR.out, htl, List.drop_eq_nil_of_le (by omega)]; rfl
        have d1 : decide ((k : Int) < (k : Int)) = false := decide_eq_false (by omega)
        have hF : Fs wr mv c.mt := by
          obtain ⟨ao, cp', rfl, ha, -, -, -⟩ := row_shape hM.mr
          rcases hmr : hM.mr.2 with ⟨h1, h2⟩ | ⟨g', c', cur, h1, h2⟩
          · injection h1 with h1 h1' h1''
            exact .inl ⟨List.length_eq_zero_iff.1 h1', _, _, by rw [h1']⟩
          · injection h1 with h1 h1' h1''
            subst h1
            refine .inr ⟨g', cp', rfl, fun i f hf => ?_⟩
            exact fcs_cells hM.mr i f hf
        have y0 : wr.cell? ⟨w.heap.size, 0, none⟩ = some (.int .i64 rv0) := hbr.cell 0
        have y9 : wr.cell? ⟨w.heap.size + 1 + 1, 9, none⟩ = some mv := hM.box.cell 9
        clear htl hcs hgl HR HTL
        obtain ⟨ft, hft⟩ : ∃ ft, flS rv0 [] c.mt = ft := ⟨_, rfl⟩
        simp only [fin, hft] at HC
        have h34 := flags_34 rv0 mv c.mt hfl (by omega) wr hEr hF
        rw [hft] at h34
        clear hft hF
        have hgN : ∀ w7, wr.grownBy w7 none → w.grownBy w7 none := fun w7 hg7 => gb_below ((below_grown hgw4 (Nat.le_refl _)).trans (below_low (hbl.trans (below_grown hg7 (Nat.le_of_lt hM.lt))) (by omega)))
        by_cases hf0 : ft = []
        · subst hf0
          rw [if_pos rfl] at HC
          obtain ⟨ka, kc, rfl, -, -, -, -⟩ := row_shape hM.kr
          obtain ⟨ma, mc, rfl, -, -, -, -⟩ := row_shape hM.mr
          go_wp2_with (go_at_call 39; go_must ((with_reducible refine h34.mono ?_); rintro e w7 ⟨rfl, hg7⟩; (have m0 : w7.cell? ⟨w.heap.size + 1 + 1, 0, none⟩ = some (.int .i64 c.verb) := (hM.kept hg7).box.cell 0); (have m1 : w7.cell? ⟨w.heap.size + 1 + 1, 1, none⟩ = some (.slice ka c.keys.length kc) := (hM.kept hg7).box.cell 1); (have m2 : w7.cell? ⟨w.heap.size + 1 + 1, 2, none⟩ = some (.int .u64 c.flags) := (hM.kept hg7).box.cell 2); (have m3 : w7.cell? ⟨w.heap.size + 1 + 1, 3, none⟩ = some (.int .i64 c.exp) := (hM.kept hg7).box.cell 3); (have m4 : w7.cell? ⟨w.heap.size + 1 + 1, 4, none⟩ = some (.int .u64 c.tok) := (hM.kept hg7).box.cell 4); (have m5 : w7.cell? ⟨w.heap.size + 1 + 1, 5, none⟩ = some (.int .u64 c.del) := (hM.kept hg7).box.cell 5); (have m6 : w7.cell? ⟨w.heap.size + 1 + 1, 6, none⟩ = some (.slice none 0 0) := (hM.kept hg7).box.cell 6); (have m7 : w7.cell? ⟨w.heap.size + 1 + 1, 7, none⟩ = some (.bool c.nr) := (hM.kept hg7).box.cell 7); (have m8 : w7.cell? ⟨w.heap.size + 1 + 1, 8, none⟩ = some (.bool false) := (hM.kept hg7).box.cell 8); (have m9 : w7.cell? ⟨w.heap.size + 1 + 1, 9, none⟩ = some (.slice ma c.mt.length mc) := (hM.kept hg7).box.cell 9); (have m10 : w7.cell? ⟨w.heap.size + 1 + 1, 10, none⟩ = some (sv c.what) := (hM.kept hg7).box.cell 10); (have r0 : w7.cell? ⟨w.heap.size + 1, 0, none⟩ = some (.int .i64 0) := (hbB.kept hg7 (by simp)).cell 0); (have r1 : w7.cell? ⟨w.heap.size + 1, 1, none⟩ = some (.slice none 0 0) := (hbB.kept hg7 (by simp)).cell 1); (have r2 : w7.cell? ⟨w.heap.size + 1, 2, none⟩ = some (.int .u64 0) := (hbB.kept hg7 (by simp)).cell 2); (have r3 : w7.cell? ⟨w.heap.size + 1, 3, none⟩ = some (.int .i64 0) := (hbB.kept hg7 (by simp)).cell 3); (have r4 : w7.cell? ⟨w.heap.size + 1, 4, none⟩ = some (.int .u64 0) := (hbB.kept hg7 (by simp)).cell 4); (have r5 : w7.cell? ⟨w.heap.size + 1, 5, none⟩ = some (.int .u64 0) := (hbB.kept hg7 (by simp)).cell 5); (have r6 : w7.cell? ⟨w.heap.size + 1, 6, none⟩ = some (.slice none 0 0) := (hbB.kept hg7 (by simp)).cell 6); (have r7 : w7.cell? ⟨w.heap.size + 1, 7, none⟩ = some (.bool false) := (hbB.kept hg7 (by simp)).cell 7); (have r8 : w7.cell? ⟨w.heap.size + 1, 8, none⟩ = some (.bool false) := (hbB.kept hg7 (by simp)).cell 8); (have r9 : w7.cell? ⟨w.heap.size + 1, 9, none⟩ = some (.slice none 0 0) := (hbB.kept hg7 (by simp)).cell 9); (have r10 : w7.cell? ⟨w.heap.size + 1, 10, none⟩ = some (.string ⟨#[]⟩) := (hbB.kept hg7 (by simp)).cell 10); (have z0 := (hbB.kept hg7 (by simp)).fz 0); (have z1 := (hbB.kept hg7 (by simp)).fz 1); (have z2 := (hbB.kept hg7 (by simp)).fz 2); (have z3 := (hbB.kept hg7 (by simp)).fz 3); (have z4 := (hbB.kept hg7 (by simp)).fz 4); (have z5 := (hbB.kept hg7 (by simp)).fz 5); (have z6 := (hbB.kept hg7 (by simp)).fz 6); (have z7 := (hbB.kept hg7 (by simp)).fz 7); (have z8 := (hbB.kept hg7 (by simp)).fz 8); (have z9 := (hbB.kept hg7 (by simp)).fz 9); (have z10 := (hbB.kept hg7 (by simp)).fz 10)))
          obtain ⟨hbx, hgx⟩ := box11 (v0 := .int .i64 rv0) (v1 := .slice ka c.keys.length kc) (v2 := .int .u64 c.flags) (v3 := .int .i64 c.exp) (v4 := .int .u64 c.tok) (v5 := .int .u64 c.del) (v6 := .slice none 0 0) (v7 := .bool c.nr) (v8 := .bool false) (v9 := .slice ma c.mt.length mc) (v10 := .string ⟨c.what.toArray⟩) (hbB.kept hg7 (by simp))
          refine ⟨rfl, _, load31 hbx _ rfl, .inl ⟨c, .slice ka c.keys.length kc, .slice ma c.mt.length mc, HC.out, by rw [← hcv], ?_, ?_⟩, gb_mine (hgN _ hg7) hgx (by omega)⟩
          · refine row_base (row_kept (hM.kept hg7).kr hgx ?_) (by omega : w.heap.size ≤ w.heap.size + 1 + 1)
            exact row_box (hM.kept hg7).kr (hbB.kept hg7 (by simp)) (by omega)
          · refine row_base (row_kept (hM.kept hg7).mr hgx ?_) (by omega : w.heap.size ≤ w.heap.size + 1 + 1)
            exact row_box (hM.kept hg7).mr (hbB.kept hg7 (by simp)) (by omega)
        · rw [if_neg hf0] at HC
          have d2 : (ft == []) = false := beq_eq_false_iff_ne.2 hf0
          have d3 : ft.isEmpty = false := by simpa using hf0
          go_wp2_with (first | (go_at_call 39; with_reducible refine h34.mono ?_; rintro e w7 ⟨rfl, hg7⟩) | (go_at_call 146; with_reducible refine (giveUp_27 _ _).mono ?_; rintro e w8 ⟨rfl, rfl⟩))
          exact ⟨rfl, .inr ⟨_, HC.out, rfl⟩, hgN _ hg7⟩
end Go.Proofs.YtbbocbdoiealoaaGreatDoor
