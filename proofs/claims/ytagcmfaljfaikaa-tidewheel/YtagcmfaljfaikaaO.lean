/-
  Due.
-/
import Derived.Test.YtagcmfaljfaikaaN
namespace Go.Proofs.Ytagcmfaljfaikaa
open Go.RowKit
set_option linter.unusedVariables false

theorem Nh.congr {w : World} {nb k : Nat} {F : Nat → Prop} {N N' : En → Prop} (h : Nh w nb F N k) (hN : ∀ y, N y ↔ N' y) : Nh w nb F N' k := by
  have : N = N' := funext fun y => propext (hN y)
  rw [← this]; exact h
theorem Nh.fl {w : World} {nb k : Nat} {F : Nat → Prop} {N : En → Prop} (h : Nh w nb F N k) : ∀ k, F k → k < w.heap.size := let ⟨rv, mb, r, m, h1, h2⟩ := h; h1.fl
theorem Nh.kept {w w' : World} {nb k : Nat} {F G : Nat → Prop} {N : En → Prop} (h : Nh w nb F N k) (hf : Kp G w w') (hd : ∀ k, F k → ¬ G k) : Nh w' nb F N k :=
  let ⟨rv, mb, r, m, h1, h2⟩ := h
  ⟨rv, mb, r, m, h1.kept hf hd, h2⟩
theorem Nh.kept0 {w w' : World} {nb k : Nat} {F : Nat → Prop} {N : En → Prop} (h : Nh w nb F N k) (hf : w.grownBy w' none) : Nh w' nb F N k :=
  let ⟨rv, mb, r, m, h1, h2⟩ := h
  ⟨rv, mb, r, m, h1.kept0 hf, h2⟩

section
variable {w : World} {wb nb : Nat} {tl : List Value} {F FN : Nat → Prop} {N : En → Prop} {rv : Value} {mb n k : Nat} {r : Nat → En} {m : Int → Option Nat} {now : Int}
theorem lend_any (h : IsHp w 112 wb tl F rv mb n r n m) (hn : n < 1000000) (hN : Nh w nb FN N k) (hk : k < 900000) (hH : ∀ y, N y → isH y.h) (hr : ∀ i, i < n → isH (r i).h) (i : Nat) (hne : i < n → ∀ y, N y → y.h ≠ (r i).h) :
    Calls Try.prog 60 #[.pointer (some ⟨wb, 0, none⟩), .pointer (some ⟨nb, 0, none⟩), .int .i64 i, .int .i64 now] w fun y w' => y = .returned (.tuple #[]) ∧ Kp FN w w' ∧ ∃ F' k', (∀ k, F' k → FN k ∨ w.heap.size ≤ k) ∧ k' ≤ k + 1 ∧ Nh w' nb F' (lent N n r now i) k' := by
  by_cases hi : i < n
  · by_cases hx : (r i).x ≤ now
    · refine (lend_due h hn hi hx hN hk hH (hr i hi) (hne hi)).mono ?_
      rintro y w' ⟨rfl, h1, F', h2, h3⟩
      exact ⟨rfl, h1, F', k + 1, h2, Nat.le_refl _, h3.congr (fun y => ⟨fun h => h.imp id (fun e => ⟨hi, hx, e⟩), fun h => h.imp id (fun e => e.2.2)⟩)⟩
    · refine (lend_late h hn hi hx).mono ?_
      rintro y w' ⟨rfl, rfl⟩
      exact ⟨rfl, Kp.refl _ _, FN, k, fun _ h => .inl h, by omega, hN.congr (fun y => ⟨fun h => .inl h, fun h => h.elim id (fun e => absurd e.2.1 hx)⟩)⟩
  · refine (lend_far h hn hi).mono ?_
    rintro y w' ⟨rfl, rfl⟩
    exact ⟨rfl, Kp.refl _ _, FN, k, fun _ h => .inl h, by omega, hN.congr (fun y => ⟨fun h => .inl h, fun h => h.elim id (fun e => absurd e.1 hi)⟩)⟩
end

def hds (ps : List Nat) (r : Nat → En) : List Value := ps.map fun i => Value.int .u64 (r i).h

/-- Where Due stands. -/
structure DSt (w wr : World) (wb nb : Nat) (F FN : Nat → Prop) (sets : Nat) (rv : Value) (mb n : Nat) (r : Nat → En) (m : Int → Option Nat) (now : Int) (ps : List Nat) (N : En → Prop) (k : Nat) (dv : Value) : Prop where
  hp : IsHp wr 112 wb [.int .i64 sets] F rv mb n r n m
  g : w.grownBy wr none
  nh : Nh wr nb FN N k
  fn : ∀ j, FN j → w.heap.size ≤ j
  row : wr.ownsRow w.heap.size 89 1 dv ps.length (hds ps r)
  dr : ∀ j, dv.ownBlock = some j → ¬ FN j
  du : Du n r now ps N
  kb : k ≤ 2 * ps.length + 1

theorem Try.info89 : (Try.prog.info? 89).map (fun i => (i.zero, i.size, i.bytes)) = some (some (.int .u64 0), 1, 8) := by kernel_rfl
section
variable {w : World} {ops : Array Oper} {rest : List Oper} {o : Oper} {a : Act} {Q : Exit → Act → World → Prop}
theorem push89 (hgd : o.guard = none) (s x : Operand) (ho : o.op = .call { callee := .builtin .append, args := #[s, x], argTypes := #[90, 90] })
    (B : Nat) (v : Value) (n : Nat) (xs : List Value) (hs : a.eval s = v) (hown : w.ownsRow B 89 1 v n xs) (u : Int) (hx : a.eval x = .slice (some ⟨w.heap.size, 0, none⟩) 1 1) (hn : n ≤ 100000000000) (hB : B ≤ w.heap.size)
    (h : ∀ g cap w', w'.ownsRow B 89 1 (.slice (some ⟨g, 0, none⟩) (n + 1) cap) (n + 1) (xs ++ [.int .u64 u]) → w.grownBy w' v.ownBlock → (v.ownBlock = some g ∨ w.heap.size ≤ g) → wpList Try.prog ops Q rest (a.put o.dst (.slice (some ⟨g, 0, none⟩) (n + 1) cap)) w') : wpList Try.prog ops Q (o :: rest) a (w.alloc (.cells #[.int .u64 u] 89)) := by
  obtain ⟨i0, hi, hz0, hz1, hz2⟩ := info_parts Try.info89
  exact wpList_pushN hgd s x 90 ho 89 i0 _ 1 8 Try.underlying90 hi hz0 hz1 hz2 rfl (by omega) (by omega) B v n xs hs hown [.int .u64 u] rfl (by simp [Value.oneCell']) hx hn hB h
end

def lenOf : Value → Nat
  | .slice _ n _ => n
  | _ => 0
theorem lenOf_slice (a : Option Addr) (n c : Nat) : lenOf (.slice a n c) = n := rfl
theorem gb_of_kp {w a b : World} {G : Nat → Prop} (h : w.grownBy a none) (k : Kp G a b) (hG : ∀ j, G j → w.heap.size ≤ j) : w.grownBy b none :=
  (((Kp.of (F := fun _ => False) h).trans k (fun _ h => h) (fun j hj => .inr (hG j hj)))).grown (fun _ h => h.elim)

/-- What Due leaves: its row dv tells ds. -/
def DuePost (w : World) (S : En → Prop) (now most : Int) (y : Ending) (w' : World) : Prop :=
  ∃ dv ds, y = .returned dv ∧ w.grownBy w' none ∧ Told S now most ds ∧ w'.ownsRow w.heap.size 89 1 dv ds.length (ds.map fun d => Value.int .u64 d.h)

section
variable {w : World} {wb : Nat} {F : Nat → Prop} {S : En → Prop} {sets n : Nat}
set_option maxRecDepth 100000 in
set_option maxHeartbeats 8000000 in
theorem due_31 (h : Wh w wb F S sets n) (hn : n < 100000) (hH : ∀ y, S y → isH y.h) (hT : ∀ x y, S x → S y → x.t = y.t → x = y) (now most : Int) (hm : isI most) (hnow : isI now) :
    Calls Try.prog 31 #[.pointer (some ⟨wb, 0, none⟩), .int .i64 now, .int .i64 most] w fun y w' => DuePost w S now most y w' := by
  obtain ⟨rv, mb, r, m, i1, i2, i3⟩ := h
  have hlt := i1.fl
  have hr : ∀ i, i < n → isH (r i).h := fun i hi => hH _ (i2.img.inn i hi)
  have hone := i2.img.one
  have hTT : ∀ i j, i < n → j < n → (r i).t = (r j).t → i = j := fun i j hi hj e => hone i j hi hj (by rw [hT _ _ (i2.img.inn i hi) (i2.img.inn j hj) e])
  have h41 := empty_41 w
  unfold isI at hm hnow
  have fin : ∀ wr FN nb ps N k dv, DSt w wr wb nb F FN sets rv mb n r m now ps N k dv → ((∀ d, ¬ N d) ∨ most ≤ (ps.length : Int)) → ((ps.length : Int) ≤ max most 0) → DuePost w S now most (.returned dv) wr := by
    intro wr FN nb ps N k dv hs he hl
    refine ⟨dv, ps.map r, rfl, hs.g, hs.du.told i3 i2.img he hl, ?_⟩
    have := hs.row
    rw [List.length_map, List.map_map]
    exact this
  go_enter Try.func31, Try.ntmps31
  go_wp2_with (first | (go_at_call 41; refine h41.mono ?_; rintro y w1 ⟨mb1, rfl, hg1, hM1, hmb1⟩) | fail)
  have hal := World.grownBy_alloc w1 (.cells #[.slice none 0 0, .map (some mb1)] 109) none
  have hgw := gb_trans hg1 hal
  have hB : Box (w1.alloc (.cells #[.slice none 0 0, .map (some mb1)] 109)) 109 w1.heap.size _ := Box.new _ _ _
  obtain ⟨e1, e2, e3⟩ := hp_empty _ 109 (by decide) [] w1.heap.size mb1 hB (hM1.kept hal (by simp)) (fun _ => ⟨0, 0, 0⟩)
  have hN0 : Nh (w1.alloc (.cells #[.slice none 0 0, .map (some mb1)] 109)) w1.heap.size (fun k => k = w1.heap.size ∨ k = mb1) (fun _ => False) 0 := ⟨_, _, _, _, e1, e2, e3⟩
  have hl0 := lend_any (now := now) (i1.kept0 hgw) (by omega) hN0 (by omega) (fun _ h => h.elim) hr 0 (fun _ _ h => h.elim)
  rw [show ((0 : Nat) : Int) = 0 from rfl] at hl0
  have hF0 : ∀ j, (j = w1.heap.size ∨ j = mb1) → w.heap.size ≤ j := by
    rintro j (rfl | rfl)
    · exact hg1.size
    · exact hmb1
  refine hl0.mono ?_
  rintro y w2 ⟨rfl, hk2, F2, k2, hF2, hkb2, hN2⟩
  have hg2 := gb_of_kp hgw hk2 hF0
  have hst : DSt w w2 wb w1.heap.size F F2 sets rv mb n r m now [] (lent (fun _ => False) n r now 0) k2 (.slice none 0 0) := by
    refine ⟨i1.kept0 hg2, hg2, hN2, fun j hj => ?_, ⟨rfl, .inl ⟨rfl, rfl⟩⟩, fun j hj => by simp [Value.ownBlock] at hj, du_start i3, by simpa using hkb2⟩
    rcases hF2 j hj with h | h
    · exact hF0 j h
    · exact Nat.le_trans hgw.size h
  obtain ⟨nb, hnb⟩ : ∃ nb, nb = w1.heap.size := ⟨_, rfl⟩
  rw [← hnb] at hst ⊢
  clear hl0 hN0 e1 e2 e3 hB hal hgw hg2 hk2 hF2 hkb2 hN2 hF0 hM1 hmb1 hg1 hnb h41
  go_wp2
  go_loopw [7] (fun v wr => ∃ ps N k FN, DSt w wr wb nb F FN sets rv mb n r m now ps N k v ∧ (ps.length : Int) ≤ max most 0) (fun v _ => n - lenOf v)
  case atStart => exact ⟨_, _, _, _, hst, by simp; omega⟩
  case round =>
    clear hst
    obtain ⟨ps, N, k, FN, hs, hlen⟩ := hrel
    obtain ⟨ao, cp, hdv, _, _, _, _⟩ := row_shape hs.row
    subst hdv
    have hpl := hs.du.len
    have hkb := hs.kb
    have hnh := hs.nh
    obtain ⟨rv2, mb2, r2, m2, j1, j2, j3⟩ := hnh
    by_cases hk0 : k = 0
    · subst hk0
      obtain ⟨ao2, cp2, hrv2, _, _, _, _⟩ := row_shape j1.row
      subst hrv2
      have c0 := j1.c0
      have hpost := fin _ _ _ _ _ _ _ hs (.inl (fun d hd => by obtain ⟨i, hi, _⟩ := j2.img.all d hd; omega)) hlen
      clear fin hs j1 j2 j3 i1 i2 i3
      go_wp2
      exact bodyPost_ret (v := .slice ao ps.length cp) (results_tmp Try.results31 _ _ _) rfl hpost
    · obtain ⟨k, rfl⟩ : ∃ k', k = k' + 1 := ⟨k - 1, by omega⟩
      obtain ⟨gb2, cap2, hrv2, hcap2, hmax2⟩ := j1.shape (by omega)
      subst hrv2
      have c0 := j1.c0
      have hd1 : decide ((0 : Int) < ((k + 1 : Nat) : Int)) = true := by simp
      have hd3 : decide ((0 : Int) < (k : Int) + 1) = true := by simp only [decide_eq_true_eq]; omega
      have hd4 : decide (0 < k + 1) = true := by simp
      by_cases hmo : (ps.length : Int) < most
      · have hd2 : decide ((ps.length : Int) < most) = true := by simp; omega
        have hNe := j2.img.inn 0 (by omega)
        obtain ⟨p, hp, hpp, hpu, hpx, hpe⟩ := (hs.du.nn _).1 hNe
        have hmin : ∀ y, N y → ¬ ah y (r p) := fun y hy => by
          obtain ⟨i, hi, rfl⟩ := j2.img.all y hy
          rw [hpe]; exact j3.least i hi
        obtain ⟨d0, d1, d2⟩ := j1.cells rfl (i := 0) (by omega)
        rw [Nat.zero_mul, ← hpe] at d0
        have hdis : ∀ j, F j → ¬ FN j := fun j hj hj2 => by have := hs.fn j hj2; have := hs.g.size; have := hlt j hj; omega
        have hNH : ∀ y, N y → isH y.h := fun y hy => by obtain ⟨i, hi, _, _, _, rfl⟩ := (hs.du.nn _).1 hy; exact hr i hi
        have h58 := remove_yes j1 j2 j3 (by omega) hNH (hr p hp) (g := 0) (by omega) (by rw [hpe])
        have hn1 : (0 : Int) < k + 1 := by omega
        have hNl : ∀ l, l < n → 0 < l → par l = p → ∀ y, (N y ∧ y.h ≠ (r p).h) → y.h ≠ (r l).h := fun l hl h0 hlp y hy he => by
          obtain ⟨i, hi, hip, hiu, _, rfl⟩ := (hs.du.nn _).1 hy.1
          have := hone i l hi hl he
          subst this
          rcases hiu with h | h
          · omega
          · rw [hlp] at h; exact hpp h
        have HD := hs.du.step i3 hone hTT hp hpp hpu hpx hmin
        have hmp := i2.at_ p hp
        have hrowl := hs.row
        have hdr := hs.dr
        have hgr := hs.g
        have hfn := hs.fn
        have hwh := hs.hp
        clear fin d1 d2 hpe hmin hs j2 j3 hNe
        go_wp2_with fail
        refine h58.mono ?_
        rintro y w3 ⟨rfl, hk3, rv3, r3, m3, q1, q2, q3⟩
        have hN3 : Nh w3 nb FN (fun y => N y ∧ y.h ≠ (r p).h) k := ⟨rv3, mb2, r3, m3, q1, q2, q3⟩
        have hrow3 : w3.ownsRow w.heap.size 89 1 (.slice ao ps.length cp) ps.length (hds ps r) := row_same hrowl (fun j hj => by
          obtain ⟨cur, hc⟩ := row_block hrowl j hj
          exact hk3.block j (lt_of_block hc) (hdr j hj))
        have hwh3 := hwh.kept hk3 hdis
        have hg3 := gb_of_kp hgr hk3 hfn
        clear h58 j1 c0 d0 q1 q2 q3 hrowl hwh hgr hk3
        have hsz3 := hg3.size
        go_wp2_with (at_builtin; go_must (refine push89 rfl _ _ rfl w.heap.size _ ps.length _ (by rfl) hrow3 (r p).h (by rfl) (by omega) hsz3 ?_))
        intro g4 cap4 w4 hrow4 hgb4 hat4
        have hG : ∀ j, (Value.slice ao ps.length cp).ownBlock = some j → w.heap.size ≤ j ∧ j < w3.heap.size := fun j hj => by
          rcases hrow3.2 with ⟨h1, _⟩ | ⟨g, c, cur, h1, h2, h3, _⟩
          · rw [h1] at hj; simp [Value.ownBlock] at hj
          · rw [h1] at hj; simp [Value.ownBlock] at hj; subst hj; exact ⟨h2, lt_of_block h3⟩
        have hKG : Kp (fun j => (Value.slice ao ps.length cp).ownBlock = some j) w3 w4 := (Kp.refl _ _).step hgb4 (fun j hj => .inl hj)
        have hwh4 := hwh3.kept hKG (fun j hj hj2 => by have := hG j hj2; have := hlt j hj; omega)
        have hN4 := hN3.kept hKG (fun j hj hj2 => hdr j hj2 hj)
        have hg4 := gb_of_kp hg3 hKG (fun j hj => (hG j hj).1)
        have hdr4 : ¬ FN g4 := fun hj => by
          rcases hat4 with h | h
          · exact hdr _ h hj
          · have := hN3.fl _ hj; omega
        have hdsl : hds ps r ++ [Value.int .u64 (r p).h] = hds (ps ++ [p]) r := by simp [hds]
        rw [hdsl] at hrow4
        have c1 := hwh4.c1
        have hM4 := hwh4.map
        have h61 := fun W => left_61 (p : Int) (by omega) (by omega) W
        have h62 := fun W => right_62 (p : Int) (by omega) (by omega) W
        rw [(kid_int p).1] at h61
        rw [(kid_int p).2] at h62
        have hl1 := lend_any (now := now) hwh4 (by omega) hN4 (by omega) (fun y hy => hNH y hy.1) hr (2 * p + 1) (fun hl => hNl _ hl (by omega) (par_l p))
        have hl2 := fun w5 F5 k5 (hW : IsHp w5 112 wb [.int .i64 sets] F rv mb n r n m) (hN5 : Nh w5 nb F5 (lent (fun y => N y ∧ y.h ≠ (r p).h) n r now (2 * p + 1)) k5) (hk5 : k5 ≤ k + 1) => lend_any (now := now) hW (by omega) hN5 (by omega) (fun y hy => hy.elim (fun h => hNH y h.1) (fun h => by rw [h.2.2]; exact hr _ h.1)) hr (2 * p + 2) (fun hl y hy => hy.elim (fun h => hNl _ hl (by omega) (par_r p) y h) (fun h e => by rw [h.2.2] at e; have := hone _ _ h.1 hl e; omega))
        clear hrow3 hwh3 hN3 hg3 hgb4 hat4 hdsl hdr hNl hG hKG hNH
        generalize 2 * p + 1 = l at *
        generalize 2 * p + 2 = q at *
        go_wp2_with (first | (at_lookup; go_must (refine mp_look hM4 rfl _ _ rfl rfl (hr p hp) rfl ?_); rw [hmp]) | (go_at_call 61; go_must (refine (h61 _).mono ?_); rintro y w' ⟨rfl, rfl⟩) | fail)
        refine hl1.mono ?_
        rintro y w5 ⟨rfl, hk5, F5, k5, hF5, hkb5, hN5⟩
        obtain ⟨cur4, hcur4⟩ := row_block hrow4 g4 rfl
        have hg4lt := lt_of_block hcur4
        have hwh5 := hwh4.kept hk5 hdis
        have hrow5 := row_same (w' := w5) hrow4 (fun j hj => by simp [Value.ownBlock] at hj; subst hj; exact hk5.block _ hg4lt hdr4)
        have hg5 := gb_of_kp hg4 hk5 hfn
        have hfn5 : ∀ j, F5 j → w.heap.size ≤ j := fun j hj => (hF5 j hj).elim (hfn j) (fun h => Nat.le_trans hg4.size h)
        have hdr5 : ¬ F5 g4 := fun hj => (hF5 _ hj).elim hdr4 (fun h => by omega)
        have hdis5 : ∀ j, F j → ¬ F5 j := fun j hj hj2 => by have := hfn5 j hj2; have := hlt j hj; omega
        have hl3 := hl2 w5 F5 k5 hwh5 hN5 hkb5
        clear hl1 hl2 hwh4 hN4 hN5 hrow4 hM4 c1 hk5
        go_wp2_with (first | (go_at_call 62; go_must (refine (h62 _).mono ?_); rintro y w' ⟨rfl, rfl⟩) | fail)
        refine hl3.mono ?_
        rintro y w6 ⟨rfl, hk6, F6, k6, hF6, hkb6, hN6⟩
        obtain ⟨cur5, hcur5⟩ := row_block hrow5 g4 rfl
        have hg5lt := lt_of_block hcur5
        have hwh6 := hwh5.kept hk6 hdis5
        have hrow6 := row_same (w' := w6) hrow5 (fun j hj => by simp [Value.ownBlock] at hj; subst hj; exact hk6.block _ hg5lt hdr5)
        have hg6 := gb_of_kp hg5 hk6 hfn5
        have hfn6 : ∀ j, F6 j → w.heap.size ≤ j := fun j hj => (hF6 j hj).elim (hfn5 j) (fun h => Nat.le_trans hg5.size h)
        have hdr6 : ¬ F6 g4 := fun hj => (hF6 _ hj).elim hdr5 (fun h => by omega)
        have hpl6 := HD.len
        have hD6 : DSt w w6 wb nb F F6 sets rv mb n r m now (ps ++ [p]) (lent (lent (fun y => N y ∧ y.h ≠ (r p).h) n r now l) n r now q) k6 (.slice (some ⟨g4, 0, none⟩) (ps.length + 1) cap4) := ⟨hwh6, hg6, hN6, hfn6, by rw [show (ps ++ [p]).length = ps.length + 1 by simp]; exact hrow6, fun j hj => by simp [Value.ownBlock] at hj; subst hj; exact hdr6, HD, by rw [show (ps ++ [p]).length = ps.length + 1 by simp]; omega⟩
        clear hl3 hwh5 hwh6 hrow5 hrow6 hN6 hk6 HD hF6
        rw [show (ps ++ [p]).length = ps.length + 1 by simp] at hpl6
        go_wp2_with fail
        exact ⟨⟨ps ++ [p], _, k6, F6, hD6, by rw [show (ps ++ [p]).length = ps.length + 1 by simp]; omega⟩, by rw [lenOf_slice, lenOf_slice]; omega⟩
      · have hd2 : decide ((ps.length : Int) < most) = false := by simp; omega
        have hpost := fin _ _ _ _ _ _ _ hs (.inr (by omega)) hlen
        clear fin hs j1 j2 j3 i1 i2 i3
        go_wp2
        exact bodyPost_ret (v := .slice ao ps.length cp) (results_tmp Try.results31 _ _ _) rfl hpost
end

end Go.Proofs.Ytagcmfaljfaikaa
