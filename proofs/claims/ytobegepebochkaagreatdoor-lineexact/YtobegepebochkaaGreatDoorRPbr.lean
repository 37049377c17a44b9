import Derived.Deep.CutRange
import Derived.Deep.LoopGhost
import Derived.Deep.RegionHeld3
import Derived.Test.YtobegepebochkaaGreatDoorRPat
import Derived.Test.YtobegepebochkaaGreatDoorRPax
import Derived.Test.YtobegepebochkaaGreatDoorRPav
import Derived.Test.YtobegepebochkaaGreatDoorRBi
set_option linter.unusedVariables false
set_option linter.unusedSimpArgs false
set_option maxRecDepth 100000
set_option maxHeartbeats 16000000
namespace Go.Proofs.YtobegepebochkaaGreatDoor
open Go.RowKit Go.Maps
def Stp.sh (k : Nat) (s : Stp) : Stp := ⟨s.cmd, s.data, s.large, s.wk, s.wt, s.wp, s.frm + k, s.to + k⟩
def Fd.sh (k : Nat) (F : Fd) : Fd := { F with taken := F.taken + k, frm := F.frm + k }
theorem fl_sh (L k : Nat) : fl L k = (fl L 0).sh k := by simp [fl, Fd.sh]
theorem sh_tk (k n : Nat) (F : Fd) : (F.sh k).tk n = (F.tk n).sh k := by simp [Fd.sh, Fd.tk]; omega
theorem sh_put (k : Nat) (l : Bs) (F : Fd) : (F.sh k).put l = (F.put l).sh k := rfl
theorem sh_spoil (k : Nat) (F : Fd) : (F.sh k).spoil = F.spoil.sh k := rfl
theorem sh_tell (k : Nat) (F : Fd) : (F.sh k).tell = (F.tell.1.sh k, F.tell.2.map (Stp.sh k)) := by
  simp [Fd.tell, Fd.sh, Stp.sh]
  constructor <;> rfl
theorem sh_skip (k : Nat) (F : Fd) (b : UInt8) : (F.sh k).skip b = ((F.skip b).1.sh k, (F.skip b).2.map (Stp.sh k)) := by
  unfold Fd.skip
  rw [show (F.sh k).left = F.left from rfl]
  split
  . rfl
  . split
    . exact sh_tell k F
    . rfl
theorem sh_rd (k : Nat) (F : Fd) : (F.sh k).rd = (F.rd.1.sh k, F.rd.2) := by
  unfold Fd.rd
  rw [show (F.sh k).kept = F.kept from rfl, show (F.sh k).limit = F.limit from rfl]
  split
  . split
    . rfl
    . split <;> rfl
  . split <;> rfl
theorem sh_end1 (k : Nat) (F : Fd) : Fd.end1 (F.sh k).rd = ((Fd.end1 F.rd).1.sh k, (Fd.end1 F.rd).2.map (Stp.sh k)) := by
  unfold Fd.end1
  rw [sh_rd]
  dsimp only
  split
  . exact sh_tell k _
  . rfl
theorem sh_fb (k : Nat) (F : Fd) (b : UInt8) : (F.sh k).fb b = ((F.fb b).1.sh k, (F.fb b).2.map (Stp.sh k)) := by
  unfold Fd.fb
  rw [show (F.sh k).st = F.st from rfl, show (F.sh k).kept = F.kept from rfl, show (F.sh k).left = F.left from rfl, sh_tk, sh_put]
  split
  . split
    . exact sh_end1 k _
    . split <;> rfl
  . split
    . rfl
    . split
      . split
        . rfl
        . rw [sh_spoil]; exact sh_skip k _ b
      . split
        . split
          . exact sh_tell k { F.tk 1 with s := { F.s with data := (F.kept.drop F.head).dropLast } }
          . rw [sh_spoil]; exact sh_skip k _ b
        . split
          . exact sh_skip k _ b
          . rfl
theorem sh_run (k : Nat) : ∀ (l : Bs) (F : Fd), (F.sh k).run l = ((F.run l).1.sh k, (F.run l).2.map (Stp.sh k))
  | [], F => rfl
  | b :: t, F => by
    simp only [Fd.run, sh_fb]
    rw [sh_run k t]
    simp
def Told (F G : Fd) (r : List Stp) : Prop := (r = [] /\ G.ended = false) \/ ∃ s, r = [s] /\ s.to = F.taken + 1 /\ (s.cmd.verb ≠ 18 -> G = fl F.limit (F.taken + 1)) /\ (s.cmd.verb = 18 -> G.st = 5 /\ G.ended = true /\ G.kept = [])
theorem told_tell {F G : Fd} (hl : G.limit = F.limit) (ht : G.taken = F.taken + 1) (he : G.ended = false) : Told F G.tell.1 G.tell.2 := by
  refine .inr ⟨_, rfl, ht, ?_, ?_⟩
  . intro hv
    have : ¬ G.s.cmd.verb = 18 := hv
    simp [Fd.tell, this, he, fl, hl, ht]
  . intro hv
    have : G.s.cmd.verb = 18 := hv
    simp [Fd.tell, this]
theorem told_skip {F G : Fd} (hl : G.limit = F.limit) (ht : G.taken = F.taken + 1) (he : G.ended = false) (b : UInt8) : Told F (G.skip b).1 (G.skip b).2 := by
  unfold Fd.skip
  split
  . exact .inl ⟨rfl, he⟩
  . split
    . exact told_tell hl ht he
    . exact .inl ⟨rfl, he⟩
theorem told_fb {F : Fd} (he : F.ended = false) (b : UInt8) : Told F (F.fb b).1 (F.fb b).2 := by
  unfold Fd.fb
  split
  . split
    . unfold Fd.end1
      obtain ⟨h1, h2, h3, -⟩ := rd_facts ((F.tk 1).put [b])
      split
      . exact told_tell h2 h1 (h3.trans he)
      . exact .inl ⟨rfl, h3.trans he⟩
    . split
      . exact .inl ⟨rfl, he⟩
      . exact .inl ⟨rfl, he⟩
  . split
    . exact .inl ⟨rfl, he⟩
    . split
      . split
        . exact .inl ⟨rfl, he⟩
        . exact told_skip (F := F) (G := (F.tk 1).spoil) rfl rfl he b
      . split
        . split
          . exact told_tell (F := F) (G := { F.tk 1 with s := { F.s with data := (F.kept.drop F.head).dropLast } }) rfl rfl he
          . exact told_skip (F := F) (G := (F.tk 1).spoil) rfl rfl he b
        . split
          . exact told_skip (F := F) (G := F.tk 1) rfl rfl he b
          . exact .inl ⟨rfl, he⟩
theorem run_split : ∀ (l : Bs) {F : Fd}, F.ended = false -> ∀ (pre : List Stp) (s : Stp) (post : List Stp), (F.run l).2 = pre ++ s :: post ->
    ∃ l1 l2 G, l = l1 ++ l2 /\ F.run l1 = (G, pre ++ [s]) /\ s.to = F.taken + l1.length /\ (s.cmd.verb ≠ 18 -> G = fl F.limit s.to) /\ (s.cmd.verb = 18 -> G.st = 5 /\ G.ended = true /\ G.kept = [])
  | [], F, he, pre, s, post, h => by simp [Fd.run] at h
  | b :: t, F, he, pre, s, post, h => by
    have hf := fb_facts F b
    simp only [Fd.run] at h
    rcases told_fb he b with ⟨h1, h2⟩ | ⟨x, h1, h2, h3, h4⟩
    . rw [h1, List.nil_append] at h
      obtain ⟨l1, l2, G, e, hr, ht, k1, k2⟩ := run_split t h2 pre s post h
      refine ⟨b :: l1, l2, G, by simp [e], by simp [Fd.run, h1, hr], ?_, ?_, k2⟩
      . rw [ht, hf.1]; simp; omega
      . rw [hf.2.1] at k1; exact k1
    . rw [h1] at h
      cases pre with
      | nil =>
        simp at h
        obtain ⟨rfl, -⟩ := h
        refine ⟨[b], t, (F.fb b).1, rfl, by simp [Fd.run, h1], by simpa using h2, fun hv => ?_, h4⟩
        rw [h2]; exact h3 hv
      | cons y pre =>
        simp at h
        obtain ⟨rfl, h⟩ := h
        by_cases hv : x.cmd.verb = 18
        . rw [run_over (h4 hv).1] at h
          simp at h
        . have hF := h3 hv
          obtain ⟨l1, l2, G, e, hr, ht, k1, k2⟩ := run_split t (F := (F.fb b).1) (by rw [hF]; rfl) pre s post h
          refine ⟨b :: l1, l2, G, by simp [e], by simp [Fd.run, h1, hr], ?_, ?_, k2⟩
          . rw [ht, hf.1]; simp; omega
          . rw [hf.2.1] at k1; exact k1
theorem run_none : ∀ (l : Bs) {F : Fd}, F.ended = false -> (F.run l).2 = [] -> (F.run l).1.ended = false
  | [], F, he, h => he
  | b :: t, F, he, h => by
    simp only [Fd.run] at h ⊢
    rcases told_fb he b with ⟨h1, h2⟩ | ⟨x, h1, h2, h3, h4⟩
    . rw [h1, List.nil_append] at h
      exact run_none t h2 h
    . rw [h1] at h
      simp at h
theorem Tile.get : ∀ {q : List Tld} {a b : Nat} (k : Nat) {x : Tld}, Tile a q b -> q[k]? = some x -> ∃ m, Tile a (q.take k) m /\ x.s.frm = m /\ m < x.s.to /\ Tile x.s.to (q.drop (k + 1)) b
  | [], a, b, k, x, h, hx => by simp at hx
  | y :: q, a, b, 0, x, h, hx => by
    simp at hx
    subst hx
    exact ⟨a, rfl, h.1, h.2.1, h.2.2⟩
  | y :: q, a, b, k + 1, x, h, hx => by
    simp at hx
    obtain ⟨m, h1, h2, h3, h4⟩ := Tile.get k h.2.2 hx
    exact ⟨m, ⟨h.1, h.2.1, h1⟩, h2, h3, h4⟩
end Go.Proofs.YtobegepebochkaaGreatDoor
namespace Go.Proofs.YtobegepebochkaaGreatDoor
open Go.RowKit Go.Maps
theorem run_four : ∀ (t : Bs) {F : Fd}, F.st = 4 -> F.kept = [] -> (F.run t).2 = [] -> (F.run t).1.kept = []
  | [], F, h, hk, _ => hk
  | b :: t, F, h, hk, hr => by
    have hf : F.fb b = (F.tk 1).skip b := by simp [Fd.fb, h]
    simp only [Fd.run, hf] at hr ⊢
    by_cases h0 : 0 < (F.tk 1).left
    . have e : (F.tk 1).skip b = ({ F.tk 1 with left := (F.tk 1).left - 1 }, []) := by simp [Fd.skip, h0]
      rw [e] at hr ⊢
      exact run_four t (F := { F.tk 1 with left := (F.tk 1).left - 1 }) h hk (by simpa using hr)
    . by_cases hb : b = 10
      . have e : (F.tk 1).skip b = (F.tk 1).tell := by simp [Fd.skip, h0, hb]
        rw [e] at hr
        simp [Fd.tell] at hr
      . have e : (F.tk 1).skip b = (F.tk 1, []) := by simp [Fd.skip, h0, hb]
        rw [e] at hr ⊢
        exact run_four t (F := F.tk 1) h hk (by simpa using hr)
theorem stepY_not {L at_ : Nat} {r : Bs} {s : Stp} {n : Nat} {G : Fd} (h : StepY L at_ r s n) (hr : (fl L at_).run r = (G, [])) : False := by
  obtain ⟨H, h1, -, -⟩ := h.run
  have := Fd.run_app (r.take n) (fl L at_) (r.drop n)
  rw [List.take_append_drop, hr, h1] at this
  have := congrArg Prod.snd this
  simp at this
theorem kept_cases {L at_ : Nat} {r : Bs} {G : Fd} (h : (fl L at_).run r = (G, [])) :
    ((10 : UInt8) ∉ r /\ G.kept.length = if 2048 < (trim r).length then 0 else r.length) \/
    ∃ p t, r = p ++ 10 :: t /\ (10 : UInt8) ∉ p /\ ((∃ x, lineS (trim p) = .inr x /\ G.kept = []) \/
      ∃ (c : Cmd) (n : Nat), lineS (trim p) = .inl (c, (n : Int)) /\ ((L < n /\ G.kept = []) \/ (n <= L /\ ((t.length <= n /\ G.kept.length = r.length) \/
        (∃ x, t[n]? = some x /\ x ≠ 13 /\ G.kept = []) \/ (t[n]? = some 13 /\ t.length = n + 1 /\ G.kept.length = r.length) \/ ∃ y, t[n]? = some 13 /\ t[n + 1]? = some y /\ y ≠ 10 /\ G.kept = [])))) := by
  rcases indexByte_spec 10 r with ⟨-, hn⟩ | ⟨p, t, e, hp, -⟩
  . refine .inl ⟨hn, ?_⟩
    have h1 := run_free r (F := fl L at_) rfl (by simp [fl, trim]) hn
    rw [h] at h1
    have h2 : G = _ := congrArg Prod.fst h1
    rw [h2]
    have e0 : (fl L at_).kept ++ r = r := rfl
    rw [e0]
    split
    . rfl
    . show ([] ++ r).length = _
      simp
  . refine .inr ⟨p, t, e, hp, ?_⟩
    subst e
    cases hl : lineS (trim p) with
    | inr x =>
      obtain ⟨k, y, q⟩ := x
      refine .inl ⟨_, rfl, ?_⟩
      have hr := lnF_inr (limit := L) (at_ := at_) hl
      by_cases hq : q < 0 \/ (L : Int) < q
      . exact (stepY_not (stepY_inr hp hl hq) h).elim
      . rw [if_neg hq] at hr
        have h1 := run_behind_line (limit := L) (at_ := at_) p t hp (by rw [hr])
        rw [h, hr] at h1
        have h2 := run_four t (F := (lnF L at_ p).pass (stpW k y q) q.toNat) rfl rfl (congrArg Prod.snd h1).symm
        rw [<- h1] at h2
        exact h2
    | inl x =>
      obtain ⟨c, n⟩ := x
      have hr := lnF_inl (limit := L) (at_ := at_) hl
      by_cases h0 : n < 0
      . exact (stepY_not (stepY_inl hp hl h0) h).elim
      . obtain ⟨m, rfl⟩ : ∃ m : Nat, n = (m : Int) := ⟨n.toNat, by omega⟩
        refine .inr ⟨c, m, rfl, ?_⟩
        rw [if_neg h0] at hr
        by_cases hL : (L : Int) < (m : Int)
        . refine .inl ⟨by omega, ?_⟩
          rw [if_pos hL] at hr
          have h1 := run_behind_line (limit := L) (at_ := at_) p t hp (by rw [hr])
          rw [h, hr] at h1
          have h2 := run_four t (F := (lnF L at_ p).pass (stpC c true) (m : Int).toNat) rfl rfl (congrArg Prod.snd h1).symm
          rw [<- h1] at h2
          exact h2
        . refine .inr ⟨by omega, ?_⟩
          rw [if_neg hL, Int.toNat_natCast] at hr
          have hsa := step_await (limit := L) (at_ := at_) hp hr t
          obtain ⟨F, hF⟩ : ∃ F : Fd, F = { lnF L at_ p with head := (lnF L at_ p).kept.length, s := stpC c false } := ⟨_, rfl⟩
          have f1 : F.kept = p ++ [10] := by rw [hF]; simp [fl, Fd.put, Fd.tk]
          have h1 : (G, ([] : List Stp)) = (F.await m).run t := by
            have := run_behind_line (limit := L) (at_ := at_) p t hp (by rw [hr])
            rw [h, hr, <- hF] at this
            exact this
          clear hr hF
          rcases Nat.lt_or_ge t.length m with hlt | hge
          . refine .inl ⟨by omega, ?_⟩
            rw [await_short m hlt] at h1
            have : G = _ := congrArg Prod.fst h1
            rw [this]
            simp [Fd.put, Fd.tk, f1]
            try omega
          . obtain ⟨b, u, e, hb⟩ : ∃ b u, t = b ++ u /\ b.length = m := ⟨t.take m, t.drop m, (List.take_append_drop m t).symm, by rw [List.length_take]; omega⟩
            subst e
            rw [Fd.run_app, run_await m hb] at h1
            simp only [List.nil_append] at h1
            have gu : ∀ j, (b ++ u)[m + j]? = u[j]? := fun j => by rw [List.getElem?_append_right (by omega)]; congr 1; omega
            cases u with
            | nil =>
              refine .inl ⟨by simp; omega, ?_⟩
              have : G = _ := congrArg Prod.fst h1
              rw [this]
              simp [Fd.run, Fd.put, Fd.tk, f1]
              try omega
            | cons x u =>
              have g0 : (b ++ x :: u)[m]? = some x := gu 0
              by_cases hx : x = 13
              . subst hx
                cases u with
                | nil =>
                  refine .inr (.inr (.inl ⟨g0, by simp; omega, ?_⟩))
                  rw [run_behind rfl] at h1
                  have : G = _ := congrArg Prod.fst h1
                  rw [this]
                  simp [Fd.put, Fd.tk, f1]
                  try omega
                | cons y u =>
                  have g1 : (b ++ 13 :: y :: u)[m + 1]? = some y := gu 1
                  by_cases hy : y = 10
                  . subst hy
                    exact (stepY_not (hsa.2.2.1 b u rfl hb) h).elim
                  . refine .inr (.inr (.inr ⟨y, g0, g1, hy, ?_⟩))
                    have e2 : ({ (F.tk m).put b with left := 0, st := 2 } : Fd).run (13 :: y :: u) = ({ (({ (F.tk m).put b with left := 0, st := 2 } : Fd).tk 1).put [13] with st := 3 } : Fd).spoil.run (y :: u) := by
                      rw [show (13 : UInt8) :: y :: u = [13] ++ (y :: u) from rfl, Fd.run_app, run_behind rfl]
                      have h3 := run_spoil (F := ({ (({ (F.tk m).put b with left := 0, st := 2 } : Fd).tk 1).put [13] with st := 3 } : Fd)) (.inr rfl) y u (fun e => by simp at e) (fun _ => hy)
                      simp only [h3, List.nil_append]
                    rw [e2] at h1
                    have h2 := run_four (y :: u) (F := ({ (({ (F.tk m).put b with left := 0, st := 2 } : Fd).tk 1).put [13] with st := 3 } : Fd).spoil) rfl rfl (congrArg Prod.snd h1).symm
                    have h4 : G = _ := congrArg Prod.fst h1
                    rw [h4]
                    exact h2
              . refine .inr (.inl ⟨x, g0, hx, ?_⟩)
                have h3 := run_spoil (F := ({ (F.tk m).put b with left := 0, st := 2 } : Fd)) (.inl rfl) x u (fun _ => hx) (fun e => by simp at e)
                rw [h3] at h1
                have h2 := run_four (x :: u) (F := ({ (F.tk m).put b with left := 0, st := 2 } : Fd).spoil) rfl rfl (congrArg Prod.snd h1).symm
                have h4 : G = _ := congrArg Prod.fst h1
                rw [h4]
                exact h2
def lst (last : Nat) (q : List Tld) : Nat := match q.getLast? with | none => last | some x => x.s.to + last
def qtt (q : List Tld) : Bool := match q.getLast? with | none => false | some x => decide (x.s.cmd.verb = 18)
structure Rl (L : Nat) (raw : Bs) (last : Nat) (quit : Bool) (F : Fd) : Prop where
  le : last <= raw.length
  no : quit = false -> (fl L last).run (raw.drop last) = (F, [])
  yes : quit = true -> F.st = 5 /\ F.kept = []
  ended : F.ended = quit
  taken : F.taken = raw.length
theorem Rl.start (limit : Int) : Rl limit.toNat [] 0 false (fd0 limit) := ⟨Nat.le_refl _, fun _ => rfl, fun h => by simp at h, rfl, rfl⟩
theorem Rl.over {L : Nat} {raw : Bs} {last : Nat} {F : Fd} (h : Rl L raw last true F) (l : Bs) : (F.run l).2 = [] /\ Rl L (raw ++ l) last true (F.run l).1 := by
  obtain ⟨h1, h2⟩ := h.yes rfl
  have h3 := h.le
  rw [run_over h1]
  exact ⟨rfl, by rw [List.length_append]; omega, fun e => by simp at e, fun _ => ⟨h1, h2⟩, h.ended, by rw [List.length_append, <- h.taken]; rfl⟩
theorem Rl.feed {L : Nat} {raw : Bs} {last : Nat} {F : Fd} (h : Rl L raw last false F) (l : Bs) {q : List Tld} (hq : ((fl L 0).run ((raw ++ l).drop last)).2 = q.map Tld.s) :
    (F.run l).2 = q.map (fun x => x.s.sh last) /\ Rl L (raw ++ l) (lst last q) (qtt q) (F.run l).1 := by
  have hle := h.le
  have e0 : (raw ++ l).drop last = raw.drop last ++ l := List.drop_append_of_le_length hle
  have hrun : (fl L last).run ((raw ++ l).drop last) = F.run l := by
    rw [e0, Fd.run_app, h.no rfl]
    simp
  have hsh := sh_run last ((raw ++ l).drop last) (fl L 0)
  rw [<- fl_sh, hrun, hq, List.map_map] at hsh
  have hT : (F.run l).2 = q.map (fun x => x.s.sh last) := congrArg Prod.snd hsh
  have htk : (F.run l).1.taken = (raw ++ l).length := by rw [(run_facts l F).1, h.taken, List.length_append]
  refine ⟨hT, ?_⟩
  have he : F.ended = false := h.ended
  unfold lst qtt
  cases hg : q.getLast? with
  | none =>
    rw [List.getLast?_eq_none_iff] at hg
    subst hg
    have hT0 : (F.run l).2 = [] := hT
    show Rl L (raw ++ l) last false (F.run l).1
    exact ⟨by rw [List.length_append]; omega, fun _ => by rw [hrun, <- hT0], fun e => by simp at e, run_none l he hT0, htk⟩
  | some x =>
    obtain ⟨pre, hpre⟩ : ∃ pre, q = pre ++ [x] := by
      rw [List.getLast?_eq_some_iff] at hg
      exact hg
    have hT2 : ((fl L last).run ((raw ++ l).drop last)).2 = pre.map (fun x => x.s.sh last) ++ x.s.sh last :: [] := by rw [hrun, hT, hpre]; simp
    obtain ⟨l1, l2, G, e1, hr, ht, k1, k2⟩ := run_split _ (F := fl L last) rfl _ _ _ hT2
    have hto : (x.s.sh last).to = x.s.to + last := rfl
    have htl : (x.s.sh last).to = last + l1.length := ht
    have hln : ((raw ++ l).drop last).length = l1.length + l2.length := by rw [e1, List.length_append]
    rw [List.length_drop] at hln
    have hll : (raw ++ l).length = raw.length + l.length := List.length_append
    have hle2 : x.s.to + last <= (raw ++ l).length := by omega
    have hl2 : (raw ++ l).drop (x.s.to + last) = l2 := by
      rw [<- hto, htl, <- List.drop_drop, e1, List.drop_left]
    have hG : G.run l2 = ((F.run l).1, []) := by
      have h5 := Fd.run_app l1 (fl L last) l2
      rw [<- e1, hr, hrun] at h5
      have h6 := congrArg Prod.snd h5
      rw [hT, hpre] at h6
      simp at h6
      have h7 := congrArg Prod.fst h5
      exact Prod.ext h7.symm h6
    show Rl L (raw ++ l) (x.s.to + last) (decide (x.s.cmd.verb = 18)) (F.run l).1
    by_cases hv : x.s.cmd.verb = 18
    . obtain ⟨g1, g2, g3⟩ := k2 hv
      rw [run_over g1] at hG
      have hF : (F.run l).1 = G.tk l2.length := (congrArg Prod.fst hG).symm
      refine ⟨hle2, fun e => by simp [hv] at e, fun _ => by rw [hF]; exact ⟨g1, g3⟩, by rw [hF, decide_eq_true hv]; exact g2, htk⟩
    . have hG2 := k1 hv
      rw [hG2, hto] at hG
      refine ⟨hle2, fun _ => by rw [hl2]; exact hG, fun e => by simp [hv] at e, ?_, htk⟩
      have := run_none l2 (F := fl L (x.s.to + last)) rfl (by rw [show (fl L (x.s.to + last)).run l2 = _ from hG])
      rw [show (fl L (x.s.to + last)).run l2 = _ from hG] at this
      simpa [hv] using this
end Go.Proofs.YtobegepebochkaaGreatDoor
namespace Go.Proofs.YtobegepebochkaaGreatDoor
open Go.RowKit
def stM (v : Int) : List Value := [.int .i64 0, .slice none 0 0, .int .u64 0, .int .i64 0, .int .u64 0, .int .u64 0, .slice none 0 0, .bool false, .bool false, .slice none 0 0, .string ⟨#[]⟩, .int .i64 0, .string ⟨#[]⟩, .int .i64 0, .int .i64 (v), .int .i64 0]
theorem stM_len (v : Int) : (stM v).length = 16 := rfl
def mkS (L : Nat -> Nat) (i k : Nat) : List Value := if k < L i then stM (-1000 - (i : Int)) else stM (-5000000 - (i : Int))
theorem mkS_len (L : Nat -> Nat) (i k : Nat) : (mkS L i k).length = 16 := by unfold mkS; split <;> rfl
theorem mkS_lo {L : Nat -> Nat} {i k : Nat} (h : k < L i) : mkS L i k = stM (-1000 - (i : Int)) := if_pos h
theorem mkS_hi {L : Nat -> Nat} {i k : Nat} (h : ¬ k < L i) : mkS L i k = stM (-5000000 - (i : Int)) := if_neg h
theorem ty_57 : ∃ ti, Ty 57 86 ti (.agg #[.int .i64 0, .slice none 0 0, .int .u64 0, .int .i64 0, .int .u64 0, .int .u64 0, .slice none 0 0, .bool false, .bool false, .slice none 0 0, .string ⟨#[]⟩, .int .i64 0, .string ⟨#[]⟩, .int .i64 0, .int .i64 0, .int .i64 0]) 16 184 := ty_of Tryz.underlying57 (by kernel_rfl) rfl (by omega) (by omega)
theorem ty_29 : ∃ ti, Ty 29 57 ti (.slice none 0 0) 1 24 := ty_of Tryz.underlying29 (by kernel_rfl) rfl (by omega) (by omega)
def setL : List Value -> Nat -> List Value -> List Value
  | xs, _, [] => xs
  | xs, o, v :: r => setL (xs.set o v) (o + 1) r
theorem setL_get : ∀ (vs xs : List Value) (o k : Nat), o + vs.length <= xs.length -> (setL xs o vs)[k]? = if o <= k /\ k < o + vs.length then vs[k - o]? else xs[k]?
  | [], xs, o, k, h => by simp [setL]; omega
  | v :: r, xs, o, k, h => by
    simp only [List.length_cons] at h
    rw [setL, setL_get r (xs.set o v) (o + 1) k (by simp; omega), List.getElem?_set]
    simp only [List.length_cons]
    by_cases h1 : o + 1 <= k /\ k < o + 1 + r.length
    . rw [if_pos h1, if_pos (by omega), show k - o = (k - (o + 1)) + 1 by omega, List.getElem?_cons_succ]
    . rw [if_neg h1]
      by_cases h2 : o = k
      . subst h2
        rw [if_pos rfl, if_pos (by omega), if_pos (by omega), Nat.sub_self]
        rfl
      . rw [if_neg h2, if_neg (by omega)]
theorem row_setCells {B : Nat} {e : TypeId} {s g n c : Nat} : ∀ (vs : List Value) {w : World} {xs : List Value} (o : Nat), w.ownsRow B e s (.slice (some ⟨g, 0, none⟩) n c) n xs -> (w.setCells g o vs).ownsRow B e s (.slice (some ⟨g, 0, none⟩) n c) n (setL xs o vs)
  | [], w, xs, o, h => h
  | v :: r, w, xs, o, h => row_setCells r (o + 1) (row_set h o v)
theorem look_115s {w : World} {bb : Nat} {b0 b1 b2 b3 t0 t1 t2 t3 s0 s1 s2 xv : Value} {n : Int} {K KX m : Nat} {V X : Nat -> Value} {L : Nat -> Nat} (h : Box w 31 bb (bkA b0 b1 b2 b3 t0 t1 t2 t3 s0 s1 s2 n)) (hr : w.ownsRow 0 57 1 s0 K (vsL V K)) (hx : w.ownsRow 0 57 1 xv KX (vsL X KX)) (hKX : KX <= K) (hK : K < 1000000) (hm : m <= 10003) (hL : ∀ i, i < KX -> L i <= 1000000)
    (hvs : ∀ i, i < KX -> w.ownsRow 0 86 16 (V i) (L i) (rng (L i) (mkS L i))) (hxs : ∀ i, i < KX -> w.ownsRow 0 86 16 (X i) (L i + m) (rng (L i + m) (mkS L i))) :
    Calls Tryz.prog 115 #[.pointer (some ⟨bb, 0, none⟩), xv] w fun y w' => y = .returned (.bool true) /\ w.grownBy w' none := by
  obtain ⟨hao, hcp, hdh, _, _, _, hposh⟩ := row_shape hr
  subst hdh
  obtain ⟨xao, xcp, hdx, _, _, _, hposx⟩ := row_shape hx
  subst hdx
  have c12 : w.cell? ⟨bb, 22, none⟩ = some (.slice hao K hcp) := h.cell 22
  go_enter Tryz.func115, Tryz.ntmps115
  go_wp2
  go_loopw [5] (fun v wr => ∃ i : Nat, i <= KX /\ v = .int .i64 i /\ w.grownBy wr none) (fun v _ => KX - (intOf v).toNat)
  case atStart => exact ⟨0, by omega, rfl, gb_refl _ _⟩
  case round =>
    obtain ⟨i, hi, rfl, hg⟩ := hrel
    by_cases hiK : i < KX
    . obtain ⟨gh, rfl⟩ := hposh (by omega)
      obtain ⟨gx, rfl⟩ := hposx (by omega)
      have hV := hvs i hiK
      have hX := hxs i hiK
      have d1 : w.cell? ⟨gh, i, none⟩ = some (V i) := row_cell hr i _ (vsL_get _ (by omega))
      have d2 : w.cell? ⟨gx, i, none⟩ = some (X i) := row_cell hx i _ (vsL_get _ hiK)
      have hLi := hL i hiK
      obtain ⟨va, vc, hVs, _, _, _, hposv⟩ := row_shape hV
      obtain ⟨xa, xc, hXs, _, _, _, hposxx⟩ := row_shape hX
      rw [hVs] at d1 hV
      rw [hXs] at d2 hX
      have hlo : ∀ k, k < L i -> mkS L i k = stM (-1000 - (i : Int)) := fun k hk => mkS_lo hk
      have hhi : ∀ k, ¬ k < L i -> mkS L i k = stM (-5000000 - (i : Int)) := fun k hk => mkS_hi hk
      generalize mkS L i = mk at *
      generalize L i = n at *
      have hib : (i : Int) < K := by omega
      have hibx : (i : Int) < KX := by omega
      have c0 := gb_cellN hg c12
      have e1 := gb_cellN hg d1
      have e2 := gb_cellN hg d2
      clear hr hx hvs hxs hposh hposx hL h
      go_wp2
      go_loopw [7] (fun v wq => ∃ k : Nat, k <= n + m /\ v = .int .i64 k /\ w.grownBy wq none) (fun v _ => n + m - (intOf v).toNat)
      case atStart => exact ⟨0, by omega, rfl, hg⟩
      case round =>
        clear c0 e1 e2 hg
        obtain ⟨k, hk, rfl, hg⟩ := hrel
        have c0 := gb_cellN hg c12
        have e1 := gb_cellN hg d1
        have e2 := gb_cellN hg d2
        by_cases hkn : k < n + m
        . obtain ⟨g2, rfl⟩ := hposxx (by omega)
          have hkb : (k : Int) < n + m := by omega
          have q1 : IntKind.i64.wrap (-1000 - (i : Int)) = -1000 - i := by rw [IntKind.wrap_i64]; omega
          have q2 : IntKind.i64.wrap (-5000000 - (i : Int)) = -5000000 - i := by rw [IntKind.wrap_i64]; omega
          have hxk : (rng (n + m) mk)[k * 16 + 14]? = (mk k)[14]? := rng_get (fun k => by by_cases e : k < n; exact (by rw [hlo k e]; rfl); exact (by rw [hhi k e]; rfl)) hkn (by omega)
          by_cases hkl : k < n
          . obtain ⟨g1, rfl⟩ := hposv (by omega)
            have hvk : (rng n mk)[k * 16 + 14]? = (mk k)[14]? := rng_get (fun k => by by_cases e : k < n; exact (by rw [hlo k e]; rfl); exact (by rw [hhi k e]; rfl)) hkl (by omega)
            rw [hlo k hkl] at hxk hvk
            have u1 := gb_cellN hg (row_cell hV (k * 16 + 14) (.int .i64 (-1000 - (i : Int))) hvk)
            have u2 := gb_cellN hg (row_cell hX (k * 16 + 14) (.int .i64 (-1000 - (i : Int))) hxk)
            have hlb : (k : Int) < n := by omega
            have hd1 : decide ((n : Int) <= (k : Int)) = false := by simp; omega
            have hd2 : decide (n <= k) = false := by simp; omega
            have hd3 : ¬ n <= k := by omega
            have hd4 : decide ((k : Int) < (n : Int)) = true := by simp; omega
            have hd5 : decide (k < n) = true := by simp; omega
            have HG : Hid _ := hg
            clear hV hX hposv hposxx hxk hvk hlo hhi hg c12 d1 d2
            go_wp2
            exact ⟨⟨k + 1, by omega, by go_num, HG.out⟩, by simp [intOf]; omega⟩
          . rw [hhi k hkl] at hxk
            have u2 := gb_cellN hg (row_cell hX (k * 16 + 14) (.int .i64 (-5000000 - (i : Int))) hxk)
            have hlb : ¬ (k : Int) < n := by omega
            have hd1 : decide ((n : Int) <= (k : Int)) = true := by simp; omega
            have hd2 : decide (n <= k) = true := by simp; omega
            have hd3 : n <= k := by omega
            have hd4 : decide ((k : Int) < (n : Int)) = false := by simp; omega
            have hd5 : decide (k < n) = false := by simp; omega
            have hlb2 : (n : Int) <= k := by omega
            have HG : Hid _ := hg
            clear hV hX hposv hposxx hxk hlo hhi hg c12 d1 d2
            go_wp2
            exact ⟨⟨k + 1, by omega, by go_num, HG.out⟩, by simp [intOf]; omega⟩
        . obtain rfl : k = n + m := by omega
          have HG : Hid _ := hg
          clear hV hX hposv hposxx hlo hhi hg c12 d1 d2
          go_wp2
          exact ⟨⟨i + 1, by omega, by go_num, HG.out⟩, by simp [intOf]; omega⟩
    . obtain rfl : i = KX := by omega
      clear hr hx hvs hxs hposh hposx hL h
      have HG : Hid _ := hg
      clear hg
      go_wp2
      go_ret
      exact ⟨rfl, HG.out⟩
end Go.Proofs.YtobegepebochkaaGreatDoor
