/-
  Set; Same.
-/
import Derived.Test.YtgnafbohikbpfaaQi
namespace Go.Proofs.Ytgnafbohikbpfaa
set_option maxRecDepth 100000
set_option linter.unusedSimpArgs false
open Go.RowKit

theorem wpAny_tq1 {ops : Array Oper} {Q : Exit → Act → World → Prop} {a0 : Act} {w0 : World} (n : Nat) (hn : ops.size = n + 1) (hok : prefG ops n = true) (us : List (Option Value)) (hu : us.length = n + 1) (hg : guardsQ ops us = true)
    (hsl : ops.all (fun o => match o.dst with | none => true | some t => decide (t < a0.tmps.size)) = true)
    (hop : ∀ (j : Nat) (o : Oper), j < n → skipQ us j = false → ops[j]? = some o → ∀ a w, (∀ t : Nat, (ops.toList.take n).all (fun p => p.dst != some t) = true → a.eval (.tmp t) = a0.eval (.tmp t)) →
      (∀ (i t : Nat), o.after.any (fun e => Region.binds .any e && e.on == i) = true → ops[i]?.bind (·.dst) = some t → tq us i (a.eval (.tmp t)) w) → Kept [] w0 w →
      o.wp Try.prog a w (fun a' w' => ∃ v, a' = a.put o.dst v ∧ tq us j v w' ∧ Kept [] w w' ∧ ∀ i u, i < n → i ≠ j → tq us i u w → True) Q)
    (hQ : ∀ w, Kept [] w0 w → wpAny Try.prog .any ops Q 1 (lists n (n + 1)) (putAll a0 (ops.toList.take n) (valsQ (us.take n))) w) :
    wpAny Try.prog .any ops Q ops.size (Array.replicate ops.size false) a0 w0 := by
  refine wpAny_prefS n 1 (by omega) hok (tq us) (fun _ _ _ _ => True) (skipQ us) (fun j o i b _ ho hg' => guardsQ_some hg j o i b ho hg') (fun j o _ ho hg' => guardsQ_none hg j o ho hg') (fun j w h => skipQ_undef w h) (fun _ _ _ _ => trivial) (tq_kept us) hsl hop ?_
  intro vs w hlen hv _ hk
  have h2 : ∀ (j : Nat) v, vs[j]? = some v → tq (us.take n) j v w := by
    intro j v hj
    have h3 := hv j v hj
    have hjn : j < n := by have := (List.getElem?_eq_some_iff.1 hj).1; omega
    unfold tq at h3 ⊢
    rw [List.getElem?_take_of_lt hjn]
    exact h3
  obtain rfl := vs_tq h2 (by rw [hlen, List.length_take]; omega)
  exact hQ w hk

variable {w W W' : World} {b mb : Nat} {P Q : Po} {L : List En} {pg : Int} {i : Nat}
@[reducible] def S0 (w : World) (_ : Nat → Bool) (_ : Nat → Value) (W : World) : Prop := Kept [] w W
theorem S0.loc {w : World} : ∀ d d' vs vs' W, (∀ i ∈ ([] : List Nat), d i = d' i ∧ vs i = vs' i) → S0 w d vs W → S0 w d' vs' W := fun _ _ _ _ _ _ h => h
theorem mayF_pg {x : Fr} (h : mayF x = true) : (0 ≤ x.pg ∧ x.pg < 16) ∧ (x.md = 1 ∨ x.md = 2) := by
  simp [mayF, isMd] at h
  exact ⟨⟨h.1, h.2.1⟩, h.2.2.1⟩
theorem Po.up_S (P : Po) (i : Nat) (x : Pl) (j : Nat) : (P.up i x).S j = if j = i then x else P.S j := rfl
theorem Po.up_busyN {P : Po} {i : Nat} {x : Pl} (hi : i < P.m) (hx : ¬ x.f.md = 0) (j : Nat) : (P.up i x).busy j ↔ j = i ∨ P.busy j := by
  unfold Po.busy
  rw [P.up_S i x j]
  show j < P.m ∧ _ ↔ _
  by_cases e : j = i
  · subst e; rw [if_pos rfl]; exact ⟨fun _ => .inl rfl, fun _ => ⟨hi, hx⟩⟩
  · rw [if_neg e]; exact ⟨.inr, fun h => h.resolve_left e⟩
theorem Po.up_okN (k : P.Ok) {i : Nat} {x : Pl} (hi : i < P.m) (hm : mayF x.f = true) (hu : ∀ j, P.busy j → (P.S j).f.pg = x.f.pg → j = i) : (P.up i x).Ok := by
  obtain ⟨h1, h2⟩ := mayF_pg hm
  have hx : ¬ x.f.md = 0 := by omega
  have hb := fun j => Po.up_busyN hi hx j
  refine ⟨k.m, k.h, fun j hj => ?_, fun j hj => ?_, fun j l hj hl e => ?_, fun j hj => ?_, fun j hj => ?_⟩
  · have e : j ≠ i := by have : P.m ≤ j := hj; omega
    rw [P.up_S, if_neg e]; exact k.z j hj
  · rw [P.up_S]
    by_cases e : j = i
    · rw [if_pos e]; exact h1
    · rw [if_neg e]; exact k.pg j (((hb j).1 hj).resolve_left e)
  · rw [P.up_S, P.up_S] at e
    by_cases e1 : j = i
    · by_cases e2 : l = i
      · rw [e1, e2]
      · rw [if_pos e1, if_neg e2] at e
        rw [e1]; exact (hu l (((hb l).1 hl).resolve_left e2) e.symm).symm
    · by_cases e2 : l = i
      · rw [if_neg e1, if_pos e2] at e
        rw [e2]; exact hu j (((hb j).1 hj).resolve_left e1) e
      · rw [if_neg e1, if_neg e2] at e
        exact k.un j l (((hb j).1 hj).resolve_left e1) (((hb l).1 hl).resolve_left e2) e
  · rw [P.up_S] at hj ⊢
    by_cases e : j = i
    · rw [if_pos e] at hj; exact absurd hj hx
    · rw [if_neg e] at hj ⊢; exact k.fr j hj
  · rw [P.up_S]
    by_cases e : j = i
    · rw [if_pos e]; exact h2
    · rw [if_neg e]; exact k.md j (((hb j).1 hj).resolve_left e)
theorem Wh.old (h : Wh P L) {i : Nat} {x : Pl} (hi : P.busy i) (hx : ¬ x.f.md = 0) (hp : x.f.pg = (P.S i).f.pg) : Wh (P.up i x) L := by
  have hb := fun j => Po.up_busyN hi.1 hx j
  have hs : ∀ j, ((P.up i x).S j).f.pg = (P.S j).f.pg := fun j => by
    rw [P.up_S]; split
    · rename_i e; subst e; exact hp
    · rfl
  refine ⟨fun l hl => ?_, fun j hj => ?_, h.nd, ?_⟩
  · obtain ⟨q, h1, h2, h3⟩ := h.at_ l hl
    exact ⟨q, (hb q).2 (.inr h1), h2, by rw [hs]; exact h3⟩
  · have h1 : P.busy j := by
      rcases (hb j).1 hj with e | e
      · subst e; exact hi
      · exact e
    obtain ⟨l, h2, h3, h4⟩ := h.has j h1
    exact ⟨l, h2, by rw [hs]; exact h3, h4⟩
  · have h1 := cntB_upd P.S i x P.m hi.1
    rw [if_neg hi.2, if_neg hx] at h1
    show _ = cntB (upd P.S i x) P.m
    rw [h.ln]; omega
theorem Wh.new (h : Wh P L) {i : Nat} {x : Pl} (hi : i < P.m) (hf : (P.S i).f.md = 0) (hx : ¬ x.f.md = 0) (hn : ∀ j, P.busy j → ¬ (P.S j).f.pg = x.f.pg) : Wh (P.up i x) (L ++ [⟨x.f.pg, (i : Int)⟩]) := by
  have hb := fun j => Po.up_busyN hi hx j
  have hne : ∀ j, P.busy j → j ≠ i := fun j hj e => hj.2 (by rw [e]; exact hf)
  refine ⟨fun l hl => ?_, fun j hj => ?_, ?_, ?_⟩
  · rcases List.mem_append.1 hl with hl | hl
    · obtain ⟨q, h1, h2, h3⟩ := h.at_ l hl
      exact ⟨q, (hb q).2 (.inr h1), h2, by rw [P.up_S, if_neg (hne q h1)]; exact h3⟩
    · obtain rfl : l = _ := by simpa using hl
      exact ⟨i, (hb i).2 (.inl rfl), rfl, by rw [P.up_S, if_pos rfl]⟩
  · rcases (hb j).1 hj with e | e
    · subst e
      exact ⟨⟨x.f.pg, (j : Int)⟩, by simp, by rw [P.up_S, if_pos rfl], rfl⟩
    · obtain ⟨l, h2, h3, h4⟩ := h.has j e
      exact ⟨l, List.mem_append_left _ h2, by rw [P.up_S, if_neg (hne j e)]; exact h3, h4⟩
  · refine List.pairwise_append.2 ⟨h.nd, by simp, fun a ha c hc => ?_⟩
    obtain rfl : c = _ := by simpa using hc
    obtain ⟨q, h1, _, h3⟩ := h.at_ a ha
    rw [← h3]; exact hn q h1
  · have h1 := cntB_upd P.S i x P.m hi
    rw [if_pos hf, if_neg hx] at h1
    rw [List.length_append, h.ln]
    show _ = cntB (upd P.S i x) P.m
    simp; omega

theorem Nil.step {v : Value} (h : Nil w v) (hk : Kept [] w W) : Nil W v := by
  rcases h with rfl | ⟨b, rfl, hB⟩
  · exact .inl rfl
  · exact .inr ⟨b, rfl, hB.kept hk (by simp)⟩
theorem set19_z (v : Value) (x : Fr) (h : Nil w v) : Calls Try.prog 19 #[v, aggV x.C] w fun e w' => e = .returned (.int .i64 1) ∧ Kept [] w w' := by
  obtain ⟨fc, hfc⟩ : ∃ c, c = x.C := ⟨_, rfl⟩
  have P41 : Hid (∀ W, Kept [] w W → Calls Try.prog 41 #[v] W fun e w' => e = .returned (.bool true) ∧ w' = W) := fun W hk => none41_z W v (h.step hk)
  rw [← hfc]
  clear hfc h
  go_enter Try.func19, Try.ntmps19
  go_wp2_with (
    first
    | (refine wpBoxV rfl (.tmp 1) rfl fc rfl ?_
       intro W1 g e1 B1 K1
       have HK := hide K1
       have HBG := hide B1
       have HG : Hid (w.heap.size ≤ g) := by show _ ≤ _; omega
       clear e1 B1 K1
       refine Stp.go ?_))
  constructor
  go_wp2_with (
    first
    | (go_at_call 41
       refine (unhide P41 _ (unhide HK)).mono ?_
       rintro e W9 ⟨rfl, q9⟩
       replace q9 := q9.symm
       subst q9
       clear P41
       refine Stp.go ?_))
  constructor
  go_wp2_with fail
  go_ret
  exact ⟨rfl, unhide HK⟩
theorem set19_bad (x : Fr) (h : Pg w b mb P L) (hm : mayF x = false) : Calls Try.prog 19 #[P0 b, aggV x.C] w fun e w' => e = .returned (.int .i64 2) ∧ Kept [] w w' := by
  obtain ⟨fc, hfc⟩ : ∃ c, c = x.C := ⟨_, rfl⟩
  have HLF : Hid (fc.length = 102) := by show _ = _; rw [hfc, Fr.len]
  have HOF : Hid (∀ v ∈ fc, v.oneCell' = true) := by rw [hfc]; exact Fr.one _
  have P44 : Hid (∀ W, Calls Try.prog 44 #[aggV fc] W fun e w' => e = .returned (.bool false) ∧ Kept [] W w') := fun W => by have h9 := isFrame44 x W; rw [hm] at h9; rw [hfc]; exact h9
  have HF0 : Hid (fc[0]? = some (.int .i64 x.pg)) := by rw [hfc]; rfl
  have P41 : Hid (∀ W, Kept [] w W → Calls Try.prog 41 #[P0 b] W fun e w' => e = .returned (.bool false) ∧ w' = W) := fun W hk => none41 W (h.step hk (by simp) (by simp))
  rw [← hfc]
  clear hfc h hm
  go_enter Try.func19, Try.ntmps19
  go_wp2_with (
    first
    | (refine wpBoxV rfl (.tmp 1) rfl fc rfl ?_
       intro W1 g e1 B1 K1
       have HK := hide K1
       have HBG := hide B1
       have HG : Hid (w.heap.size ≤ g) := by show _ ≤ _; omega
       clear e1 B1 K1
       refine Stp.go ?_))
  constructor
  go_wp2_with (
    first
    | (go_at_call 41
       refine (unhide P41 _ (unhide HK)).mono ?_
       rintro e W9 ⟨rfl, q9⟩
       replace q9 := q9.symm
       subst q9
       clear P41
       refine Stp.go ?_))
  constructor
  go_wp2_with (
    first
    | (refine wpLoadA row39 rfl (.tmp 3) rfl g 0 rfl fc (unhide HLF) (unhide HBG).range ?_
       refine Stp.go ?_))
  constructor
  go_wp2_with (
    first
    | (go_at_call 44
       refine (unhide P44 _).mono ?_
       rintro e W2 ⟨rfl, K2⟩
       replace HK := hide ((unhide HK).trans K2)
       replace HBG := hide ((unhide HBG).kept K2 (by simp))
       clear P44 K2
       refine Stp.go ?_))
  constructor
  go_wp2_with fail
  go_ret
  exact ⟨rfl, unhide HK⟩
set_option maxHeartbeats 1000000 in
theorem set19_old (x : Fr) (h : Pg w b mb P L) {q : Nat} (hm : mayF x = true) (hf : P.find x.pg = some q) : Calls Try.prog 19 #[P0 b, aggV x.C] w fun e w' => e = .returned (.int .i64 0) ∧ Pg w' b mb (P.up q ⟨x, (P.S q).pn, true⟩) L ∧ Kept [b] w w' := by
  obtain ⟨fc, hfc⟩ : ∃ c, c = x.C := ⟨_, rfl⟩
  have HLF : Hid (fc.length = 102) := by show _ = _; rw [hfc, Fr.len]
  have HOF : Hid (∀ v ∈ fc, v.oneCell' = true) := by rw [hfc]; exact Fr.one _
  have P44 : Hid (∀ W, Calls Try.prog 44 #[aggV fc] W fun e w' => e = .returned (.bool true) ∧ Kept [] W w') := fun W => by have h9 := isFrame44 x W; rw [hm] at h9; rw [hfc]; exact h9
  have HF0 : Hid (fc[0]? = some (.int .i64 x.pg)) := by rw [hfc]; rfl
  have P41 : Hid (∀ W, Kept [] w W → Calls Try.prog 41 #[P0 b] W fun e w' => e = .returned (.bool false) ∧ w' = W) := fun W hk => none41 W (h.step hk (by simp) (by simp))
  rw [← hfc]
  have hi := Po.find_some hf
  have hi16 : q < 16 := by have := hi.1.1; have := h.ok.m; omega
  have hiI : (q : Int) < 16 := by omega
  have hl := h.wh.look h.ok x.pg
  rw [hf] at hl
  obtain ⟨j, l, h1, h2, _⟩ := hl
  have H1 : Hid (lookV x.pg L = (q : Int)) := by show _ = _; unfold lookV; rw [h1]; exact h2
  have H2 : Hid ((placeOf x.pg L 0).isSome = true) := by show _ = _; rw [h1]; rfl
  obtain ⟨cc, hcc⟩ : ∃ cc : Bool → Bool → List Value, cc = fun d1 d2 => (P.up q ⟨cond d1 x (P.S q).f, (P.S q).pn, cond d2 true (P.S q).us⟩).C (.map (some mb)) := ⟨_, rfl⟩
  have HLC : Hid (∀ d1 d2, (cc d1 d2).length = 1667) := fun d1 d2 => by rw [hcc]; exact Po.len _ _
  have HC00 : Hid (cc false false = P.C (.map (some mb))) := by
    show _ = _
    rw [hcc]
    show (P.up q ⟨(P.S q).f, (P.S q).pn, (P.S q).us⟩).C _ = _
    show Po.C ⟨P.m, P.h, upd P.S q (P.S q)⟩ _ = _
    rw [upd_self]
  have HS39 : Hid (∀ d2 W, Blk W b 70 (cc false d2) → Blk (W.setCells b (q * 104) fc) b 70 (cc true d2)) := fun d2 W hB => by
    rw [hcc] at hB ⊢
    have h9 := Po.frameP hB hi16 x
    rw [Po.up_f] at h9
    rw [hfc]
    have e : upd (P.up q ⟨cond false x (P.S q).f, (P.S q).pn, cond d2 true (P.S q).us⟩).S q ⟨x, (P.S q).pn, cond d2 true (P.S q).us⟩ = upd P.S q ⟨x, (P.S q).pn, cond d2 true (P.S q).us⟩ := by
      funext j
      show (if j = q then _ else (if j = q then _ else P.S j)) = (if j = q then _ else P.S j)
      split <;> rfl
    have h8 : Po.C ⟨P.m, P.h, upd (P.up q ⟨cond false x (P.S q).f, (P.S q).pn, cond d2 true (P.S q).us⟩).S q ⟨x, (P.S q).pn, cond d2 true (P.S q).us⟩⟩ (.map (some mb)) = (P.up q ⟨cond true x (P.S q).f, (P.S q).pn, cond d2 true (P.S q).us⟩).C (.map (some mb)) := by rw [e]; rfl
    show Blk _ b 70 ((P.up q ⟨cond true x (P.S q).f, (P.S q).pn, cond d2 true (P.S q).us⟩).C (.map (some mb)))
    rw [← h8]
    exact h9
  have HS4 : Hid (∀ d1, (cc d1 false).set (q * 104 + 103) (.bool true) = cc d1 true) := fun d1 => by
    rw [hcc]
    have h9 := (P.up q ⟨cond d1 x (P.S q).f, (P.S q).pn, cond false true (P.S q).us⟩).set_up (.map (some mb)) hi16 (show 103 < 104 by omega) (v := .bool true) (x := ⟨cond d1 x (P.S q).f, (P.S q).pn, true⟩) (by rw [Po.up_f]; exact Pl.set_us _ true)
    refine h9.trans ?_
    have e : (P.up q ⟨cond d1 x (P.S q).f, (P.S q).pn, cond false true (P.S q).us⟩).up q ⟨cond d1 x (P.S q).f, (P.S q).pn, true⟩ = P.up q ⟨cond d1 x (P.S q).f, (P.S q).pn, cond true true (P.S q).us⟩ := by
      show Po.mk P.m P.h _ = Po.mk P.m P.h _
      congr 1
      funext j
      show (if j = q then _ else (if j = q then _ else P.S j)) = (if j = q then _ else P.S j)
      split <;> rfl
    rw [e]
  have HCC := hide hcc
  have HMF := hide hm
  have HP := hide h
  have HI := hide hi
  clear hcc hfc h hm hf h1 h2 hi
  go_enter Try.func19, Try.ntmps19
  go_wp2_with (
    first
    | (refine wpBoxV rfl (.tmp 1) rfl fc rfl ?_
       intro W1 g e1 B1 K1
       have HK := hide K1
       have HBG := hide B1
       have HG : Hid (w.heap.size ≤ g) := by show _ ≤ _; omega
       clear e1 B1 K1
       refine Stp.go ?_))
  constructor
  go_wp2_with (
    first
    | (go_at_call 41
       refine (unhide P41 _ (unhide HK)).mono ?_
       rintro e W9 ⟨rfl, q9⟩
       replace q9 := q9.symm
       subst q9
       clear P41
       refine Stp.go ?_))
  constructor
  go_wp2_with (
    first
    | (refine wpLoadA row39 rfl (.tmp 3) rfl g 0 rfl fc (unhide HLF) (unhide HBG).range ?_
       refine Stp.go ?_))
  constructor
  go_wp2_with (
    first
    | (go_at_call 44
       refine (unhide P44 _).mono ?_
       rintro e W2 ⟨rfl, K2⟩
       replace HK := hide ((unhide HK).trans K2)
       replace HBG := hide ((unhide HBG).kept K2 (by simp))
       clear P44 K2
       refine Stp.go ?_))
  constructor
  go_wp2_with fail
  refine wp_region_any mixed (wpAny_gx 12 rfl (by kernel_rfl) [some (P0 b), some (P0 b), some (.pointer (some ⟨b, 1666, none⟩)), some (.map (some mb)), some (P0 g), some (.int .i64 x.pg), some (.tuple #[.int .i64 q, .bool true]), some (.tuple #[.int .i64 q, .bool true]), some (.int .i64 q), some (.bool true), some (.int .i64 q), some (.bool true)] rfl (by kernel_rfl) (fun l vs W => (S0 W2) (fun i => l.getD i false) vs W) ((Kept.refl [] _).drew) ?_ ?_)
  · intro ix o' hi ho a' w2 l vs hls hlf hJ hout hin hdep hnot
    match ix, ho with
    | 0, ho =>
      obtain rfl := Option.some.inj ho
      have e0 := hout 0 (by kernel_rfl)
      replace e0 : a'.eval (.tmp 0) = _ := e0.trans rfl
      exact wp_move (.tmp 0) rfl _ e0 ⟨_, rfl, told_of rfl, keepG (St := (S0 W2)) [] S0.loc (by omega) (by decide) hJ⟩
    | 1, ho =>
      obtain rfl := Option.some.inj ho
      have e0 : a'.eval (.tmp 15) = P0 b := by have h9 := hin 0 15 (by kernel_rfl) (by kernel_rfl); exact h9.1.trans (told_is _ h9.2 rfl)
      exact o_nil (.tmp 15) rfl _ e0 ⟨_, rfl, told_of rfl, keepG (St := (S0 W2)) [] S0.loc (by omega) (by decide) hJ⟩
    | 2, ho =>
      obtain rfl := Option.some.inj ho
      have e0 : a'.eval (.tmp 16) = P0 b := by have h9 := hin 1 16 (by kernel_rfl) (by kernel_rfl); exact h9.1.trans (told_is _ h9.2 rfl)
      exact o_fld70_3 (.tmp 16) rfl b (0) (1666) rfl e0 ⟨_, rfl, told_of rfl, keepG (St := (S0 W2)) [] S0.loc (by omega) (by decide) hJ⟩
    | 3, ho =>
      obtain rfl := Option.some.inj ho
      have e0 : a'.eval (.tmp 17) = .pointer (some ⟨b, 1666, none⟩) := by have h9 := hin 2 17 (by kernel_rfl) (by kernel_rfl); exact h9.1.trans (told_is _ h9.2 rfl)
      exact o_load68 (.tmp 17) rfl _ _ e0 (((unhide HK).trans hJ).cell (unhide HP).cw (by simp)) ⟨_, rfl, told_of rfl, keepG (St := (S0 W2)) [] S0.loc (by omega) (by decide) hJ⟩
    | 4, ho =>
      obtain rfl := Option.some.inj ho
      have e0 := hout 3 (by kernel_rfl)
      replace e0 : a'.eval (.tmp 3) = _ := e0.trans rfl
      exact o_fld39_0 (.tmp 3) rfl g (0) (0) rfl e0 ⟨_, rfl, told_of rfl, keepG (St := (S0 W2)) [] S0.loc (by omega) (by decide) hJ⟩
    | 5, ho =>
      obtain rfl := Option.some.inj ho
      have e0 : a'.eval (.tmp 19) = P0 g := by have h9 := hin 4 19 (by kernel_rfl) (by kernel_rfl); exact h9.1.trans (told_is _ h9.2 rfl)
      exact o_load3 (.tmp 19) rfl _ _ e0 (fits_cell ((unhide HBG).kept hJ (by simp)) 0 _ (unhide HF0)) ⟨_, rfl, told_of rfl, keepG (St := (S0 W2)) [] S0.loc (by omega) (by decide) hJ⟩
    | 6, ho =>
      obtain rfl := Option.some.inj ho
      have e0 : a'.eval (.tmp 18) = .map (some mb) := by have h9 := hin 3 18 (by kernel_rfl) (by kernel_rfl); exact h9.1.trans (told_is _ h9.2 rfl)
      have e1 : a'.eval (.tmp 20) = .int .i64 x.pg := by have h9 := hin 5 20 (by kernel_rfl) (by kernel_rfl); exact h9.1.trans (told_is _ h9.2 rfl)
      exact o_lookU (.tmp 18) (.tmp 20) rfl mb L _ (q) true (unhide H1) (unhide H2) e0 e1 ((unhide HP).map.kept ((unhide HK).trans hJ) (by simp)) ⟨_, rfl, told_of rfl, keepG (St := (S0 W2)) [] S0.loc (by omega) (by decide) hJ⟩
    | 7, ho =>
      obtain rfl := Option.some.inj ho
      have e0 : a'.eval (.tmp 21) = .tuple #[.int .i64 q, .bool true] := by have h9 := hin 6 21 (by kernel_rfl) (by kernel_rfl); exact h9.1.trans (told_is _ h9.2 rfl)
      exact wp_move (.tmp 21) rfl _ e0 ⟨_, rfl, told_of rfl, keepG (St := (S0 W2)) [] S0.loc (by omega) (by decide) hJ⟩
    | 8, ho =>
      obtain rfl := Option.some.inj ho
      have e0 : a'.eval (.tmp 14) = .tuple #[.int .i64 q, .bool true] := by have h9 := hin 7 14 (by kernel_rfl) (by kernel_rfl); exact h9.1.trans (told_is _ h9.2 rfl)
      exact o_ext0 (.tmp 14) rfl _ _ e0 ⟨_, rfl, told_of rfl, keepG (St := (S0 W2)) [] S0.loc (by omega) (by decide) hJ⟩
    | 9, ho =>
      obtain rfl := Option.some.inj ho
      have e0 : a'.eval (.tmp 14) = .tuple #[.int .i64 q, .bool true] := by have h9 := hin 7 14 (by kernel_rfl) (by kernel_rfl); exact h9.1.trans (told_is _ h9.2 rfl)
      exact o_ext1 (.tmp 14) rfl _ _ e0 ⟨_, rfl, told_of rfl, keepG (St := (S0 W2)) [] S0.loc (by omega) (by decide) hJ⟩
    | 10, ho =>
      obtain rfl := Option.some.inj ho
      have e0 : a'.eval (.tmp 22) = .int .i64 q := by have h9 := hin 8 22 (by kernel_rfl) (by kernel_rfl); exact h9.1.trans (told_is _ h9.2 rfl)
      exact wp_assignV (.tmp 22) rfl _ e0 ⟨_, rfl, told_of rfl, keepG (St := (S0 W2)) [] S0.loc (by omega) (by decide) hJ⟩
    | 11, ho =>
      obtain rfl := Option.some.inj ho
      have e0 : a'.eval (.tmp 23) = .bool true := by have h9 := hin 9 23 (by kernel_rfl) (by kernel_rfl); exact h9.1.trans (told_is _ h9.2 rfl)
      exact wp_assignV (.tmp 23) rfl _ e0 ⟨_, rfl, told_of rfl, keepG (St := (S0 W2)) [] S0.loc (by omega) (by decide) hJ⟩
  intro l_ vs4 w9 hl hJ htold
  have t0 : vs4 0 = P0 b := told_is _ (htold 0 (by decide)) rfl
  have t1 : vs4 1 = P0 b := told_is _ (htold 1 (by decide)) rfl
  have t2 : vs4 2 = .pointer (some ⟨b, 1666, none⟩) := told_is _ (htold 2 (by decide)) rfl
  have t3 : vs4 3 = .map (some mb) := told_is _ (htold 3 (by decide)) rfl
  have t4 : vs4 4 = P0 g := told_is _ (htold 4 (by decide)) rfl
  have t5 : vs4 5 = .int .i64 x.pg := told_is _ (htold 5 (by decide)) rfl
  have t6 : vs4 6 = .tuple #[.int .i64 q, .bool true] := told_is _ (htold 6 (by decide)) rfl
  have t7 : vs4 7 = .tuple #[.int .i64 q, .bool true] := told_is _ (htold 7 (by decide)) rfl
  have t8 : vs4 8 = .int .i64 q := told_is _ (htold 8 (by decide)) rfl
  have t9 : vs4 9 = .bool true := told_is _ (htold 9 (by decide)) rfl
  have t10 : vs4 10 = .int .i64 q := told_is _ (htold 10 (by decide)) rfl
  have t11 : vs4 11 = .bool true := told_is _ (htold 11 (by decide)) rfl
  rw [show (List.range 12).map vs4 = [vs4 0, vs4 1, vs4 2, vs4 3, vs4 4, vs4 5, vs4 6, vs4 7, vs4 8, vs4 9, vs4 10, vs4 11] from rfl]
  simp only [t0, t1, t2, t3, t4, t5, t6, t7, t8, t9, t10, t11, putAll, Act.put, List.setIfInBounds_toArray, List.set_cons_succ, List.set_cons_zero]
  clear t0 t1 t2 t3 t4 t5 t6 t7 t8 t9 t10 t11 htold
  have hk9 : Kept [] W2 w9 := hJ
  clear hJ hl
  replace HBG := hide ((unhide HBG).kept hk9 (by simp))
  replace HK := hide ((unhide HK).trans hk9)
  clear hk9
  go_wp2_with fail
  have hbg : b ≠ g := by have h1 := (unhide HP).blk.lt; have h2 := unhide HG; omega
  have M : Hid (Mm [b, g] w9 w9 [(b, 70, cc false false), (g, 39, fc)]) := Mm.two (by rw [unhide HC00]; exact (unhide HP).blk.kept (unhide HK) (by simp)) (unhide HBG) hbg
  clear hbg
  refine wp_region_any mixed (wpAny_gx 15 rfl (by kernel_rfl) [some (P0 b), some (.int .i64 q), some (P0 b), some (.int .i64 q), some (aggV fc), some (P0 b), some (P0 b), some (.pointer (some ⟨b, q * 104, none⟩)), some (.pointer (some ⟨b, q * 104, none⟩)), none, some (P0 b), some (P0 b), some (.pointer (some ⟨b, q * 104, none⟩)), some (.pointer (some ⟨b, q * 104 + 103, none⟩)), none] rfl (by kernel_rfl) (fun l vs W => (SD2 [b, g] w9 (fun d1 d2 => [(b, 70, cc d1 d2), (g, 39, fc)]) 9 14) (fun i => l.getD i false) vs W) ((unhide M).drew) ?_ ?_)
  · intro ix o' hi ho a' w2 l vs hls hlf hJ hout hin hdep hnot
    match ix, ho with
    | 0, ho =>
      obtain rfl := Option.some.inj ho
      have e0 := hout 0 (by kernel_rfl)
      replace e0 : a'.eval (.tmp 0) = _ := e0.trans rfl
      exact wp_move (.tmp 0) rfl _ e0 ⟨_, rfl, told_of rfl, keepG (St := (SD2 [b, g] w9 (fun d1 d2 => [(b, 70, cc d1 d2), (g, 39, fc)]) 9 14)) [9, 14] SD2.loc (by omega) (by decide) hJ⟩
    | 1, ho =>
      obtain rfl := Option.some.inj ho
      have e0 := hout 5 (by kernel_rfl)
      replace e0 : a'.eval (.tmp 5) = _ := e0.trans rfl
      exact wp_move (.tmp 5) rfl _ e0 ⟨_, rfl, told_of rfl, keepG (St := (SD2 [b, g] w9 (fun d1 d2 => [(b, 70, cc d1 d2), (g, 39, fc)]) 9 14)) [9, 14] SD2.loc (by omega) (by decide) hJ⟩
    | 2, ho =>
      obtain rfl := Option.some.inj ho
      have e0 := hout 0 (by kernel_rfl)
      replace e0 : a'.eval (.tmp 0) = _ := e0.trans rfl
      exact wp_move (.tmp 0) rfl _ e0 ⟨_, rfl, told_of rfl, keepG (St := (SD2 [b, g] w9 (fun d1 d2 => [(b, 70, cc d1 d2), (g, 39, fc)]) 9 14)) [9, 14] SD2.loc (by omega) (by decide) hJ⟩
    | 3, ho =>
      obtain rfl := Option.some.inj ho
      have e0 := hout 5 (by kernel_rfl)
      replace e0 : a'.eval (.tmp 5) = _ := e0.trans rfl
      exact wp_move (.tmp 5) rfl _ e0 ⟨_, rfl, told_of rfl, keepG (St := (SD2 [b, g] w9 (fun d1 d2 => [(b, 70, cc d1 d2), (g, 39, fc)]) 9 14)) [9, 14] SD2.loc (by omega) (by decide) hJ⟩
    | 4, ho =>
      obtain rfl := Option.some.inj ho
      have e0 := hout 3 (by kernel_rfl)
      replace e0 : a'.eval (.tmp 3) = _ := e0.trans rfl
      exact wp_loadA row39 (.tmp 3) rfl g (0) e0 (fc) (unhide HLF) ((Mm.at hJ 1 _ rfl).range) ⟨_, rfl, told_of rfl, keepG (St := (SD2 [b, g] w9 (fun d1 d2 => [(b, 70, cc d1 d2), (g, 39, fc)]) 9 14)) [9, 14] SD2.loc (by omega) (by decide) hJ⟩
    | 5, ho =>
      obtain rfl := Option.some.inj ho
      have e0 : a'.eval (.tmp 41) = P0 b := by have h9 := hin 0 41 (by kernel_rfl) (by kernel_rfl); exact h9.1.trans (told_is _ h9.2 rfl)
      exact o_nil (.tmp 41) rfl _ e0 ⟨_, rfl, told_of rfl, keepG (St := (SD2 [b, g] w9 (fun d1 d2 => [(b, 70, cc d1 d2), (g, 39, fc)]) 9 14)) [9, 14] SD2.loc (by omega) (by decide) hJ⟩
    | 6, ho =>
      obtain rfl := Option.some.inj ho
      have e0 : a'.eval (.tmp 46) = P0 b := by have h9 := hin 5 46 (by kernel_rfl) (by kernel_rfl); exact h9.1.trans (told_is _ h9.2 rfl)
      exact o_fld70_0 (.tmp 46) rfl b (0) (0) rfl e0 ⟨_, rfl, told_of rfl, keepG (St := (SD2 [b, g] w9 (fun d1 d2 => [(b, 70, cc d1 d2), (g, 39, fc)]) 9 14)) [9, 14] SD2.loc (by omega) (by decide) hJ⟩
    | 7, ho =>
      obtain rfl := Option.some.inj ho
      have e0 : a'.eval (.tmp 47) = P0 b := by have h9 := hin 6 47 (by kernel_rfl) (by kernel_rfl); exact h9.1.trans (told_is _ h9.2 rfl)
      have e1 : a'.eval (.tmp 42) = .int .i64 q := by have h9 := hin 1 42 (by kernel_rfl) (by kernel_rfl); exact h9.1.trans (told_is _ h9.2 rfl)
      exact o_idx67 (.tmp 47) (.tmp 42) rfl b 0 q (q * 104) (by omega) (by omega) e0 e1 ⟨_, rfl, told_of rfl, keepG (St := (SD2 [b, g] w9 (fun d1 d2 => [(b, 70, cc d1 d2), (g, 39, fc)]) 9 14)) [9, 14] SD2.loc (by omega) (by decide) hJ⟩
    | 8, ho =>
      obtain rfl := Option.some.inj ho
      have e0 : a'.eval (.tmp 48) = .pointer (some ⟨b, q * 104, none⟩) := by have h9 := hin 7 48 (by kernel_rfl) (by kernel_rfl); exact h9.1.trans (told_is _ h9.2 rfl)
      exact o_fld66_0 (.tmp 48) rfl b (q * 104) (q * 104) rfl e0 ⟨_, rfl, told_of rfl, keepG (St := (SD2 [b, g] w9 (fun d1 d2 => [(b, 70, cc d1 d2), (g, 39, fc)]) 9 14)) [9, 14] SD2.loc (by omega) (by decide) hJ⟩
    | 9, ho =>
      obtain rfl := Option.some.inj ho
      have e0 : a'.eval (.tmp 49) = .pointer (some ⟨b, q * 104, none⟩) := by have h9 := hin 8 49 (by kernel_rfl) (by kernel_rfl); exact h9.1.trans (told_is _ h9.2 rfl)
      have e1 : a'.eval (.tmp 45) = aggV fc := by have h9 := hin 4 45 (by kernel_rfl) (by kernel_rfl); exact h9.1.trans (told_is _ h9.2 rfl)
      exact o_stN row39 (.tmp 49) (.tmp 45) rfl rfl b (q * 104) 0 fc e0 e1 (unhide HLF) (unhide HOF) (SD2.no hJ hlf) rfl (by have := unhide HLC; rw [this]; omega) (unhide HS39 _) (fun W hM => ⟨undef, rfl, told_no rfl, nextG (St := (SD2 [b, g] w9 (fun d1 d2 => [(b, 70, cc d1 d2), (g, 39, fc)]) 9 14)) (by omega) hM⟩)
    | 10, ho =>
      obtain rfl := Option.some.inj ho
      have e0 : a'.eval (.tmp 43) = P0 b := by have h9 := hin 2 43 (by kernel_rfl) (by kernel_rfl); exact h9.1.trans (told_is _ h9.2 rfl)
      exact o_nil (.tmp 43) rfl _ e0 ⟨_, rfl, told_of rfl, keepG (St := (SD2 [b, g] w9 (fun d1 d2 => [(b, 70, cc d1 d2), (g, 39, fc)]) 9 14)) [9, 14] SD2.loc (by omega) (by decide) hJ⟩
    | 11, ho =>
      obtain rfl := Option.some.inj ho
      have e0 : a'.eval (.tmp 50) = P0 b := by have h9 := hin 10 50 (by kernel_rfl) (by kernel_rfl); exact h9.1.trans (told_is _ h9.2 rfl)
      exact o_fld70_0 (.tmp 50) rfl b (0) (0) rfl e0 ⟨_, rfl, told_of rfl, keepG (St := (SD2 [b, g] w9 (fun d1 d2 => [(b, 70, cc d1 d2), (g, 39, fc)]) 9 14)) [9, 14] SD2.loc (by omega) (by decide) hJ⟩
    | 12, ho =>
      obtain rfl := Option.some.inj ho
      have e0 : a'.eval (.tmp 51) = P0 b := by have h9 := hin 11 51 (by kernel_rfl) (by kernel_rfl); exact h9.1.trans (told_is _ h9.2 rfl)
      have e1 : a'.eval (.tmp 44) = .int .i64 q := by have h9 := hin 3 44 (by kernel_rfl) (by kernel_rfl); exact h9.1.trans (told_is _ h9.2 rfl)
      exact o_idx67 (.tmp 51) (.tmp 44) rfl b 0 q (q * 104) (by omega) (by omega) e0 e1 ⟨_, rfl, told_of rfl, keepG (St := (SD2 [b, g] w9 (fun d1 d2 => [(b, 70, cc d1 d2), (g, 39, fc)]) 9 14)) [9, 14] SD2.loc (by omega) (by decide) hJ⟩
    | 13, ho =>
      obtain rfl := Option.some.inj ho
      have e0 : a'.eval (.tmp 52) = .pointer (some ⟨b, q * 104, none⟩) := by have h9 := hin 12 52 (by kernel_rfl) (by kernel_rfl); exact h9.1.trans (told_is _ h9.2 rfl)
      exact o_fld66_2 (.tmp 52) rfl b (q * 104) (q * 104 + 103) rfl e0 ⟨_, rfl, told_of rfl, keepG (St := (SD2 [b, g] w9 (fun d1 d2 => [(b, 70, cc d1 d2), (g, 39, fc)]) 9 14)) [9, 14] SD2.loc (by omega) (by decide) hJ⟩
    | 14, ho =>
      obtain rfl := Option.some.inj ho
      have e0 : a'.eval (.tmp 53) = .pointer (some ⟨b, q * 104 + 103, none⟩) := by have h9 := hin 13 53 (by kernel_rfl) (by kernel_rfl); exact h9.1.trans (told_is _ h9.2 rfl)
      exact o_st1 size4 (.tmp 53) (.const (.bool true)) rfl rfl b (q * 104 + 103) 0 (.bool true) ⟨rfl, rfl⟩ e0 rfl (SD2.no2 hJ hlf) rfl (by have := unhide HLC; rw [this]; omega) (unhide HS4 _) (fun W hM => ⟨undef, rfl, told_no rfl, nextG (St := (SD2 [b, g] w9 (fun d1 d2 => [(b, 70, cc d1 d2), (g, 39, fc)]) 9 14)) (by omega) hM⟩)
  intro l_ vs4 V4 hl hJ htold
  have t0 : vs4 0 = P0 b := told_is _ (htold 0 (by decide)) rfl
  have t1 : vs4 1 = .int .i64 q := told_is _ (htold 1 (by decide)) rfl
  have t2 : vs4 2 = P0 b := told_is _ (htold 2 (by decide)) rfl
  have t3 : vs4 3 = .int .i64 q := told_is _ (htold 3 (by decide)) rfl
  have t4 : vs4 4 = aggV fc := told_is _ (htold 4 (by decide)) rfl
  have t5 : vs4 5 = P0 b := told_is _ (htold 5 (by decide)) rfl
  have t6 : vs4 6 = P0 b := told_is _ (htold 6 (by decide)) rfl
  have t7 : vs4 7 = .pointer (some ⟨b, q * 104, none⟩) := told_is _ (htold 7 (by decide)) rfl
  have t8 : vs4 8 = .pointer (some ⟨b, q * 104, none⟩) := told_is _ (htold 8 (by decide)) rfl
  have t10 : vs4 10 = P0 b := told_is _ (htold 10 (by decide)) rfl
  have t11 : vs4 11 = P0 b := told_is _ (htold 11 (by decide)) rfl
  have t12 : vs4 12 = .pointer (some ⟨b, q * 104, none⟩) := told_is _ (htold 12 (by decide)) rfl
  have t13 : vs4 13 = .pointer (some ⟨b, q * 104 + 103, none⟩) := told_is _ (htold 13 (by decide)) rfl
  rw [show (List.range 15).map vs4 = [vs4 0, vs4 1, vs4 2, vs4 3, vs4 4, vs4 5, vs4 6, vs4 7, vs4 8, vs4 9, vs4 10, vs4 11, vs4 12, vs4 13, vs4 14] from rfl]
  simp only [t0, t1, t2, t3, t4, t5, t6, t7, t8, t10, t11, t12, t13, putAll, Act.put, List.setIfInBounds_toArray, List.set_cons_succ, List.set_cons_zero]
  clear t0 t1 t2 t3 t4 t5 t6 t7 t8 t10 t11 t12 t13 htold
  have hM4 : Mm [b, g] w9 V4 ([(b, 70, cc true true), (g, 39, fc)]) := SD2.yes hJ (hl 9 (by decide)) (hl 14 (by decide))
  replace M : Hid (Mm [b, g] w9 V4 [(b, 70, cc true true), (g, 39, fc)]) := hide hM4
  clear hM4 hJ hl
  go_wp2_with fail
  go_ret
  have kk : Kept [b] w V4 := ⟨(unhide M).kept.os.trans (unhide HK).os, (unhide M).kept.tape.trans (unhide HK).tape, (unhide M).kept.output.trans (unhide HK).output, Nat.le_trans (unhide HK).size (unhide M).kept.size, fun k hl hx => by
    rw [(unhide M).kept.block k (Nat.lt_of_lt_of_le hl (unhide HK).size) (by simp at hx; simp; refine ⟨hx, fun e => ?_⟩; have := unhide HG; omega), (unhide HK).block k hl (by simp)]⟩
  have hM : MapAt V4 mb L := (unhide HP).map.kept kk (by have := (unhide HP).ne; simp; exact fun e => this e.symm)
  have h9 : Pg _ b mb (P.up q ⟨x, (P.S q).pn, true⟩) L := ⟨by rw [show (P.up q ⟨x, (P.S q).pn, true⟩).C (.map (some mb)) = cc true true from by rw [unhide HCC]; rfl]; exact (unhide M).at 0 _ rfl, hM, Po.up_okN (unhide HP).ok (unhide HI).1.1 (unhide HMF) (fun j hj e => (unhide HP).ok.un j q hj (unhide HI).1 (by rw [e, (unhide HI).2])), (unhide HP).wh.old (unhide HI).1 (by have := (mayF_pg (unhide HMF)).2; show ¬ x.md = 0; omega) (unhide HI).2.symm⟩
  exact ⟨rfl, h9, kk⟩
/-- An entry that is laid inside a drawn region. -/
structure SMp (w0 : World) (mb : Nat) (L : List En) (e : En) (k : Nat) (d : Nat → Bool) (_vs : Nat → Value) (W : World) : Prop where
  kept : Kept [mb] w0 W
  n1 : d k = false → MapAt W mb L
  n2 : d k = true → MapAt W mb (L ++ [e])
theorem SMp.loc {w0 : World} {mb : Nat} {L : List En} {e : En} {k : Nat} : ∀ d d' vs vs' W, (∀ i ∈ [k], d i = d' i ∧ vs i = vs' i) → SMp w0 mb L e k d vs W → SMp w0 mb L e k d' vs' W := by
  intro d d' vs vs' W H h
  have h1 := (H k (by simp)).1
  exact ⟨h.kept, by rw [← h1]; exact h.n1, by rw [← h1]; exact h.n2⟩
theorem SMp.up {w0 W W' : World} {mb : Nat} {L : List En} {e : En} {k : Nat} {d : Nat → Bool} {vs : Nat → Value} {v : Value} (h : SMp w0 mb L e k d vs W) (hk : Kept [mb] W W') (hM : MapAt W' mb (L ++ [e])) : SMp w0 mb L e k (fun i => if i = k then true else d i) (fun i => if i = k then v else vs i) W' :=
  ⟨h.kept.trans hk, fun h1 => by simp at h1, fun _ => hM⟩
set_option maxHeartbeats 1000000 in
theorem set19_full (x : Fr) (h : Pg w b mb P L) (hm : mayF x = true) (hf : P.find x.pg = none) (hq : lowTo P.S P.m = P.m) : Calls Try.prog 19 #[P0 b, aggV x.C] w fun e w' => e = .returned (.int .i64 5) ∧ Kept [] w w' := by
  obtain ⟨fc, hfc⟩ : ∃ c, c = x.C := ⟨_, rfl⟩
  have HLF : Hid (fc.length = 102) := by show _ = _; rw [hfc, Fr.len]
  have HOF : Hid (∀ v ∈ fc, v.oneCell' = true) := by rw [hfc]; exact Fr.one _
  have P44 : Hid (∀ W, Calls Try.prog 44 #[aggV fc] W fun e w' => e = .returned (.bool true) ∧ Kept [] W w') := fun W => by have h9 := isFrame44 x W; rw [hm] at h9; rw [hfc]; exact h9
  have HF0 : Hid (fc[0]? = some (.int .i64 x.pg)) := by rw [hfc]; rfl
  have P41 : Hid (∀ W, Kept [] w W → Calls Try.prog 41 #[P0 b] W fun e w' => e = .returned (.bool false) ∧ w' = W) := fun W hk => none41 W (h.step hk (by simp) (by simp))
  rw [← hfc]
  have hl := h.wh.look h.ok x.pg
  rw [hf] at hl
  have H1 : Hid (lookV x.pg L = 0) := by show _ = _; unfold lookV; rw [hl]
  have H2 : Hid ((placeOf x.pg L 0).isSome = false) := by show _ = _; rw [hl]; rfl
  have HP := hide h
  have HQ := hide hq
  clear hl hfc h hm hf hq
  go_enter Try.func19, Try.ntmps19
  go_wp2_with (
    first
    | (refine wpBoxV rfl (.tmp 1) rfl fc rfl ?_
       intro W1 g e1 B1 K1
       have HK := hide K1
       have HBG := hide B1
       have HG : Hid (w.heap.size ≤ g) := by show _ ≤ _; omega
       clear e1 B1 K1
       refine Stp.go ?_))
  constructor
  go_wp2_with (
    first
    | (go_at_call 41
       refine (unhide P41 _ (unhide HK)).mono ?_
       rintro e W9 ⟨rfl, q9⟩
       replace q9 := q9.symm
       subst q9
       clear P41
       refine Stp.go ?_))
  constructor
  go_wp2_with (
    first
    | (refine wpLoadA row39 rfl (.tmp 3) rfl g 0 rfl fc (unhide HLF) (unhide HBG).range ?_
       refine Stp.go ?_))
  constructor
  go_wp2_with (
    first
    | (go_at_call 44
       refine (unhide P44 _).mono ?_
       rintro e W2 ⟨rfl, K2⟩
       replace HK := hide ((unhide HK).trans K2)
       replace HBG := hide ((unhide HBG).kept K2 (by simp))
       clear P44 K2
       refine Stp.go ?_))
  constructor
  go_wp2_with fail
  refine wp_region_any mixed (wpAny_gx 12 rfl (by kernel_rfl) [some (P0 b), some (P0 b), some (.pointer (some ⟨b, 1666, none⟩)), some (.map (some mb)), some (P0 g), some (.int .i64 x.pg), some (.tuple #[.int .i64 0, .bool false]), some (.tuple #[.int .i64 0, .bool false]), some (.int .i64 0), some (.bool false), some (.int .i64 0), some (.bool false)] rfl (by kernel_rfl) (fun l vs W => (S0 W2) (fun i => l.getD i false) vs W) ((Kept.refl [] _).drew) ?_ ?_)
  · intro ix o' hi ho a' w2 l vs hls hlf hJ hout hin hdep hnot
    match ix, ho with
    | 0, ho =>
      obtain rfl := Option.some.inj ho
      have e0 := hout 0 (by kernel_rfl)
      replace e0 : a'.eval (.tmp 0) = _ := e0.trans rfl
      exact wp_move (.tmp 0) rfl _ e0 ⟨_, rfl, told_of rfl, keepG (St := (S0 W2)) [] S0.loc (by omega) (by decide) hJ⟩
    | 1, ho =>
      obtain rfl := Option.some.inj ho
      have e0 : a'.eval (.tmp 15) = P0 b := by have h9 := hin 0 15 (by kernel_rfl) (by kernel_rfl); exact h9.1.trans (told_is _ h9.2 rfl)
      exact o_nil (.tmp 15) rfl _ e0 ⟨_, rfl, told_of rfl, keepG (St := (S0 W2)) [] S0.loc (by omega) (by decide) hJ⟩
    | 2, ho =>
      obtain rfl := Option.some.inj ho
      have e0 : a'.eval (.tmp 16) = P0 b := by have h9 := hin 1 16 (by kernel_rfl) (by kernel_rfl); exact h9.1.trans (told_is _ h9.2 rfl)
      exact o_fld70_3 (.tmp 16) rfl b (0) (1666) rfl e0 ⟨_, rfl, told_of rfl, keepG (St := (S0 W2)) [] S0.loc (by omega) (by decide) hJ⟩
    | 3, ho =>
      obtain rfl := Option.some.inj ho
      have e0 : a'.eval (.tmp 17) = .pointer (some ⟨b, 1666, none⟩) := by have h9 := hin 2 17 (by kernel_rfl) (by kernel_rfl); exact h9.1.trans (told_is _ h9.2 rfl)
      exact o_load68 (.tmp 17) rfl _ _ e0 (((unhide HK).trans hJ).cell (unhide HP).cw (by simp)) ⟨_, rfl, told_of rfl, keepG (St := (S0 W2)) [] S0.loc (by omega) (by decide) hJ⟩
    | 4, ho =>
      obtain rfl := Option.some.inj ho
      have e0 := hout 3 (by kernel_rfl)
      replace e0 : a'.eval (.tmp 3) = _ := e0.trans rfl
      exact o_fld39_0 (.tmp 3) rfl g (0) (0) rfl e0 ⟨_, rfl, told_of rfl, keepG (St := (S0 W2)) [] S0.loc (by omega) (by decide) hJ⟩
    | 5, ho =>
      obtain rfl := Option.some.inj ho
      have e0 : a'.eval (.tmp 19) = P0 g := by have h9 := hin 4 19 (by kernel_rfl) (by kernel_rfl); exact h9.1.trans (told_is _ h9.2 rfl)
      exact o_load3 (.tmp 19) rfl _ _ e0 (fits_cell ((unhide HBG).kept hJ (by simp)) 0 _ (unhide HF0)) ⟨_, rfl, told_of rfl, keepG (St := (S0 W2)) [] S0.loc (by omega) (by decide) hJ⟩
    | 6, ho =>
      obtain rfl := Option.some.inj ho
      have e0 : a'.eval (.tmp 18) = .map (some mb) := by have h9 := hin 3 18 (by kernel_rfl) (by kernel_rfl); exact h9.1.trans (told_is _ h9.2 rfl)
      have e1 : a'.eval (.tmp 20) = .int .i64 x.pg := by have h9 := hin 5 20 (by kernel_rfl) (by kernel_rfl); exact h9.1.trans (told_is _ h9.2 rfl)
      exact o_lookU (.tmp 18) (.tmp 20) rfl mb L _ (0) false (unhide H1) (unhide H2) e0 e1 ((unhide HP).map.kept ((unhide HK).trans hJ) (by simp)) ⟨_, rfl, told_of rfl, keepG (St := (S0 W2)) [] S0.loc (by omega) (by decide) hJ⟩
    | 7, ho =>
      obtain rfl := Option.some.inj ho
      have e0 : a'.eval (.tmp 21) = .tuple #[.int .i64 0, .bool false] := by have h9 := hin 6 21 (by kernel_rfl) (by kernel_rfl); exact h9.1.trans (told_is _ h9.2 rfl)
      exact wp_move (.tmp 21) rfl _ e0 ⟨_, rfl, told_of rfl, keepG (St := (S0 W2)) [] S0.loc (by omega) (by decide) hJ⟩
    | 8, ho =>
      obtain rfl := Option.some.inj ho
      have e0 : a'.eval (.tmp 14) = .tuple #[.int .i64 0, .bool false] := by have h9 := hin 7 14 (by kernel_rfl) (by kernel_rfl); exact h9.1.trans (told_is _ h9.2 rfl)
      exact o_ext0 (.tmp 14) rfl _ _ e0 ⟨_, rfl, told_of rfl, keepG (St := (S0 W2)) [] S0.loc (by omega) (by decide) hJ⟩
    | 9, ho =>
      obtain rfl := Option.some.inj ho
      have e0 : a'.eval (.tmp 14) = .tuple #[.int .i64 0, .bool false] := by have h9 := hin 7 14 (by kernel_rfl) (by kernel_rfl); exact h9.1.trans (told_is _ h9.2 rfl)
      exact o_ext1 (.tmp 14) rfl _ _ e0 ⟨_, rfl, told_of rfl, keepG (St := (S0 W2)) [] S0.loc (by omega) (by decide) hJ⟩
    | 10, ho =>
      obtain rfl := Option.some.inj ho
      have e0 : a'.eval (.tmp 22) = .int .i64 0 := by have h9 := hin 8 22 (by kernel_rfl) (by kernel_rfl); exact h9.1.trans (told_is _ h9.2 rfl)
      exact wp_assignV (.tmp 22) rfl _ e0 ⟨_, rfl, told_of rfl, keepG (St := (S0 W2)) [] S0.loc (by omega) (by decide) hJ⟩
    | 11, ho =>
      obtain rfl := Option.some.inj ho
      have e0 : a'.eval (.tmp 23) = .bool false := by have h9 := hin 9 23 (by kernel_rfl) (by kernel_rfl); exact h9.1.trans (told_is _ h9.2 rfl)
      exact wp_assignV (.tmp 23) rfl _ e0 ⟨_, rfl, told_of rfl, keepG (St := (S0 W2)) [] S0.loc (by omega) (by decide) hJ⟩
  intro l_ vs4 w9 hl hJ htold
  have t0 : vs4 0 = P0 b := told_is _ (htold 0 (by decide)) rfl
  have t1 : vs4 1 = P0 b := told_is _ (htold 1 (by decide)) rfl
  have t2 : vs4 2 = .pointer (some ⟨b, 1666, none⟩) := told_is _ (htold 2 (by decide)) rfl
  have t3 : vs4 3 = .map (some mb) := told_is _ (htold 3 (by decide)) rfl
  have t4 : vs4 4 = P0 g := told_is _ (htold 4 (by decide)) rfl
  have t5 : vs4 5 = .int .i64 x.pg := told_is _ (htold 5 (by decide)) rfl
  have t6 : vs4 6 = .tuple #[.int .i64 0, .bool false] := told_is _ (htold 6 (by decide)) rfl
  have t7 : vs4 7 = .tuple #[.int .i64 0, .bool false] := told_is _ (htold 7 (by decide)) rfl
  have t8 : vs4 8 = .int .i64 0 := told_is _ (htold 8 (by decide)) rfl
  have t9 : vs4 9 = .bool false := told_is _ (htold 9 (by decide)) rfl
  have t10 : vs4 10 = .int .i64 0 := told_is _ (htold 10 (by decide)) rfl
  have t11 : vs4 11 = .bool false := told_is _ (htold 11 (by decide)) rfl
  rw [show (List.range 12).map vs4 = [vs4 0, vs4 1, vs4 2, vs4 3, vs4 4, vs4 5, vs4 6, vs4 7, vs4 8, vs4 9, vs4 10, vs4 11] from rfl]
  simp only [t0, t1, t2, t3, t4, t5, t6, t7, t8, t9, t10, t11, putAll, Act.put, List.setIfInBounds_toArray, List.set_cons_succ, List.set_cons_zero]
  clear t0 t1 t2 t3 t4 t5 t6 t7 t8 t9 t10 t11 htold
  have hk9 : Kept [] W2 w9 := hJ
  clear hJ hl
  replace HBG := hide ((unhide HBG).kept hk9 (by simp))
  replace HK := hide ((unhide HK).trans hk9)
  clear hk9
  have cm9 : w9.cell? ⟨b, 1664, none⟩ = some (.int .i64 (P.m : Int)) := (unhide HK).cell (unhide HP).cm (by simp)
  go_wp2_with (
    first
    | (go_at_call 45
       refine (lowest45 ((unhide HP).step (unhide HK) (by simp) (by simp))).mono ?_
       rintro e W9 ⟨rfl, q9⟩
       rw [unhide HQ]
       replace q9 := q9.symm
       subst q9
       refine Stp.go ?_))
  constructor
  go_wp2_with fail
  go_ret
  exact ⟨rfl, unhide HK⟩
set_option maxHeartbeats 2000000 in
theorem set19_new (x : Fr) (h : Pg w b mb P L) {q : Nat} (hm : mayF x = true) (hf : P.find x.pg = none) (hq : lowTo P.S P.m = q) (hqm : q < P.m) : Calls Try.prog 19 #[P0 b, aggV x.C] w fun e w' => e = .returned (.int .i64 0) ∧ Pg w' b mb (P.up q ⟨x, (P.S q).pn, true⟩) (L ++ [⟨x.pg, (q : Int)⟩]) ∧ Kept [b, mb] w w' := by
  obtain ⟨fc, hfc⟩ : ∃ c, c = x.C := ⟨_, rfl⟩
  have HLF : Hid (fc.length = 102) := by show _ = _; rw [hfc, Fr.len]
  have HOF : Hid (∀ v ∈ fc, v.oneCell' = true) := by rw [hfc]; exact Fr.one _
  have P44 : Hid (∀ W, Calls Try.prog 44 #[aggV fc] W fun e w' => e = .returned (.bool true) ∧ Kept [] W w') := fun W => by have h9 := isFrame44 x W; rw [hm] at h9; rw [hfc]; exact h9
  have HF0 : Hid (fc[0]? = some (.int .i64 x.pg)) := by rw [hfc]; rfl
  have P41 : Hid (∀ W, Kept [] w W → Calls Try.prog 41 #[P0 b] W fun e w' => e = .returned (.bool false) ∧ w' = W) := fun W hk => none41 W (h.step hk (by simp) (by simp))
  rw [← hfc]
  have hl := h.wh.look h.ok x.pg
  rw [hf] at hl
  have H1 : Hid (lookV x.pg L = 0) := by show _ = _; unfold lookV; rw [hl]
  have H2 : Hid ((placeOf x.pg L 0).isSome = false) := by show _ = _; rw [hl]; rfl
  have hi16 : q < 16 := by have := h.ok.m; omega
  have hiI : (q : Int) < 16 := by omega
  have hz : (P.S q).f.md = 0 := by have h9 := (lowTo_spec P.S P.m).2.2; rw [hq] at h9; exact h9 hqm
  obtain ⟨cc, hcc⟩ : ∃ cc : Bool → Bool → List Value, cc = fun d1 d2 => (P.up q ⟨cond d1 x (P.S q).f, (P.S q).pn, cond d2 true (P.S q).us⟩).C (.map (some mb)) := ⟨_, rfl⟩
  have HLC : Hid (∀ d1 d2, (cc d1 d2).length = 1667) := fun d1 d2 => by rw [hcc]; exact Po.len _ _
  have HC00 : Hid (cc false false = P.C (.map (some mb))) := by
    show _ = _
    rw [hcc]
    show (P.up q ⟨(P.S q).f, (P.S q).pn, (P.S q).us⟩).C _ = _
    show Po.C ⟨P.m, P.h, upd P.S q (P.S q)⟩ _ = _
    rw [upd_self]
  have HS39 : Hid (∀ d2 W, Blk W b 70 (cc false d2) → Blk (W.setCells b (q * 104) fc) b 70 (cc true d2)) := fun d2 W hB => by
    rw [hcc] at hB ⊢
    have h9 := Po.frameP hB hi16 x
    rw [Po.up_f] at h9
    rw [hfc]
    have e : upd (P.up q ⟨cond false x (P.S q).f, (P.S q).pn, cond d2 true (P.S q).us⟩).S q ⟨x, (P.S q).pn, cond d2 true (P.S q).us⟩ = upd P.S q ⟨x, (P.S q).pn, cond d2 true (P.S q).us⟩ := by
      funext j
      show (if j = q then _ else (if j = q then _ else P.S j)) = (if j = q then _ else P.S j)
      split <;> rfl
    have h8 : Po.C ⟨P.m, P.h, upd (P.up q ⟨cond false x (P.S q).f, (P.S q).pn, cond d2 true (P.S q).us⟩).S q ⟨x, (P.S q).pn, cond d2 true (P.S q).us⟩⟩ (.map (some mb)) = (P.up q ⟨cond true x (P.S q).f, (P.S q).pn, cond d2 true (P.S q).us⟩).C (.map (some mb)) := by rw [e]; rfl
    show Blk _ b 70 ((P.up q ⟨cond true x (P.S q).f, (P.S q).pn, cond d2 true (P.S q).us⟩).C (.map (some mb)))
    rw [← h8]
    exact h9
  have HS4 : Hid (∀ d1, (cc d1 false).set (q * 104 + 103) (.bool true) = cc d1 true) := fun d1 => by
    rw [hcc]
    have h9 := (P.up q ⟨cond d1 x (P.S q).f, (P.S q).pn, cond false true (P.S q).us⟩).set_up (.map (some mb)) hi16 (show 103 < 104 by omega) (v := .bool true) (x := ⟨cond d1 x (P.S q).f, (P.S q).pn, true⟩) (by rw [Po.up_f]; exact Pl.set_us _ true)
    refine h9.trans ?_
    have e : (P.up q ⟨cond d1 x (P.S q).f, (P.S q).pn, cond false true (P.S q).us⟩).up q ⟨cond d1 x (P.S q).f, (P.S q).pn, true⟩ = P.up q ⟨cond d1 x (P.S q).f, (P.S q).pn, cond true true (P.S q).us⟩ := by
      show Po.mk P.m P.h _ = Po.mk P.m P.h _
      congr 1
      funext j
      show (if j = q then _ else (if j = q then _ else P.S j)) = (if j = q then _ else P.S j)
      split <;> rfl
    rw [e]
  have HCC := hide hcc
  have HMF := hide hm
  have HP := hide h
  have HQ := hide hq
  have HN := hide hl
  have HZ := hide hz
  have HQM := hide hqm
  have HNF := hide hf
  have e1 : ((q : Int) == (P.m : Int)) = false := by simp; omega
  have e2 : decide ((q : Int) = (P.m : Int)) = false := by simp; omega
  clear hcc hl hfc h hm hf hq hz
  go_enter Try.func19, Try.ntmps19
  go_wp2_with (
    first
    | (refine wpBoxV rfl (.tmp 1) rfl fc rfl ?_
       intro W1 g e1 B1 K1
       have HK := hide K1
       have HBG := hide B1
       have HG : Hid (w.heap.size ≤ g) := by show _ ≤ _; omega
       clear e1 B1 K1
       refine Stp.go ?_))
  constructor
  go_wp2_with (
    first
    | (go_at_call 41
       refine (unhide P41 _ (unhide HK)).mono ?_
       rintro e W9 ⟨rfl, q9⟩
       replace q9 := q9.symm
       subst q9
       clear P41
       refine Stp.go ?_))
  constructor
  go_wp2_with (
    first
    | (refine wpLoadA row39 rfl (.tmp 3) rfl g 0 rfl fc (unhide HLF) (unhide HBG).range ?_
       refine Stp.go ?_))
  constructor
  go_wp2_with (
    first
    | (go_at_call 44
       refine (unhide P44 _).mono ?_
       rintro e W2 ⟨rfl, K2⟩
       replace HK := hide ((unhide HK).trans K2)
       replace HBG := hide ((unhide HBG).kept K2 (by simp))
       clear P44 K2
       refine Stp.go ?_))
  constructor
  go_wp2_with fail
  refine wp_region_any mixed (wpAny_gx 12 rfl (by kernel_rfl) [some (P0 b), some (P0 b), some (.pointer (some ⟨b, 1666, none⟩)), some (.map (some mb)), some (P0 g), some (.int .i64 x.pg), some (.tuple #[.int .i64 0, .bool false]), some (.tuple #[.int .i64 0, .bool false]), some (.int .i64 0), some (.bool false), some (.int .i64 0), some (.bool false)] rfl (by kernel_rfl) (fun l vs W => (S0 W2) (fun i => l.getD i false) vs W) ((Kept.refl [] _).drew) ?_ ?_)
  · intro ix o' hi ho a' w2 l vs hls hlf hJ hout hin hdep hnot
    match ix, ho with
    | 0, ho =>
      obtain rfl := Option.some.inj ho
      have e0 := hout 0 (by kernel_rfl)
      replace e0 : a'.eval (.tmp 0) = _ := e0.trans rfl
      exact wp_move (.tmp 0) rfl _ e0 ⟨_, rfl, told_of rfl, keepG (St := (S0 W2)) [] S0.loc (by omega) (by decide) hJ⟩
    | 1, ho =>
      obtain rfl := Option.some.inj ho
      have e0 : a'.eval (.tmp 15) = P0 b := by have h9 := hin 0 15 (by kernel_rfl) (by kernel_rfl); exact h9.1.trans (told_is _ h9.2 rfl)
      exact o_nil (.tmp 15) rfl _ e0 ⟨_, rfl, told_of rfl, keepG (St := (S0 W2)) [] S0.loc (by omega) (by decide) hJ⟩
    | 2, ho =>
      obtain rfl := Option.some.inj ho
      have e0 : a'.eval (.tmp 16) = P0 b := by have h9 := hin 1 16 (by kernel_rfl) (by kernel_rfl); exact h9.1.trans (told_is _ h9.2 rfl)
      exact o_fld70_3 (.tmp 16) rfl b (0) (1666) rfl e0 ⟨_, rfl, told_of rfl, keepG (St := (S0 W2)) [] S0.loc (by omega) (by decide) hJ⟩
    | 3, ho =>
      obtain rfl := Option.some.inj ho
      have e0 : a'.eval (.tmp 17) = .pointer (some ⟨b, 1666, none⟩) := by have h9 := hin 2 17 (by kernel_rfl) (by kernel_rfl); exact h9.1.trans (told_is _ h9.2 rfl)
      exact o_load68 (.tmp 17) rfl _ _ e0 (((unhide HK).trans hJ).cell (unhide HP).cw (by simp)) ⟨_, rfl, told_of rfl, keepG (St := (S0 W2)) [] S0.loc (by omega) (by decide) hJ⟩
    | 4, ho =>
      obtain rfl := Option.some.inj ho
      have e0 := hout 3 (by kernel_rfl)
      replace e0 : a'.eval (.tmp 3) = _ := e0.trans rfl
      exact o_fld39_0 (.tmp 3) rfl g (0) (0) rfl e0 ⟨_, rfl, told_of rfl, keepG (St := (S0 W2)) [] S0.loc (by omega) (by decide) hJ⟩
    | 5, ho =>
      obtain rfl := Option.some.inj ho
      have e0 : a'.eval (.tmp 19) = P0 g := by have h9 := hin 4 19 (by kernel_rfl) (by kernel_rfl); exact h9.1.trans (told_is _ h9.2 rfl)
      exact o_load3 (.tmp 19) rfl _ _ e0 (fits_cell ((unhide HBG).kept hJ (by simp)) 0 _ (unhide HF0)) ⟨_, rfl, told_of rfl, keepG (St := (S0 W2)) [] S0.loc (by omega) (by decide) hJ⟩
    | 6, ho =>
      obtain rfl := Option.some.inj ho
      have e0 : a'.eval (.tmp 18) = .map (some mb) := by have h9 := hin 3 18 (by kernel_rfl) (by kernel_rfl); exact h9.1.trans (told_is _ h9.2 rfl)
      have e1 : a'.eval (.tmp 20) = .int .i64 x.pg := by have h9 := hin 5 20 (by kernel_rfl) (by kernel_rfl); exact h9.1.trans (told_is _ h9.2 rfl)
      exact o_lookU (.tmp 18) (.tmp 20) rfl mb L _ (0) false (unhide H1) (unhide H2) e0 e1 ((unhide HP).map.kept ((unhide HK).trans hJ) (by simp)) ⟨_, rfl, told_of rfl, keepG (St := (S0 W2)) [] S0.loc (by omega) (by decide) hJ⟩
    | 7, ho =>
      obtain rfl := Option.some.inj ho
      have e0 : a'.eval (.tmp 21) = .tuple #[.int .i64 0, .bool false] := by have h9 := hin 6 21 (by kernel_rfl) (by kernel_rfl); exact h9.1.trans (told_is _ h9.2 rfl)
      exact wp_move (.tmp 21) rfl _ e0 ⟨_, rfl, told_of rfl, keepG (St := (S0 W2)) [] S0.loc (by omega) (by decide) hJ⟩
    | 8, ho =>
      obtain rfl := Option.some.inj ho
      have e0 : a'.eval (.tmp 14) = .tuple #[.int .i64 0, .bool false] := by have h9 := hin 7 14 (by kernel_rfl) (by kernel_rfl); exact h9.1.trans (told_is _ h9.2 rfl)
      exact o_ext0 (.tmp 14) rfl _ _ e0 ⟨_, rfl, told_of rfl, keepG (St := (S0 W2)) [] S0.loc (by omega) (by decide) hJ⟩
    | 9, ho =>
      obtain rfl := Option.some.inj ho
      have e0 : a'.eval (.tmp 14) = .tuple #[.int .i64 0, .bool false] := by have h9 := hin 7 14 (by kernel_rfl) (by kernel_rfl); exact h9.1.trans (told_is _ h9.2 rfl)
      exact o_ext1 (.tmp 14) rfl _ _ e0 ⟨_, rfl, told_of rfl, keepG (St := (S0 W2)) [] S0.loc (by omega) (by decide) hJ⟩
    | 10, ho =>
      obtain rfl := Option.some.inj ho
      have e0 : a'.eval (.tmp 22) = .int .i64 0 := by have h9 := hin 8 22 (by kernel_rfl) (by kernel_rfl); exact h9.1.trans (told_is _ h9.2 rfl)
      exact wp_assignV (.tmp 22) rfl _ e0 ⟨_, rfl, told_of rfl, keepG (St := (S0 W2)) [] S0.loc (by omega) (by decide) hJ⟩
    | 11, ho =>
      obtain rfl := Option.some.inj ho
      have e0 : a'.eval (.tmp 23) = .bool false := by have h9 := hin 9 23 (by kernel_rfl) (by kernel_rfl); exact h9.1.trans (told_is _ h9.2 rfl)
      exact wp_assignV (.tmp 23) rfl _ e0 ⟨_, rfl, told_of rfl, keepG (St := (S0 W2)) [] S0.loc (by omega) (by decide) hJ⟩
  intro l_ vs4 w9 hl hJ htold
  have t0 : vs4 0 = P0 b := told_is _ (htold 0 (by decide)) rfl
  have t1 : vs4 1 = P0 b := told_is _ (htold 1 (by decide)) rfl
  have t2 : vs4 2 = .pointer (some ⟨b, 1666, none⟩) := told_is _ (htold 2 (by decide)) rfl
  have t3 : vs4 3 = .map (some mb) := told_is _ (htold 3 (by decide)) rfl
  have t4 : vs4 4 = P0 g := told_is _ (htold 4 (by decide)) rfl
  have t5 : vs4 5 = .int .i64 x.pg := told_is _ (htold 5 (by decide)) rfl
  have t6 : vs4 6 = .tuple #[.int .i64 0, .bool false] := told_is _ (htold 6 (by decide)) rfl
  have t7 : vs4 7 = .tuple #[.int .i64 0, .bool false] := told_is _ (htold 7 (by decide)) rfl
  have t8 : vs4 8 = .int .i64 0 := told_is _ (htold 8 (by decide)) rfl
  have t9 : vs4 9 = .bool false := told_is _ (htold 9 (by decide)) rfl
  have t10 : vs4 10 = .int .i64 0 := told_is _ (htold 10 (by decide)) rfl
  have t11 : vs4 11 = .bool false := told_is _ (htold 11 (by decide)) rfl
  rw [show (List.range 12).map vs4 = [vs4 0, vs4 1, vs4 2, vs4 3, vs4 4, vs4 5, vs4 6, vs4 7, vs4 8, vs4 9, vs4 10, vs4 11] from rfl]
  simp only [t0, t1, t2, t3, t4, t5, t6, t7, t8, t9, t10, t11, putAll, Act.put, List.setIfInBounds_toArray, List.set_cons_succ, List.set_cons_zero]
  clear t0 t1 t2 t3 t4 t5 t6 t7 t8 t9 t10 t11 htold
  have hk9 : Kept [] W2 w9 := hJ
  clear hJ hl
  replace HBG := hide ((unhide HBG).kept hk9 (by simp))
  replace HK := hide ((unhide HK).trans hk9)
  clear hk9
  have cm9 : w9.cell? ⟨b, 1664, none⟩ = some (.int .i64 (P.m : Int)) := (unhide HK).cell (unhide HP).cm (by simp)
  go_wp2_with (
    first
    | (go_at_call 45
       refine (lowest45 ((unhide HP).step (unhide HK) (by simp) (by simp))).mono ?_
       rintro e W9 ⟨rfl, q9⟩
       rw [unhide HQ]
       replace q9 := q9.symm
       subst q9
       refine Stp.go ?_))
  constructor
  go_wp2_with fail
  have HMP : Hid (MapAt w9 mb L) := (unhide HP).map.kept (unhide HK) (by simp)
  have HGM : Hid (g ∉ [mb]) := by have h1 := (unhide HP).map.lt; have h2 := unhide HG; show g ∉ [mb]; simp; omega
  refine wp_region_any mixed (wpAny_gx 8 rfl (by kernel_rfl) [some (P0 b), some (P0 b), some (.pointer (some ⟨b, 1666, none⟩)), some (.map (some mb)), some (P0 g), some (.int .i64 x.pg), some (.int .i64 q), none] rfl (by kernel_rfl) (fun l vs W => (SMp w9 mb L ⟨x.pg, (q : Int)⟩ 7) (fun i => l.getD i false) vs W) (⟨(Kept.refl _ _).drew, (fun _ => (unhide HMP).drew), fun h => by cases h⟩) ?_ ?_)
  · intro ix o' hi ho a' w2 l vs hls hlf hJ hout hin hdep hnot
    match ix, ho with
    | 0, ho =>
      obtain rfl := Option.some.inj ho
      have e0 := hout 0 (by kernel_rfl)
      replace e0 : a'.eval (.tmp 0) = _ := e0.trans rfl
      exact wp_move (.tmp 0) rfl _ e0 ⟨_, rfl, told_of rfl, keepG (St := (SMp w9 mb L ⟨x.pg, (q : Int)⟩ 7)) [7] SMp.loc (by omega) (by decide) hJ⟩
    | 1, ho =>
      obtain rfl := Option.some.inj ho
      have e0 : a'.eval (.tmp 34) = P0 b := by have h9 := hin 0 34 (by kernel_rfl) (by kernel_rfl); exact h9.1.trans (told_is _ h9.2 rfl)
      exact o_nil (.tmp 34) rfl _ e0 ⟨_, rfl, told_of rfl, keepG (St := (SMp w9 mb L ⟨x.pg, (q : Int)⟩ 7)) [7] SMp.loc (by omega) (by decide) hJ⟩
    | 2, ho =>
      obtain rfl := Option.some.inj ho
      have e0 : a'.eval (.tmp 35) = P0 b := by have h9 := hin 1 35 (by kernel_rfl) (by kernel_rfl); exact h9.1.trans (told_is _ h9.2 rfl)
      exact o_fld70_3 (.tmp 35) rfl b (0) (1666) rfl e0 ⟨_, rfl, told_of rfl, keepG (St := (SMp w9 mb L ⟨x.pg, (q : Int)⟩ 7)) [7] SMp.loc (by omega) (by decide) hJ⟩
    | 3, ho =>
      obtain rfl := Option.some.inj ho
      have e0 : a'.eval (.tmp 36) = .pointer (some ⟨b, 1666, none⟩) := by have h9 := hin 2 36 (by kernel_rfl) (by kernel_rfl); exact h9.1.trans (told_is _ h9.2 rfl)
      exact o_load68 (.tmp 36) rfl _ _ e0 (((unhide HK).mono (by simp) |>.trans hJ.kept).cell (unhide HP).cw (by have := (unhide HP).ne; simp; exact this)) ⟨_, rfl, told_of rfl, keepG (St := (SMp w9 mb L ⟨x.pg, (q : Int)⟩ 7)) [7] SMp.loc (by omega) (by decide) hJ⟩
    | 4, ho =>
      obtain rfl := Option.some.inj ho
      have e0 := hout 3 (by kernel_rfl)
      replace e0 : a'.eval (.tmp 3) = _ := e0.trans rfl
      exact o_fld39_0 (.tmp 3) rfl g (0) (0) rfl e0 ⟨_, rfl, told_of rfl, keepG (St := (SMp w9 mb L ⟨x.pg, (q : Int)⟩ 7)) [7] SMp.loc (by omega) (by decide) hJ⟩
    | 5, ho =>
      obtain rfl := Option.some.inj ho
      have e0 : a'.eval (.tmp 38) = P0 g := by have h9 := hin 4 38 (by kernel_rfl) (by kernel_rfl); exact h9.1.trans (told_is _ h9.2 rfl)
      exact o_load3 (.tmp 38) rfl _ _ e0 (fits_cell ((unhide HBG).kept hJ.kept (unhide HGM)) 0 _ (unhide HF0)) ⟨_, rfl, told_of rfl, keepG (St := (SMp w9 mb L ⟨x.pg, (q : Int)⟩ 7)) [7] SMp.loc (by omega) (by decide) hJ⟩
    | 6, ho =>
      obtain rfl := Option.some.inj ho
      have e0 := hout 5 (by kernel_rfl)
      replace e0 : a'.eval (.tmp 5) = _ := e0.trans rfl
      exact wp_move (.tmp 5) rfl _ e0 ⟨_, rfl, told_of rfl, keepG (St := (SMp w9 mb L ⟨x.pg, (q : Int)⟩ 7)) [7] SMp.loc (by omega) (by decide) hJ⟩
    | 7, ho =>
      obtain rfl := Option.some.inj ho
      have e0 : a'.eval (.tmp 37) = .map (some mb) := by have h9 := hin 3 37 (by kernel_rfl) (by kernel_rfl); exact h9.1.trans (told_is _ h9.2 rfl)
      have e1 : a'.eval (.tmp 39) = .int .i64 x.pg := by have h9 := hin 5 39 (by kernel_rfl) (by kernel_rfl); exact h9.1.trans (told_is _ h9.2 rfl)
      have e2 : a'.eval (.tmp 40) = .int .i64 q := by have h9 := hin 6 40 (by kernel_rfl) (by kernel_rfl); exact h9.1.trans (told_is _ h9.2 rfl)
      refine o_upd (.tmp 37) (.tmp 39) (.tmp 40) rfl rfl mb L ⟨x.pg, (q : Int)⟩ e0 e1 e2 (hJ.n1 hlf) (unhide HN) (fun W hM9 hk9 => ?_)
      exact ⟨undef, rfl, told_no rfl, nextG (St := (SMp w9 mb L ⟨x.pg, (q : Int)⟩ 7)) (by omega) (hJ.up hk9 hM9)⟩
  intro l_ vs5 w10 hl hJ htold
  have t0 : vs5 0 = P0 b := told_is _ (htold 0 (by decide)) rfl
  have t1 : vs5 1 = P0 b := told_is _ (htold 1 (by decide)) rfl
  have t2 : vs5 2 = .pointer (some ⟨b, 1666, none⟩) := told_is _ (htold 2 (by decide)) rfl
  have t3 : vs5 3 = .map (some mb) := told_is _ (htold 3 (by decide)) rfl
  have t4 : vs5 4 = P0 g := told_is _ (htold 4 (by decide)) rfl
  have t5 : vs5 5 = .int .i64 x.pg := told_is _ (htold 5 (by decide)) rfl
  have t6 : vs5 6 = .int .i64 q := told_is _ (htold 6 (by decide)) rfl
  rw [show (List.range 8).map vs5 = [vs5 0, vs5 1, vs5 2, vs5 3, vs5 4, vs5 5, vs5 6, vs5 7] from rfl]
  simp only [t0, t1, t2, t3, t4, t5, t6, putAll, Act.put, List.setIfInBounds_toArray, List.set_cons_succ, List.set_cons_zero]
  clear t0 t1 t2 t3 t4 t5 t6 htold
  have HM2 := hide (hJ.n2 (hl 7 (by decide)))
  have HK2 := hide hJ.kept
  clear hJ hl
  go_wp2_with fail
  have hbg : b ≠ g := by have h1 := (unhide HP).blk.lt; have h2 := unhide HG; omega
  have hbm : b ∉ [mb] := by have := (unhide HP).ne; simp; exact this
  have M : Hid (Mm [b, g] w10 w10 [(b, 70, cc false false), (g, 39, fc)]) := Mm.two (by rw [unhide HC00]; exact ((unhide HP).blk.kept (unhide HK) (by simp)).kept (unhide HK2) hbm) ((unhide HBG).kept (unhide HK2) (unhide HGM)) hbg
  clear hbg hbm
  refine wp_region_any mixed (wpAny_gx 15 rfl (by kernel_rfl) [some (P0 b), some (.int .i64 q), some (P0 b), some (.int .i64 q), some (aggV fc), some (P0 b), some (P0 b), some (.pointer (some ⟨b, q * 104, none⟩)), some (.pointer (some ⟨b, q * 104, none⟩)), none, some (P0 b), some (P0 b), some (.pointer (some ⟨b, q * 104, none⟩)), some (.pointer (some ⟨b, q * 104 + 103, none⟩)), none] rfl (by kernel_rfl) (fun l vs W => (SD2 [b, g] w10 (fun d1 d2 => [(b, 70, cc d1 d2), (g, 39, fc)]) 9 14) (fun i => l.getD i false) vs W) ((unhide M).drew) ?_ ?_)
  · intro ix o' hi ho a' w2 l vs hls hlf hJ hout hin hdep hnot
    match ix, ho with
    | 0, ho =>
      obtain rfl := Option.some.inj ho
      have e0 := hout 0 (by kernel_rfl)
      replace e0 : a'.eval (.tmp 0) = _ := e0.trans rfl
      exact wp_move (.tmp 0) rfl _ e0 ⟨_, rfl, told_of rfl, keepG (St := (SD2 [b, g] w10 (fun d1 d2 => [(b, 70, cc d1 d2), (g, 39, fc)]) 9 14)) [9, 14] SD2.loc (by omega) (by decide) hJ⟩
    | 1, ho =>
      obtain rfl := Option.some.inj ho
      have e0 := hout 5 (by kernel_rfl)
      replace e0 : a'.eval (.tmp 5) = _ := e0.trans rfl
      exact wp_move (.tmp 5) rfl _ e0 ⟨_, rfl, told_of rfl, keepG (St := (SD2 [b, g] w10 (fun d1 d2 => [(b, 70, cc d1 d2), (g, 39, fc)]) 9 14)) [9, 14] SD2.loc (by omega) (by decide) hJ⟩
    | 2, ho =>
      obtain rfl := Option.some.inj ho
      have e0 := hout 0 (by kernel_rfl)
      replace e0 : a'.eval (.tmp 0) = _ := e0.trans rfl
      exact wp_move (.tmp 0) rfl _ e0 ⟨_, rfl, told_of rfl, keepG (St := (SD2 [b, g] w10 (fun d1 d2 => [(b, 70, cc d1 d2), (g, 39, fc)]) 9 14)) [9, 14] SD2.loc (by omega) (by decide) hJ⟩
    | 3, ho =>
      obtain rfl := Option.some.inj ho
      have e0 := hout 5 (by kernel_rfl)
      replace e0 : a'.eval (.tmp 5) = _ := e0.trans rfl
      exact wp_move (.tmp 5) rfl _ e0 ⟨_, rfl, told_of rfl, keepG (St := (SD2 [b, g] w10 (fun d1 d2 => [(b, 70, cc d1 d2), (g, 39, fc)]) 9 14)) [9, 14] SD2.loc (by omega) (by decide) hJ⟩
    | 4, ho =>
      obtain rfl := Option.some.inj ho
      have e0 := hout 3 (by kernel_rfl)
      replace e0 : a'.eval (.tmp 3) = _ := e0.trans rfl
      exact wp_loadA row39 (.tmp 3) rfl g (0) e0 (fc) (unhide HLF) ((Mm.at hJ 1 _ rfl).range) ⟨_, rfl, told_of rfl, keepG (St := (SD2 [b, g] w10 (fun d1 d2 => [(b, 70, cc d1 d2), (g, 39, fc)]) 9 14)) [9, 14] SD2.loc (by omega) (by decide) hJ⟩
    | 5, ho =>
      obtain rfl := Option.some.inj ho
      have e0 : a'.eval (.tmp 41) = P0 b := by have h9 := hin 0 41 (by kernel_rfl) (by kernel_rfl); exact h9.1.trans (told_is _ h9.2 rfl)
      exact o_nil (.tmp 41) rfl _ e0 ⟨_, rfl, told_of rfl, keepG (St := (SD2 [b, g] w10 (fun d1 d2 => [(b, 70, cc d1 d2), (g, 39, fc)]) 9 14)) [9, 14] SD2.loc (by omega) (by decide) hJ⟩
    | 6, ho =>
      obtain rfl := Option.some.inj ho
      have e0 : a'.eval (.tmp 46) = P0 b := by have h9 := hin 5 46 (by kernel_rfl) (by kernel_rfl); exact h9.1.trans (told_is _ h9.2 rfl)
      exact o_fld70_0 (.tmp 46) rfl b (0) (0) rfl e0 ⟨_, rfl, told_of rfl, keepG (St := (SD2 [b, g] w10 (fun d1 d2 => [(b, 70, cc d1 d2), (g, 39, fc)]) 9 14)) [9, 14] SD2.loc (by omega) (by decide) hJ⟩
    | 7, ho =>
      obtain rfl := Option.some.inj ho
      have e0 : a'.eval (.tmp 47) = P0 b := by have h9 := hin 6 47 (by kernel_rfl) (by kernel_rfl); exact h9.1.trans (told_is _ h9.2 rfl)
      have e1 : a'.eval (.tmp 42) = .int .i64 q := by have h9 := hin 1 42 (by kernel_rfl) (by kernel_rfl); exact h9.1.trans (told_is _ h9.2 rfl)
      exact o_idx67 (.tmp 47) (.tmp 42) rfl b 0 q (q * 104) (by omega) (by omega) e0 e1 ⟨_, rfl, told_of rfl, keepG (St := (SD2 [b, g] w10 (fun d1 d2 => [(b, 70, cc d1 d2), (g, 39, fc)]) 9 14)) [9, 14] SD2.loc (by omega) (by decide) hJ⟩
    | 8, ho =>
      obtain rfl := Option.some.inj ho
      have e0 : a'.eval (.tmp 48) = .pointer (some ⟨b, q * 104, none⟩) := by have h9 := hin 7 48 (by kernel_rfl) (by kernel_rfl); exact h9.1.trans (told_is _ h9.2 rfl)
      exact o_fld66_0 (.tmp 48) rfl b (q * 104) (q * 104) rfl e0 ⟨_, rfl, told_of rfl, keepG (St := (SD2 [b, g] w10 (fun d1 d2 => [(b, 70, cc d1 d2), (g, 39, fc)]) 9 14)) [9, 14] SD2.loc (by omega) (by decide) hJ⟩
    | 9, ho =>
      obtain rfl := Option.some.inj ho
      have e0 : a'.eval (.tmp 49) = .pointer (some ⟨b, q * 104, none⟩) := by have h9 := hin 8 49 (by kernel_rfl) (by kernel_rfl); exact h9.1.trans (told_is _ h9.2 rfl)
      have e1 : a'.eval (.tmp 45) = aggV fc := by have h9 := hin 4 45 (by kernel_rfl) (by kernel_rfl); exact h9.1.trans (told_is _ h9.2 rfl)
      exact o_stN row39 (.tmp 49) (.tmp 45) rfl rfl b (q * 104) 0 fc e0 e1 (unhide HLF) (unhide HOF) (SD2.no hJ hlf) rfl (by have := unhide HLC; rw [this]; omega) (unhide HS39 _) (fun W hM => ⟨undef, rfl, told_no rfl, nextG (St := (SD2 [b, g] w10 (fun d1 d2 => [(b, 70, cc d1 d2), (g, 39, fc)]) 9 14)) (by omega) hM⟩)
    | 10, ho =>
      obtain rfl := Option.some.inj ho
      have e0 : a'.eval (.tmp 43) = P0 b := by have h9 := hin 2 43 (by kernel_rfl) (by kernel_rfl); exact h9.1.trans (told_is _ h9.2 rfl)
      exact o_nil (.tmp 43) rfl _ e0 ⟨_, rfl, told_of rfl, keepG (St := (SD2 [b, g] w10 (fun d1 d2 => [(b, 70, cc d1 d2), (g, 39, fc)]) 9 14)) [9, 14] SD2.loc (by omega) (by decide) hJ⟩
    | 11, ho =>
      obtain rfl := Option.some.inj ho
      have e0 : a'.eval (.tmp 50) = P0 b := by have h9 := hin 10 50 (by kernel_rfl) (by kernel_rfl); exact h9.1.trans (told_is _ h9.2 rfl)
      exact o_fld70_0 (.tmp 50) rfl b (0) (0) rfl e0 ⟨_, rfl, told_of rfl, keepG (St := (SD2 [b, g] w10 (fun d1 d2 => [(b, 70, cc d1 d2), (g, 39, fc)]) 9 14)) [9, 14] SD2.loc (by omega) (by decide) hJ⟩
    | 12, ho =>
      obtain rfl := Option.some.inj ho
      have e0 : a'.eval (.tmp 51) = P0 b := by have h9 := hin 11 51 (by kernel_rfl) (by kernel_rfl); exact h9.1.trans (told_is _ h9.2 rfl)
      have e1 : a'.eval (.tmp 44) = .int .i64 q := by have h9 := hin 3 44 (by kernel_rfl) (by kernel_rfl); exact h9.1.trans (told_is _ h9.2 rfl)
      exact o_idx67 (.tmp 51) (.tmp 44) rfl b 0 q (q * 104) (by omega) (by omega) e0 e1 ⟨_, rfl, told_of rfl, keepG (St := (SD2 [b, g] w10 (fun d1 d2 => [(b, 70, cc d1 d2), (g, 39, fc)]) 9 14)) [9, 14] SD2.loc (by omega) (by decide) hJ⟩
    | 13, ho =>
      obtain rfl := Option.some.inj ho
      have e0 : a'.eval (.tmp 52) = .pointer (some ⟨b, q * 104, none⟩) := by have h9 := hin 12 52 (by kernel_rfl) (by kernel_rfl); exact h9.1.trans (told_is _ h9.2 rfl)
      exact o_fld66_2 (.tmp 52) rfl b (q * 104) (q * 104 + 103) rfl e0 ⟨_, rfl, told_of rfl, keepG (St := (SD2 [b, g] w10 (fun d1 d2 => [(b, 70, cc d1 d2), (g, 39, fc)]) 9 14)) [9, 14] SD2.loc (by omega) (by decide) hJ⟩
    | 14, ho =>
      obtain rfl := Option.some.inj ho
      have e0 : a'.eval (.tmp 53) = .pointer (some ⟨b, q * 104 + 103, none⟩) := by have h9 := hin 13 53 (by kernel_rfl) (by kernel_rfl); exact h9.1.trans (told_is _ h9.2 rfl)
      exact o_st1 size4 (.tmp 53) (.const (.bool true)) rfl rfl b (q * 104 + 103) 0 (.bool true) ⟨rfl, rfl⟩ e0 rfl (SD2.no2 hJ hlf) rfl (by have := unhide HLC; rw [this]; omega) (unhide HS4 _) (fun W hM => ⟨undef, rfl, told_no rfl, nextG (St := (SD2 [b, g] w10 (fun d1 d2 => [(b, 70, cc d1 d2), (g, 39, fc)]) 9 14)) (by omega) hM⟩)
  intro l_ vs4 V4 hl hJ htold
  have t0 : vs4 0 = P0 b := told_is _ (htold 0 (by decide)) rfl
  have t1 : vs4 1 = .int .i64 q := told_is _ (htold 1 (by decide)) rfl
  have t2 : vs4 2 = P0 b := told_is _ (htold 2 (by decide)) rfl
  have t3 : vs4 3 = .int .i64 q := told_is _ (htold 3 (by decide)) rfl
  have t4 : vs4 4 = aggV fc := told_is _ (htold 4 (by decide)) rfl
  have t5 : vs4 5 = P0 b := told_is _ (htold 5 (by decide)) rfl
  have t6 : vs4 6 = P0 b := told_is _ (htold 6 (by decide)) rfl
  have t7 : vs4 7 = .pointer (some ⟨b, q * 104, none⟩) := told_is _ (htold 7 (by decide)) rfl
  have t8 : vs4 8 = .pointer (some ⟨b, q * 104, none⟩) := told_is _ (htold 8 (by decide)) rfl
  have t10 : vs4 10 = P0 b := told_is _ (htold 10 (by decide)) rfl
  have t11 : vs4 11 = P0 b := told_is _ (htold 11 (by decide)) rfl
  have t12 : vs4 12 = .pointer (some ⟨b, q * 104, none⟩) := told_is _ (htold 12 (by decide)) rfl
  have t13 : vs4 13 = .pointer (some ⟨b, q * 104 + 103, none⟩) := told_is _ (htold 13 (by decide)) rfl
  rw [show (List.range 15).map vs4 = [vs4 0, vs4 1, vs4 2, vs4 3, vs4 4, vs4 5, vs4 6, vs4 7, vs4 8, vs4 9, vs4 10, vs4 11, vs4 12, vs4 13, vs4 14] from rfl]
  simp only [t0, t1, t2, t3, t4, t5, t6, t7, t8, t10, t11, t12, t13, putAll, Act.put, List.setIfInBounds_toArray, List.set_cons_succ, List.set_cons_zero]
  clear t0 t1 t2 t3 t4 t5 t6 t7 t8 t10 t11 t12 t13 htold
  have hM4 : Mm [b, g] w10 V4 ([(b, 70, cc true true), (g, 39, fc)]) := SD2.yes hJ (hl 9 (by decide)) (hl 14 (by decide))
  replace M : Hid (Mm [b, g] w10 V4 [(b, 70, cc true true), (g, 39, fc)]) := hide hM4
  clear hM4 hJ hl
  go_wp2_with fail
  go_ret
  have k2 : Kept [b, mb] w w10 := ((unhide HK).mono (by simp)).trans ((unhide HK2).mono (by simp))
  have kk : Kept [b, mb] w V4 := ⟨(unhide M).kept.os.trans k2.os, (unhide M).kept.tape.trans k2.tape, (unhide M).kept.output.trans k2.output, Nat.le_trans k2.size (unhide M).kept.size, fun k hl hx => by
    rw [(unhide M).kept.block k (Nat.lt_of_lt_of_le hl k2.size) (by simp at hx; simp; refine ⟨hx.1, fun e => ?_⟩; have := unhide HG; omega), k2.block k hl hx]⟩
  have hM : MapAt V4 mb (L ++ [⟨x.pg, (q : Int)⟩]) := (unhide HM2).kept (unhide M).kept (by have h1 := (unhide HP).ne; have h2 := unhide HGM; simp at h2; simp; exact ⟨fun e => h1 e.symm, fun e => h2 e.symm⟩)
  have h9 : Pg _ b mb (P.up q ⟨x, (P.S q).pn, true⟩) (L ++ [⟨x.pg, (q : Int)⟩]) := ⟨by rw [show (P.up q ⟨x, (P.S q).pn, true⟩).C (.map (some mb)) = cc true true from by rw [unhide HCC]; rfl]; exact (unhide M).at 0 _ rfl, hM, Po.up_okN (unhide HP).ok (unhide HQM) (unhide HMF) (fun j hj e => absurd e (Po.find_none (unhide HNF) hj)), (unhide HP).wh.new (x := ⟨x, (P.S q).pn, true⟩) (unhide HQM) (unhide HZ) (by have := (mayF_pg (unhide HMF)).2; show ¬ x.md = 0; omega) (fun j hj => Po.find_none (unhide HNF) hj)⟩
  exact ⟨rfl, h9, kk⟩

end Go.Proofs.Ytgnafbohikbpfaa
