/-
  Master: a page's master.
-/
import Derived.Test.YtbpnnbbinhdoiaaDoorVk
namespace Go.Proofs.YtbpnnbbinhdoiaaDoor
set_option maxRecDepth 100000
open Go.RowKit Go.Shelf
attribute [local go_sem] Oper.semAt_some


/-- The master of a page. -/
def Vw.master (v : Vw) (page : Int) : Int × Bool := if page < 0 ∨ v.list.length = 0 then (0, false) else (((v.list[(page % (v.list.length : Int)).toNat]?.getD (0, 0)).1 : Nat), true)
/-- What the region that makes two numbers keeps. -/
@[reducible] def SB (V : World) (r : Int) (d : Nat → Bool) (vs : Nat → Value) (W : World) : Prop :=
  Kept [] V W ∧ (d 3 = true → ∃ p, vs 3 = P0 p ∧ V.heap.size ≤ p ∧ Blk W p 3 [.int .i64 0]) ∧ (d 4 = true → ∃ q, vs 4 = P0 q ∧ V.heap.size ≤ q ∧ (d 6 = false → Blk W q 3 [.int .i64 0]) ∧ (d 6 = true → Blk W q 3 [.int .i64 r])) ∧ (d 3 = true → d 4 = true → vs 3 ≠ vs 4)
theorem SB.loc {V : World} {r : Int} : ∀ d d' vs vs' W, (∀ i ∈ [3, 4, 6], d i = d' i ∧ vs i = vs' i) → SB V r d vs W → SB V r d' vs' W := by
  intro d d' vs vs' W H h
  have e0 := H 3 (by simp)
  have e1 := H 4 (by simp)
  have e2 := H 6 (by simp)
  unfold SB at h ⊢
  rw [← e0.1, ← e0.2, ← e1.1, ← e1.2, ← e2.1]
  exact h
theorem p0_inj {p q : Nat} (h : P0 p = P0 q) : p = q := by
  injection h with e
  injection e with e
  injection e with e
theorem p0_lt {p : Nat} {W : World} {T : Nat} {us : List Value} (h1 : Blk W p T us) : P0 p ≠ P0 W.heap.size := by
  intro e
  have := h1.lt
  have := p0_inj e
  omega
theorem o_remI (x y : Operand) {o : Oper} {a : Act} {w : World} {K : Act → World → Prop} {Q : Exit → Act → World → Prop} (ho : o.op = .binOp .rem 3 x y 3) (m n r : Int) (hr : r = m % n) (hm : 0 ≤ m ∧ m ≤ 9223372036854775807) (hn : 1 ≤ n ∧ n ≤ 8) (hx : a.eval x = .int .i64 m) (hy : a.eval y = .int .i64 n) (h : K (a.put o.dst (.int .i64 r)) w) : o.wp Tryd.prog a w K Q := by
  subst hr
  have h1 := Int.emod_nonneg m (b := n) (by omega)
  have h2 := Int.emod_lt_of_pos m (b := n) (by omega)
  have ht : Int.tmod m n = m % n := Int.tmod_eq_emod_of_nonneg hm.1
  have hn0 : ¬ n = 0 := by omega
  unfold Oper.wp execOp
  simp only [ho, hx, hy]
  simp [go_sem, hn0, ht]
  exact h
theorem res23 (w : World) (m : Value) (b : Value) (tmps : Array Value) (h4 : tmps[4]?.getD undef = m) (h5 : tmps[5]?.getD undef = b) : (results Tryd.f23 tmps).run Tryd.prog w = .ok (.tuple #[m, b]) w := by
  simp [results, Tryd.results23, h4, h5]
set_option maxHeartbeats 2000000 in
theorem master_neg (v : Vw) (page : Int) (w : World) (hF : First w) (hv : v.ms.length = 8) (hp : page < 0) : Calls Tryd.prog 23 #[aggV (vwC v), .int .i64 page] w fun e w' => e = .returned (.tuple #[.int .i64 0, .bool false]) ∧ Kept [] w w' := by
  have P26 : ∀ W, First W → Hid (Calls Tryd.prog 26 #[aggV (vwC v)] W fun e w' => e = .returned (.int .i64 v.list.length) ∧ Kept [] W w') := fun W hW => hide (by have := count26 v W hW hv; exact this)
  have hdp : decide (page < 0) = true := by simpa using hp
  go_enter Tryd.func23, Tryd.ntmps23
  have M : Hid (Mm w w []) := hide (Mm.init hF)
  go_wp2_with (
    first
    | (refine wpBoxV rfl (.tmp 0) rfl (vwC v) rfl ?_
       intro W1 b1 e1 B1 K1
       replace M : Hid (Mm w W1 [(b1, 26, vwC v)]) := hide ((unhide M).new e1 B1 K1)
       clear e1 B1 K1
       refine Stp.go ?_))
  constructor
  go_wp2_with fail
  go_step3
  go_wp2_with (
    first
    | (refine wpLoadA row26 rfl (.tmp 2) rfl b1 0 rfl (vwC v) (vwC_len hv) ((unhide M).at 0 _ rfl).range ?_
       refine Stp.go ?_))
  constructor
  go_wp2_with (
    first
    | (go_at_call 26
       refine (unhide (P26 _ (unhide M).first)).mono ?_
       rintro e W2 ⟨rfl, K2⟩
       replace M : Hid (Mm w W2 [(b1, 26, vwC v)]) := hide ((unhide M).step K2)
       clear K2
       refine Stp.go ?_))
  constructor
  go_wp2_with fail
  rw [Exit.noGoto_ret]
  refine bodyPost_ret (res23 _ _ _ _ rfl rfl) rfl ?_
  exact ⟨rfl, (unhide M).kept⟩
set_option maxHeartbeats 2000000 in
theorem master_non (v : Vw) (page : Int) (w : World) (hF : First w) (hv : v.ms.length = 8) (hp : ¬ page < 0) (hl : v.list.length = 0) : Calls Tryd.prog 23 #[aggV (vwC v), .int .i64 page] w fun e w' => e = .returned (.tuple #[.int .i64 0, .bool false]) ∧ Kept [] w w' := by
  have P26 : ∀ W, First W → Hid (Calls Tryd.prog 26 #[aggV (vwC v)] W fun e w' => e = .returned (.int .i64 0) ∧ Kept [] W w') := fun W hW => hide (by have := count26 v W hW hv; rw [hl] at this; exact this)
  have hdp : decide (page < 0) = false := by simpa using hp
  go_enter Tryd.func23, Tryd.ntmps23
  have M : Hid (Mm w w []) := hide (Mm.init hF)
  go_wp2_with (
    first
    | (refine wpBoxV rfl (.tmp 0) rfl (vwC v) rfl ?_
       intro W1 b1 e1 B1 K1
       replace M : Hid (Mm w W1 [(b1, 26, vwC v)]) := hide ((unhide M).new e1 B1 K1)
       clear e1 B1 K1
       refine Stp.go ?_))
  constructor
  go_wp2_with fail
  go_step3
  go_wp2_with (
    first
    | (refine wpLoadA row26 rfl (.tmp 2) rfl b1 0 rfl (vwC v) (vwC_len hv) ((unhide M).at 0 _ rfl).range ?_
       refine Stp.go ?_))
  constructor
  go_wp2_with (
    first
    | (go_at_call 26
       refine (unhide (P26 _ (unhide M).first)).mono ?_
       rintro e W2 ⟨rfl, K2⟩
       replace M : Hid (Mm w W2 [(b1, 26, vwC v)]) := hide ((unhide M).step K2)
       clear K2
       refine Stp.go ?_))
  constructor
  go_wp2_with fail
  rw [Exit.noGoto_ret]
  refine bodyPost_ret (res23 _ _ _ _ rfl rfl) rfl ?_
  exact ⟨rfl, (unhide M).kept⟩
theorem keepG {St : (Nat → Bool) → (Nat → Value) → World → Prop} {l : Array Bool} {vs : Nat → Value} {j : Nat} {v : Value} {w : World} (sp : List Nat) (hloc : ∀ b b' vs vs' W, (∀ i ∈ sp, b i = b' i ∧ vs i = vs' i) → St b vs W → St b' vs' W) (hj : j < l.size) (hn : sp.all (fun i => i != j) = true) (h : St (fun i => l.getD i false) vs w) : St (fun i => (l.setIfInBounds j true).getD i false) (fun i => if i = j then v else vs i) w := by
  refine hloc _ _ _ _ _ (fun i hi => ?_) h
  have hne : i ≠ j := by have := List.all_eq_true.1 hn i hi; simpa using this
  exact ⟨by rw [getD_setD hj]; simp [hne], by simp [hne]⟩
theorem nextG {St : (Nat → Bool) → (Nat → Value) → World → Prop} {l : Array Bool} {vs : Nat → Value} {j : Nat} {v : Value} {w : World} (hj : j < l.size) (h : St (fun i => if i = j then true else l.getD i false) (fun i => if i = j then v else vs i) w) : St (fun i => (l.setIfInBounds j true).getD i false) (fun i => if i = j then v else vs i) w := by
  have e : (fun i => (l.setIfInBounds j true).getD i false) = (fun i => if i = j then true else l.getD i false) := by
    funext i
    exact getD_setD hj false
  rw [e]
  exact h
section
variable {o : Oper} {a : Act} {w : World} {K : Act → World → Prop} {Q : Exit → Act → World → Prop}
theorem o_st3 (x y : Operand) (ho : o.op = .store 3 x y) (b i TT : Nat) (us : List Value) (n : Int) (hx : a.eval x = .pointer (some ⟨b, i, none⟩)) (hy : a.eval y = .int .i64 n) (hB : Blk w b TT us) (hi : i < us.length)
    (h : ∀ W, Blk W b TT (us.set i (.int .i64 n)) → Kept [b] w W → K (a.put o.dst undef) W) : o.wp Tryd.prog a w K Q := by
  have hst := storeVar1 size3 hB hi (.int .i64 n) rfl rfl
  unfold Oper.wp execOp
  simp only [ho, hx, hy, Instr.storeAt, Instr.sureAddr, Sem.run_bind, Sem.run_pure, Result.andThen_ok, hst]
  have := h _ (hB.set (.int .i64 n)) ((Kept.refl _ _).setCell (by simp) _)
  exact this
end
theorem Mm.add {w0 W : World} {bs : List (Nat × Nat × List Value)} (h : Mm w0 W bs) {b T : Nat} {vs : List Value} (hb : Blk W b T vs) (hge : w0.heap.size ≤ b) (hne : ∀ x ∈ bs, x.1 ≠ b) : Mm w0 W (bs ++ [(b, T, vs)]) := by
  refine ⟨h.kept, h.first, h.first0, ?_, ?_⟩
  · intro x hx
    rcases List.mem_append.1 hx with hx | hx
    · exact h.blk x hx
    · simp at hx; subst hx; exact ⟨hb, hge⟩
  · rw [List.map_append, List.nodup_append]
    refine ⟨h.nd, by simp, ?_⟩
    intro a ha c hc
    simp at hc; subst hc
    obtain ⟨x, hx, rfl⟩ := List.mem_map.1 ha
    exact hne x hx
set_option maxHeartbeats 2000000 in
theorem master_in (v : Vw) (page n r : Int) (R mm : Nat) (w : World) (hF : First w) (hv : v.ms.length = 8) (hp : ¬ page < 0) (hp2 : page ≤ 9223372036854775807) (hn : (v.list.length : Int) = n) (hn1 : 1 ≤ n) (hr : r = page % n) (hRr : r = (R : Int)) (hmm : (v.list[R]?.getD (0, 0)).1 = mm) : CallsIn Fence.wide 3 Tryd.prog 23 #[aggV (vwC v), .int .i64 page] w fun e w' => e = .returned (.tuple #[.int .i64 (mm : Nat), .bool true]) ∧ Kept [] w w' := by
  have hFw := wideF
  have P26 : ∀ W, First W → Hid (Calls Tryd.prog 26 #[aggV (vwC v)] W fun e w' => e = .returned (.int .i64 n) ∧ Kept [] W w') := fun W hW => hide (by have := count26 v W hW hv; rw [hn] at this; exact this)
  have hdp : decide (page < 0) = false := by simpa using hp
  have hdn : (n == 0) = false := by simp; omega
  have HR := hide hr
  have HP : Hid (0 ≤ page ∧ page ≤ 9223372036854775807) := ⟨by omega, hp2⟩
  have h8 := list_len hv
  have HN : Hid (1 ≤ n ∧ n ≤ 8) := ⟨hn1, by omega⟩
  have hr0 := Int.emod_nonneg page (b := n) (by omega)
  have hr1 := Int.emod_lt_of_pos page (b := n) (by omega)
  rw [← hr] at hr0 hr1
  obtain ⟨S, hS⟩ : ∃ S, S = v.list := ⟨_, rfl⟩
  rw [← hS] at hn hmm
  have HMM := hide hmm
  clear hmm
  have HRS : Hid (R < S.length) := by show _ < _; omega
  have HRr := hide hRr
  clear hr hn hn1 h8 hRr
  refine callsIn_of_wp_marks Tryd.func23 rfl trivial ?_ rfl
  simp only [Tryd.ntmps23, List.size_toArray, List.length_cons, List.length_nil, Nat.reduceAdd, Nat.reduceSub, Array.replicate_succ, Array.replicate_zero, List.push_toArray, List.append_toArray, List.nil_append, List.cons_append]
  rw [wpIn_wide]
  have M : Hid (Mm w w []) := hide (Mm.init hF)
  go_wp2_with (
    first
    | (refine wpBoxV rfl (.tmp 0) rfl (vwC v) rfl ?_
       intro W1 b1 e1 B1 K1
       replace M : Hid (Mm w W1 [(b1, 26, vwC v)]) := hide ((unhide M).new e1 B1 K1)
       clear e1 B1 K1
       refine Stp.go ?_))
  constructor
  go_wp2_with fail
  go_step3
  go_wp2_with (
    first
    | (refine wpLoadA row26 rfl (.tmp 2) rfl b1 0 rfl (vwC v) (vwC_len hv) ((unhide M).at 0 _ rfl).range ?_
       refine Stp.go ?_))
  constructor
  go_wp2_with (
    first
    | (go_at_call 26
       refine (unhide (P26 _ (unhide M).first)).mono ?_
       rintro e W2 ⟨rfl, K2⟩
       replace M : Hid (Mm w W2 [(b1, 26, vwC v)]) := hide ((unhide M).step K2)
       clear K2
       refine Stp.go ?_))
  constructor
  go_wp2_with fail
  refine wp_region_any mixed (wpAny_gx 7 rfl (by kernel_rfl) [some (.int .i64 page), some (.int .i64 n), some (.int .i64 r), none, none, none, none] rfl (by kernel_rfl) (fun l vs W => (SB W2 r) (fun i => l.getD i false) vs W) (⟨⟨rfl, rfl, rfl, Nat.le_refl _, fun _ _ _ => rfl⟩, (fun h => by cases h), (fun h => by cases h), fun h => by cases h⟩) ?_ ?_)
  · intro ix o' hi ho a' w2 l vs hls hlf hJ hout hin hdep hnot
    match ix, ho with
    | 0, ho =>
      obtain rfl := Option.some.inj ho
      have e0 := hout 1 (by kernel_rfl)
      replace e0 : a'.eval (.tmp 1) = _ := e0.trans rfl
      exact wp_move (.tmp 1) rfl _ e0 ⟨_, rfl, told_of rfl, keepG (St := (SB W2 r)) [3, 4, 6] SB.loc (by omega) (by decide) hJ⟩
    | 1, ho =>
      obtain rfl := Option.some.inj ho
      have e0 := hout 6 (by kernel_rfl)
      replace e0 : a'.eval (.tmp 6) = _ := e0.trans rfl
      exact wp_move (.tmp 6) rfl _ e0 ⟨_, rfl, told_of rfl, keepG (St := (SB W2 r)) [3, 4, 6] SB.loc (by omega) (by decide) hJ⟩
    | 2, ho =>
      obtain rfl := Option.some.inj ho
      have e0 : a'.eval (.tmp 18) = .int .i64 page := by have h9 := hin 0 18 (by kernel_rfl) (by kernel_rfl); exact h9.1.trans (told_is _ h9.2 rfl)
      have e1 : a'.eval (.tmp 19) = .int .i64 n := by have h9 := hin 1 19 (by kernel_rfl) (by kernel_rfl); exact h9.1.trans (told_is _ h9.2 rfl)
      exact o_remI (.tmp 18) (.tmp 19) rfl page n r (unhide HR) (unhide HP) (unhide HN) e0 e1 ⟨_, rfl, told_of rfl, keepG (St := (SB W2 r)) [3, 4, 6] SB.loc (by omega) (by decide) hJ⟩
    | 3, ho =>
      obtain rfl := Option.some.inj ho
      exact wp_allocA [.int .i64 0] zero3 rfl ⟨_, rfl, told_no rfl, nextG (St := (SB W2 r)) (by omega) ⟨hJ.1.alloc _, fun _ => ⟨w2.heap.size, rfl, hJ.1.size, Blk.new w2 3 _⟩, fun h => by obtain ⟨q, hq, hg, h1, h2⟩ := hJ.2.2.1 h; exact ⟨q, hq, hg, fun h6 => (h1 h6).alloc _, fun h6 => (h2 h6).alloc _⟩, fun _ h => by
        obtain ⟨q, hq, hg, h1, h2⟩ := hJ.2.2.1 h
        intro e
        have e : P0 w2.heap.size = vs 4 := e
        rw [hq] at e
        cases h6 : l.getD 6 false with
        | false => exact p0_lt (h1 h6) e.symm
        | true => exact p0_lt (h2 h6) e.symm⟩⟩
    | 4, ho =>
      obtain rfl := Option.some.inj ho
      exact wp_allocA [.int .i64 0] zero3 rfl ⟨_, rfl, told_no rfl, nextG (St := (SB W2 r)) (by omega) ⟨hJ.1.alloc _, fun h => by obtain ⟨p, hp, hg, h1⟩ := hJ.2.1 h; exact ⟨p, hp, hg, h1.alloc _⟩, fun _ => ⟨w2.heap.size, rfl, hJ.1.size, fun _ => Blk.new w2 3 _, fun h => by have h9 : l.getD 6 false = true := h; rw [hnot 6 (by kernel_rfl)] at h9; cases h9⟩, fun h _ => by
        obtain ⟨p, hp, hg, h1⟩ := hJ.2.1 h
        intro e
        have e : vs 3 = P0 w2.heap.size := e
        rw [hp] at e
        exact p0_lt h1 e⟩⟩
    | 5, ho =>
      obtain rfl := Option.some.inj ho
      have e0 : a'.eval (.tmp 7) = vs 3 := (hin 3 7 (by kernel_rfl) (by kernel_rfl)).1
      have d3 : l.getD 3 false = true := hdep 3 (by kernel_rfl)
      obtain ⟨p, hp, hg, h1⟩ := hJ.2.1 d3
      exact o_st3 (.tmp 7) (.const (.int .i64 0)) rfl p 0 3 [.int .i64 0] 0 (e0.trans hp) rfl h1 (by simp) (fun W hB hK => ⟨undef, rfl, told_no rfl, keepG (St := (SB W2 r)) [3, 4, 6] SB.loc (by omega) (by decide) ⟨hJ.1.fresh hK (fun i hi hl => by simp at hi; omega), fun _ => ⟨p, hp, hg, hB⟩, fun h => by
        obtain ⟨q, hq, hg2, g1, g2⟩ := hJ.2.2.1 h
        have hne : q ≠ p := by
          rintro rfl
          exact hJ.2.2.2 d3 h (hp.trans hq.symm)
        exact ⟨q, hq, hg2, fun h6 => (g1 h6).kept hK (by simpa using hne), fun h6 => (g2 h6).kept hK (by simpa using hne)⟩, hJ.2.2.2⟩⟩)
    | 6, ho =>
      obtain rfl := Option.some.inj ho
      have e0 : a'.eval (.tmp 8) = vs 4 := (hin 4 8 (by kernel_rfl) (by kernel_rfl)).1
      have e1 : a'.eval (.tmp 20) = .int .i64 r := by have h9 := hin 2 20 (by kernel_rfl) (by kernel_rfl); exact h9.1.trans (told_is _ h9.2 rfl)
      have d4 : l.getD 4 false = true := hdep 4 (by kernel_rfl)
      obtain ⟨q, hq, hg, h1, h2⟩ := hJ.2.2.1 d4
      exact o_st3 (.tmp 8) (.tmp 20) rfl q 0 3 [.int .i64 0] r (e0.trans hq) e1 (h1 hlf) (by simp) (fun W hB hK => ⟨undef, rfl, told_no rfl, nextG (St := (SB W2 r)) (by omega) ⟨hJ.1.fresh hK (fun i hi hl => by simp at hi; omega), fun h => by
        obtain ⟨p, hp, hg2, g1⟩ := hJ.2.1 h
        have hne : p ≠ q := by
          rintro rfl
          exact hJ.2.2.2 h d4 (hp.trans hq.symm)
        exact ⟨p, hp, hg2, g1.kept hK (by simpa using hne)⟩, fun _ => ⟨q, hq, hg, (fun h => by cases h), fun _ => hB⟩, hJ.2.2.2⟩⟩)
  intro l_ vs4 V4 hl hJ htold
  have t0 : vs4 0 = .int .i64 page := told_is _ (htold 0 (by decide)) rfl
  have t1 : vs4 1 = .int .i64 n := told_is _ (htold 1 (by decide)) rfl
  have t2 : vs4 2 = .int .i64 r := told_is _ (htold 2 (by decide)) rfl
  rw [show (List.range 7).map vs4 = [vs4 0, vs4 1, vs4 2, vs4 3, vs4 4, vs4 5, vs4 6] from rfl]
  simp only [t0, t1, t2, putAll, Act.put, List.setIfInBounds_toArray, List.set_cons_succ, List.set_cons_zero]
  clear t0 t1 t2 htold
  obtain ⟨p, ep, hgp, hbp⟩ := hJ.2.1 (hl 3 (by decide))
  obtain ⟨q, eq, hgq, _, hbq⟩ := hJ.2.2.1 (hl 4 (by decide))
  replace hbq := hbq (hl 6 (by decide))
  have hpq : p ≠ q := by rintro rfl; exact hJ.2.2.2 (hl 3 (by decide)) (hl 4 (by decide)) (ep.trans eq.symm)
  have hb1 : b1 < W2.heap.size := ((unhide M).at 0 _ rfl).lt
  have hwz := (unhide M).kept.size
  replace M : Hid (Mm w V4 [(b1, 26, vwC v), (p, 3, [.int .i64 0]), (q, 3, [.int .i64 r])]) := hide ((((unhide M).step hJ.1).add hbp (by omega) (fun x hx => by simp at hx; subst hx; simp; omega)).add hbq (by omega) (fun x hx => by simp at hx; rcases hx with rfl | rfl <;> simp <;> omega))
  rw [ep, eq]
  clear hJ hl ep eq hgp hgq hbp hbq hpq hb1 hwz P26
  go_wp2_with fail
  go_step3
  go_wp2_with (
    first
    | (refine wpLoadA row26 (by rfl) (.tmp 2) (by rfl) b1 0 (by rfl) (vwC v) (vwC_len hv) ((unhide M).at 0 _ rfl).range ?_
       refine Stp.go ?_))
  constructor
  go_wp2_with (
    first
    | (go_at_call 30
       refine (members30 v _).mono ?_
       rintro e W5 ⟨z, rfl, hB, _, K5⟩
       replace M : Hid (Mm w W5 [(b1, 26, vwC v), (p, 3, [.int .i64 0]), (q, 3, [.int .i64 r])]) := hide ((unhide M).step K5)
       have HZ := hide hB
       clear hB K5
       refine Stp.go ?_))
  constructor
  go_wp2_with fail
  rw [← wpIn_wide (n := 3)]
  have HW : Hid (w.heap.size ≤ W5.heap.size) := (unhide M).kept.size
  have hrR : r = (R : Int) := unhide HRr
  have hRS : R < S.length := unhide HRS
  have hR8 : (R : Int) ≤ 8 := by have := unhide HN; omega
  have M0 : Mm w W5 [(b1, 26, vwC v), (p, 3, [.int .i64 0]), (q, 3, [.int .i64 ((R - 0 : Nat) : Int)])] := by rw [Nat.sub_zero, ← hrR]; exact unhide M
  refine wp_rangeM z v S hS rfl rfl (unhide HZ) (unhide M).first hv
    (fun pre W => pre.length ≤ R ∧ Mm w W [(b1, 26, vwC v), (p, 3, [.int .i64 0]), (q, 3, [.int .i64 ((R - pre.length : Nat) : Int)])])
    (fun c _ W => c = .exit 0 ∧ ∃ y, Mm w W [(b1, 26, vwC v), (p, 3, [.int .i64 (mm : Nat)]), (q, 3, [y])]) ?hI ?hIx ⟨Nat.zero_le _, M0⟩
    (fun k x a' W => k ≤ R ∧ Mm w W [(b1, 26, vwC v), (p, 3, [.int .i64 0]), (q, 3, [.int .i64 ((R - k : Nat) : Int)])] ∧ a' = { tmps := #[aggV (vwC v), .int .i64 page, P0 b1, undef, .int .i64 0, .bool false, .int .i64 n, P0 p, P0 q, .int .i64 x.1, aggV (vwC v), .int .i64 n, .int .i64 page, .bool false, .bool false, .int .i64 n, .bool false, .bool false, .int .i64 page, .int .i64 n, .int .i64 r, aggV (vwC v), .func (.func 40) #[] #[P0 z], .int .i64 x.1, .int .i64 x.2, undef, undef, undef, undef, undef, undef], defers := [] }) ?hFr ?assign ?body ?done ?stop
  case hI =>
    intro s A B row hs hg hr
    exact ⟨hs.1, hs.2.grown hg (unhide HW) hr⟩
  case hIx =>
    intro c s A B row hs hg hr
    obtain ⟨h1, y, h2⟩ := hs
    exact ⟨h1, y, h2.grown hg (unhide HW) hr⟩
  case hFr =>
    intro k x a' s A B row hs hg hr
    exact ⟨hs.1, hs.2.1.grown hg (unhide HW) hr, hs.2.2⟩
  case assign =>
    intro l k x W K hI hx hK
    simp only [List.zip_toArray, List.zip_cons_cons, List.zip_nil_right, List.foldl_toArray, List.foldl_cons, List.foldl_nil, List.setIfInBounds_toArray, List.set_cons_succ, List.set_cons_zero]
    have hlen : (S.take k).length = k := by rw [List.length_take]; have := (List.getElem?_eq_some_iff.1 hx).1; omega
    rw [hlen] at hI
    gi_wp2_with fail
    exact hK _ _ (Kept.refl _ _) ⟨hI.1, hI.2, rfl⟩
  case body =>
    rintro l k x a' W hx ⟨hkR, hI, rfl⟩
    have hk := (List.getElem?_eq_some_iff.1 hx).1
    have hlen : (S.take (k + 1)).length = k + 1 := by rw [List.length_take]; omega
    have HLN := hide hlen
    have HI := hide hI
    by_cases hkr : k = R
    · subst hkr
      have hc : W.cell? ⟨q, 0, none⟩ = some (.int .i64 0) := by have := fits_cell (hI.at 2 _ rfl) 0 _ rfl; rw [Nat.sub_self] at this; exact this
      have HX : Hid (x.1 = mm) := by have h9 := unhide HMM; rw [hx] at h9; exact h9
      clear hI hlen hx hk hkR
      gi_wp2_with (
        first
        | (refine listIn_of_list (by rintro ⟨a, w, h⟩; exact h) _ _ _ (noDefer_spec (by kernel_rfl)) ?_
           refine Stp.go ?_))
      constructor
      go_wp2_with fail
      gi_wp2_with (
        first
        | (refine listIn_of_list (by rintro ⟨a, w, h⟩; exact h) _ _ _ (noDefer_spec (by kernel_rfl)) ?_
           refine Stp.go ?_))
      constructor
      go_wp2_with (
        first
        | (refine wpStoreK1 size3 (by rfl) (.tmp 7) (.tmp 27) (by rfl) (by rfl) p 0 1 (.int .i64 x.1) ⟨rfl, rfl⟩ (by rfl) (by rfl) (unhide HI) (by rfl) (by simp) ?_
           intro W9 M9 K9
           have HM9 := hide M9
           have HK9 := hide K9
           clear M9 K9
           refine Stp.go ?_))
      constructor
      go_wp2_with fail
      gi_wp2_with fail
      obtain ⟨q1, q2⟩ := keep34 (B := W5.heap.size) (unhide HK9) ((unhide HI).at 1 _ rfl) (.inl rfl)
      refine ⟨q1, rfl, .int .i64 ((k - k : Nat) : Int), ?_⟩
      rw [← unhide HX]
      exact unhide HM9
    · have hc := fits_cell (hI.at 2 _ rfl) 0 _ rfl
      obtain ⟨d, hd⟩ : ∃ d : Nat, R - k = d + 1 := ⟨R - k - 1, by omega⟩
      rw [hd] at HI hc
      have hdne : (((d + 1 : Nat) : Int) == 0) = false := by simp; omega
      have HD : Hid (R - (k + 1) = d ∧ k + 1 ≤ R) := ⟨by omega, by omega⟩
      have hd8 : ((d + 1 : Nat) : Int) ≤ 8 := by omega
      have hd0 : 1 ≤ ((d + 1 : Nat) : Int) := by omega
      obtain ⟨D1, hD1⟩ : ∃ D1 : Int, D1 = ((d + 1 : Nat) : Int) := ⟨_, rfl⟩
      have HDD : Hid (D1 - 1 = (d : Int)) := by show _ = _; omega
      rw [← hD1] at HI hc hdne hd8 hd0
      clear hI hlen hx hk hkR hkr hd hD1
      gi_wp2_with (
        first
        | (refine listIn_of_list (by rintro ⟨a, w, h⟩; exact h) _ _ _ (noDefer_spec (by kernel_rfl)) ?_
           refine Stp.go ?_))
      constructor
      go_wp2_with fail
      gi_wp2_with (
        first
        | (refine listIn_of_list (by rintro ⟨a, w, h⟩; exact h) _ _ _ (noDefer_spec (by kernel_rfl)) ?_
           refine Stp.go ?_))
      constructor
      go_wp2_with (
        first
        | (refine wpStoreK1 size3 (by rfl) (.tmp 8) (.tmp 29) (by rfl) (by rfl) q 0 2 (.int .i64 (D1 - 1)) ⟨rfl, rfl⟩ (by rfl) (by rfl) (unhide HI) (by rfl) (by simp) ?_
           intro W9 M9 K9
           have HM9 := hide M9
           have HK9 := hide K9
           clear M9 K9
           refine Stp.go ?_))
      constructor
      go_wp2_with fail
      obtain ⟨q1, q2⟩ := keep34 (B := W5.heap.size) (unhide HK9) ((unhide HI).at 2 _ rfl) (.inl rfl)
      refine ⟨q1, q2, ?_, ?_⟩
      · rw [unhide HLN]; exact (unhide HD).2
      · rw [unhide HLN, (unhide HD).1, ← unhide HDD]
        exact unhide HM9
  case done =>
    rintro E W hE hI hK
    have := hI.1
    omega
  case stop =>
    rintro E c k W hE hk ⟨rfl, y, hI⟩ hK
    refine wpIn_exit ?_
    have hc := fits_cell (hI.at 1 _ rfl) 0 _ rfl
    have HI := hide hI
    have HDK := hide hK
    have HDG : Hid (w.heap.size ≤ E) := by have := unhide HW; show _ ≤ _; omega
    clear hI hK hS
    go_wp2_with fail
    have hgr := grownBy_putObj' W E (Obj.deferred none)
    refine (show LeavesInM Fence.wide 3 Tryd.prog Tryd.f23 _ _ [{ target := .collected E, args := #[] }] .returning W from ?_)
    refine ⟨by simp, .inl ⟨_, _, rfl, run_takeDeferred (unhide HDK), ?_⟩⟩
    exact ⟨_, res23 _ _ _ _ rfl rfl, rfl, kept_kept (B := w.heap.size) (unhide HI).kept hgr (Nat.le_refl _) (fun r e => by cases e; exact unhide HDG)⟩
theorem master23 (v : Vw) (page : Int) (w : World) (hF : First w) (hv : v.ms.length = 8) (hp : I64 page) : Calls Tryd.prog 23 #[aggV (vwC v), .int .i64 page] w fun e w' => e = .returned (.tuple #[.int .i64 (v.master page).1, .bool (v.master page).2]) ∧ Kept [] w w' := by
  unfold Vw.master
  by_cases h1 : page < 0
  · rw [if_pos (.inl h1)]; exact master_neg v page w hF hv h1
  by_cases h2 : v.list.length = 0
  · rw [if_pos (.inr h2)]; exact master_non v page w hF hv h1 h2
  rw [if_neg (by omega)]
  have hm := Int.emod_nonneg page (b := (v.list.length : Int)) (by omega)
  exact callsIn_wide.1 (master_in v page (v.list.length : Int) (page % (v.list.length : Int)) (page % (v.list.length : Int)).toNat _ w hF hv h1 hp.2 rfl (by omega) rfl (by omega) rfl)

end Go.Proofs.YtbpnnbbinhdoiaaDoor
