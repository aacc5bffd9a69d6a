/-
  stands.
-/
import Derived.Test.YthihladmifpokaaTl
import Derived.BigQuiet
import Derived.Deep.CutBlock
namespace Go.Proofs.Ythihladmifpokaa
set_option maxRecDepth 100000
set_option linter.unusedSimpArgs false
open Go.RowKit Go.Shelf
attribute [local go_sem] Oper.semAt_some

theorem cg27 (vs : Array Value) (w : World) : (callFunc 27 vs).run Try.prog w = .ok (.enter 27 vs) w := by kernel_rfl
theorem res10 (w : World) (b : Nat) (v : Bool) (tmps : Array Value) (h4 : tmps[10]?.getD undef = P0 b) (hb : Blk w b 4 [.bool v]) : (results Try.f10 tmps).run Try.prog w = .ok (.bool v) w := by
  have hc := fits_cell hb 0 _ rfl
  simp [results, Try.results10, h4, asAddr, go_sem, hc]
/-- How stands leaves: both marks are taken. -/
theorem all_leaves {w W : World} {D2 D br : Nat} {tmps : Array Value} (h4 : tmps[10]?.getD undef = P0 br) (hb : Blk W br 4 [.bool true]) (hk : Kept [] w W) (h2 : W.heap[D2]? = some (.deferred (some []))) (h1 : W.heap[D]? = some (.deferred (some []))) (hne : D ≠ D2) (g2 : w.heap.size ≤ D2) (g1 : w.heap.size ≤ D) :
    LeavesInM Fence.wide 3 Try.prog Try.f10 tmps (fun e w' => e = .returned (.bool true) ∧ Kept [] w w') [{ target := .collected D2, args := #[] }, { target := .collected D, args := #[] }] .returning W := by
  have n1 : br ≠ D := by intro e; subst e; rw [hb] at h1; cases h1
  have n2 : br ≠ D2 := by intro e; subst e; rw [hb] at h2; cases h2
  have k1 : Kept [D2] W (W.putObj D2 (.deferred none)) := Kept.put1
  have h1' : (W.putObj D2 (.deferred none)).heap[D]? = some (.deferred (some [])) := k1.heap h1 (by simpa using hne)
  have k2 : Kept [D] (W.putObj D2 (.deferred none)) ((W.putObj D2 (.deferred none)).putObj D (.deferred none)) := Kept.put1
  have hb2 := (hb.kept k1 (by simpa using n2)).kept k2 (by simpa using n1)
  have k3 : Kept [] w ((W.putObj D2 (.deferred none)).putObj D (.deferred none)) := (hk.fresh k1 (fun i hi hl => by simp at hi; omega)).fresh k2 (fun i hi hl => by simp at hi; omega)
  refine ⟨by simp, .inl ⟨_, _, rfl, run_takeDeferred h2, ?_⟩⟩
  refine ⟨by simp, .inl ⟨_, _, rfl, run_takeDeferred h1', ?_⟩⟩
  exact ⟨_, res10 _ _ _ _ h4 hb2, rfl, k3⟩
variable {w W W' : World} {B b mb r bq b9 b10 : Nat} {v : Value} {M L : List Mk} {leave : Int} {Z : List Nat}
/-- What stays through the first loop. -/
structure Sw (w W : World) (B b mb r bq b9 b10 : Nat) (v : Value) (M L : List Mk) (leave : Int) : Prop where
  tw : Tw W b mb r v M L
  hq : Blk W bq 27 [P0 r]
  l9 : Blk W b9 3 [.int .i64 leave]
  o10 : Blk W b10 4 [.bool false]
  kp : Kept [] w W
  lt : b < B ∧ mb < B ∧ r < B ∧ bq < B ∧ b9 < B ∧ b10 < B
  ge : w.heap.size ≤ B ∧ w.heap.size ≤ b10
  own : ∀ k, v.ownBlock = some k → k < B
theorem Sw.keep (h : Sw w W B b mb r bq b9 b10 v M L leave) (hk : Kept Z W W') (hz : ∀ i ∈ Z, B ≤ i) : Sw w W' B b mb r bq b9 b10 v M L leave := by
  have hl := h.lt
  have ne : ∀ j, j < B → j ∉ Z := fun j hj e => by have := hz j e; omega
  exact ⟨h.tw.step hk (ne _ hl.1) (ne _ hl.2.1) (ne _ hl.2.2.1) (fun k e => ne _ (h.own k e)), h.hq.kept hk (ne _ hl.2.2.2.1), h.l9.kept hk (ne _ hl.2.2.2.2.1), h.o10.kept hk (ne _ hl.2.2.2.2.2), h.kp.fresh hk (fun i hi hlt => by have := hz i hi; have := h.ge.1; omega), hl, h.ge, h.own⟩
theorem Sw.step0 (h : Sw w W B b mb r bq b9 b10 v M L leave) (hk : Kept [] W W') : Sw w W' B b mb r bq b9 b10 v M L leave := h.keep hk (by simp)
theorem len18L (h : Tw w b mb r v M L) : Calls Try.prog 18 #[P0 b] w fun e w' => e = .returned (.int .i64 (L.length : Int)) ∧ w' = w := by
  have h1 := len18 h.pg
  rw [← h.perm.length_eq] at h1
  exact h1
theorem Tw.small (h : Tw W b mb r v M L) : ∀ l ∈ L, l.f ≤ 2147483647 := fun l hl => (h.pg.ok.may l (h.perm.mem_iff.1 hl)).2.2.2
set_option maxHeartbeats 16000000 in
theorem stands_in (h : Tw w b mb r v M L) (n leave : Int) (ao : Option Addr) (cf : Nat) (F : List Int) (hF : RowS intC 1 w ao F) (hno : ao = none → F = [] ∧ cf = 0) (h40 : F.length ≤ 40) : CallsIn Fence.wide 3 Try.prog 10 #[P0 b, P0 r, .int .i64 n, .slice ao F.length cf, .int .i64 leave] w fun e w' => e = .returned (.bool true) ∧ Kept [] w w' := by
  obtain ⟨vo, cc, rfl, -, -⟩ := h.rp.row.sl
  obtain ⟨x, hx⟩ : ∃ x, fndM (ofF (leastF L)) L = x := ⟨_, rfl⟩
  obtain ⟨bv, hbv⟩ : ∃ x, fndB (ofF (leastF L)) L = x := ⟨_, rfl⟩
  obtain ⟨bp, hbp⟩ : ∃ x, boundP n F L = x := ⟨_, rfl⟩
  have HXM := hide hx
  have HXB := hide hbv
  have HBP := hide hbp
  have HBM : Hid (boundP n F M = bp) := by show _ = _; rw [← boundP_perm h.perm, hbp]
  have HEQ : Hid (∀ W, (Op.equal 54 (aggV x.C) (aggV x.C)).run Try.prog W = .ok true W) := fun W => by have h9 := equal54 W x x; rw [decide_eq_true rfl] at h9; exact h9
  have HFL := hide h.small
  have HT := hide h
  have HF := hide hF
  have HFN := hide hno
  have H40 := hide h40
  clear h hF hno h40 hx hbv hbp
  refine callsIn_of_wp_marks Try.func10 rfl trivial ?_ rfl
  refine wpIn_wide.2 ?_
  simp only [Try.ntmps10, List.size_toArray, List.length_cons, List.length_nil, Nat.reduceAdd, Nat.reduceSub, Array.replicate_succ, Array.replicate_zero, List.push_toArray, List.append_toArray, List.nil_append, List.cons_append]
  go_wp2_with (
    first
    | (refine wpBoxQ rfl (.tmp 1) rfl (some ⟨r, 0, none⟩) rfl ?_
       intro W1 bq e1 B1 K1
       have HQ := hide B1
       have HK := hide K1
       clear e1 B1 K1
       refine Stp.go ?_))
  constructor
  go_wp2_with (
    first
    | (refine wpBox1 rfl (.tmp 4) rfl leave rfl ?_
       intro W2 b9 e1 B1 K1
       have HL9 := hide B1
       replace HQ := hide ((unhide HQ).kept K1 (by simp))
       replace HK := hide ((unhide HK).trans K1)
       clear e1 B1 K1
       refine Stp.go ?_))
  constructor
  go_wp2_with (
    first
    | (refine wpAllocW ([Value.bool false]) zero4 10 rfl rfl rfl ?_
       intro W3 b10 e2 B2 K2
       obtain ⟨B, hB⟩ : ∃ B, B = W3.heap.size := ⟨_, rfl⟩
       have HB := hide hB
       have HS : Hid (Sw w W3 B b mb r bq b9 b10 (.slice vo L.length cc) M L leave) := by
         have h1 := (unhide HK).trans K2
         have h2 := (unhide HT).step0 h1
         have h3 := (unhide HQ).kept K2 (by simp)
         have h4 := (unhide HL9).kept K2 (by simp)
         have h5 := h2.pg.lt
         have h6 := h2.rp.blk.lt
         exact ⟨h2, h3, h4, B2, h1, by have := h3.lt; have := h4.lt; have := B2.lt; omega, ⟨by have := h1.size; omega, by have := (unhide HK).size; omega⟩, fun k hk => by have := h2.rp.row.lt hk; omega⟩
       clear e2 B2 K2 HK HL9 HQ HT hB
       refine Stp.go ?_))
  constructor
  go_wp2_with (
    first
    | (go_at_call 20
       refine (oldest20 (unhide HS).tw.pg (unhide HS).tw.perm (unhide HS).tw.srt).mono ?_
       rw [unhide HXM, unhide HXB]
       rintro e W4 ⟨rfl, K4⟩
       have HBK : Hid (B ≤ W4.heap.size) := by have h1 := K4.size; have h2 := unhide HB; show _ ≤ _; omega
       replace HS := hide ((unhide HS).step0 K4)
       clear K4
       refine Stp.go ?_))
  constructor
  go_wp2_with (
    first
    | (refine wpNew row54 mk0.C rfl zero54 11 rfl rfl rfl (.tmp 25) rfl rfl rfl x.C rfl x.one rfl rfl ?_
       intro W5 y11 e5 B5 K5
       have H11 := hide B5
       have HBL : Hid (B ≤ W5.heap.size) := by have h1 := K5.size; have h2 := unhide HBK; show _ ≤ _; omega
       replace HS := hide ((unhide HS).step0 K5)
       have c6 := fits_cell (unhide HS).hq 0 _ rfl
       clear e5 B5 K5
       refine Stp.go ?_))
  constructor
  go_wp2_with (
    first
    | (go_at_call 26
       refine (rold26 (unhide HS).tw.rp (unhide HFL)).mono ?_
       rw [unhide HXM, unhide HXB]
       rintro e W6 ⟨rfl, K4⟩
       replace HBL := hide (Nat.le_trans (unhide HBL) K4.size)
       replace HS := hide ((unhide HS).step0 K4)
       replace H11 := hide ((unhide H11).kept K4 (by simp))
       clear K4 c6
       refine Stp.go ?_))
  constructor
  go_wp2_with (
    first
    | (refine wpNew row54 mk0.C rfl zero54 13 rfl rfl rfl (.tmp 30) rfl rfl rfl x.C rfl x.one rfl rfl ?_
       intro W7 y13 e5 B5 K5
       have H13 := hide B5
       replace H11 := hide ((unhide H11).kept K5 (by simp))
       replace HBL := hide (Nat.le_trans (unhide HBL) K5.size)
       replace HS := hide ((unhide HS).step0 K5)
       clear e5 B5 K5
       refine Stp.go ?_))
  constructor
  go_wp2_with (
    first
    | (refine wpAppA rfl (.tmp 32) rfl ao cf F rfl ((unhide HF).kept (unhide HS).kp) (unhide HFN) (unhide H40) ?_
       intro u1 W8 q1 q2 q3 q4
       have HU1 := hide q1
       have HUS : Hid (∀ k ∈ spare u1, B ≤ k ∧ k ≠ y11 ∧ k ≠ y13) := fun k hk => by
         have h1 := q4 k hk
         have h2 := (unhide H11).lt
         have h3 := (unhide H13).lt
         have h4 := (unhide HS).o10.lt
         have h5 := unhide HBL
         omega
       replace HS := hide ((unhide HS).step0 q2)
       replace H11 := hide ((unhide H11).kept q2 (by simp))
       replace H13 := hide ((unhide H13).kept q2 (by simp))
       clear q1 q2 q3 q4
       refine Stp.go ?_))
  constructor
  go_wp2_with (
    first
    | (refine wpBs23o rfl (.const (.int .i64 (-5))) rfl (-5) rfl ?_
       intro W9 g9 e9 B9 K9
       have HN5 : Hid (Rw W9 2 1 (.slice (some ⟨g9, 0, none⟩) 1 1) 1 (inC [-5])) := Rw.made (n := 1) (z := 1) B9 rfl (by unfold maxLen; omega)
       replace HU1 := hide ((unhide HU1).kept K9 (by simp))
       replace HS := hide ((unhide HS).step0 K9)
       replace H11 := hide ((unhide H11).kept K9 (by simp))
       replace H13 := hide ((unhide H13).kept K9 (by simp))
       clear e9 B9 K9
       refine Stp.go ?_))
  constructor
  go_wp2_with (
    first
    | (refine wpAppR el23 rfl (.tmp 33) (.tmp 34) rfl _ F.length (inC F) rfl (unhide HU1) _ 1 (inC [-5]) rfl (unhide HN5) (inC_one _) (by have := unhide H40; omega) (by have := unhide H40; unfold maxLen; omega) ?_
       intro u W10 q1 q2 q3 q4
       have HU : Hid (Is W10 u (F ++ [-5])) := by
         show Rw _ _ _ _ _ _
         rw [inC_app, List.length_append]
         exact q1
       replace HS := hide ((unhide HS).keep q2 (fun i hi => ((unhide HUS) i hi).1))
       replace H11 := hide ((unhide H11).kept q2 (fun hi => ((unhide HUS) _ hi).2.1 rfl))
       replace H13 := hide ((unhide H13).kept q2 (fun hi => ((unhide HUS) _ hi).2.2 rfl))
       clear q1 q2 q3 q4 HU1 HN5 HUS
       refine Stp.go ?_))
  constructor
  obtain ⟨ug, uo, uc, hu, hcu⟩ := (unhide HU).get (i := F.length) (x := -5) (by simp)
  subst hu
  have HCU := hide hcu
  have HUH := hide ((unhide HU).head rfl)
  have HUC : Hid ((F ++ [-5]).length ≤ uc) := by rcases (unhide HU).lie with ⟨h1, _⟩ | ⟨_, _, _, _, h1, _, h3, _⟩ <;> cases h1; exact h3
  clear hcu
  go_upto_region 4 with fail
  refine wp_region_any mixed (wpAny_tq 40 rfl (by kernel_rfl) [some (P0 b), some (.int .i64 L.length), some (P0 r), some (P0 r), some (P0 r), some (.slice vo L.length cc), some (.int .i64 L.length), some (.bool false), some (.bool false), some (aggV x.C), some (aggV x.C), some (.bool false), some (.bool false), some (.bool false), some (.bool bv), some (.bool bv), some (.bool false), some (.bool false), some (.bool false), some (P0 b), some (.int .i64 n), some (.slice (some ⟨ug, uo, none⟩) (F ++ [-5]).length uc), some (.slice ao F.length cf), some (.int .i64 F.length), some (.slice (some ⟨ug, uo, none⟩) F.length uc), some (.int .i64 bp), some (P0 r), some (.int .i64 n), some (.slice ao F.length cf), some (.int .i64 bp), some (.bool false), some (.bool false), some (.bool false), some (.slice (some ⟨ug, uo, none⟩) (F ++ [-5]).length uc), some (.slice ao F.length cf), some (.int .i64 F.length), some (.pointer (some ⟨ug, uo + F.length, none⟩)), some (.int .i64 (-5)), some (.bool false), some (.bool false)] rfl (by kernel_rfl) (by kernel_rfl) ?_ ?_)
  · intro i o' hi hsk ho a' w2 hout hin hk2
    replace hk2 : Kept [] W10 w2 := ⟨hk2.os, hk2.tape, hk2.output, hk2.size, hk2.block⟩
    match i, ho, hsk with
    | 0, ho, hsk =>
      obtain rfl := Option.some.inj ho
      exact wp_move (.tmp 0) rfl _ ((hout 0 (by kernel_rfl)).trans rfl) ⟨_, rfl, tq_is _ _ _ _ rfl, Kept.refl _ _, fun _ _ _ _ _ => trivial⟩
    | 1, ho, hsk =>
      obtain rfl := Option.some.inj ho
      have e0 : a'.eval (.tmp 36) = P0 b := is_tq (hin 0 36 (by kernel_rfl) (by kernel_rfl)) rfl
      refine wp_callF 18 _ _ rfl #[P0 b] (by simp [e0]) (cg18 _ _) ((len18L ((unhide HS).step0 hk2).tw).mono ?_)
      rintro e w3 ⟨rfl, rfl⟩
      exact ⟨_, rfl, _, rfl, tq_is _ _ _ _ rfl, Kept.refl _ _, fun _ _ _ _ _ => trivial⟩
    | 2, ho, hsk =>
      obtain rfl := Option.some.inj ho
      exact o_load27 (.tmp 6) rfl _ _ ((hout 6 (by kernel_rfl)).trans rfl) (fits_cell ((unhide HS).step0 hk2).hq 0 _ rfl) ⟨_, rfl, tq_is _ _ _ _ rfl, Kept.refl _ _, fun _ _ _ _ _ => trivial⟩
    | 3, ho, hsk =>
      obtain rfl := Option.some.inj ho
      have e0 : a'.eval (.tmp 38) = P0 r := is_tq (hin 2 38 (by kernel_rfl) (by kernel_rfl)) rfl
      exact o_nil (.tmp 38) rfl _ e0 ⟨_, rfl, tq_is _ _ _ _ rfl, Kept.refl _ _, fun _ _ _ _ _ => trivial⟩
    | 4, ho, hsk =>
      obtain rfl := Option.some.inj ho
      have e0 : a'.eval (.tmp 39) = P0 r := is_tq (hin 3 39 (by kernel_rfl) (by kernel_rfl)) rfl
      exact o_fld30_0 (.tmp 39) rfl r (0) (0) rfl e0 ⟨_, rfl, tq_is _ _ _ _ rfl, Kept.refl _ _, fun _ _ _ _ _ => trivial⟩
    | 5, ho, hsk =>
      obtain rfl := Option.some.inj ho
      have e0 : a'.eval (.tmp 40) = P0 r := is_tq (hin 4 40 (by kernel_rfl) (by kernel_rfl)) rfl
      exact o_load28 (.tmp 40) rfl _ _ e0 (((unhide HS).step0 hk2).tw.rp.cw) ⟨_, rfl, tq_is _ _ _ _ rfl, Kept.refl _ _, fun _ _ _ _ _ => trivial⟩
    | 6, ho, hsk =>
      obtain rfl := Option.some.inj ho
      have e0 : a'.eval (.tmp 41) = .slice vo L.length cc := is_tq (hin 5 41 (by kernel_rfl) (by kernel_rfl)) rfl
      exact o_len28 (.tmp 41) rfl _ _ _ e0 ⟨_, rfl, tq_is _ _ _ _ rfl, Kept.refl _ _, fun _ _ _ _ _ => trivial⟩
    | 7, ho, hsk =>
      obtain rfl := Option.some.inj ho
      have e0 : a'.eval (.tmp 37) = .int .i64 L.length := is_tq (hin 1 37 (by kernel_rfl) (by kernel_rfl)) rfl
      have e1 : a'.eval (.tmp 42) = .int .i64 L.length := is_tq (hin 6 42 (by kernel_rfl) (by kernel_rfl)) rfl
      exact c_neq3 (.tmp 37) (.tmp 42) rfl _ _ (true) (by simp) e0 e1 ⟨_, rfl, tq_is _ _ _ _ rfl, Kept.refl _ _, fun _ _ _ _ _ => trivial⟩
    | 8, ho, hsk =>
      obtain rfl := Option.some.inj ho
      have e0 : a'.eval (.tmp 43) = .bool false := is_tq (hin 7 43 (by kernel_rfl) (by kernel_rfl)) rfl
      exact wp_move (.tmp 43) rfl _ e0 ⟨_, rfl, tq_is _ _ _ _ rfl, Kept.refl _ _, fun _ _ _ _ _ => trivial⟩
    | 9, ho, hsk =>
      obtain rfl := Option.some.inj ho
      exact wp_loadA row54 (.tmp 11) rfl y11 (0) ((hout 11 (by kernel_rfl)).trans rfl) (x.C) (rfl) (((unhide H11).kept hk2 (by simp)).range) ⟨_, rfl, tq_is _ _ _ _ rfl, Kept.refl _ _, fun _ _ _ _ _ => trivial⟩
    | 10, ho, hsk =>
      obtain rfl := Option.some.inj ho
      exact wp_loadA row54 (.tmp 13) rfl y13 (0) ((hout 13 (by kernel_rfl)).trans rfl) (x.C) (rfl) (((unhide H13).kept hk2 (by simp)).range) ⟨_, rfl, tq_is _ _ _ _ rfl, Kept.refl _ _, fun _ _ _ _ _ => trivial⟩
    | 11, ho, hsk =>
      obtain rfl := Option.some.inj ho
      have e0 : a'.eval (.tmp 45) = aggV x.C := is_tq (hin 9 45 (by kernel_rfl) (by kernel_rfl)) rfl
      have e1 : a'.eval (.tmp 46) = aggV x.C := is_tq (hin 10 46 (by kernel_rfl) (by kernel_rfl)) rfl
      exact o_neqA 54 54 guard54 (.tmp 45) (.tmp 46) rfl (x.C) (x.C) e0 e1 (true) (unhide HEQ _) ⟨_, rfl, tq_is _ _ _ _ rfl, Kept.refl _ _, fun _ _ _ _ _ => trivial⟩
    | 12, ho, hsk =>
      obtain rfl := Option.some.inj ho
      have e0 : a'.eval (.tmp 44) = .bool false := is_tq (hin 8 44 (by kernel_rfl) (by kernel_rfl)) rfl
      have e1 : a'.eval (.tmp 47) = .bool false := is_tq (hin 11 47 (by kernel_rfl) (by kernel_rfl)) rfl
      exact o_pickOr0 (.tmp 44) (.tmp 47) rfl _ e0 e1 ⟨_, rfl, tq_is _ _ _ _ rfl, Kept.refl _ _, fun _ _ _ _ _ => trivial⟩
    | 13, ho, hsk =>
      obtain rfl := Option.some.inj ho
      have e0 : a'.eval (.tmp 48) = .bool false := is_tq (hin 12 48 (by kernel_rfl) (by kernel_rfl)) rfl
      exact wp_move (.tmp 48) rfl _ e0 ⟨_, rfl, tq_is _ _ _ _ rfl, Kept.refl _ _, fun _ _ _ _ _ => trivial⟩
    | 14, ho, hsk =>
      obtain rfl := Option.some.inj ho
      exact wp_move (.tmp 12) rfl _ ((hout 12 (by kernel_rfl)).trans rfl) ⟨_, rfl, tq_is _ _ _ _ rfl, Kept.refl _ _, fun _ _ _ _ _ => trivial⟩
    | 15, ho, hsk =>
      obtain rfl := Option.some.inj ho
      exact wp_move (.tmp 14) rfl _ ((hout 14 (by kernel_rfl)).trans rfl) ⟨_, rfl, tq_is _ _ _ _ rfl, Kept.refl _ _, fun _ _ _ _ _ => trivial⟩
    | 16, ho, hsk =>
      obtain rfl := Option.some.inj ho
      have e0 : a'.eval (.tmp 50) = .bool bv := is_tq (hin 14 50 (by kernel_rfl) (by kernel_rfl)) rfl
      have e1 : a'.eval (.tmp 51) = .bool bv := is_tq (hin 15 51 (by kernel_rfl) (by kernel_rfl)) rfl
      exact o_neqBB (.tmp 50) (.tmp 51) rfl bv e0 e1 ⟨_, rfl, tq_is _ _ _ _ rfl, Kept.refl _ _, fun _ _ _ _ _ => trivial⟩
    | 17, ho, hsk =>
      obtain rfl := Option.some.inj ho
      have e0 : a'.eval (.tmp 49) = .bool false := is_tq (hin 13 49 (by kernel_rfl) (by kernel_rfl)) rfl
      have e1 : a'.eval (.tmp 52) = .bool false := is_tq (hin 16 52 (by kernel_rfl) (by kernel_rfl)) rfl
      exact o_pickOr0 (.tmp 49) (.tmp 52) rfl _ e0 e1 ⟨_, rfl, tq_is _ _ _ _ rfl, Kept.refl _ _, fun _ _ _ _ _ => trivial⟩
    | 18, ho, hsk =>
      obtain rfl := Option.some.inj ho
      have e0 : a'.eval (.tmp 53) = .bool false := is_tq (hin 17 53 (by kernel_rfl) (by kernel_rfl)) rfl
      exact wp_move (.tmp 53) rfl _ e0 ⟨_, rfl, tq_is _ _ _ _ rfl, Kept.refl _ _, fun _ _ _ _ _ => trivial⟩
    | 19, ho, hsk =>
      obtain rfl := Option.some.inj ho
      exact wp_move (.tmp 0) rfl _ ((hout 0 (by kernel_rfl)).trans rfl) ⟨_, rfl, tq_is _ _ _ _ rfl, Kept.refl _ _, fun _ _ _ _ _ => trivial⟩
    | 20, ho, hsk =>
      obtain rfl := Option.some.inj ho
      exact wp_move (.tmp 2) rfl _ ((hout 2 (by kernel_rfl)).trans rfl) ⟨_, rfl, tq_is _ _ _ _ rfl, Kept.refl _ _, fun _ _ _ _ _ => trivial⟩
    | 21, ho, hsk =>
      obtain rfl := Option.some.inj ho
      exact wp_move (.tmp 15) rfl _ ((hout 15 (by kernel_rfl)).trans rfl) ⟨_, rfl, tq_is _ _ _ _ rfl, Kept.refl _ _, fun _ _ _ _ _ => trivial⟩
    | 22, ho, hsk =>
      obtain rfl := Option.some.inj ho
      exact wp_move (.tmp 3) rfl _ ((hout 3 (by kernel_rfl)).trans rfl) ⟨_, rfl, tq_is _ _ _ _ rfl, Kept.refl _ _, fun _ _ _ _ _ => trivial⟩
    | 23, ho, hsk =>
      obtain rfl := Option.some.inj ho
      have e0 : a'.eval (.tmp 58) = .slice ao F.length cf := is_tq (hin 22 58 (by kernel_rfl) (by kernel_rfl)) rfl
      exact o_len23 (.tmp 58) rfl ao F.length cf e0 ⟨_, rfl, tq_is _ _ _ _ rfl, Kept.refl _ _, fun _ _ _ _ _ => trivial⟩
    | 24, ho, hsk =>
      obtain rfl := Option.some.inj ho
      have e0 : a'.eval (.tmp 57) = .slice (some ⟨ug, uo, none⟩) (F ++ [-5]).length uc := is_tq (hin 21 57 (by kernel_rfl) (by kernel_rfl)) rfl
      have e1 : a'.eval (.tmp 59) = .int .i64 F.length := is_tq (hin 23 59 (by kernel_rfl) (by kernel_rfl)) rfl
      exact o_head23 (.tmp 57) (.tmp 59) rfl ⟨ug, uo, none⟩ (F ++ [-5]).length uc F.length (unhide HUC) (by simp) e0 e1 ⟨_, rfl, tq_is _ _ _ _ rfl, Kept.refl _ _, fun _ _ _ _ _ => trivial⟩
    | 25, ho, hsk =>
      obtain rfl := Option.some.inj ho
      have e0 : a'.eval (.tmp 55) = P0 b := is_tq (hin 19 55 (by kernel_rfl) (by kernel_rfl)) rfl
      have e1 : a'.eval (.tmp 56) = .int .i64 n := is_tq (hin 20 56 (by kernel_rfl) (by kernel_rfl)) rfl
      have e2 : a'.eval (.tmp 60) = .slice (some ⟨ug, uo, none⟩) F.length uc := is_tq (hin 24 60 (by kernel_rfl) (by kernel_rfl)) rfl
      refine wp_callF 15 _ _ rfl #[P0 b, .int .i64 n, .slice (some ⟨ug, uo, none⟩) F.length uc] (by simp [e0, e1, @e2]) (cg15 _ _) ((bound15 ((unhide HS).step0 hk2).tw.pg ((unhide HUH).kept hk2 (by simp)) n).mono ?_)
      rw [unhide HBM]
      rintro e w3 ⟨rfl, hk3⟩
      exact ⟨_, rfl, _, rfl, tq_is _ _ _ _ rfl, hk3, fun _ _ _ _ _ => trivial⟩
    | 26, ho, hsk =>
      obtain rfl := Option.some.inj ho
      exact o_load27 (.tmp 6) rfl _ _ ((hout 6 (by kernel_rfl)).trans rfl) (fits_cell ((unhide HS).step0 hk2).hq 0 _ rfl) ⟨_, rfl, tq_is _ _ _ _ rfl, Kept.refl _ _, fun _ _ _ _ _ => trivial⟩
    | 27, ho, hsk =>
      obtain rfl := Option.some.inj ho
      exact wp_move (.tmp 2) rfl _ ((hout 2 (by kernel_rfl)).trans rfl) ⟨_, rfl, tq_is _ _ _ _ rfl, Kept.refl _ _, fun _ _ _ _ _ => trivial⟩
    | 28, ho, hsk =>
      obtain rfl := Option.some.inj ho
      exact wp_move (.tmp 3) rfl _ ((hout 3 (by kernel_rfl)).trans rfl) ⟨_, rfl, tq_is _ _ _ _ rfl, Kept.refl _ _, fun _ _ _ _ _ => trivial⟩
    | 29, ho, hsk =>
      obtain rfl := Option.some.inj ho
      have e0 : a'.eval (.tmp 62) = P0 r := is_tq (hin 26 62 (by kernel_rfl) (by kernel_rfl)) rfl
      have e1 : a'.eval (.tmp 63) = .int .i64 n := is_tq (hin 27 63 (by kernel_rfl) (by kernel_rfl)) rfl
      have e2 : a'.eval (.tmp 64) = .slice ao F.length cf := is_tq (hin 28 64 (by kernel_rfl) (by kernel_rfl)) rfl
      refine wp_callF 27 _ _ rfl #[P0 r, .int .i64 n, .slice ao F.length cf] (by simp [e0, e1, @e2]) (cg27 _ _) ((rbound27 ((unhide HS).step0 hk2).tw.rp n ao cf ((unhide HF).kept ((unhide HS).step0 hk2).kp) (unhide H40)).mono ?_)
      rw [unhide HBP]
      rintro e w3 ⟨rfl, rfl⟩
      exact ⟨_, rfl, _, rfl, tq_is _ _ _ _ rfl, Kept.refl _ _, fun _ _ _ _ _ => trivial⟩
    | 30, ho, hsk =>
      obtain rfl := Option.some.inj ho
      have e0 : a'.eval (.tmp 61) = .int .i64 bp := is_tq (hin 25 61 (by kernel_rfl) (by kernel_rfl)) rfl
      have e1 : a'.eval (.tmp 65) = .int .i64 bp := is_tq (hin 29 65 (by kernel_rfl) (by kernel_rfl)) rfl
      exact c_neq2 (.tmp 61) (.tmp 65) rfl _ _ (true) (by simp) e0 e1 ⟨_, rfl, tq_is _ _ _ _ rfl, Kept.refl _ _, fun _ _ _ _ _ => trivial⟩
    | 31, ho, hsk =>
      obtain rfl := Option.some.inj ho
      have e0 : a'.eval (.tmp 54) = .bool false := is_tq (hin 18 54 (by kernel_rfl) (by kernel_rfl)) rfl
      have e1 : a'.eval (.tmp 66) = .bool false := is_tq (hin 30 66 (by kernel_rfl) (by kernel_rfl)) rfl
      exact o_pickOr0 (.tmp 54) (.tmp 66) rfl _ e0 e1 ⟨_, rfl, tq_is _ _ _ _ rfl, Kept.refl _ _, fun _ _ _ _ _ => trivial⟩
    | 32, ho, hsk =>
      obtain rfl := Option.some.inj ho
      have e0 : a'.eval (.tmp 67) = .bool false := is_tq (hin 31 67 (by kernel_rfl) (by kernel_rfl)) rfl
      exact wp_move (.tmp 67) rfl _ e0 ⟨_, rfl, tq_is _ _ _ _ rfl, Kept.refl _ _, fun _ _ _ _ _ => trivial⟩
    | 33, ho, hsk =>
      obtain rfl := Option.some.inj ho
      exact wp_move (.tmp 15) rfl _ ((hout 15 (by kernel_rfl)).trans rfl) ⟨_, rfl, tq_is _ _ _ _ rfl, Kept.refl _ _, fun _ _ _ _ _ => trivial⟩
    | 34, ho, hsk =>
      obtain rfl := Option.some.inj ho
      exact wp_move (.tmp 3) rfl _ ((hout 3 (by kernel_rfl)).trans rfl) ⟨_, rfl, tq_is _ _ _ _ rfl, Kept.refl _ _, fun _ _ _ _ _ => trivial⟩
    | 35, ho, hsk =>
      obtain rfl := Option.some.inj ho
      have e0 : a'.eval (.tmp 70) = .slice ao F.length cf := is_tq (hin 34 70 (by kernel_rfl) (by kernel_rfl)) rfl
      exact o_len23 (.tmp 70) rfl ao F.length cf e0 ⟨_, rfl, tq_is _ _ _ _ rfl, Kept.refl _ _, fun _ _ _ _ _ => trivial⟩
    | 36, ho, hsk =>
      obtain rfl := Option.some.inj ho
      have e0 : a'.eval (.tmp 69) = .slice (some ⟨ug, uo, none⟩) (F ++ [-5]).length uc := is_tq (hin 33 69 (by kernel_rfl) (by kernel_rfl)) rfl
      have e1 : a'.eval (.tmp 71) = .int .i64 F.length := is_tq (hin 35 71 (by kernel_rfl) (by kernel_rfl)) rfl
      exact o_idx23P (.tmp 69) (.tmp 71) rfl ug uo (F ++ [-5]).length uc F.length (by simp) e0 e1 ⟨_, rfl, tq_is _ _ _ _ rfl, Kept.refl _ _, fun _ _ _ _ _ => trivial⟩
    | 37, ho, hsk =>
      obtain rfl := Option.some.inj ho
      have e0 : a'.eval (.tmp 72) = .pointer (some ⟨ug, uo + F.length, none⟩) := is_tq (hin 36 72 (by kernel_rfl) (by kernel_rfl)) rfl
      exact o_load2 (.tmp 72) rfl _ _ e0 (hk2.cell (unhide HCU) (by simp)) ⟨_, rfl, tq_is _ _ _ _ rfl, Kept.refl _ _, fun _ _ _ _ _ => trivial⟩
    | 38, ho, hsk =>
      obtain rfl := Option.some.inj ho
      have e0 : a'.eval (.tmp 73) = .int .i64 (-5) := is_tq (hin 37 73 (by kernel_rfl) (by kernel_rfl)) rfl
      exact c_neq2 (.tmp 73) (.const (.int .i64 (-5))) rfl _ _ (true) (by decide) e0 rfl ⟨_, rfl, tq_is _ _ _ _ rfl, Kept.refl _ _, fun _ _ _ _ _ => trivial⟩
    | 39, ho, hsk =>
      obtain rfl := Option.some.inj ho
      have e0 : a'.eval (.tmp 68) = .bool false := is_tq (hin 32 68 (by kernel_rfl) (by kernel_rfl)) rfl
      have e1 : a'.eval (.tmp 74) = .bool false := is_tq (hin 38 74 (by kernel_rfl) (by kernel_rfl)) rfl
      exact o_pickOr0 (.tmp 68) (.tmp 74) rfl _ e0 e1 ⟨_, rfl, tq_is _ _ _ _ rfl, Kept.refl _ _, fun _ _ _ _ _ => trivial⟩
  intro w9 hk9
  replace hk9 : Kept [] W10 w9 := ⟨hk9.os, hk9.tape, hk9.output, hk9.size, hk9.block⟩
  simp only [valsQ, List.map_cons, List.map_nil, Option.getD_some, List.take_succ_cons, List.take_zero, putAll, Act.put, List.setIfInBounds_toArray, List.set_cons_succ, List.set_cons_zero]
  refine wpAny_done (by kernel_rfl) ?_ _
  replace HS := hide ((unhide HS).step0 hk9)
  clear HU HCU HUH HUC H11 H13
  obtain ⟨zl, hzl⟩ : ∃ z, z = (F ++ [-5]).length := ⟨_, rfl⟩
  rw [← hzl]
  clear hzl
  go_upto_block 0 with fail
  go_cut [16, 17] from 76 to 97 (fun xn x17 wc => Hid (Sw w wc B b mb r bq b9 b10 (.slice vo L.length cc) M L leave))
  case first =>
   as_aux_lemma =>
    go_wp2_with fail
    go_loopw [16, 17] (fun xn x17 wr => ∃ (k : Nat) (m : Int), k ≤ 18 ∧ Hid (m = (k : Int) - 1) ∧ xn = .int .i64 m ∧ Hid (Sw w wr B b mb r bq b9 b10 (.slice vo L.length cc) M L leave)) (fun xn _ _ => 18 - (intOf xn + 1).toNat)
    case atStart => exact ⟨0, -1, by omega, (rfl : (-1 : Int) = ((0 : Nat) : Int) - 1), rfl, HS⟩
    case round =>
    clear HS
    obtain ⟨k, m, hk, HN, rfl, HS⟩ := hrel
    by_cases hlt : m ≤ 16
    · have hd : decide (m ≤ 16) = true := by simpa using hlt
      have hn1 : -1 ≤ m := by have := unhide HN; omega
      obtain ⟨z, hz⟩ : ∃ z, fndB (ofP m) L = z := ⟨_, rfl⟩
      have HZ := hide hz
      obtain ⟨D, hD⟩ : ∃ D, L.filter (ofP m) = D := ⟨_, rfl⟩
      obtain ⟨dn, hdn⟩ : ∃ x, D.length = x := ⟨_, rfl⟩
      have HD := hide hD
      have HDN := hide hdn
      have q1 : decide ((dn : Int) > 0) = z := by rw [← hdn, ← hD, fndB_len]; exact hz
      have q4 : decide (0 < (dn : Int)) = z := q1
      have q5 : decide (0 < dn) = z := by rw [← q1]; simp
      have q2 : (z == z) = true := by simp
      have q3 : (z != z) = false := by simp
      have HLM : Hid (D.length ≤ 256) := by show _ ≤ _; rw [← hD]; exact Nat.le_trans (List.length_filter_le _ _) (unhide HS).tw.rp.many
      have c6 := fits_cell (unhide HS).hq 0 _ rfl
      clear hz hD hdn
      go_wp2_with (
        first
        | (go_at_call 28
           refine (rof28 (unhide HS).tw.rp m).mono ?_
           rintro e W5 ⟨u5, rfl, M5, O5, K5⟩
           rw [unhide HD] at M5
           obtain ⟨ua, ca, hu, -, -⟩ := Rw.sl M5
           rw [unhide HDN] at hu
           subst hu
           have HM5 : Hid (Ms W5 (.slice ua dn ca) D) := hide M5
           replace HS := hide ((unhide HS).step0 K5)
           clear M5 O5 K5 c6
           refine Stp.go ?_))
      constructor
      go_wp2_with (
        first
        | (go_at_call 16
           refine (has16 (k := m) (unhide HS).tw.pg (unhide HS).tw.perm (unhide HS).tw.srt).mono ?_
           rw [unhide HZ]
           rintro e W6 ⟨rfl, K6⟩
           replace HS := hide ((unhide HS).step0 K6)
           replace HM5 := hide ((unhide HM5).kept K6 (fun _ _ => by simp))
           clear K6
           refine Stp.go ?_))
      constructor
      go_wp2_with (
        first
        | (go_at_call 29
           refine (of29 (k := m) (unhide HS).tw.pg (unhide HS).tw.perm (unhide HS).tw.srt).mono ?_
           rintro e W7 ⟨u7, rfl, M7, O7, K7⟩
           rw [unhide HD] at M7
           have HM7 : Hid (Ms W7 u7 D) := hide M7
           replace HM5 := hide ((unhide HM5).kept K7 (fun _ _ => by simp))
           replace HS := hide ((unhide HS).step0 K7)
           clear M7 O7 K7
           refine Stp.go ?_))
      constructor
      go_wp2_with (
        first
        | (go_at_call 12
           refine (rsame12 (unhide HM7) (unhide HM5) (unhide HLM)).mono ?_
           rw [decide_eq_true rfl]
           rintro e W8 ⟨rfl, K8⟩
           replace HS := hide ((unhide HS).step0 K8)
           clear K8
           refine Stp.go ?_))
      constructor
      go_wp2_with fail
      go_roundw
      case rel => exact ⟨k + 1, m + 1, by have := unhide HN; omega, by have := unhide HN; show _ = _; omega, by go_num, HS⟩
      case measure => have := unhide HN; simp [intOf]; omega
    · have hd : decide (m ≤ 16) = false := by simpa using hlt
      go_wp2_with fail
      go_meet
      case rel => exact HS
  case rest =>
   as_aux_lemma =>
    clear HS
    have HS := hcut
    clear hcut
    go_wp2_with (
      first
      | (go_at_call 30
         refine (all30 (some ⟨b, 0, none⟩) _).mono ?_
         rintro e W3 ⟨c, rfl, hc, _, K3⟩
         unfold fnV
         have HCC := hide hc
         have hq63 := eq63 (P0 c)
         replace HS := hide ((unhide HS).step0 K3)
         clear hc K3
         refine Stp.go ?_))
    constructor
    go_wp2_with (
      first
      | (refine wpVar (.int .i64 0) (.int .i64 0) zero3w (st1 size3 ⟨rfl, rfl⟩) 19 (by rfl) (by rfl) (by rfl) (.const (.int .i64 0)) (by rfl) (by rfl) (by rfl) (by kernel_rfl) (by rfl) ?_
         intro W4 bt e4 B4 K4
         have HA : Hid (Sv w W4 W4.heap.size b mb c r bq b9 b10 bt (.slice vo L.length cc) M L leave 0 []) := by
           have s := (unhide HS).step0 K4
           have c1 := (unhide HCC).kept K4 (by simp)
           have h1 := s.tw.pg.lt
           have h2 := s.tw.rp.blk.lt
           have h3 := s.hq.lt
           have h4 := s.l9.lt
           have h5 := s.o10.lt
           have h6 := c1.lt
           have h7 := B4.lt
           exact ⟨s.tw, c1, s.hq, s.l9, s.o10, B4, s.kp, by omega, ⟨s.kp.size, s.ge.2⟩, fun k e => s.tw.rp.row.lt e, fun D hD => by cases hD⟩
         clear e4 B4 K4 hq63 HS HCC))
    have hFw := wideF
    have HB0 : Hid (W4.heap.size = W4.heap.size) := rfl
    refine (wpIn_wide (n := 3)).1 ?_
    refine wpIn_loop_rounds 3 ?_
    rw [roundsIn_succ]
    have c19 := fits_cell (unhide HA).ht 0 _ rfl
    gi_wp2_with (
      first
      | (refine inVar (.int .i64 0) (.int .i64 0) zero3w (st1 size3 ⟨rfl, rfl⟩) 20 (by rfl) wideF (by rfl) (by rfl) (by rfl) (.const (.int .i64 0)) (by rfl) (by rfl) (fun _ => by rfl) (by rfl) (by rfl) (by rfl) ?_
         intro W8 bn en B8 K8
         have HN0 := hide B8
         have HBbn : Hid (W4.heap.size ≤ bn) := by have := (unhide HA).lt; show _ ≤ _; omega
         replace HA := hide ((unhide HA).step0 K8)
         clear en B8 K8 c19))
    refine range_turn 4 bn rfl rfl (unhide HA) (unhide HN0) (unhide HBbn) ?assign ?body ?done ?exit
    case assign =>
      intro l x Wa K hK
      simp only [List.setIfInBounds_toArray, List.set_cons_succ, List.set_cons_zero]
      gi_wp2_with (
        first
        | (refine inNew row54 mk0.C rfl zero54 21 (by rfl) (fun _ => trivial) (by rfl) (by rfl) (by rfl) (.tmp 107) (by rfl) (by rfl) (fun _ => by rfl) (by rfl) x.C rfl x.one (by rfl) (by rfl) ?_
           intro W9 bx ex BX KX
           have HBX := hide BX
           have HKX := hide KX
           have HEX : Hid (Wa.heap.size ≤ bx) := by show _ ≤ _; omega
           clear ex BX KX)
        | fail)
      refine hK _ _ bx (unhide HKX) (unhide HBX) (unhide HEX) ?_
      simp only [ay, List.setIfInBounds_toArray, List.set_cons_succ, List.set_cons_zero]
    case body =>
      intro l k f bx W hf hS hn hgo hbx
      simp only [ay, List.setIfInBounds_toArray, List.set_cons_succ, List.set_cons_zero]
      have hlt : k < L.length := (List.getElem?_eq_some_iff.1 hf).1
      have hk256 : (k : Int) < 256 := by have := hS.tw.rp.many; omega
      have HHB := unhide HBbn
      obtain ⟨gg, off, cap2, hwv, hrg⟩ := hS.tw.rp.at hlt
      obtain rfl : vo = some ⟨gg, off, none⟩ := by injection hwv
      replace hrg := hrg k f hf
      have HRG := hide hrg
      obtain ⟨fc, hfc⟩ : ∃ c, c = f.C := ⟨_, rfl⟩
      have HLF : Hid (fc.length = 3) := by show _ = _; rw [hfc]; rfl
      have HEQ : Hid (∀ W, (Op.equal 54 (aggV fc) (aggV fc)).run Try.prog W = .ok true W) := fun W => by rw [hfc]; have h9 := equal54 W f f; rw [decide_eq_true rfl] at h9; exact h9
      rw [← hfc] at hbx HRG ⊢
      clear hf hwv hrg hfc hgo
      gi_wp2
      refine wpIn_region_any (by kernel_rfl) (anyIn_of_any (by rintro ⟨a, w, h⟩; rcases h with ⟨_, _, ⟨h, _⟩ | ⟨h, _⟩⟩ <;> cases h) (noDeferA (by kernel_rfl)) _ _ _ _ (wpAny_tq 18 rfl (by kernel_rfl) [some (.int .i64 k), some (P0 r), some (P0 r), some (P0 r), some (.slice (some ⟨gg, off, none⟩) L.length cc), some (.int .i64 L.length), some (.bool false), some (.bool false), some (aggV fc), some (P0 r), some (P0 r), some (P0 r), some (.slice (some ⟨gg, off, none⟩) L.length cc), some (.int .i64 k), some (.pointer (some ⟨gg, off + k * 3, none⟩)), some (aggV fc), some (.bool false), some (.bool false)] rfl (by kernel_rfl) (by kernel_rfl) ?_ ?_))
      · intro i o' hi hsk ho a' w2 hout hin hk2
        replace hk2 : Kept [] W w2 := ⟨hk2.os, hk2.tape, hk2.output, hk2.size, hk2.block⟩
        match i, ho, hsk with
        | 0, ho, hsk =>
          obtain rfl := Option.some.inj ho
          exact o_load3 (.tmp 20) rfl _ _ ((hout 20 (by kernel_rfl)).trans rfl) (fits_cell (hn.kept hk2 (by simp)) 0 _ rfl) ⟨_, rfl, tq_is _ _ _ _ rfl, Kept.refl _ _, fun _ _ _ _ _ => trivial⟩
        | 1, ho, hsk =>
          obtain rfl := Option.some.inj ho
          exact o_load27 (.tmp 6) rfl _ _ ((hout 6 (by kernel_rfl)).trans rfl) (fits_cell (hS.step0 hk2).hq 0 _ rfl) ⟨_, rfl, tq_is _ _ _ _ rfl, Kept.refl _ _, fun _ _ _ _ _ => trivial⟩
        | 2, ho, hsk =>
          obtain rfl := Option.some.inj ho
          have e0 : a'.eval (.tmp 109) = P0 r := is_tq (hin 1 109 (by kernel_rfl) (by kernel_rfl)) rfl
          exact o_nil (.tmp 109) rfl _ e0 ⟨_, rfl, tq_is _ _ _ _ rfl, Kept.refl _ _, fun _ _ _ _ _ => trivial⟩
        | 3, ho, hsk =>
          obtain rfl := Option.some.inj ho
          have e0 : a'.eval (.tmp 110) = P0 r := is_tq (hin 2 110 (by kernel_rfl) (by kernel_rfl)) rfl
          exact o_fld30_0 (.tmp 110) rfl r (0) (0) rfl e0 ⟨_, rfl, tq_is _ _ _ _ rfl, Kept.refl _ _, fun _ _ _ _ _ => trivial⟩
        | 4, ho, hsk =>
          obtain rfl := Option.some.inj ho
          have e0 : a'.eval (.tmp 111) = P0 r := is_tq (hin 3 111 (by kernel_rfl) (by kernel_rfl)) rfl
          exact o_load28 (.tmp 111) rfl _ _ e0 ((hS.step0 hk2).tw.rp.cw) ⟨_, rfl, tq_is _ _ _ _ rfl, Kept.refl _ _, fun _ _ _ _ _ => trivial⟩
        | 5, ho, hsk =>
          obtain rfl := Option.some.inj ho
          have e0 : a'.eval (.tmp 112) = .slice (some ⟨gg, off, none⟩) L.length cc := is_tq (hin 4 112 (by kernel_rfl) (by kernel_rfl)) rfl
          exact o_len28 (.tmp 112) rfl _ _ _ e0 ⟨_, rfl, tq_is _ _ _ _ rfl, Kept.refl _ _, fun _ _ _ _ _ => trivial⟩
        | 6, ho, hsk =>
          obtain rfl := Option.some.inj ho
          have e0 : a'.eval (.tmp 108) = .int .i64 k := is_tq (hin 0 108 (by kernel_rfl) (by kernel_rfl)) rfl
          have e1 : a'.eval (.tmp 113) = .int .i64 L.length := is_tq (hin 5 113 (by kernel_rfl) (by kernel_rfl)) rfl
          exact c_geq3 (.tmp 108) (.tmp 113) rfl _ _ (false) (by simp; omega) e0 e1 ⟨_, rfl, tq_is _ _ _ _ rfl, Kept.refl _ _, fun _ _ _ _ _ => trivial⟩
        | 7, ho, hsk =>
          obtain rfl := Option.some.inj ho
          have e0 : a'.eval (.tmp 114) = .bool false := is_tq (hin 6 114 (by kernel_rfl) (by kernel_rfl)) rfl
          exact wp_move (.tmp 114) rfl _ e0 ⟨_, rfl, tq_is _ _ _ _ rfl, Kept.refl _ _, fun _ _ _ _ _ => trivial⟩
        | 8, ho, hsk =>
          obtain rfl := Option.some.inj ho
          exact wp_loadA row54 (.tmp 21) rfl bx (0) ((hout 21 (by kernel_rfl)).trans rfl) (fc) (unhide HLF) ((hbx.kept hk2 (by simp)).range) ⟨_, rfl, tq_is _ _ _ _ rfl, Kept.refl _ _, fun _ _ _ _ _ => trivial⟩
        | 9, ho, hsk =>
          obtain rfl := Option.some.inj ho
          exact o_load27 (.tmp 6) rfl _ _ ((hout 6 (by kernel_rfl)).trans rfl) (fits_cell (hS.step0 hk2).hq 0 _ rfl) ⟨_, rfl, tq_is _ _ _ _ rfl, Kept.refl _ _, fun _ _ _ _ _ => trivial⟩
        | 10, ho, hsk =>
          obtain rfl := Option.some.inj ho
          have e0 : a'.eval (.tmp 117) = P0 r := is_tq (hin 9 117 (by kernel_rfl) (by kernel_rfl)) rfl
          exact o_nil (.tmp 117) rfl _ e0 ⟨_, rfl, tq_is _ _ _ _ rfl, Kept.refl _ _, fun _ _ _ _ _ => trivial⟩
        | 11, ho, hsk =>
          obtain rfl := Option.some.inj ho
          have e0 : a'.eval (.tmp 118) = P0 r := is_tq (hin 10 118 (by kernel_rfl) (by kernel_rfl)) rfl
          exact o_fld30_0 (.tmp 118) rfl r (0) (0) rfl e0 ⟨_, rfl, tq_is _ _ _ _ rfl, Kept.refl _ _, fun _ _ _ _ _ => trivial⟩
        | 12, ho, hsk =>
          obtain rfl := Option.some.inj ho
          have e0 : a'.eval (.tmp 119) = P0 r := is_tq (hin 11 119 (by kernel_rfl) (by kernel_rfl)) rfl
          exact o_load28 (.tmp 119) rfl _ _ e0 ((hS.step0 hk2).tw.rp.cw) ⟨_, rfl, tq_is _ _ _ _ rfl, Kept.refl _ _, fun _ _ _ _ _ => trivial⟩
        | 13, ho, hsk =>
          obtain rfl := Option.some.inj ho
          exact o_load3 (.tmp 20) rfl _ _ ((hout 20 (by kernel_rfl)).trans rfl) (fits_cell (hn.kept hk2 (by simp)) 0 _ rfl) ⟨_, rfl, tq_is _ _ _ _ rfl, Kept.refl _ _, fun _ _ _ _ _ => trivial⟩
        | 14, ho, hsk =>
          obtain rfl := Option.some.inj ho
          have e0 : a'.eval (.tmp 120) = .slice (some ⟨gg, off, none⟩) L.length cc := is_tq (hin 12 120 (by kernel_rfl) (by kernel_rfl)) rfl
          have e1 : a'.eval (.tmp 121) = .int .i64 k := is_tq (hin 13 121 (by kernel_rfl) (by kernel_rfl)) rfl
          exact o_idx28 (.tmp 120) (.tmp 121) rfl gg off L.length cc k (hlt) e0 e1 ⟨_, rfl, tq_is _ _ _ _ rfl, Kept.refl _ _, fun _ _ _ _ _ => trivial⟩
        | 15, ho, hsk =>
          obtain rfl := Option.some.inj ho
          have e0 : a'.eval (.tmp 122) = .pointer (some ⟨gg, off + k * 3, none⟩) := is_tq (hin 14 122 (by kernel_rfl) (by kernel_rfl)) rfl
          exact wp_loadA row54 (.tmp 122) rfl gg (off + k * 3) e0 (fc) (unhide HLF) (range_kept (unhide HRG) hk2 (by simp)) ⟨_, rfl, tq_is _ _ _ _ rfl, Kept.refl _ _, fun _ _ _ _ _ => trivial⟩
        | 16, ho, hsk =>
          obtain rfl := Option.some.inj ho
          have e0 : a'.eval (.tmp 116) = aggV fc := is_tq (hin 8 116 (by kernel_rfl) (by kernel_rfl)) rfl
          have e1 : a'.eval (.tmp 123) = aggV fc := is_tq (hin 15 123 (by kernel_rfl) (by kernel_rfl)) rfl
          exact o_neqA 54 54 guard54 (.tmp 116) (.tmp 123) rfl (fc) (fc) e0 e1 (true) (unhide HEQ _) ⟨_, rfl, tq_is _ _ _ _ rfl, Kept.refl _ _, fun _ _ _ _ _ => trivial⟩
        | 17, ho, hsk =>
          obtain rfl := Option.some.inj ho
          have e0 : a'.eval (.tmp 115) = .bool false := is_tq (hin 7 115 (by kernel_rfl) (by kernel_rfl)) rfl
          have e1 : a'.eval (.tmp 124) = .bool false := is_tq (hin 16 124 (by kernel_rfl) (by kernel_rfl)) rfl
          exact o_pickOr0 (.tmp 115) (.tmp 124) rfl _ e0 e1 ⟨_, rfl, tq_is _ _ _ _ rfl, Kept.refl _ _, fun _ _ _ _ _ => trivial⟩
      intro w9 hk9
      replace hk9 : Kept [] W w9 := ⟨hk9.os, hk9.tape, hk9.output, hk9.size, hk9.block⟩
      simp only [valsQ, List.map_cons, List.map_nil, Option.getD_some, List.take_succ_cons, List.take_zero, putAll, Act.put, List.setIfInBounds_toArray, List.set_cons_succ, List.set_cons_zero]
      refine wpAny_done (by kernel_rfl) ?_ _
      have hS3 := hide (hS.step0 hk9)
      have HN3 := hide (hn.kept hk9 (by simp))
      have HK3 := hide hk9
      have c20 := fits_cell (unhide HN3) 0 _ rfl
      clear hS hn hk9 HRG hbx
      by_cases hlv : (k : Int) + 1 = leave
      · have d1 : ((k : Int) + 1 == leave) = true := by simp [hlv]
        have d2 : decide ((k : Int) + 1 = leave) = true := by simp [hlv]
        have HLV := hide hlv
        clear hlv
        gi_wp2_with (
          first
          | (refine inStore1 (.int .i64 (k : Int)) (.int .i64 ((k : Int) + 1)) (st1 size3 ⟨rfl, rfl⟩) (fun _ => trivial) (by rfl) (.tmp 20) (.tmp 127) (by rfl) (by rfl) (by rfl) bn (by rfl) (by rfl) (unhide HN3) ?_
             intro W9 B9 e9
             have HK9 : Hid (Kept [bn] w9 W9) := by rw [e9]; exact (Kept.refl _ _).setCell (p := ⟨bn, 0, none⟩) (by simp) _
             have HN9 := hide B9
             have hS9 := hide ((unhide hS3).keep (unhide HK9) (by intro i hi; simp at hi; omega))
             clear c20 e9 B9
             have c20 := fits_cell (unhide HN9) 0 _ rfl
             have c19 := fits_cell (unhide hS9).ht 0 _ rfl
             have c9 := fits_cell (unhide hS9).l9 0 _ rfl)
          | fail)
        refine ⟨((unhide HK3).mono (by simp)).trans (unhide HK9), unhide HN9, ?_⟩
        have hl := unhide HLV; simp [hl]
      · have d1 : ((k : Int) + 1 == leave) = false := by simp [hlv]
        have d2 : decide ((k : Int) + 1 = leave) = false := by simp [hlv]
        have HLV := hide hlv
        clear hlv
        gi_wp2_with (
          first
          | (refine inStore1 (.int .i64 (k : Int)) (.int .i64 ((k : Int) + 1)) (st1 size3 ⟨rfl, rfl⟩) (fun _ => trivial) (by rfl) (.tmp 20) (.tmp 127) (by rfl) (by rfl) (by rfl) bn (by rfl) (by rfl) (unhide HN3) ?_
             intro W9 B9 e9
             have HK9 : Hid (Kept [bn] w9 W9) := by rw [e9]; exact (Kept.refl _ _).setCell (p := ⟨bn, 0, none⟩) (by simp) _
             have HN9 := hide B9
             have hS9 := hide ((unhide hS3).keep (unhide HK9) (by intro i hi; simp at hi; omega))
             clear c20 e9 B9
             have c20 := fits_cell (unhide HN9) 0 _ rfl
             have c19 := fits_cell (unhide hS9).ht 0 _ rfl
             have c9 := fits_cell (unhide hS9).l9 0 _ rfl)
          | fail)
        refine ⟨((unhide HK3).mono (by simp)).trans (unhide HK9), unhide HN9, ?_⟩
        have hl := unhide HLV; simp [hl]
    case exit =>
      intro a W h
      exact wpIn_exit h
    case done =>
      intro n2 Wd hS hn2 hle hor hD hsz
      have HSZ := hide hsz
      have h1 := unhide HBbn
      have h2 := (unhide HN0).lt
      have HA1 := hide (hS.mark (D := W8.heap.size) (by omega) hD)
      have HN2 := hide hn2
      clear hS hn2 hD hsz h1 h2 HA HN0 HBbn
      by_cases h9 : n2 = L.length
      · subst h9
        clear hle hor
        gi_wp2
        refine wpIn_wide.2 ?_
        refine wp_region_any mixed (wpAny_tq 29 rfl (by kernel_rfl) [some (.int .i64 0), some (.bool false), some (.bool false), none, none, none, none, none, none, none, some (.bool false), some (.bool false), some (.int .i64 0), some (.bool true), some (.bool true), some (.int .i64 L.length), some (P0 r), some (P0 r), some (P0 r), some (.slice vo L.length cc), some (.int .i64 L.length), some (.bool false), some (.bool false), some (.bool false), none, none, none, some (.bool false), some (.bool false)] rfl (by kernel_rfl) (by kernel_rfl) ?_ ?_)
        · intro i o' hi hsk ho a' w2 hout hin hk2
          replace hk2 : Kept [] Wd w2 := ⟨hk2.os, hk2.tape, hk2.output, hk2.size, hk2.block⟩
          match i, ho, hsk with
          | 0, ho, hsk =>
            obtain rfl := Option.some.inj ho
            exact o_load3 (.tmp 19) rfl _ _ ((hout 19 (by kernel_rfl)).trans rfl) (fits_cell ((unhide HA1).step0 hk2).ht 0 _ rfl) ⟨_, rfl, tq_is _ _ _ _ rfl, Kept.refl _ _, fun _ _ _ _ _ => trivial⟩
          | 1, ho, hsk =>
            obtain rfl := Option.some.inj ho
            have e0 : a'.eval (.tmp 135) = .int .i64 0 := is_tq (hin 0 135 (by kernel_rfl) (by kernel_rfl)) rfl
            exact c_eql3 (.tmp 135) (.const (.int .i64 (1))) rfl _ _ (false) (by decide) e0 rfl ⟨_, rfl, tq_is _ _ _ _ rfl, Kept.refl _ _, fun _ _ _ _ _ => trivial⟩
          | 2, ho, hsk =>
            obtain rfl := Option.some.inj ho
            have e0 : a'.eval (.tmp 136) = .bool false := is_tq (hin 1 136 (by kernel_rfl) (by kernel_rfl)) rfl
            exact wp_move (.tmp 136) rfl _ e0 ⟨_, rfl, tq_is _ _ _ _ rfl, Kept.refl _ _, fun _ _ _ _ _ => trivial⟩
          | 3, ho, hsk =>
            cases hsk
          | 4, ho, hsk =>
            cases hsk
          | 5, ho, hsk =>
            cases hsk
          | 6, ho, hsk =>
            cases hsk
          | 7, ho, hsk =>
            cases hsk
          | 8, ho, hsk =>
            cases hsk
          | 9, ho, hsk =>
            cases hsk
          | 10, ho, hsk =>
            obtain rfl := Option.some.inj ho
            have e0 : a'.eval (.tmp 137) = .bool false := is_tq (hin 2 137 (by kernel_rfl) (by kernel_rfl)) rfl
            exact o_pickN (.tmp 137) (.tmp 144) rfl e0 ⟨_, rfl, tq_is _ _ _ _ rfl, Kept.refl _ _, fun _ _ _ _ _ => trivial⟩
          | 11, ho, hsk =>
            obtain rfl := Option.some.inj ho
            have e0 : a'.eval (.tmp 145) = .bool false := is_tq (hin 10 145 (by kernel_rfl) (by kernel_rfl)) rfl
            exact wp_move (.tmp 145) rfl _ e0 ⟨_, rfl, tq_is _ _ _ _ rfl, Kept.refl _ _, fun _ _ _ _ _ => trivial⟩
          | 12, ho, hsk =>
            obtain rfl := Option.some.inj ho
            exact o_load3 (.tmp 19) rfl _ _ ((hout 19 (by kernel_rfl)).trans rfl) (fits_cell ((unhide HA1).step0 hk2).ht 0 _ rfl) ⟨_, rfl, tq_is _ _ _ _ rfl, Kept.refl _ _, fun _ _ _ _ _ => trivial⟩
          | 13, ho, hsk =>
            obtain rfl := Option.some.inj ho
            have e0 : a'.eval (.tmp 147) = .int .i64 0 := is_tq (hin 12 147 (by kernel_rfl) (by kernel_rfl)) rfl
            exact c_eql3 (.tmp 147) (.const (.int .i64 (0))) rfl _ _ (true) (by decide) e0 rfl ⟨_, rfl, tq_is _ _ _ _ rfl, Kept.refl _ _, fun _ _ _ _ _ => trivial⟩
          | 14, ho, hsk =>
            obtain rfl := Option.some.inj ho
            have e0 : a'.eval (.tmp 148) = .bool true := is_tq (hin 13 148 (by kernel_rfl) (by kernel_rfl)) rfl
            exact wp_move (.tmp 148) rfl _ e0 ⟨_, rfl, tq_is _ _ _ _ rfl, Kept.refl _ _, fun _ _ _ _ _ => trivial⟩
          | 15, ho, hsk =>
            obtain rfl := Option.some.inj ho
            exact o_load3 (.tmp 20) rfl _ _ ((hout 20 (by kernel_rfl)).trans rfl) (fits_cell ((unhide HN2).kept hk2 (by simp)) 0 _ rfl) ⟨_, rfl, tq_is _ _ _ _ rfl, Kept.refl _ _, fun _ _ _ _ _ => trivial⟩
          | 16, ho, hsk =>
            obtain rfl := Option.some.inj ho
            exact o_load27 (.tmp 6) rfl _ _ ((hout 6 (by kernel_rfl)).trans rfl) (fits_cell ((unhide HA1).step0 hk2).hq 0 _ rfl) ⟨_, rfl, tq_is _ _ _ _ rfl, Kept.refl _ _, fun _ _ _ _ _ => trivial⟩
          | 17, ho, hsk =>
            obtain rfl := Option.some.inj ho
            have e0 : a'.eval (.tmp 151) = P0 r := is_tq (hin 16 151 (by kernel_rfl) (by kernel_rfl)) rfl
            exact o_nil (.tmp 151) rfl _ e0 ⟨_, rfl, tq_is _ _ _ _ rfl, Kept.refl _ _, fun _ _ _ _ _ => trivial⟩
          | 18, ho, hsk =>
            obtain rfl := Option.some.inj ho
            have e0 : a'.eval (.tmp 152) = P0 r := is_tq (hin 17 152 (by kernel_rfl) (by kernel_rfl)) rfl
            exact o_fld30_0 (.tmp 152) rfl r (0) (0) rfl e0 ⟨_, rfl, tq_is _ _ _ _ rfl, Kept.refl _ _, fun _ _ _ _ _ => trivial⟩
          | 19, ho, hsk =>
            obtain rfl := Option.some.inj ho
            have e0 : a'.eval (.tmp 153) = P0 r := is_tq (hin 18 153 (by kernel_rfl) (by kernel_rfl)) rfl
            exact o_load28 (.tmp 153) rfl _ _ e0 (((unhide HA1).step0 hk2).tw.rp.cw) ⟨_, rfl, tq_is _ _ _ _ rfl, Kept.refl _ _, fun _ _ _ _ _ => trivial⟩
          | 20, ho, hsk =>
            obtain rfl := Option.some.inj ho
            have e0 : a'.eval (.tmp 154) = .slice vo L.length cc := is_tq (hin 19 154 (by kernel_rfl) (by kernel_rfl)) rfl
            exact o_len28 (.tmp 154) rfl _ _ _ e0 ⟨_, rfl, tq_is _ _ _ _ rfl, Kept.refl _ _, fun _ _ _ _ _ => trivial⟩
          | 21, ho, hsk =>
            obtain rfl := Option.some.inj ho
            have e0 : a'.eval (.tmp 150) = .int .i64 L.length := is_tq (hin 15 150 (by kernel_rfl) (by kernel_rfl)) rfl
            have e1 : a'.eval (.tmp 155) = .int .i64 L.length := is_tq (hin 20 155 (by kernel_rfl) (by kernel_rfl)) rfl
            exact c_neq3 (.tmp 150) (.tmp 155) rfl _ _ (true) (by simp) e0 e1 ⟨_, rfl, tq_is _ _ _ _ rfl, Kept.refl _ _, fun _ _ _ _ _ => trivial⟩
          | 22, ho, hsk =>
            obtain rfl := Option.some.inj ho
            have e0 : a'.eval (.tmp 149) = .bool true := is_tq (hin 14 149 (by kernel_rfl) (by kernel_rfl)) rfl
            have e1 : a'.eval (.tmp 156) = .bool false := is_tq (hin 21 156 (by kernel_rfl) (by kernel_rfl)) rfl
            exact o_pick (.tmp 149) (.tmp 156) rfl _ e0 e1 ⟨_, rfl, tq_is _ _ _ _ rfl, Kept.refl _ _, fun _ _ _ _ _ => trivial⟩
          | 23, ho, hsk =>
            obtain rfl := Option.some.inj ho
            have e0 : a'.eval (.tmp 157) = .bool false := is_tq (hin 22 157 (by kernel_rfl) (by kernel_rfl)) rfl
            exact wp_move (.tmp 157) rfl _ e0 ⟨_, rfl, tq_is _ _ _ _ rfl, Kept.refl _ _, fun _ _ _ _ _ => trivial⟩
          | 24, ho, hsk =>
            cases hsk
          | 25, ho, hsk =>
            cases hsk
          | 26, ho, hsk =>
            cases hsk
          | 27, ho, hsk =>
            obtain rfl := Option.some.inj ho
            have e0 : a'.eval (.tmp 158) = .bool false := is_tq (hin 23 158 (by kernel_rfl) (by kernel_rfl)) rfl
            exact o_pickN (.tmp 158) (.tmp 161) rfl e0 ⟨_, rfl, tq_is _ _ _ _ rfl, Kept.refl _ _, fun _ _ _ _ _ => trivial⟩
          | 28, ho, hsk =>
            obtain rfl := Option.some.inj ho
            have e0 : a'.eval (.tmp 146) = .bool false := is_tq (hin 11 146 (by kernel_rfl) (by kernel_rfl)) rfl
            have e1 : a'.eval (.tmp 162) = .bool false := is_tq (hin 27 162 (by kernel_rfl) (by kernel_rfl)) rfl
            exact o_pickOr0 (.tmp 146) (.tmp 162) rfl _ e0 e1 ⟨_, rfl, tq_is _ _ _ _ rfl, Kept.refl _ _, fun _ _ _ _ _ => trivial⟩
        intro w9 hk9
        replace hk9 : Kept [] Wd w9 := ⟨hk9.os, hk9.tape, hk9.output, hk9.size, hk9.block⟩
        simp only [valsQ, List.map_cons, List.map_nil, Option.getD_some, Option.getD_none, List.take_succ_cons, List.take_zero, putAll, Act.put, List.setIfInBounds_toArray, List.set_cons_succ, List.set_cons_zero]
        refine wpAny_done (by kernel_rfl) ?_ _
        replace HSZ := hide (Nat.le_trans (unhide HSZ) hk9.size)
        replace HA1 := hide ((unhide HA1).step0 hk9)
        clear hk9
        have c19 := fits_cell (unhide HA1).ht 0 _ rfl
        gi_wp2_with (
          first
          | (refine inVar (.int .i64 0) (.int .i64 0) zero3w (st1 size3 ⟨rfl, rfl⟩) 19 (by rfl) wideF (by rfl) (by rfl) (by rfl) (.tmp 164) (by rfl) (by rfl) (fun _ => by rfl) (by rfl) (by rfl) (by rfl) ?_
             intro W10 bt1 et B10 K10
             have HT1 := hide B10
             have HGT : Hid (W8.heap.size + 1 ≤ bt1) := by have := unhide HSZ; show _ ≤ _; omega
             have HObt1 : Hid (W8.heap.size + 1 ≤ bt1) := HGT
             replace HA1 := hide ((unhide HA1).step0 K10)
             clear et K10 c19
             have c19 := fits_cell B10 0 _ rfl
             clear B10
             refine Stp.go ?_))
        constructor
        gi_wp2_with (
          first
          | (refine inStore1 (.int .i64 0) (.int .i64 1) (st1 size3 ⟨rfl, rfl⟩) wideF (by rfl) (.tmp 19) (.tmp 105) (by rfl) (by rfl) (by rfl) bt1 (by rfl) (by rfl) (unhide HT1) ?_
             refine Stp.go ?_))
        constructor
        intro W11 B11 e11
        have HKB : Hid (Kept [bt1] W10 W11) := by rw [e11]; exact (Kept.refl _ _).setCell (p := ⟨bt1, 0, none⟩) (by simp) _
        have HA2 : Hid (Sv w W11 (bt1 + 1) b mb c r bq b9 b10 bt1 (.slice vo L.length cc) M L leave 1 [W8.heap.size]) := ((unhide HA1).keep (unhide HKB) (by intro i hi; simp at hi; subst hi; exact unhide HGT)).next (by have := unhide HGT; omega) (by omega) B11
        clear HA1 HT1 HGT HKB e11 B11 c19
        gi_wp2_with fail
        rw [roundsIn_succ]
        have c19 := fits_cell (unhide HA2).ht 0 _ rfl
        gi_wp2_with (
          first
          | (refine inVar (.int .i64 0) (.int .i64 0) zero3w (st1 size3 ⟨rfl, rfl⟩) 20 (by rfl) wideF (by rfl) (by rfl) (by rfl) (.const (.int .i64 0)) (by rfl) (by rfl) (fun _ => by rfl) (by rfl) (by rfl) (by rfl) ?_
             intro W12 bn1 en B12 K12
             have HN1 := hide B12
             have HBbn1 : Hid (bt1 + 1 ≤ bn1) := by have := (unhide HA2).ht.lt; show _ ≤ _; omega
             replace HA2 := hide ((unhide HA2).step0 K12)
             clear en B12 K12 c19))
        refine range_turn 4 bn1 rfl rfl (unhide HA2) (unhide HN1) (unhide HBbn1) ?assign1 ?body1 ?done1 ?exit1
        case assign1 =>
          intro l x Wa K hK
          simp only [List.setIfInBounds_toArray, List.set_cons_succ, List.set_cons_zero]
          gi_wp2_with (
            first
            | (refine inNew row54 mk0.C rfl zero54 21 (by rfl) (fun _ => trivial) (by rfl) (by rfl) (by rfl) (.tmp 107) (by rfl) (by rfl) (fun _ => by rfl) (by rfl) x.C rfl x.one (by rfl) (by rfl) ?_
               intro W9 bx ex BX KX
               have HBX := hide BX
               have HKX := hide KX
               have HEX : Hid (Wa.heap.size ≤ bx) := by show _ ≤ _; omega
               clear ex BX KX)
            | fail)
          refine hK _ _ bx (unhide HKX) (unhide HBX) (unhide HEX) ?_
          simp only [ay, List.setIfInBounds_toArray, List.set_cons_succ, List.set_cons_zero]
        case body1 =>
          intro l k f bx W hf hS hn hgo hbx
          simp only [ay, List.setIfInBounds_toArray, List.set_cons_succ, List.set_cons_zero]
          have hlt : k < L.length := (List.getElem?_eq_some_iff.1 hf).1
          have hk256 : (k : Int) < 256 := by have := hS.tw.rp.many; omega
          have HHB := unhide HBbn1
          obtain ⟨gg, off, cap2, hwv, hrg⟩ := hS.tw.rp.at hlt
          obtain rfl : vo = some ⟨gg, off, none⟩ := by injection hwv
          replace hrg := hrg k f hf
          have HRG := hide hrg
          obtain ⟨fc, hfc⟩ : ∃ c, c = f.C := ⟨_, rfl⟩
          have HLF : Hid (fc.length = 3) := by show _ = _; rw [hfc]; rfl
          have HEQ : Hid (∀ W, (Op.equal 54 (aggV fc) (aggV fc)).run Try.prog W = .ok true W) := fun W => by rw [hfc]; have h9 := equal54 W f f; rw [decide_eq_true rfl] at h9; exact h9
          rw [← hfc] at hbx HRG ⊢
          clear hf hwv hrg hfc hgo
          gi_wp2
          refine wpIn_region_any (by kernel_rfl) (anyIn_of_any (by rintro ⟨a, w, h⟩; rcases h with ⟨_, _, ⟨h, _⟩ | ⟨h, _⟩⟩ <;> cases h) (noDeferA (by kernel_rfl)) _ _ _ _ (wpAny_tq 18 rfl (by kernel_rfl) [some (.int .i64 k), some (P0 r), some (P0 r), some (P0 r), some (.slice (some ⟨gg, off, none⟩) L.length cc), some (.int .i64 L.length), some (.bool false), some (.bool false), some (aggV fc), some (P0 r), some (P0 r), some (P0 r), some (.slice (some ⟨gg, off, none⟩) L.length cc), some (.int .i64 k), some (.pointer (some ⟨gg, off + k * 3, none⟩)), some (aggV fc), some (.bool false), some (.bool false)] rfl (by kernel_rfl) (by kernel_rfl) ?_ ?_))
          · intro i o' hi hsk ho a' w2 hout hin hk2
            replace hk2 : Kept [] W w2 := ⟨hk2.os, hk2.tape, hk2.output, hk2.size, hk2.block⟩
            match i, ho, hsk with
            | 0, ho, hsk =>
              obtain rfl := Option.some.inj ho
              exact o_load3 (.tmp 20) rfl _ _ ((hout 20 (by kernel_rfl)).trans rfl) (fits_cell (hn.kept hk2 (by simp)) 0 _ rfl) ⟨_, rfl, tq_is _ _ _ _ rfl, Kept.refl _ _, fun _ _ _ _ _ => trivial⟩
            | 1, ho, hsk =>
              obtain rfl := Option.some.inj ho
              exact o_load27 (.tmp 6) rfl _ _ ((hout 6 (by kernel_rfl)).trans rfl) (fits_cell (hS.step0 hk2).hq 0 _ rfl) ⟨_, rfl, tq_is _ _ _ _ rfl, Kept.refl _ _, fun _ _ _ _ _ => trivial⟩
            | 2, ho, hsk =>
              obtain rfl := Option.some.inj ho
              have e0 : a'.eval (.tmp 109) = P0 r := is_tq (hin 1 109 (by kernel_rfl) (by kernel_rfl)) rfl
              exact o_nil (.tmp 109) rfl _ e0 ⟨_, rfl, tq_is _ _ _ _ rfl, Kept.refl _ _, fun _ _ _ _ _ => trivial⟩
            | 3, ho, hsk =>
              obtain rfl := Option.some.inj ho
              have e0 : a'.eval (.tmp 110) = P0 r := is_tq (hin 2 110 (by kernel_rfl) (by kernel_rfl)) rfl
              exact o_fld30_0 (.tmp 110) rfl r (0) (0) rfl e0 ⟨_, rfl, tq_is _ _ _ _ rfl, Kept.refl _ _, fun _ _ _ _ _ => trivial⟩
            | 4, ho, hsk =>
              obtain rfl := Option.some.inj ho
              have e0 : a'.eval (.tmp 111) = P0 r := is_tq (hin 3 111 (by kernel_rfl) (by kernel_rfl)) rfl
              exact o_load28 (.tmp 111) rfl _ _ e0 ((hS.step0 hk2).tw.rp.cw) ⟨_, rfl, tq_is _ _ _ _ rfl, Kept.refl _ _, fun _ _ _ _ _ => trivial⟩
            | 5, ho, hsk =>
              obtain rfl := Option.some.inj ho
              have e0 : a'.eval (.tmp 112) = .slice (some ⟨gg, off, none⟩) L.length cc := is_tq (hin 4 112 (by kernel_rfl) (by kernel_rfl)) rfl
              exact o_len28 (.tmp 112) rfl _ _ _ e0 ⟨_, rfl, tq_is _ _ _ _ rfl, Kept.refl _ _, fun _ _ _ _ _ => trivial⟩
            | 6, ho, hsk =>
              obtain rfl := Option.some.inj ho
              have e0 : a'.eval (.tmp 108) = .int .i64 k := is_tq (hin 0 108 (by kernel_rfl) (by kernel_rfl)) rfl
              have e1 : a'.eval (.tmp 113) = .int .i64 L.length := is_tq (hin 5 113 (by kernel_rfl) (by kernel_rfl)) rfl
              exact c_geq3 (.tmp 108) (.tmp 113) rfl _ _ (false) (by simp; omega) e0 e1 ⟨_, rfl, tq_is _ _ _ _ rfl, Kept.refl _ _, fun _ _ _ _ _ => trivial⟩
            | 7, ho, hsk =>
              obtain rfl := Option.some.inj ho
              have e0 : a'.eval (.tmp 114) = .bool false := is_tq (hin 6 114 (by kernel_rfl) (by kernel_rfl)) rfl
              exact wp_move (.tmp 114) rfl _ e0 ⟨_, rfl, tq_is _ _ _ _ rfl, Kept.refl _ _, fun _ _ _ _ _ => trivial⟩
            | 8, ho, hsk =>
              obtain rfl := Option.some.inj ho
              exact wp_loadA row54 (.tmp 21) rfl bx (0) ((hout 21 (by kernel_rfl)).trans rfl) (fc) (unhide HLF) ((hbx.kept hk2 (by simp)).range) ⟨_, rfl, tq_is _ _ _ _ rfl, Kept.refl _ _, fun _ _ _ _ _ => trivial⟩
            | 9, ho, hsk =>
              obtain rfl := Option.some.inj ho
              exact o_load27 (.tmp 6) rfl _ _ ((hout 6 (by kernel_rfl)).trans rfl) (fits_cell (hS.step0 hk2).hq 0 _ rfl) ⟨_, rfl, tq_is _ _ _ _ rfl, Kept.refl _ _, fun _ _ _ _ _ => trivial⟩
            | 10, ho, hsk =>
              obtain rfl := Option.some.inj ho
              have e0 : a'.eval (.tmp 117) = P0 r := is_tq (hin 9 117 (by kernel_rfl) (by kernel_rfl)) rfl
              exact o_nil (.tmp 117) rfl _ e0 ⟨_, rfl, tq_is _ _ _ _ rfl, Kept.refl _ _, fun _ _ _ _ _ => trivial⟩
            | 11, ho, hsk =>
              obtain rfl := Option.some.inj ho
              have e0 : a'.eval (.tmp 118) = P0 r := is_tq (hin 10 118 (by kernel_rfl) (by kernel_rfl)) rfl
              exact o_fld30_0 (.tmp 118) rfl r (0) (0) rfl e0 ⟨_, rfl, tq_is _ _ _ _ rfl, Kept.refl _ _, fun _ _ _ _ _ => trivial⟩
            | 12, ho, hsk =>
              obtain rfl := Option.some.inj ho
              have e0 : a'.eval (.tmp 119) = P0 r := is_tq (hin 11 119 (by kernel_rfl) (by kernel_rfl)) rfl
              exact o_load28 (.tmp 119) rfl _ _ e0 ((hS.step0 hk2).tw.rp.cw) ⟨_, rfl, tq_is _ _ _ _ rfl, Kept.refl _ _, fun _ _ _ _ _ => trivial⟩
            | 13, ho, hsk =>
              obtain rfl := Option.some.inj ho
              exact o_load3 (.tmp 20) rfl _ _ ((hout 20 (by kernel_rfl)).trans rfl) (fits_cell (hn.kept hk2 (by simp)) 0 _ rfl) ⟨_, rfl, tq_is _ _ _ _ rfl, Kept.refl _ _, fun _ _ _ _ _ => trivial⟩
            | 14, ho, hsk =>
              obtain rfl := Option.some.inj ho
              have e0 : a'.eval (.tmp 120) = .slice (some ⟨gg, off, none⟩) L.length cc := is_tq (hin 12 120 (by kernel_rfl) (by kernel_rfl)) rfl
              have e1 : a'.eval (.tmp 121) = .int .i64 k := is_tq (hin 13 121 (by kernel_rfl) (by kernel_rfl)) rfl
              exact o_idx28 (.tmp 120) (.tmp 121) rfl gg off L.length cc k (hlt) e0 e1 ⟨_, rfl, tq_is _ _ _ _ rfl, Kept.refl _ _, fun _ _ _ _ _ => trivial⟩
            | 15, ho, hsk =>
              obtain rfl := Option.some.inj ho
              have e0 : a'.eval (.tmp 122) = .pointer (some ⟨gg, off + k * 3, none⟩) := is_tq (hin 14 122 (by kernel_rfl) (by kernel_rfl)) rfl
              exact wp_loadA row54 (.tmp 122) rfl gg (off + k * 3) e0 (fc) (unhide HLF) (range_kept (unhide HRG) hk2 (by simp)) ⟨_, rfl, tq_is _ _ _ _ rfl, Kept.refl _ _, fun _ _ _ _ _ => trivial⟩
            | 16, ho, hsk =>
              obtain rfl := Option.some.inj ho
              have e0 : a'.eval (.tmp 116) = aggV fc := is_tq (hin 8 116 (by kernel_rfl) (by kernel_rfl)) rfl
              have e1 : a'.eval (.tmp 123) = aggV fc := is_tq (hin 15 123 (by kernel_rfl) (by kernel_rfl)) rfl
              exact o_neqA 54 54 guard54 (.tmp 116) (.tmp 123) rfl (fc) (fc) e0 e1 (true) (unhide HEQ _) ⟨_, rfl, tq_is _ _ _ _ rfl, Kept.refl _ _, fun _ _ _ _ _ => trivial⟩
            | 17, ho, hsk =>
              obtain rfl := Option.some.inj ho
              have e0 : a'.eval (.tmp 115) = .bool false := is_tq (hin 7 115 (by kernel_rfl) (by kernel_rfl)) rfl
              have e1 : a'.eval (.tmp 124) = .bool false := is_tq (hin 16 124 (by kernel_rfl) (by kernel_rfl)) rfl
              exact o_pickOr0 (.tmp 115) (.tmp 124) rfl _ e0 e1 ⟨_, rfl, tq_is _ _ _ _ rfl, Kept.refl _ _, fun _ _ _ _ _ => trivial⟩
          intro w9 hk9
          replace hk9 : Kept [] W w9 := ⟨hk9.os, hk9.tape, hk9.output, hk9.size, hk9.block⟩
          simp only [valsQ, List.map_cons, List.map_nil, Option.getD_some, List.take_succ_cons, List.take_zero, putAll, Act.put, List.setIfInBounds_toArray, List.set_cons_succ, List.set_cons_zero]
          refine wpAny_done (by kernel_rfl) ?_ _
          have hS3 := hide (hS.step0 hk9)
          have HN3 := hide (hn.kept hk9 (by simp))
          have HK3 := hide hk9
          have c20 := fits_cell (unhide HN3) 0 _ rfl
          clear hS hn hk9 HRG hbx
          gi_wp2_with (
            first
            | (refine inStore1 (.int .i64 (k : Int)) (.int .i64 ((k : Int) + 1)) (st1 size3 ⟨rfl, rfl⟩) (fun _ => trivial) (by rfl) (.tmp 20) (.tmp 127) (by rfl) (by rfl) (by rfl) bn1 (by rfl) (by rfl) (unhide HN3) ?_
               intro W9 B9 e9
               have HK9 : Hid (Kept [bn1] w9 W9) := by rw [e9]; exact (Kept.refl _ _).setCell (p := ⟨bn1, 0, none⟩) (by simp) _
               have HN9 := hide B9
               have hS9 := hide ((unhide hS3).keep (unhide HK9) (by intro i hi; simp at hi; omega))
               clear c20 e9 B9
               have c20 := fits_cell (unhide HN9) 0 _ rfl
               have c19 := fits_cell (unhide hS9).ht 0 _ rfl
               have c9 := fits_cell (unhide hS9).l9 0 _ rfl)
            | fail)
          exact ⟨((unhide HK3).mono (by simp)).trans (unhide HK9), unhide HN9⟩
        case exit1 =>
          intro a W h
          exact wpIn_exit h
        case done1 =>
          intro n3 We hS hn3 hle hor hD hsz
          have HSZ := hide hsz
          have h1 := unhide HBbn1
          have h2 := (unhide HN1).lt
          have HA3 := hide (hS.mark (D := W12.heap.size) (by omega) hD)
          obtain rfl : n3 = L.length := by rcases hor with h | h; exact h; exact absurd h.1 (by decide)
          have HN3 := hide hn3
          clear hS hn3 hle hor hD hsz h1 h2
          gi_wp2
          refine wpIn_wide.2 ?_
          refine wp_region_any mixed (wpAny_tq 29 rfl (by kernel_rfl) [some (.int .i64 1), some (.bool true), some (.bool true), some (.int .i64 L.length), some (P0 r), some (P0 r), some (P0 r), some (.slice vo L.length cc), some (.int .i64 L.length), some (.bool false), some (.bool false), some (.bool false), some (.int .i64 1), some (.bool false), some (.bool false), none, none, none, none, none, none, none, some (.bool false), some (.bool false), none, none, none, some (.bool false), some (.bool false)] rfl (by kernel_rfl) (by kernel_rfl) ?_ ?_)
          · intro i o' hi hsk ho a' w2 hout hin hk2
            replace hk2 : Kept [] We w2 := ⟨hk2.os, hk2.tape, hk2.output, hk2.size, hk2.block⟩
            match i, ho, hsk with
            | 0, ho, hsk =>
              obtain rfl := Option.some.inj ho
              exact o_load3 (.tmp 19) rfl _ _ ((hout 19 (by kernel_rfl)).trans rfl) (fits_cell ((unhide HA3).step0 hk2).ht 0 _ rfl) ⟨_, rfl, tq_is _ _ _ _ rfl, Kept.refl _ _, fun _ _ _ _ _ => trivial⟩
            | 1, ho, hsk =>
              obtain rfl := Option.some.inj ho
              have e0 : a'.eval (.tmp 135) = .int .i64 1 := is_tq (hin 0 135 (by kernel_rfl) (by kernel_rfl)) rfl
              exact c_eql3 (.tmp 135) (.const (.int .i64 (1))) rfl _ _ (true) (by decide) e0 rfl ⟨_, rfl, tq_is _ _ _ _ rfl, Kept.refl _ _, fun _ _ _ _ _ => trivial⟩
            | 2, ho, hsk =>
              obtain rfl := Option.some.inj ho
              have e0 : a'.eval (.tmp 136) = .bool true := is_tq (hin 1 136 (by kernel_rfl) (by kernel_rfl)) rfl
              exact wp_move (.tmp 136) rfl _ e0 ⟨_, rfl, tq_is _ _ _ _ rfl, Kept.refl _ _, fun _ _ _ _ _ => trivial⟩
            | 3, ho, hsk =>
              obtain rfl := Option.some.inj ho
              exact o_load3 (.tmp 20) rfl _ _ ((hout 20 (by kernel_rfl)).trans rfl) (fits_cell ((unhide HN3).kept hk2 (by simp)) 0 _ rfl) ⟨_, rfl, tq_is _ _ _ _ rfl, Kept.refl _ _, fun _ _ _ _ _ => trivial⟩
            | 4, ho, hsk =>
              obtain rfl := Option.some.inj ho
              exact o_load27 (.tmp 6) rfl _ _ ((hout 6 (by kernel_rfl)).trans rfl) (fits_cell ((unhide HA3).step0 hk2).hq 0 _ rfl) ⟨_, rfl, tq_is _ _ _ _ rfl, Kept.refl _ _, fun _ _ _ _ _ => trivial⟩
            | 5, ho, hsk =>
              obtain rfl := Option.some.inj ho
              have e0 : a'.eval (.tmp 139) = P0 r := is_tq (hin 4 139 (by kernel_rfl) (by kernel_rfl)) rfl
              exact o_nil (.tmp 139) rfl _ e0 ⟨_, rfl, tq_is _ _ _ _ rfl, Kept.refl _ _, fun _ _ _ _ _ => trivial⟩
            | 6, ho, hsk =>
              obtain rfl := Option.some.inj ho
              have e0 : a'.eval (.tmp 140) = P0 r := is_tq (hin 5 140 (by kernel_rfl) (by kernel_rfl)) rfl
              exact o_fld30_0 (.tmp 140) rfl r (0) (0) rfl e0 ⟨_, rfl, tq_is _ _ _ _ rfl, Kept.refl _ _, fun _ _ _ _ _ => trivial⟩
            | 7, ho, hsk =>
              obtain rfl := Option.some.inj ho
              have e0 : a'.eval (.tmp 141) = P0 r := is_tq (hin 6 141 (by kernel_rfl) (by kernel_rfl)) rfl
              exact o_load28 (.tmp 141) rfl _ _ e0 (((unhide HA3).step0 hk2).tw.rp.cw) ⟨_, rfl, tq_is _ _ _ _ rfl, Kept.refl _ _, fun _ _ _ _ _ => trivial⟩
            | 8, ho, hsk =>
              obtain rfl := Option.some.inj ho
              have e0 : a'.eval (.tmp 142) = .slice vo L.length cc := is_tq (hin 7 142 (by kernel_rfl) (by kernel_rfl)) rfl
              exact o_len28 (.tmp 142) rfl _ _ _ e0 ⟨_, rfl, tq_is _ _ _ _ rfl, Kept.refl _ _, fun _ _ _ _ _ => trivial⟩
            | 9, ho, hsk =>
              obtain rfl := Option.some.inj ho
              have e0 : a'.eval (.tmp 138) = .int .i64 L.length := is_tq (hin 3 138 (by kernel_rfl) (by kernel_rfl)) rfl
              have e1 : a'.eval (.tmp 143) = .int .i64 L.length := is_tq (hin 8 143 (by kernel_rfl) (by kernel_rfl)) rfl
              exact c_neq3 (.tmp 138) (.tmp 143) rfl _ _ (true) (by simp) e0 e1 ⟨_, rfl, tq_is _ _ _ _ rfl, Kept.refl _ _, fun _ _ _ _ _ => trivial⟩
            | 10, ho, hsk =>
              obtain rfl := Option.some.inj ho
              have e0 : a'.eval (.tmp 137) = .bool true := is_tq (hin 2 137 (by kernel_rfl) (by kernel_rfl)) rfl
              have e1 : a'.eval (.tmp 144) = .bool false := is_tq (hin 9 144 (by kernel_rfl) (by kernel_rfl)) rfl
              exact o_pick (.tmp 137) (.tmp 144) rfl _ e0 e1 ⟨_, rfl, tq_is _ _ _ _ rfl, Kept.refl _ _, fun _ _ _ _ _ => trivial⟩
            | 11, ho, hsk =>
              obtain rfl := Option.some.inj ho
              have e0 : a'.eval (.tmp 145) = .bool false := is_tq (hin 10 145 (by kernel_rfl) (by kernel_rfl)) rfl
              exact wp_move (.tmp 145) rfl _ e0 ⟨_, rfl, tq_is _ _ _ _ rfl, Kept.refl _ _, fun _ _ _ _ _ => trivial⟩
            | 12, ho, hsk =>
              obtain rfl := Option.some.inj ho
              exact o_load3 (.tmp 19) rfl _ _ ((hout 19 (by kernel_rfl)).trans rfl) (fits_cell ((unhide HA3).step0 hk2).ht 0 _ rfl) ⟨_, rfl, tq_is _ _ _ _ rfl, Kept.refl _ _, fun _ _ _ _ _ => trivial⟩
            | 13, ho, hsk =>
              obtain rfl := Option.some.inj ho
              have e0 : a'.eval (.tmp 147) = .int .i64 1 := is_tq (hin 12 147 (by kernel_rfl) (by kernel_rfl)) rfl
              exact c_eql3 (.tmp 147) (.const (.int .i64 (0))) rfl _ _ (false) (by decide) e0 rfl ⟨_, rfl, tq_is _ _ _ _ rfl, Kept.refl _ _, fun _ _ _ _ _ => trivial⟩
            | 14, ho, hsk =>
              obtain rfl := Option.some.inj ho
              have e0 : a'.eval (.tmp 148) = .bool false := is_tq (hin 13 148 (by kernel_rfl) (by kernel_rfl)) rfl
              exact wp_move (.tmp 148) rfl _ e0 ⟨_, rfl, tq_is _ _ _ _ rfl, Kept.refl _ _, fun _ _ _ _ _ => trivial⟩
            | 15, ho, hsk =>
              cases hsk
            | 16, ho, hsk =>
              cases hsk
            | 17, ho, hsk =>
              cases hsk
            | 18, ho, hsk =>
              cases hsk
            | 19, ho, hsk =>
              cases hsk
            | 20, ho, hsk =>
              cases hsk
            | 21, ho, hsk =>
              cases hsk
            | 22, ho, hsk =>
              obtain rfl := Option.some.inj ho
              have e0 : a'.eval (.tmp 149) = .bool false := is_tq (hin 14 149 (by kernel_rfl) (by kernel_rfl)) rfl
              exact o_pickN (.tmp 149) (.tmp 156) rfl e0 ⟨_, rfl, tq_is _ _ _ _ rfl, Kept.refl _ _, fun _ _ _ _ _ => trivial⟩
            | 23, ho, hsk =>
              obtain rfl := Option.some.inj ho
              have e0 : a'.eval (.tmp 157) = .bool false := is_tq (hin 22 157 (by kernel_rfl) (by kernel_rfl)) rfl
              exact wp_move (.tmp 157) rfl _ e0 ⟨_, rfl, tq_is _ _ _ _ rfl, Kept.refl _ _, fun _ _ _ _ _ => trivial⟩
            | 24, ho, hsk =>
              cases hsk
            | 25, ho, hsk =>
              cases hsk
            | 26, ho, hsk =>
              cases hsk
            | 27, ho, hsk =>
              obtain rfl := Option.some.inj ho
              have e0 : a'.eval (.tmp 158) = .bool false := is_tq (hin 23 158 (by kernel_rfl) (by kernel_rfl)) rfl
              exact o_pickN (.tmp 158) (.tmp 161) rfl e0 ⟨_, rfl, tq_is _ _ _ _ rfl, Kept.refl _ _, fun _ _ _ _ _ => trivial⟩
            | 28, ho, hsk =>
              obtain rfl := Option.some.inj ho
              have e0 : a'.eval (.tmp 146) = .bool false := is_tq (hin 11 146 (by kernel_rfl) (by kernel_rfl)) rfl
              have e1 : a'.eval (.tmp 162) = .bool false := is_tq (hin 27 162 (by kernel_rfl) (by kernel_rfl)) rfl
              exact o_pickOr0 (.tmp 146) (.tmp 162) rfl _ e0 e1 ⟨_, rfl, tq_is _ _ _ _ rfl, Kept.refl _ _, fun _ _ _ _ _ => trivial⟩
          intro w9 hk9
          replace hk9 : Kept [] We w9 := ⟨hk9.os, hk9.tape, hk9.output, hk9.size, hk9.block⟩
          simp only [valsQ, List.map_cons, List.map_nil, Option.getD_some, Option.getD_none, List.take_succ_cons, List.take_zero, putAll, Act.put, List.setIfInBounds_toArray, List.set_cons_succ, List.set_cons_zero]
          refine wpAny_done (by kernel_rfl) ?_ _
          replace HSZ := hide (Nat.le_trans (unhide HSZ) hk9.size)
          replace HA3 := hide ((unhide HA3).step0 hk9)
          clear hk9
          have c19 := fits_cell (unhide HA3).ht 0 _ rfl
          gi_wp2_with (
            first
            | (refine inVar (.int .i64 0) (.int .i64 1) zero3w (st1 size3 ⟨rfl, rfl⟩) 19 (by rfl) wideF (by rfl) (by rfl) (by rfl) (.tmp 164) (by rfl) (by rfl) (fun _ => by rfl) (by rfl) (by rfl) (by rfl) ?_
               intro W13 bt2 et B10 K10
               have HT1 := hide B10
               have HGT : Hid (W12.heap.size + 1 ≤ bt2) := by have := unhide HSZ; show _ ≤ _; omega
               have HObt2 : Hid (W12.heap.size + 1 ≤ bt2) := HGT
               replace HA3 := hide ((unhide HA3).step0 K10)
               clear et K10 c19
               have c19 := fits_cell B10 0 _ rfl
               clear B10
               refine Stp.go ?_))
          constructor
          gi_wp2_with (
            first
            | (refine inStore1 (.int .i64 1) (.int .i64 2) (st1 size3 ⟨rfl, rfl⟩) wideF (by rfl) (.tmp 19) (.tmp 105) (by rfl) (by rfl) (by rfl) bt2 (by rfl) (by rfl) (unhide HT1) ?_
               refine Stp.go ?_))
          constructor
          intro W14 B11 e11
          have HKB : Hid (Kept [bt2] W13 W14) := by rw [e11]; exact (Kept.refl _ _).setCell (p := ⟨bt2, 0, none⟩) (by simp) _
          have HA4 : Hid (Sv w W14 (bt2 + 1) b mb c r bq b9 b10 bt2 (.slice vo L.length cc) M L leave 2 [W12.heap.size, W8.heap.size]) := ((unhide HA3).keep (unhide HKB) (by intro i hi; simp at hi; subst hi; exact unhide HGT)).next (by have := unhide HGT; omega) (by omega) B11
          clear HA3 HT1 HGT HKB e11 B11 c19
          gi_wp2_with fail
          rw [roundsIn_succ]
          have c19 := fits_cell (unhide HA4).ht 0 _ rfl
          gi_wp2
          refine (wpIn_wide (n := 3)).1 ?_
          gi_wp2_with (
            first
            | (refine inStore1 (.bool false) (.bool true) (st1 size4 ⟨rfl, rfl⟩) wideF (by rfl) (.tmp 10) (.const (.bool true)) (by rfl) (by rfl) (by rfl) b10 (by rfl) (by rfl) (unhide HA4).o10 ?_
               intro W15 B15 e15
               have HB15 := hide B15
               have HE15 := hide e15
               clear B15 e15)
            | fail)
          have hA := unhide HA4
          have hk15 : Kept [b10] W14 W15 := by rw [unhide HE15]; exact (Kept.refl _ _).setCell (p := ⟨b10, 0, none⟩) (by simp) _
          have hD1 := hA.d W8.heap.size (by simp)
          have hD2 := hA.d W12.heap.size (by simp)
          have hneq : W8.heap.size ≠ W12.heap.size := by have := unhide HObt1; have := unhide HBbn1; have := (unhide HN1).lt; omega
          have s1 : ∀ X : Nat, W14.heap[X]? = some (Obj.deferred (some [])) → W15.heap[X]? = some (Obj.deferred (some [])) := by
            intro X h
            refine hk15.heap h ?_
            simp
            intro e; subst e; rw [hA.o10] at h; cases h
          exact all_leaves rfl (unhide HB15) (hA.kp.fresh hk15 (fun i hi hl => by simp at hi; subst hi; have := hA.ge.2; omega)) (s1 _ hD2.2.2) (s1 _ hD1.2.2) hneq hD2.2.1 hD1.2.1
      · have hlv : (n2 : Int) = leave := by rcases hor with h | h; exact absurd h h9; exact h.2
        have HNE : Hid (decide ((n2 : Int) = (L.length : Int)) = false) := by show _ = _; simp; omega
        have HLE : Hid (decide ((n2 : Int) = leave) = true) := by show _ = _; simp [hlv]
        clear hle hor h9 hlv
        gi_wp2
        refine wpIn_wide.2 ?_
        refine wp_region_any mixed (wpAny_tq 29 rfl (by kernel_rfl) [some (.int .i64 0), some (.bool false), some (.bool false), none, none, none, none, none, none, none, some (.bool false), some (.bool false), some (.int .i64 0), some (.bool true), some (.bool true), some (.int .i64 n2), some (P0 r), some (P0 r), some (P0 r), some (.slice vo L.length cc), some (.int .i64 L.length), some (.bool true), some (.bool true), some (.bool true), some (.int .i64 n2), some (.int .i64 leave), some (.bool false), some (.bool false), some (.bool false)] rfl (by kernel_rfl) (by kernel_rfl) ?_ ?_)
        · intro i o' hi hsk ho a' w2 hout hin hk2
          replace hk2 : Kept [] Wd w2 := ⟨hk2.os, hk2.tape, hk2.output, hk2.size, hk2.block⟩
          match i, ho, hsk with
          | 0, ho, hsk =>
            obtain rfl := Option.some.inj ho
            exact o_load3 (.tmp 19) rfl _ _ ((hout 19 (by kernel_rfl)).trans rfl) (fits_cell ((unhide HA1).step0 hk2).ht 0 _ rfl) ⟨_, rfl, tq_is _ _ _ _ rfl, Kept.refl _ _, fun _ _ _ _ _ => trivial⟩
          | 1, ho, hsk =>
            obtain rfl := Option.some.inj ho
            have e0 : a'.eval (.tmp 135) = .int .i64 0 := is_tq (hin 0 135 (by kernel_rfl) (by kernel_rfl)) rfl
            exact c_eql3 (.tmp 135) (.const (.int .i64 (1))) rfl _ _ (false) (by decide) e0 rfl ⟨_, rfl, tq_is _ _ _ _ rfl, Kept.refl _ _, fun _ _ _ _ _ => trivial⟩
          | 2, ho, hsk =>
            obtain rfl := Option.some.inj ho
            have e0 : a'.eval (.tmp 136) = .bool false := is_tq (hin 1 136 (by kernel_rfl) (by kernel_rfl)) rfl
            exact wp_move (.tmp 136) rfl _ e0 ⟨_, rfl, tq_is _ _ _ _ rfl, Kept.refl _ _, fun _ _ _ _ _ => trivial⟩
          | 3, ho, hsk =>
            cases hsk
          | 4, ho, hsk =>
            cases hsk
          | 5, ho, hsk =>
            cases hsk
          | 6, ho, hsk =>
            cases hsk
          | 7, ho, hsk =>
            cases hsk
          | 8, ho, hsk =>
            cases hsk
          | 9, ho, hsk =>
            cases hsk
          | 10, ho, hsk =>
            obtain rfl := Option.some.inj ho
            have e0 : a'.eval (.tmp 137) = .bool false := is_tq (hin 2 137 (by kernel_rfl) (by kernel_rfl)) rfl
            exact o_pickN (.tmp 137) (.tmp 144) rfl e0 ⟨_, rfl, tq_is _ _ _ _ rfl, Kept.refl _ _, fun _ _ _ _ _ => trivial⟩
          | 11, ho, hsk =>
            obtain rfl := Option.some.inj ho
            have e0 : a'.eval (.tmp 145) = .bool false := is_tq (hin 10 145 (by kernel_rfl) (by kernel_rfl)) rfl
            exact wp_move (.tmp 145) rfl _ e0 ⟨_, rfl, tq_is _ _ _ _ rfl, Kept.refl _ _, fun _ _ _ _ _ => trivial⟩
          | 12, ho, hsk =>
            obtain rfl := Option.some.inj ho
            exact o_load3 (.tmp 19) rfl _ _ ((hout 19 (by kernel_rfl)).trans rfl) (fits_cell ((unhide HA1).step0 hk2).ht 0 _ rfl) ⟨_, rfl, tq_is _ _ _ _ rfl, Kept.refl _ _, fun _ _ _ _ _ => trivial⟩
          | 13, ho, hsk =>
            obtain rfl := Option.some.inj ho
            have e0 : a'.eval (.tmp 147) = .int .i64 0 := is_tq (hin 12 147 (by kernel_rfl) (by kernel_rfl)) rfl
            exact c_eql3 (.tmp 147) (.const (.int .i64 (0))) rfl _ _ (true) (by decide) e0 rfl ⟨_, rfl, tq_is _ _ _ _ rfl, Kept.refl _ _, fun _ _ _ _ _ => trivial⟩
          | 14, ho, hsk =>
            obtain rfl := Option.some.inj ho
            have e0 : a'.eval (.tmp 148) = .bool true := is_tq (hin 13 148 (by kernel_rfl) (by kernel_rfl)) rfl
            exact wp_move (.tmp 148) rfl _ e0 ⟨_, rfl, tq_is _ _ _ _ rfl, Kept.refl _ _, fun _ _ _ _ _ => trivial⟩
          | 15, ho, hsk =>
            obtain rfl := Option.some.inj ho
            exact o_load3 (.tmp 20) rfl _ _ ((hout 20 (by kernel_rfl)).trans rfl) (fits_cell ((unhide HN2).kept hk2 (by simp)) 0 _ rfl) ⟨_, rfl, tq_is _ _ _ _ rfl, Kept.refl _ _, fun _ _ _ _ _ => trivial⟩
          | 16, ho, hsk =>
            obtain rfl := Option.some.inj ho
            exact o_load27 (.tmp 6) rfl _ _ ((hout 6 (by kernel_rfl)).trans rfl) (fits_cell ((unhide HA1).step0 hk2).hq 0 _ rfl) ⟨_, rfl, tq_is _ _ _ _ rfl, Kept.refl _ _, fun _ _ _ _ _ => trivial⟩
          | 17, ho, hsk =>
            obtain rfl := Option.some.inj ho
            have e0 : a'.eval (.tmp 151) = P0 r := is_tq (hin 16 151 (by kernel_rfl) (by kernel_rfl)) rfl
            exact o_nil (.tmp 151) rfl _ e0 ⟨_, rfl, tq_is _ _ _ _ rfl, Kept.refl _ _, fun _ _ _ _ _ => trivial⟩
          | 18, ho, hsk =>
            obtain rfl := Option.some.inj ho
            have e0 : a'.eval (.tmp 152) = P0 r := is_tq (hin 17 152 (by kernel_rfl) (by kernel_rfl)) rfl
            exact o_fld30_0 (.tmp 152) rfl r (0) (0) rfl e0 ⟨_, rfl, tq_is _ _ _ _ rfl, Kept.refl _ _, fun _ _ _ _ _ => trivial⟩
          | 19, ho, hsk =>
            obtain rfl := Option.some.inj ho
            have e0 : a'.eval (.tmp 153) = P0 r := is_tq (hin 18 153 (by kernel_rfl) (by kernel_rfl)) rfl
            exact o_load28 (.tmp 153) rfl _ _ e0 (((unhide HA1).step0 hk2).tw.rp.cw) ⟨_, rfl, tq_is _ _ _ _ rfl, Kept.refl _ _, fun _ _ _ _ _ => trivial⟩
          | 20, ho, hsk =>
            obtain rfl := Option.some.inj ho
            have e0 : a'.eval (.tmp 154) = .slice vo L.length cc := is_tq (hin 19 154 (by kernel_rfl) (by kernel_rfl)) rfl
            exact o_len28 (.tmp 154) rfl _ _ _ e0 ⟨_, rfl, tq_is _ _ _ _ rfl, Kept.refl _ _, fun _ _ _ _ _ => trivial⟩
          | 21, ho, hsk =>
            obtain rfl := Option.some.inj ho
            have e0 : a'.eval (.tmp 150) = .int .i64 n2 := is_tq (hin 15 150 (by kernel_rfl) (by kernel_rfl)) rfl
            have e1 : a'.eval (.tmp 155) = .int .i64 L.length := is_tq (hin 20 155 (by kernel_rfl) (by kernel_rfl)) rfl
            exact c_neq3 (.tmp 150) (.tmp 155) rfl _ _ (false) (unhide HNE) e0 e1 ⟨_, rfl, tq_is _ _ _ _ rfl, Kept.refl _ _, fun _ _ _ _ _ => trivial⟩
          | 22, ho, hsk =>
            obtain rfl := Option.some.inj ho
            have e0 : a'.eval (.tmp 149) = .bool true := is_tq (hin 14 149 (by kernel_rfl) (by kernel_rfl)) rfl
            have e1 : a'.eval (.tmp 156) = .bool true := is_tq (hin 21 156 (by kernel_rfl) (by kernel_rfl)) rfl
            exact o_pick (.tmp 149) (.tmp 156) rfl _ e0 e1 ⟨_, rfl, tq_is _ _ _ _ rfl, Kept.refl _ _, fun _ _ _ _ _ => trivial⟩
          | 23, ho, hsk =>
            obtain rfl := Option.some.inj ho
            have e0 : a'.eval (.tmp 157) = .bool true := is_tq (hin 22 157 (by kernel_rfl) (by kernel_rfl)) rfl
            exact wp_move (.tmp 157) rfl _ e0 ⟨_, rfl, tq_is _ _ _ _ rfl, Kept.refl _ _, fun _ _ _ _ _ => trivial⟩
          | 24, ho, hsk =>
            obtain rfl := Option.some.inj ho
            exact o_load3 (.tmp 20) rfl _ _ ((hout 20 (by kernel_rfl)).trans rfl) (fits_cell ((unhide HN2).kept hk2 (by simp)) 0 _ rfl) ⟨_, rfl, tq_is _ _ _ _ rfl, Kept.refl _ _, fun _ _ _ _ _ => trivial⟩
          | 25, ho, hsk =>
            obtain rfl := Option.some.inj ho
            exact o_load3 (.tmp 9) rfl _ _ ((hout 9 (by kernel_rfl)).trans rfl) (fits_cell ((unhide HA1).step0 hk2).l9 0 _ rfl) ⟨_, rfl, tq_is _ _ _ _ rfl, Kept.refl _ _, fun _ _ _ _ _ => trivial⟩
          | 26, ho, hsk =>
            obtain rfl := Option.some.inj ho
            have e0 : a'.eval (.tmp 159) = .int .i64 n2 := is_tq (hin 24 159 (by kernel_rfl) (by kernel_rfl)) rfl
            have e1 : a'.eval (.tmp 160) = .int .i64 leave := is_tq (hin 25 160 (by kernel_rfl) (by kernel_rfl)) rfl
            exact c_neq3 (.tmp 159) (.tmp 160) rfl _ _ (true) (unhide HLE) e0 e1 ⟨_, rfl, tq_is _ _ _ _ rfl, Kept.refl _ _, fun _ _ _ _ _ => trivial⟩
          | 27, ho, hsk =>
            obtain rfl := Option.some.inj ho
            have e0 : a'.eval (.tmp 158) = .bool true := is_tq (hin 23 158 (by kernel_rfl) (by kernel_rfl)) rfl
            have e1 : a'.eval (.tmp 161) = .bool false := is_tq (hin 26 161 (by kernel_rfl) (by kernel_rfl)) rfl
            exact o_pick (.tmp 158) (.tmp 161) rfl _ e0 e1 ⟨_, rfl, tq_is _ _ _ _ rfl, Kept.refl _ _, fun _ _ _ _ _ => trivial⟩
          | 28, ho, hsk =>
            obtain rfl := Option.some.inj ho
            have e0 : a'.eval (.tmp 146) = .bool false := is_tq (hin 11 146 (by kernel_rfl) (by kernel_rfl)) rfl
            have e1 : a'.eval (.tmp 162) = .bool false := is_tq (hin 27 162 (by kernel_rfl) (by kernel_rfl)) rfl
            exact o_pickOr0 (.tmp 146) (.tmp 162) rfl _ e0 e1 ⟨_, rfl, tq_is _ _ _ _ rfl, Kept.refl _ _, fun _ _ _ _ _ => trivial⟩
        intro w9 hk9
        replace hk9 : Kept [] Wd w9 := ⟨hk9.os, hk9.tape, hk9.output, hk9.size, hk9.block⟩
        simp only [valsQ, List.map_cons, List.map_nil, Option.getD_some, Option.getD_none, List.take_succ_cons, List.take_zero, putAll, Act.put, List.setIfInBounds_toArray, List.set_cons_succ, List.set_cons_zero]
        refine wpAny_done (by kernel_rfl) ?_ _
        replace HSZ := hide (Nat.le_trans (unhide HSZ) hk9.size)
        replace HA1 := hide ((unhide HA1).step0 hk9)
        clear hk9
        have c19 := fits_cell (unhide HA1).ht 0 _ rfl
        gi_wp2_with (
          first
          | (refine inVar (.int .i64 0) (.int .i64 0) zero3w (st1 size3 ⟨rfl, rfl⟩) 19 (by rfl) wideF (by rfl) (by rfl) (by rfl) (.tmp 164) (by rfl) (by rfl) (fun _ => by rfl) (by rfl) (by rfl) (by rfl) ?_
             intro W10 bt1 et B10 K10
             have HT1 := hide B10
             have HGT : Hid (W8.heap.size + 1 ≤ bt1) := by have := unhide HSZ; show _ ≤ _; omega
             have HObt1 : Hid (W8.heap.size + 1 ≤ bt1) := HGT
             replace HA1 := hide ((unhide HA1).step0 K10)
             clear et K10 c19
             have c19 := fits_cell B10 0 _ rfl
             clear B10
             refine Stp.go ?_))
        constructor
        gi_wp2_with (
          first
          | (refine inStore1 (.int .i64 0) (.int .i64 1) (st1 size3 ⟨rfl, rfl⟩) wideF (by rfl) (.tmp 19) (.tmp 105) (by rfl) (by rfl) (by rfl) bt1 (by rfl) (by rfl) (unhide HT1) ?_
             refine Stp.go ?_))
        constructor
        intro W11 B11 e11
        have HKB : Hid (Kept [bt1] W10 W11) := by rw [e11]; exact (Kept.refl _ _).setCell (p := ⟨bt1, 0, none⟩) (by simp) _
        have HA2 : Hid (Sv w W11 (bt1 + 1) b mb c r bq b9 b10 bt1 (.slice vo L.length cc) M L leave 1 [W8.heap.size]) := ((unhide HA1).keep (unhide HKB) (by intro i hi; simp at hi; subst hi; exact unhide HGT)).next (by have := unhide HGT; omega) (by omega) B11
        clear HA1 HT1 HGT HKB e11 B11 c19
        gi_wp2_with fail
        rw [roundsIn_succ]
        have c19 := fits_cell (unhide HA2).ht 0 _ rfl
        gi_wp2_with (
          first
          | (refine inVar (.int .i64 0) (.int .i64 0) zero3w (st1 size3 ⟨rfl, rfl⟩) 20 (by rfl) wideF (by rfl) (by rfl) (by rfl) (.const (.int .i64 0)) (by rfl) (by rfl) (fun _ => by rfl) (by rfl) (by rfl) (by rfl) ?_
             intro W12 bn1 en B12 K12
             have HN1 := hide B12
             have HBbn1 : Hid (bt1 + 1 ≤ bn1) := by have := (unhide HA2).ht.lt; show _ ≤ _; omega
             replace HA2 := hide ((unhide HA2).step0 K12)
             clear en B12 K12 c19))
        refine range_turn 4 bn1 rfl rfl (unhide HA2) (unhide HN1) (unhide HBbn1) ?assign2 ?body2 ?done2 ?exit2
        case assign2 =>
          intro l x Wa K hK
          simp only [List.setIfInBounds_toArray, List.set_cons_succ, List.set_cons_zero]
          gi_wp2_with (
            first
            | (refine inNew row54 mk0.C rfl zero54 21 (by rfl) (fun _ => trivial) (by rfl) (by rfl) (by rfl) (.tmp 107) (by rfl) (by rfl) (fun _ => by rfl) (by rfl) x.C rfl x.one (by rfl) (by rfl) ?_
               intro W9 bx ex BX KX
               have HBX := hide BX
               have HKX := hide KX
               have HEX : Hid (Wa.heap.size ≤ bx) := by show _ ≤ _; omega
               clear ex BX KX)
            | fail)
          refine hK _ _ bx (unhide HKX) (unhide HBX) (unhide HEX) ?_
          simp only [ay, List.setIfInBounds_toArray, List.set_cons_succ, List.set_cons_zero]
        case body2 =>
          intro l k f bx W hf hS hn hgo hbx
          simp only [ay, List.setIfInBounds_toArray, List.set_cons_succ, List.set_cons_zero]
          have hlt : k < L.length := (List.getElem?_eq_some_iff.1 hf).1
          have hk256 : (k : Int) < 256 := by have := hS.tw.rp.many; omega
          have HHB := unhide HBbn1
          obtain ⟨gg, off, cap2, hwv, hrg⟩ := hS.tw.rp.at hlt
          obtain rfl : vo = some ⟨gg, off, none⟩ := by injection hwv
          replace hrg := hrg k f hf
          have HRG := hide hrg
          obtain ⟨fc, hfc⟩ : ∃ c, c = f.C := ⟨_, rfl⟩
          have HLF : Hid (fc.length = 3) := by show _ = _; rw [hfc]; rfl
          have HEQ : Hid (∀ W, (Op.equal 54 (aggV fc) (aggV fc)).run Try.prog W = .ok true W) := fun W => by rw [hfc]; have h9 := equal54 W f f; rw [decide_eq_true rfl] at h9; exact h9
          rw [← hfc] at hbx HRG ⊢
          clear hf hwv hrg hfc hgo
          gi_wp2
          refine wpIn_region_any (by kernel_rfl) (anyIn_of_any (by rintro ⟨a, w, h⟩; rcases h with ⟨_, _, ⟨h, _⟩ | ⟨h, _⟩⟩ <;> cases h) (noDeferA (by kernel_rfl)) _ _ _ _ (wpAny_tq 18 rfl (by kernel_rfl) [some (.int .i64 k), some (P0 r), some (P0 r), some (P0 r), some (.slice (some ⟨gg, off, none⟩) L.length cc), some (.int .i64 L.length), some (.bool false), some (.bool false), some (aggV fc), some (P0 r), some (P0 r), some (P0 r), some (.slice (some ⟨gg, off, none⟩) L.length cc), some (.int .i64 k), some (.pointer (some ⟨gg, off + k * 3, none⟩)), some (aggV fc), some (.bool false), some (.bool false)] rfl (by kernel_rfl) (by kernel_rfl) ?_ ?_))
          · intro i o' hi hsk ho a' w2 hout hin hk2
            replace hk2 : Kept [] W w2 := ⟨hk2.os, hk2.tape, hk2.output, hk2.size, hk2.block⟩
            match i, ho, hsk with
            | 0, ho, hsk =>
              obtain rfl := Option.some.inj ho
              exact o_load3 (.tmp 20) rfl _ _ ((hout 20 (by kernel_rfl)).trans rfl) (fits_cell (hn.kept hk2 (by simp)) 0 _ rfl) ⟨_, rfl, tq_is _ _ _ _ rfl, Kept.refl _ _, fun _ _ _ _ _ => trivial⟩
            | 1, ho, hsk =>
              obtain rfl := Option.some.inj ho
              exact o_load27 (.tmp 6) rfl _ _ ((hout 6 (by kernel_rfl)).trans rfl) (fits_cell (hS.step0 hk2).hq 0 _ rfl) ⟨_, rfl, tq_is _ _ _ _ rfl, Kept.refl _ _, fun _ _ _ _ _ => trivial⟩
            | 2, ho, hsk =>
              obtain rfl := Option.some.inj ho
              have e0 : a'.eval (.tmp 109) = P0 r := is_tq (hin 1 109 (by kernel_rfl) (by kernel_rfl)) rfl
              exact o_nil (.tmp 109) rfl _ e0 ⟨_, rfl, tq_is _ _ _ _ rfl, Kept.refl _ _, fun _ _ _ _ _ => trivial⟩
            | 3, ho, hsk =>
              obtain rfl := Option.some.inj ho
              have e0 : a'.eval (.tmp 110) = P0 r := is_tq (hin 2 110 (by kernel_rfl) (by kernel_rfl)) rfl
              exact o_fld30_0 (.tmp 110) rfl r (0) (0) rfl e0 ⟨_, rfl, tq_is _ _ _ _ rfl, Kept.refl _ _, fun _ _ _ _ _ => trivial⟩
            | 4, ho, hsk =>
              obtain rfl := Option.some.inj ho
              have e0 : a'.eval (.tmp 111) = P0 r := is_tq (hin 3 111 (by kernel_rfl) (by kernel_rfl)) rfl
              exact o_load28 (.tmp 111) rfl _ _ e0 ((hS.step0 hk2).tw.rp.cw) ⟨_, rfl, tq_is _ _ _ _ rfl, Kept.refl _ _, fun _ _ _ _ _ => trivial⟩
            | 5, ho, hsk =>
              obtain rfl := Option.some.inj ho
              have e0 : a'.eval (.tmp 112) = .slice (some ⟨gg, off, none⟩) L.length cc := is_tq (hin 4 112 (by kernel_rfl) (by kernel_rfl)) rfl
              exact o_len28 (.tmp 112) rfl _ _ _ e0 ⟨_, rfl, tq_is _ _ _ _ rfl, Kept.refl _ _, fun _ _ _ _ _ => trivial⟩
            | 6, ho, hsk =>
              obtain rfl := Option.some.inj ho
              have e0 : a'.eval (.tmp 108) = .int .i64 k := is_tq (hin 0 108 (by kernel_rfl) (by kernel_rfl)) rfl
              have e1 : a'.eval (.tmp 113) = .int .i64 L.length := is_tq (hin 5 113 (by kernel_rfl) (by kernel_rfl)) rfl
              exact c_geq3 (.tmp 108) (.tmp 113) rfl _ _ (false) (by simp; omega) e0 e1 ⟨_, rfl, tq_is _ _ _ _ rfl, Kept.refl _ _, fun _ _ _ _ _ => trivial⟩
            | 7, ho, hsk =>
              obtain rfl := Option.some.inj ho
              have e0 : a'.eval (.tmp 114) = .bool false := is_tq (hin 6 114 (by kernel_rfl) (by kernel_rfl)) rfl
              exact wp_move (.tmp 114) rfl _ e0 ⟨_, rfl, tq_is _ _ _ _ rfl, Kept.refl _ _, fun _ _ _ _ _ => trivial⟩
            | 8, ho, hsk =>
              obtain rfl := Option.some.inj ho
              exact wp_loadA row54 (.tmp 21) rfl bx (0) ((hout 21 (by kernel_rfl)).trans rfl) (fc) (unhide HLF) ((hbx.kept hk2 (by simp)).range) ⟨_, rfl, tq_is _ _ _ _ rfl, Kept.refl _ _, fun _ _ _ _ _ => trivial⟩
            | 9, ho, hsk =>
              obtain rfl := Option.some.inj ho
              exact o_load27 (.tmp 6) rfl _ _ ((hout 6 (by kernel_rfl)).trans rfl) (fits_cell (hS.step0 hk2).hq 0 _ rfl) ⟨_, rfl, tq_is _ _ _ _ rfl, Kept.refl _ _, fun _ _ _ _ _ => trivial⟩
            | 10, ho, hsk =>
              obtain rfl := Option.some.inj ho
              have e0 : a'.eval (.tmp 117) = P0 r := is_tq (hin 9 117 (by kernel_rfl) (by kernel_rfl)) rfl
              exact o_nil (.tmp 117) rfl _ e0 ⟨_, rfl, tq_is _ _ _ _ rfl, Kept.refl _ _, fun _ _ _ _ _ => trivial⟩
            | 11, ho, hsk =>
              obtain rfl := Option.some.inj ho
              have e0 : a'.eval (.tmp 118) = P0 r := is_tq (hin 10 118 (by kernel_rfl) (by kernel_rfl)) rfl
              exact o_fld30_0 (.tmp 118) rfl r (0) (0) rfl e0 ⟨_, rfl, tq_is _ _ _ _ rfl, Kept.refl _ _, fun _ _ _ _ _ => trivial⟩
            | 12, ho, hsk =>
              obtain rfl := Option.some.inj ho
              have e0 : a'.eval (.tmp 119) = P0 r := is_tq (hin 11 119 (by kernel_rfl) (by kernel_rfl)) rfl
              exact o_load28 (.tmp 119) rfl _ _ e0 ((hS.step0 hk2).tw.rp.cw) ⟨_, rfl, tq_is _ _ _ _ rfl, Kept.refl _ _, fun _ _ _ _ _ => trivial⟩
            | 13, ho, hsk =>
              obtain rfl := Option.some.inj ho
              exact o_load3 (.tmp 20) rfl _ _ ((hout 20 (by kernel_rfl)).trans rfl) (fits_cell (hn.kept hk2 (by simp)) 0 _ rfl) ⟨_, rfl, tq_is _ _ _ _ rfl, Kept.refl _ _, fun _ _ _ _ _ => trivial⟩
            | 14, ho, hsk =>
              obtain rfl := Option.some.inj ho
              have e0 : a'.eval (.tmp 120) = .slice (some ⟨gg, off, none⟩) L.length cc := is_tq (hin 12 120 (by kernel_rfl) (by kernel_rfl)) rfl
              have e1 : a'.eval (.tmp 121) = .int .i64 k := is_tq (hin 13 121 (by kernel_rfl) (by kernel_rfl)) rfl
              exact o_idx28 (.tmp 120) (.tmp 121) rfl gg off L.length cc k (hlt) e0 e1 ⟨_, rfl, tq_is _ _ _ _ rfl, Kept.refl _ _, fun _ _ _ _ _ => trivial⟩
            | 15, ho, hsk =>
              obtain rfl := Option.some.inj ho
              have e0 : a'.eval (.tmp 122) = .pointer (some ⟨gg, off + k * 3, none⟩) := is_tq (hin 14 122 (by kernel_rfl) (by kernel_rfl)) rfl
              exact wp_loadA row54 (.tmp 122) rfl gg (off + k * 3) e0 (fc) (unhide HLF) (range_kept (unhide HRG) hk2 (by simp)) ⟨_, rfl, tq_is _ _ _ _ rfl, Kept.refl _ _, fun _ _ _ _ _ => trivial⟩
            | 16, ho, hsk =>
              obtain rfl := Option.some.inj ho
              have e0 : a'.eval (.tmp 116) = aggV fc := is_tq (hin 8 116 (by kernel_rfl) (by kernel_rfl)) rfl
              have e1 : a'.eval (.tmp 123) = aggV fc := is_tq (hin 15 123 (by kernel_rfl) (by kernel_rfl)) rfl
              exact o_neqA 54 54 guard54 (.tmp 116) (.tmp 123) rfl (fc) (fc) e0 e1 (true) (unhide HEQ _) ⟨_, rfl, tq_is _ _ _ _ rfl, Kept.refl _ _, fun _ _ _ _ _ => trivial⟩
            | 17, ho, hsk =>
              obtain rfl := Option.some.inj ho
              have e0 : a'.eval (.tmp 115) = .bool false := is_tq (hin 7 115 (by kernel_rfl) (by kernel_rfl)) rfl
              have e1 : a'.eval (.tmp 124) = .bool false := is_tq (hin 16 124 (by kernel_rfl) (by kernel_rfl)) rfl
              exact o_pickOr0 (.tmp 115) (.tmp 124) rfl _ e0 e1 ⟨_, rfl, tq_is _ _ _ _ rfl, Kept.refl _ _, fun _ _ _ _ _ => trivial⟩
          intro w9 hk9
          replace hk9 : Kept [] W w9 := ⟨hk9.os, hk9.tape, hk9.output, hk9.size, hk9.block⟩
          simp only [valsQ, List.map_cons, List.map_nil, Option.getD_some, List.take_succ_cons, List.take_zero, putAll, Act.put, List.setIfInBounds_toArray, List.set_cons_succ, List.set_cons_zero]
          refine wpAny_done (by kernel_rfl) ?_ _
          have hS3 := hide (hS.step0 hk9)
          have HN3 := hide (hn.kept hk9 (by simp))
          have HK3 := hide hk9
          have c20 := fits_cell (unhide HN3) 0 _ rfl
          clear hS hn hk9 HRG hbx
          gi_wp2_with (
            first
            | (refine inStore1 (.int .i64 (k : Int)) (.int .i64 ((k : Int) + 1)) (st1 size3 ⟨rfl, rfl⟩) (fun _ => trivial) (by rfl) (.tmp 20) (.tmp 127) (by rfl) (by rfl) (by rfl) bn1 (by rfl) (by rfl) (unhide HN3) ?_
               intro W9 B9 e9
               have HK9 : Hid (Kept [bn1] w9 W9) := by rw [e9]; exact (Kept.refl _ _).setCell (p := ⟨bn1, 0, none⟩) (by simp) _
               have HN9 := hide B9
               have hS9 := hide ((unhide hS3).keep (unhide HK9) (by intro i hi; simp at hi; omega))
               clear c20 e9 B9
               have c20 := fits_cell (unhide HN9) 0 _ rfl
               have c19 := fits_cell (unhide hS9).ht 0 _ rfl
               have c9 := fits_cell (unhide hS9).l9 0 _ rfl)
            | fail)
          exact ⟨((unhide HK3).mono (by simp)).trans (unhide HK9), unhide HN9⟩
        case exit2 =>
          intro a W h
          exact wpIn_exit h
        case done2 =>
          intro n3 We hS hn3 hle hor hD hsz
          have HSZ := hide hsz
          have h1 := unhide HBbn1
          have h2 := (unhide HN1).lt
          have HA3 := hide (hS.mark (D := W12.heap.size) (by omega) hD)
          obtain rfl : n3 = L.length := by rcases hor with h | h; exact h; exact absurd h.1 (by decide)
          have HN3 := hide hn3
          clear hS hn3 hle hor hD hsz h1 h2
          gi_wp2
          refine wpIn_wide.2 ?_
          refine wp_region_any mixed (wpAny_tq 29 rfl (by kernel_rfl) [some (.int .i64 1), some (.bool true), some (.bool true), some (.int .i64 L.length), some (P0 r), some (P0 r), some (P0 r), some (.slice vo L.length cc), some (.int .i64 L.length), some (.bool false), some (.bool false), some (.bool false), some (.int .i64 1), some (.bool false), some (.bool false), none, none, none, none, none, none, none, some (.bool false), some (.bool false), none, none, none, some (.bool false), some (.bool false)] rfl (by kernel_rfl) (by kernel_rfl) ?_ ?_)
          · intro i o' hi hsk ho a' w2 hout hin hk2
            replace hk2 : Kept [] We w2 := ⟨hk2.os, hk2.tape, hk2.output, hk2.size, hk2.block⟩
            match i, ho, hsk with
            | 0, ho, hsk =>
              obtain rfl := Option.some.inj ho
              exact o_load3 (.tmp 19) rfl _ _ ((hout 19 (by kernel_rfl)).trans rfl) (fits_cell ((unhide HA3).step0 hk2).ht 0 _ rfl) ⟨_, rfl, tq_is _ _ _ _ rfl, Kept.refl _ _, fun _ _ _ _ _ => trivial⟩
            | 1, ho, hsk =>
              obtain rfl := Option.some.inj ho
              have e0 : a'.eval (.tmp 135) = .int .i64 1 := is_tq (hin 0 135 (by kernel_rfl) (by kernel_rfl)) rfl
              exact c_eql3 (.tmp 135) (.const (.int .i64 (1))) rfl _ _ (true) (by decide) e0 rfl ⟨_, rfl, tq_is _ _ _ _ rfl, Kept.refl _ _, fun _ _ _ _ _ => trivial⟩
            | 2, ho, hsk =>
              obtain rfl := Option.some.inj ho
              have e0 : a'.eval (.tmp 136) = .bool true := is_tq (hin 1 136 (by kernel_rfl) (by kernel_rfl)) rfl
              exact wp_move (.tmp 136) rfl _ e0 ⟨_, rfl, tq_is _ _ _ _ rfl, Kept.refl _ _, fun _ _ _ _ _ => trivial⟩
            | 3, ho, hsk =>
              obtain rfl := Option.some.inj ho
              exact o_load3 (.tmp 20) rfl _ _ ((hout 20 (by kernel_rfl)).trans rfl) (fits_cell ((unhide HN3).kept hk2 (by simp)) 0 _ rfl) ⟨_, rfl, tq_is _ _ _ _ rfl, Kept.refl _ _, fun _ _ _ _ _ => trivial⟩
            | 4, ho, hsk =>
              obtain rfl := Option.some.inj ho
              exact o_load27 (.tmp 6) rfl _ _ ((hout 6 (by kernel_rfl)).trans rfl) (fits_cell ((unhide HA3).step0 hk2).hq 0 _ rfl) ⟨_, rfl, tq_is _ _ _ _ rfl, Kept.refl _ _, fun _ _ _ _ _ => trivial⟩
            | 5, ho, hsk =>
              obtain rfl := Option.some.inj ho
              have e0 : a'.eval (.tmp 139) = P0 r := is_tq (hin 4 139 (by kernel_rfl) (by kernel_rfl)) rfl
              exact o_nil (.tmp 139) rfl _ e0 ⟨_, rfl, tq_is _ _ _ _ rfl, Kept.refl _ _, fun _ _ _ _ _ => trivial⟩
            | 6, ho, hsk =>
              obtain rfl := Option.some.inj ho
              have e0 : a'.eval (.tmp 140) = P0 r := is_tq (hin 5 140 (by kernel_rfl) (by kernel_rfl)) rfl
              exact o_fld30_0 (.tmp 140) rfl r (0) (0) rfl e0 ⟨_, rfl, tq_is _ _ _ _ rfl, Kept.refl _ _, fun _ _ _ _ _ => trivial⟩
            | 7, ho, hsk =>
              obtain rfl := Option.some.inj ho
              have e0 : a'.eval (.tmp 141) = P0 r := is_tq (hin 6 141 (by kernel_rfl) (by kernel_rfl)) rfl
              exact o_load28 (.tmp 141) rfl _ _ e0 (((unhide HA3).step0 hk2).tw.rp.cw) ⟨_, rfl, tq_is _ _ _ _ rfl, Kept.refl _ _, fun _ _ _ _ _ => trivial⟩
            | 8, ho, hsk =>
              obtain rfl := Option.some.inj ho
              have e0 : a'.eval (.tmp 142) = .slice vo L.length cc := is_tq (hin 7 142 (by kernel_rfl) (by kernel_rfl)) rfl
              exact o_len28 (.tmp 142) rfl _ _ _ e0 ⟨_, rfl, tq_is _ _ _ _ rfl, Kept.refl _ _, fun _ _ _ _ _ => trivial⟩
            | 9, ho, hsk =>
              obtain rfl := Option.some.inj ho
              have e0 : a'.eval (.tmp 138) = .int .i64 L.length := is_tq (hin 3 138 (by kernel_rfl) (by kernel_rfl)) rfl
              have e1 : a'.eval (.tmp 143) = .int .i64 L.length := is_tq (hin 8 143 (by kernel_rfl) (by kernel_rfl)) rfl
              exact c_neq3 (.tmp 138) (.tmp 143) rfl _ _ (true) (by simp) e0 e1 ⟨_, rfl, tq_is _ _ _ _ rfl, Kept.refl _ _, fun _ _ _ _ _ => trivial⟩
            | 10, ho, hsk =>
              obtain rfl := Option.some.inj ho
              have e0 : a'.eval (.tmp 137) = .bool true := is_tq (hin 2 137 (by kernel_rfl) (by kernel_rfl)) rfl
              have e1 : a'.eval (.tmp 144) = .bool false := is_tq (hin 9 144 (by kernel_rfl) (by kernel_rfl)) rfl
              exact o_pick (.tmp 137) (.tmp 144) rfl _ e0 e1 ⟨_, rfl, tq_is _ _ _ _ rfl, Kept.refl _ _, fun _ _ _ _ _ => trivial⟩
            | 11, ho, hsk =>
              obtain rfl := Option.some.inj ho
              have e0 : a'.eval (.tmp 145) = .bool false := is_tq (hin 10 145 (by kernel_rfl) (by kernel_rfl)) rfl
              exact wp_move (.tmp 145) rfl _ e0 ⟨_, rfl, tq_is _ _ _ _ rfl, Kept.refl _ _, fun _ _ _ _ _ => trivial⟩
            | 12, ho, hsk =>
              obtain rfl := Option.some.inj ho
              exact o_load3 (.tmp 19) rfl _ _ ((hout 19 (by kernel_rfl)).trans rfl) (fits_cell ((unhide HA3).step0 hk2).ht 0 _ rfl) ⟨_, rfl, tq_is _ _ _ _ rfl, Kept.refl _ _, fun _ _ _ _ _ => trivial⟩
            | 13, ho, hsk =>
              obtain rfl := Option.some.inj ho
              have e0 : a'.eval (.tmp 147) = .int .i64 1 := is_tq (hin 12 147 (by kernel_rfl) (by kernel_rfl)) rfl
              exact c_eql3 (.tmp 147) (.const (.int .i64 (0))) rfl _ _ (false) (by decide) e0 rfl ⟨_, rfl, tq_is _ _ _ _ rfl, Kept.refl _ _, fun _ _ _ _ _ => trivial⟩
            | 14, ho, hsk =>
              obtain rfl := Option.some.inj ho
              have e0 : a'.eval (.tmp 148) = .bool false := is_tq (hin 13 148 (by kernel_rfl) (by kernel_rfl)) rfl
              exact wp_move (.tmp 148) rfl _ e0 ⟨_, rfl, tq_is _ _ _ _ rfl, Kept.refl _ _, fun _ _ _ _ _ => trivial⟩
            | 15, ho, hsk =>
              cases hsk
            | 16, ho, hsk =>
              cases hsk
            | 17, ho, hsk =>
              cases hsk
            | 18, ho, hsk =>
              cases hsk
            | 19, ho, hsk =>
              cases hsk
            | 20, ho, hsk =>
              cases hsk
            | 21, ho, hsk =>
              cases hsk
            | 22, ho, hsk =>
              obtain rfl := Option.some.inj ho
              have e0 : a'.eval (.tmp 149) = .bool false := is_tq (hin 14 149 (by kernel_rfl) (by kernel_rfl)) rfl
              exact o_pickN (.tmp 149) (.tmp 156) rfl e0 ⟨_, rfl, tq_is _ _ _ _ rfl, Kept.refl _ _, fun _ _ _ _ _ => trivial⟩
            | 23, ho, hsk =>
              obtain rfl := Option.some.inj ho
              have e0 : a'.eval (.tmp 157) = .bool false := is_tq (hin 22 157 (by kernel_rfl) (by kernel_rfl)) rfl
              exact wp_move (.tmp 157) rfl _ e0 ⟨_, rfl, tq_is _ _ _ _ rfl, Kept.refl _ _, fun _ _ _ _ _ => trivial⟩
            | 24, ho, hsk =>
              cases hsk
            | 25, ho, hsk =>
              cases hsk
            | 26, ho, hsk =>
              cases hsk
            | 27, ho, hsk =>
              obtain rfl := Option.some.inj ho
              have e0 : a'.eval (.tmp 158) = .bool false := is_tq (hin 23 158 (by kernel_rfl) (by kernel_rfl)) rfl
              exact o_pickN (.tmp 158) (.tmp 161) rfl e0 ⟨_, rfl, tq_is _ _ _ _ rfl, Kept.refl _ _, fun _ _ _ _ _ => trivial⟩
            | 28, ho, hsk =>
              obtain rfl := Option.some.inj ho
              have e0 : a'.eval (.tmp 146) = .bool false := is_tq (hin 11 146 (by kernel_rfl) (by kernel_rfl)) rfl
              have e1 : a'.eval (.tmp 162) = .bool false := is_tq (hin 27 162 (by kernel_rfl) (by kernel_rfl)) rfl
              exact o_pickOr0 (.tmp 146) (.tmp 162) rfl _ e0 e1 ⟨_, rfl, tq_is _ _ _ _ rfl, Kept.refl _ _, fun _ _ _ _ _ => trivial⟩
          intro w9 hk9
          replace hk9 : Kept [] We w9 := ⟨hk9.os, hk9.tape, hk9.output, hk9.size, hk9.block⟩
          simp only [valsQ, List.map_cons, List.map_nil, Option.getD_some, Option.getD_none, List.take_succ_cons, List.take_zero, putAll, Act.put, List.setIfInBounds_toArray, List.set_cons_succ, List.set_cons_zero]
          refine wpAny_done (by kernel_rfl) ?_ _
          replace HSZ := hide (Nat.le_trans (unhide HSZ) hk9.size)
          replace HA3 := hide ((unhide HA3).step0 hk9)
          clear hk9
          have c19 := fits_cell (unhide HA3).ht 0 _ rfl
          gi_wp2_with (
            first
            | (refine inVar (.int .i64 0) (.int .i64 1) zero3w (st1 size3 ⟨rfl, rfl⟩) 19 (by rfl) wideF (by rfl) (by rfl) (by rfl) (.tmp 164) (by rfl) (by rfl) (fun _ => by rfl) (by rfl) (by rfl) (by rfl) ?_
               intro W13 bt2 et B10 K10
               have HT1 := hide B10
               have HGT : Hid (W12.heap.size + 1 ≤ bt2) := by have := unhide HSZ; show _ ≤ _; omega
               have HObt2 : Hid (W12.heap.size + 1 ≤ bt2) := HGT
               replace HA3 := hide ((unhide HA3).step0 K10)
               clear et K10 c19
               have c19 := fits_cell B10 0 _ rfl
               clear B10
               refine Stp.go ?_))
          constructor
          gi_wp2_with (
            first
            | (refine inStore1 (.int .i64 1) (.int .i64 2) (st1 size3 ⟨rfl, rfl⟩) wideF (by rfl) (.tmp 19) (.tmp 105) (by rfl) (by rfl) (by rfl) bt2 (by rfl) (by rfl) (unhide HT1) ?_
               refine Stp.go ?_))
          constructor
          intro W14 B11 e11
          have HKB : Hid (Kept [bt2] W13 W14) := by rw [e11]; exact (Kept.refl _ _).setCell (p := ⟨bt2, 0, none⟩) (by simp) _
          have HA4 : Hid (Sv w W14 (bt2 + 1) b mb c r bq b9 b10 bt2 (.slice vo L.length cc) M L leave 2 [W12.heap.size, W8.heap.size]) := ((unhide HA3).keep (unhide HKB) (by intro i hi; simp at hi; subst hi; exact unhide HGT)).next (by have := unhide HGT; omega) (by omega) B11
          clear HA3 HT1 HGT HKB e11 B11 c19
          gi_wp2_with fail
          rw [roundsIn_succ]
          have c19 := fits_cell (unhide HA4).ht 0 _ rfl
          gi_wp2
          refine (wpIn_wide (n := 3)).1 ?_
          gi_wp2_with (
            first
            | (refine inStore1 (.bool false) (.bool true) (st1 size4 ⟨rfl, rfl⟩) wideF (by rfl) (.tmp 10) (.const (.bool true)) (by rfl) (by rfl) (by rfl) b10 (by rfl) (by rfl) (unhide HA4).o10 ?_
               intro W15 B15 e15
               have HB15 := hide B15
               have HE15 := hide e15
               clear B15 e15)
            | fail)
          have hA := unhide HA4
          have hk15 : Kept [b10] W14 W15 := by rw [unhide HE15]; exact (Kept.refl _ _).setCell (p := ⟨b10, 0, none⟩) (by simp) _
          have hD1 := hA.d W8.heap.size (by simp)
          have hD2 := hA.d W12.heap.size (by simp)
          have hneq : W8.heap.size ≠ W12.heap.size := by have := unhide HObt1; have := unhide HBbn1; have := (unhide HN1).lt; omega
          have s1 : ∀ X : Nat, W14.heap[X]? = some (Obj.deferred (some [])) → W15.heap[X]? = some (Obj.deferred (some [])) := by
            intro X h
            refine hk15.heap h ?_
            simp
            intro e; subst e; rw [hA.o10] at h; cases h
          exact all_leaves rfl (unhide HB15) (hA.kp.fresh hk15 (fun i hi hl => by simp at hi; subst hi; have := hA.ge.2; omega)) (s1 _ hD2.2.2) (s1 _ hD1.2.2) hneq hD2.2.1 hD1.2.1
theorem stands10 (h : Tw w b mb r v M L) (n leave : Int) (ao : Option Addr) (cf : Nat) (F : List Int) (hF : RowS intC 1 w ao F) (hno : ao = none → F = [] ∧ cf = 0) (h40 : F.length ≤ 40) : Calls Try.prog 10 #[P0 b, P0 r, .int .i64 n, .slice ao F.length cf, .int .i64 leave] w fun e w' => e = .returned (.bool true) ∧ Kept [] w w' :=
  callsIn_wide.1 (stands_in h n leave ao cf F hF hno h40)

end Go.Proofs.Ythihladmifpokaa
