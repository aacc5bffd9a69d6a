/-
  Same: rows of letters, the maps of two nets, in plain words.
-/
import Derived.Test.YtpcggcicpojdoaaSc
import Derived.Test.YtpcggcicpojdoaaNz
namespace Go.Proofs.Ytpcggcicpojdoaa
open Go.RowKit

/-- What tells two letters apart. -/
def Ltr.sig (l : Ltr) : Int × Int × Int × List Int := (l.num, l.fr, l.to, l.bs)
theorem alike_sig {a b : Ltr} : alike a b = true ↔ a.sig = b.sig := by
  rw [alike_iff]
  unfold Ltr.sig
  simp
theorem alike_sigD (a b : Ltr) : alike a b = decide (a.sig = b.sig) := by
  rw [Bool.eq_iff_iff, decide_eq_true_eq]
  exact alike_sig
def sigs (L : List Ltr) : List (Int × Int × Int × List Int) := L.map Ltr.sig
theorem sub_rise : ∀ (B A : List (Int × Int × Int × List Int)), A.Pairwise (fun a b => a.1 < b.1) → B.Pairwise (fun a b => a.1 < b.1) → (∀ x ∈ A, x ∈ B) → A.Sublist B := by
  intro B
  induction B with
  | nil =>
    intro A _ _ h
    cases A with
    | nil => exact List.Sublist.refl _
    | cons a A => exact absurd (h a (List.mem_cons_self ..)) (by simp)
  | cons b B ih =>
    intro A hA hB h
    cases A with
    | nil => exact List.nil_sublist _
    | cons a A =>
      rw [List.pairwise_cons] at hA hB
      rcases List.mem_cons.1 (h a (List.mem_cons_self ..)) with e | hm
      · subst e
        refine List.Sublist.cons_cons _ (ih A hA.2 hB.2 fun x hx => ?_)
        rcases List.mem_cons.1 (h x (List.mem_cons_of_mem _ hx)) with e | h1
        · have := hA.1 x hx
          rw [e] at this
          omega
        · exact h1
      · have hba := hB.1 a hm
        refine List.Sublist.cons _ (ih (a :: A) (List.pairwise_cons.2 hA) hB.2 fun x hx => ?_)
        rcases List.mem_cons.1 (h x hx) with e | h1
        · rcases List.mem_cons.1 hx with e2 | h2
          · rw [e2]; exact hm
          · have := hA.1 x h2
            rw [e] at this
            omega
        · exact h1
theorem rise_sigs {L : List Ltr} (h : L.Pairwise (fun a b => a.num < b.num)) : (sigs L).Pairwise (fun a b => a.1 < b.1) := by
  unfold sigs
  rw [List.pairwise_map]
  exact h
theorem rise_one {L : List Ltr} (h : L.Pairwise (fun a b => a.num < b.num)) : ∀ l ∈ L, ∀ l' ∈ L, l.num = l'.num → l = l' := by
  intro l hl l' hl' e
  obtain ⟨i, hi⟩ := List.getElem?_of_mem hl
  obtain ⟨j, hj⟩ := List.getElem?_of_mem hl'
  have p1 := place_self h hi
  have p2 := place_self h hj
  rw [e, p2] at p1
  have := Option.some.inj p1
  exact (congrArg Prod.snd this).symm
theorem okL_iff {M : List Ltr} (h : M.Pairwise (fun a b => a.num < b.num)) (l : Ltr) : okL M l = true ↔ l.sig ∈ sigs M := by
  unfold okL
  constructor
  · intro h1
    cases hp : placeOf l.num M 0 with
    | none => rw [hp] at h1; cases h1
    | some x =>
      rw [hp] at h1
      obtain ⟨i, y⟩ := x
      obtain ⟨_, h2, _⟩ := placeOf_some hp
      rw [alike_sig.1 h1]
      exact List.mem_map.2 ⟨y, List.mem_of_getElem? h2, rfl⟩
  · intro h1
    obtain ⟨m, hm, e⟩ := List.mem_map.1 h1
    obtain ⟨i, hi⟩ := List.getElem?_of_mem hm
    have hp := place_self h hi
    have en : m.num = l.num := congrArg Prod.fst e
    rw [en] at hp
    rw [hp]
    exact alike_sig.2 e.symm
theorem eqM_sigs {L M : List Ltr} (hL : L.Pairwise (fun a b => a.num < b.num)) (hM : M.Pairwise (fun a b => a.num < b.num)) : eqM L M = decide (sigs L = sigs M) := by
  rw [Bool.eq_iff_iff, decide_eq_true_eq]
  unfold eqM
  rw [Bool.and_eq_true, decide_eq_true_eq, List.all_eq_true]
  constructor
  · rintro ⟨h1, h2⟩
    refine (sub_rise (sigs M) (sigs L) (rise_sigs hL) (rise_sigs hM) fun x hx => ?_).eq_of_length (by simp [sigs, h1])
    obtain ⟨l, hl, rfl⟩ := List.mem_map.1 hx
    exact (okL_iff hM l).1 (h2 l hl)
  · intro h
    refine ⟨by have := congrArg List.length h; simpa [sigs] using this, fun l hl => ?_⟩
    rw [okL_iff hM l, ← h]
    exact List.mem_map.2 ⟨l, hl, rfl⟩
theorem cg39 (vs : Array Value) (w : World) : (callFunc 39 vs).run Try.prog w = .ok (.enter 39 vs) w := by kernel_rfl
/-- Are two nets the same? -/
def sameN (N M : Nn) : Bool := decide (N.nodes = M.nodes) && (decide (N.last = M.last) && decide (sigs N.L = sigs M.L))
set_option maxHeartbeats 4000000 in
set_option maxRecDepth 100000 in
theorem s14a (b mb b2 mb2 : Nat) (v v2 : Value) (N M : Nn) (w : World) (h : Nt w b mb v N) (h2 : Nt w b2 mb2 v2 M) (hn : ¬ N.nodes = M.nodes) : Calls Try.prog 14 #[P0 b, P0 b2] w fun e w' => e = .returned (.bool false) ∧ Kept [] w w' := by
  have PN := hide (none38 b mb v N w h)
  have PM := hide (none38 b2 mb2 v2 M w h2)
  have HA := hide h.head
  have HB := hide h2.head
  clear h h2
  go_enter Try.func14, Try.ntmps14
  go_wp2_with (
    first
    | (go_at_call 38
       refine (unhide PN).mono ?_
       rintro e V1 ⟨rfl, hw1⟩
       obtain rfl := hw1.symm
       clear hw1
       refine Stp.go ?_))
  constructor
  go_wp2_with (
    first
    | (go_at_call 38
       refine (unhide PM).mono ?_
       rintro e V1 ⟨rfl, hw1⟩
       obtain rfl := hw1.symm
       clear hw1))
  refine wp_region_any mixed (wpAny_tq 32 rfl (by kernel_rfl) [some (P0 b), some (P0 b), some (.pointer (some ⟨b, 0, none⟩)), some (.int .i64 N.nodes), some (P0 b2), some (P0 b2), some (.pointer (some ⟨b2, 0, none⟩)), some (.int .i64 M.nodes), some (.bool false), some (.bool false), none, none, none, none, none, none, none, none, none, some (.bool false), some (.bool false), none, none, none, none, none, none, none, none, none, some (.bool false), some (.bool false)] rfl (by kernel_rfl) (by kernel_rfl) ?_ ?_)
  · intro i o' hi hsk ho a' w2 hout hin hk2
    replace hk2 : Kept [] w w2 := ⟨hk2.os, hk2.tape, hk2.output, hk2.size, hk2.block⟩
    match i, ho, hsk with
    | 0, ho, hsk =>
      obtain rfl := Option.some.inj ho
      exact wp_move (.tmp 0) rfl _ ((hout 0 (by kernel_rfl)).trans rfl) ⟨_, rfl, tq_is _ _ _ _ rfl, Kept.refl _ _, fun _ _ _ _ _ => trivial⟩
    | 1, ho, hsk =>
      obtain rfl := Option.some.inj ho
      have e0 : a'.eval (.tmp 17) = P0 b := is_tq (hin 0 17 (by kernel_rfl) (by kernel_rfl)) rfl
      exact o_nil (.tmp 17) rfl _ e0 ⟨_, rfl, tq_is _ _ _ _ rfl, Kept.refl _ _, fun _ _ _ _ _ => trivial⟩
    | 2, ho, hsk =>
      obtain rfl := Option.some.inj ho
      have e0 : a'.eval (.tmp 18) = P0 b := is_tq (hin 1 18 (by kernel_rfl) (by kernel_rfl)) rfl
      exact o_fld58_0 (.tmp 18) rfl b e0 ⟨_, rfl, tq_is _ _ _ _ rfl, Kept.refl _ _, fun _ _ _ _ _ => trivial⟩
    | 3, ho, hsk =>
      obtain rfl := Option.some.inj ho
      have e0 : a'.eval (.tmp 19) = .pointer (some ⟨b, 0, none⟩) := is_tq (hin 2 19 (by kernel_rfl) (by kernel_rfl)) rfl
      exact o_load3 (.tmp 19) rfl ⟨b, 0, none⟩ _ e0 (fits_cell ((unhide HA).kept hk2 (by simp)) 0 _ rfl) ⟨_, rfl, tq_is _ _ _ _ rfl, Kept.refl _ _, fun _ _ _ _ _ => trivial⟩
    | 4, ho, hsk =>
      obtain rfl := Option.some.inj ho
      exact wp_move (.tmp 1) rfl _ ((hout 1 (by kernel_rfl)).trans rfl) ⟨_, rfl, tq_is _ _ _ _ rfl, Kept.refl _ _, fun _ _ _ _ _ => trivial⟩
    | 5, ho, hsk =>
      obtain rfl := Option.some.inj ho
      have e0 : a'.eval (.tmp 21) = P0 b2 := is_tq (hin 4 21 (by kernel_rfl) (by kernel_rfl)) rfl
      exact o_nil (.tmp 21) rfl _ e0 ⟨_, rfl, tq_is _ _ _ _ rfl, Kept.refl _ _, fun _ _ _ _ _ => trivial⟩
    | 6, ho, hsk =>
      obtain rfl := Option.some.inj ho
      have e0 : a'.eval (.tmp 22) = P0 b2 := is_tq (hin 5 22 (by kernel_rfl) (by kernel_rfl)) rfl
      exact o_fld58_0 (.tmp 22) rfl b2 e0 ⟨_, rfl, tq_is _ _ _ _ rfl, Kept.refl _ _, fun _ _ _ _ _ => trivial⟩
    | 7, ho, hsk =>
      obtain rfl := Option.some.inj ho
      have e0 : a'.eval (.tmp 23) = .pointer (some ⟨b2, 0, none⟩) := is_tq (hin 6 23 (by kernel_rfl) (by kernel_rfl)) rfl
      exact o_load3 (.tmp 23) rfl ⟨b2, 0, none⟩ _ e0 (fits_cell ((unhide HB).kept hk2 (by simp)) 0 _ rfl) ⟨_, rfl, tq_is _ _ _ _ rfl, Kept.refl _ _, fun _ _ _ _ _ => trivial⟩
    | 8, ho, hsk =>
      obtain rfl := Option.some.inj ho
      have e0 : a'.eval (.tmp 20) = .int .i64 N.nodes := is_tq (hin 3 20 (by kernel_rfl) (by kernel_rfl)) rfl
      have e1 : a'.eval (.tmp 24) = .int .i64 M.nodes := is_tq (hin 7 24 (by kernel_rfl) (by kernel_rfl)) rfl
      exact o_eqlI3 (.tmp 20) (.tmp 24) rfl _ _ false (decide_eq_false hn) e0 e1 ⟨_, rfl, tq_is _ _ _ _ rfl, Kept.refl _ _, fun _ _ _ _ _ => trivial⟩
    | 9, ho, hsk =>
      obtain rfl := Option.some.inj ho
      have e0 : a'.eval (.tmp 25) = .bool false := is_tq (hin 8 25 (by kernel_rfl) (by kernel_rfl)) rfl
      exact wp_move (.tmp 25) rfl _ e0 ⟨_, rfl, tq_is _ _ _ _ rfl, Kept.refl _ _, fun _ _ _ _ _ => trivial⟩
    | 10, ho, hsk =>
      cases hsk
    | 11, ho, hsk =>
      cases hsk
    | 12, ho, hsk =>
      cases hsk
    | 13, ho, hsk =>
      cases hsk
    | 14, ho, hsk =>
      cases hsk
    | 15, ho, hsk =>
      cases hsk
    | 16, ho, hsk =>
      cases hsk
    | 17, ho, hsk =>
      cases hsk
    | 18, ho, hsk =>
      cases hsk
    | 19, ho, hsk =>
      obtain rfl := Option.some.inj ho
      have e0 : a'.eval (.tmp 26) = .bool false := is_tq (hin 9 26 (by kernel_rfl) (by kernel_rfl)) rfl
      exact o_pickN (.tmp 26) (.tmp 35) rfl e0 ⟨_, rfl, tq_is _ _ _ _ rfl, Kept.refl _ _, fun _ _ _ _ _ => trivial⟩
    | 20, ho, hsk =>
      obtain rfl := Option.some.inj ho
      have e0 : a'.eval (.tmp 36) = .bool false := is_tq (hin 19 36 (by kernel_rfl) (by kernel_rfl)) rfl
      exact wp_move (.tmp 36) rfl _ e0 ⟨_, rfl, tq_is _ _ _ _ rfl, Kept.refl _ _, fun _ _ _ _ _ => trivial⟩
    | 21, ho, hsk =>
      cases hsk
    | 22, ho, hsk =>
      cases hsk
    | 23, ho, hsk =>
      cases hsk
    | 24, ho, hsk =>
      cases hsk
    | 25, ho, hsk =>
      cases hsk
    | 26, ho, hsk =>
      cases hsk
    | 27, ho, hsk =>
      cases hsk
    | 28, ho, hsk =>
      cases hsk
    | 29, ho, hsk =>
      cases hsk
    | 30, ho, hsk =>
      obtain rfl := Option.some.inj ho
      have e0 : a'.eval (.tmp 37) = .bool false := is_tq (hin 20 37 (by kernel_rfl) (by kernel_rfl)) rfl
      exact o_pickN (.tmp 37) (.tmp 46) rfl e0 ⟨_, rfl, tq_is _ _ _ _ rfl, Kept.refl _ _, fun _ _ _ _ _ => trivial⟩
    | 31, ho, hsk =>
      obtain rfl := Option.some.inj ho
      have e0 : a'.eval (.tmp 47) = .bool false := is_tq (hin 30 47 (by kernel_rfl) (by kernel_rfl)) rfl
      exact wp_assignV (.tmp 47) rfl _ e0 ⟨_, rfl, tq_is _ _ _ _ rfl, Kept.refl _ _, fun _ _ _ _ _ => trivial⟩
  intro w9 hk9
  replace hk9 : Kept [] w w9 := ⟨hk9.os, hk9.tape, hk9.output, hk9.size, hk9.block⟩
  simp only [valsQ, List.map_cons, List.map_nil, Option.getD_some, Option.getD_none, List.take_succ_cons, List.take_zero, putAll, Act.put, List.setIfInBounds_toArray, List.set_cons_succ, List.set_cons_zero]
  refine wpAny_done (by kernel_rfl) ?_ _
  go_wp2_with fail
  go_ret
  exact ⟨rfl, hk9⟩
set_option maxHeartbeats 4000000 in
set_option maxRecDepth 100000 in
theorem s14b (b mb b2 mb2 : Nat) (v v2 : Value) (N M : Nn) (w : World) (h : Nt w b mb v N) (h2 : Nt w b2 mb2 v2 M) (hn : N.nodes = M.nodes) (hne : ¬ N.last = M.last) : Calls Try.prog 14 #[P0 b, P0 b2] w fun e w' => e = .returned (.bool false) ∧ Kept [] w w' := by
  have PN := hide (none38 b mb v N w h)
  have PM := hide (none38 b2 mb2 v2 M w h2)
  have HA := hide h.head
  have HB := hide h2.head
  clear h h2
  go_enter Try.func14, Try.ntmps14
  go_wp2_with (
    first
    | (go_at_call 38
       refine (unhide PN).mono ?_
       rintro e V1 ⟨rfl, hw1⟩
       obtain rfl := hw1.symm
       clear hw1
       refine Stp.go ?_))
  constructor
  go_wp2_with (
    first
    | (go_at_call 38
       refine (unhide PM).mono ?_
       rintro e V1 ⟨rfl, hw1⟩
       obtain rfl := hw1.symm
       clear hw1))
  refine wp_region_any mixed (wpAny_tq 32 rfl (by kernel_rfl) [some (P0 b), some (P0 b), some (.pointer (some ⟨b, 0, none⟩)), some (.int .i64 N.nodes), some (P0 b2), some (P0 b2), some (.pointer (some ⟨b2, 0, none⟩)), some (.int .i64 M.nodes), some (.bool true), some (.bool true), some (P0 b), some (P0 b), some (.pointer (some ⟨b, 1, none⟩)), some (.int .i64 N.last), some (P0 b2), some (P0 b2), some (.pointer (some ⟨b2, 1, none⟩)), some (.int .i64 M.last), some (.bool false), some (.bool false), some (.bool false), none, none, none, none, none, none, none, none, none, some (.bool false), some (.bool false)] rfl (by kernel_rfl) (by kernel_rfl) ?_ ?_)
  · intro i o' hi hsk ho a' w2 hout hin hk2
    replace hk2 : Kept [] w w2 := ⟨hk2.os, hk2.tape, hk2.output, hk2.size, hk2.block⟩
    match i, ho, hsk with
    | 0, ho, hsk =>
      obtain rfl := Option.some.inj ho
      exact wp_move (.tmp 0) rfl _ ((hout 0 (by kernel_rfl)).trans rfl) ⟨_, rfl, tq_is _ _ _ _ rfl, Kept.refl _ _, fun _ _ _ _ _ => trivial⟩
    | 1, ho, hsk =>
      obtain rfl := Option.some.inj ho
      have e0 : a'.eval (.tmp 17) = P0 b := is_tq (hin 0 17 (by kernel_rfl) (by kernel_rfl)) rfl
      exact o_nil (.tmp 17) rfl _ e0 ⟨_, rfl, tq_is _ _ _ _ rfl, Kept.refl _ _, fun _ _ _ _ _ => trivial⟩
    | 2, ho, hsk =>
      obtain rfl := Option.some.inj ho
      have e0 : a'.eval (.tmp 18) = P0 b := is_tq (hin 1 18 (by kernel_rfl) (by kernel_rfl)) rfl
      exact o_fld58_0 (.tmp 18) rfl b e0 ⟨_, rfl, tq_is _ _ _ _ rfl, Kept.refl _ _, fun _ _ _ _ _ => trivial⟩
    | 3, ho, hsk =>
      obtain rfl := Option.some.inj ho
      have e0 : a'.eval (.tmp 19) = .pointer (some ⟨b, 0, none⟩) := is_tq (hin 2 19 (by kernel_rfl) (by kernel_rfl)) rfl
      exact o_load3 (.tmp 19) rfl ⟨b, 0, none⟩ _ e0 (fits_cell ((unhide HA).kept hk2 (by simp)) 0 _ rfl) ⟨_, rfl, tq_is _ _ _ _ rfl, Kept.refl _ _, fun _ _ _ _ _ => trivial⟩
    | 4, ho, hsk =>
      obtain rfl := Option.some.inj ho
      exact wp_move (.tmp 1) rfl _ ((hout 1 (by kernel_rfl)).trans rfl) ⟨_, rfl, tq_is _ _ _ _ rfl, Kept.refl _ _, fun _ _ _ _ _ => trivial⟩
    | 5, ho, hsk =>
      obtain rfl := Option.some.inj ho
      have e0 : a'.eval (.tmp 21) = P0 b2 := is_tq (hin 4 21 (by kernel_rfl) (by kernel_rfl)) rfl
      exact o_nil (.tmp 21) rfl _ e0 ⟨_, rfl, tq_is _ _ _ _ rfl, Kept.refl _ _, fun _ _ _ _ _ => trivial⟩
    | 6, ho, hsk =>
      obtain rfl := Option.some.inj ho
      have e0 : a'.eval (.tmp 22) = P0 b2 := is_tq (hin 5 22 (by kernel_rfl) (by kernel_rfl)) rfl
      exact o_fld58_0 (.tmp 22) rfl b2 e0 ⟨_, rfl, tq_is _ _ _ _ rfl, Kept.refl _ _, fun _ _ _ _ _ => trivial⟩
    | 7, ho, hsk =>
      obtain rfl := Option.some.inj ho
      have e0 : a'.eval (.tmp 23) = .pointer (some ⟨b2, 0, none⟩) := is_tq (hin 6 23 (by kernel_rfl) (by kernel_rfl)) rfl
      exact o_load3 (.tmp 23) rfl ⟨b2, 0, none⟩ _ e0 (fits_cell ((unhide HB).kept hk2 (by simp)) 0 _ rfl) ⟨_, rfl, tq_is _ _ _ _ rfl, Kept.refl _ _, fun _ _ _ _ _ => trivial⟩
    | 8, ho, hsk =>
      obtain rfl := Option.some.inj ho
      have e0 : a'.eval (.tmp 20) = .int .i64 N.nodes := is_tq (hin 3 20 (by kernel_rfl) (by kernel_rfl)) rfl
      have e1 : a'.eval (.tmp 24) = .int .i64 M.nodes := is_tq (hin 7 24 (by kernel_rfl) (by kernel_rfl)) rfl
      exact o_eqlI3 (.tmp 20) (.tmp 24) rfl _ _ true (decide_eq_true hn) e0 e1 ⟨_, rfl, tq_is _ _ _ _ rfl, Kept.refl _ _, fun _ _ _ _ _ => trivial⟩
    | 9, ho, hsk =>
      obtain rfl := Option.some.inj ho
      have e0 : a'.eval (.tmp 25) = .bool true := is_tq (hin 8 25 (by kernel_rfl) (by kernel_rfl)) rfl
      exact wp_move (.tmp 25) rfl _ e0 ⟨_, rfl, tq_is _ _ _ _ rfl, Kept.refl _ _, fun _ _ _ _ _ => trivial⟩
    | 10, ho, hsk =>
      obtain rfl := Option.some.inj ho
      exact wp_move (.tmp 0) rfl _ ((hout 0 (by kernel_rfl)).trans rfl) ⟨_, rfl, tq_is _ _ _ _ rfl, Kept.refl _ _, fun _ _ _ _ _ => trivial⟩
    | 11, ho, hsk =>
      obtain rfl := Option.some.inj ho
      have e0 : a'.eval (.tmp 27) = P0 b := is_tq (hin 10 27 (by kernel_rfl) (by kernel_rfl)) rfl
      exact o_nil (.tmp 27) rfl _ e0 ⟨_, rfl, tq_is _ _ _ _ rfl, Kept.refl _ _, fun _ _ _ _ _ => trivial⟩
    | 12, ho, hsk =>
      obtain rfl := Option.some.inj ho
      have e0 : a'.eval (.tmp 28) = P0 b := is_tq (hin 11 28 (by kernel_rfl) (by kernel_rfl)) rfl
      exact o_fld58_1 (.tmp 28) rfl b e0 ⟨_, rfl, tq_is _ _ _ _ rfl, Kept.refl _ _, fun _ _ _ _ _ => trivial⟩
    | 13, ho, hsk =>
      obtain rfl := Option.some.inj ho
      have e0 : a'.eval (.tmp 29) = .pointer (some ⟨b, 1, none⟩) := is_tq (hin 12 29 (by kernel_rfl) (by kernel_rfl)) rfl
      exact o_load2 (.tmp 29) rfl ⟨b, 1, none⟩ _ e0 (fits_cell ((unhide HA).kept hk2 (by simp)) 1 _ rfl) ⟨_, rfl, tq_is _ _ _ _ rfl, Kept.refl _ _, fun _ _ _ _ _ => trivial⟩
    | 14, ho, hsk =>
      obtain rfl := Option.some.inj ho
      exact wp_move (.tmp 1) rfl _ ((hout 1 (by kernel_rfl)).trans rfl) ⟨_, rfl, tq_is _ _ _ _ rfl, Kept.refl _ _, fun _ _ _ _ _ => trivial⟩
    | 15, ho, hsk =>
      obtain rfl := Option.some.inj ho
      have e0 : a'.eval (.tmp 31) = P0 b2 := is_tq (hin 14 31 (by kernel_rfl) (by kernel_rfl)) rfl
      exact o_nil (.tmp 31) rfl _ e0 ⟨_, rfl, tq_is _ _ _ _ rfl, Kept.refl _ _, fun _ _ _ _ _ => trivial⟩
    | 16, ho, hsk =>
      obtain rfl := Option.some.inj ho
      have e0 : a'.eval (.tmp 32) = P0 b2 := is_tq (hin 15 32 (by kernel_rfl) (by kernel_rfl)) rfl
      exact o_fld58_1 (.tmp 32) rfl b2 e0 ⟨_, rfl, tq_is _ _ _ _ rfl, Kept.refl _ _, fun _ _ _ _ _ => trivial⟩
    | 17, ho, hsk =>
      obtain rfl := Option.some.inj ho
      have e0 : a'.eval (.tmp 33) = .pointer (some ⟨b2, 1, none⟩) := is_tq (hin 16 33 (by kernel_rfl) (by kernel_rfl)) rfl
      exact o_load2 (.tmp 33) rfl ⟨b2, 1, none⟩ _ e0 (fits_cell ((unhide HB).kept hk2 (by simp)) 1 _ rfl) ⟨_, rfl, tq_is _ _ _ _ rfl, Kept.refl _ _, fun _ _ _ _ _ => trivial⟩
    | 18, ho, hsk =>
      obtain rfl := Option.some.inj ho
      have e0 : a'.eval (.tmp 30) = .int .i64 N.last := is_tq (hin 13 30 (by kernel_rfl) (by kernel_rfl)) rfl
      have e1 : a'.eval (.tmp 34) = .int .i64 M.last := is_tq (hin 17 34 (by kernel_rfl) (by kernel_rfl)) rfl
      exact o_eqlI2 (.tmp 30) (.tmp 34) rfl _ _ false (decide_eq_false hne) e0 e1 ⟨_, rfl, tq_is _ _ _ _ rfl, Kept.refl _ _, fun _ _ _ _ _ => trivial⟩
    | 19, ho, hsk =>
      obtain rfl := Option.some.inj ho
      have e0 : a'.eval (.tmp 26) = .bool true := is_tq (hin 9 26 (by kernel_rfl) (by kernel_rfl)) rfl
      have e1 : a'.eval (.tmp 35) = .bool false := is_tq (hin 18 35 (by kernel_rfl) (by kernel_rfl)) rfl
      exact o_pick (.tmp 26) (.tmp 35) rfl _ e0 e1 ⟨_, rfl, tq_is _ _ _ _ rfl, Kept.refl _ _, fun _ _ _ _ _ => trivial⟩
    | 20, ho, hsk =>
      obtain rfl := Option.some.inj ho
      have e0 : a'.eval (.tmp 36) = .bool false := is_tq (hin 19 36 (by kernel_rfl) (by kernel_rfl)) rfl
      exact wp_move (.tmp 36) rfl _ e0 ⟨_, rfl, tq_is _ _ _ _ rfl, Kept.refl _ _, fun _ _ _ _ _ => trivial⟩
    | 21, ho, hsk =>
      cases hsk
    | 22, ho, hsk =>
      cases hsk
    | 23, ho, hsk =>
      cases hsk
    | 24, ho, hsk =>
      cases hsk
    | 25, ho, hsk =>
      cases hsk
    | 26, ho, hsk =>
      cases hsk
    | 27, ho, hsk =>
      cases hsk
    | 28, ho, hsk =>
      cases hsk
    | 29, ho, hsk =>
      cases hsk
    | 30, ho, hsk =>
      obtain rfl := Option.some.inj ho
      have e0 : a'.eval (.tmp 37) = .bool false := is_tq (hin 20 37 (by kernel_rfl) (by kernel_rfl)) rfl
      exact o_pickN (.tmp 37) (.tmp 46) rfl e0 ⟨_, rfl, tq_is _ _ _ _ rfl, Kept.refl _ _, fun _ _ _ _ _ => trivial⟩
    | 31, ho, hsk =>
      obtain rfl := Option.some.inj ho
      have e0 : a'.eval (.tmp 47) = .bool false := is_tq (hin 30 47 (by kernel_rfl) (by kernel_rfl)) rfl
      exact wp_assignV (.tmp 47) rfl _ e0 ⟨_, rfl, tq_is _ _ _ _ rfl, Kept.refl _ _, fun _ _ _ _ _ => trivial⟩
  intro w9 hk9
  replace hk9 : Kept [] w w9 := ⟨hk9.os, hk9.tape, hk9.output, hk9.size, hk9.block⟩
  simp only [valsQ, List.map_cons, List.map_nil, Option.getD_some, Option.getD_none, List.take_succ_cons, List.take_zero, putAll, Act.put, List.setIfInBounds_toArray, List.set_cons_succ, List.set_cons_zero]
  refine wpAny_done (by kernel_rfl) ?_ _
  go_wp2_with fail
  go_ret
  exact ⟨rfl, hk9⟩
set_option maxHeartbeats 4000000 in
set_option maxRecDepth 100000 in
theorem s14c (b mb b2 mb2 : Nat) (v v2 : Value) (N M : Nn) (w : World) (h : Nt w b mb v N) (h2 : Nt w b2 mb2 v2 M) (hn : N.nodes = M.nodes) (hne : N.last = M.last) : Calls Try.prog 14 #[P0 b, P0 b2] w fun e w' => e = .returned (.bool (decide (sigs N.L = sigs M.L))) ∧ Kept [] w w' := by
  have PN := hide (none38 b mb v N w h)
  have PM := hide (none38 b2 mb2 v2 M w h2)
  have HA := hide h.head
  have HB := hide h2.head
  have PE := hide (fun W (hk : Kept [] w W) => equal39 mb mb2 N.L M.L W (h.kept0 hk).map (h2.kept0 hk).map (h.kept0 hk).body (h2.kept0 hk).body (rise_one h.rise))
  rw [eqM_sigs h.rise h2.rise] at PE
  obtain ⟨q, hq⟩ : ∃ q, decide (sigs N.L = sigs M.L) = q := ⟨_, rfl⟩
  rw [hq] at PE ⊢
  clear h h2
  go_enter Try.func14, Try.ntmps14
  go_wp2_with (
    first
    | (go_at_call 38
       refine (unhide PN).mono ?_
       rintro e V1 ⟨rfl, hw1⟩
       obtain rfl := hw1.symm
       clear hw1
       refine Stp.go ?_))
  constructor
  go_wp2_with (
    first
    | (go_at_call 38
       refine (unhide PM).mono ?_
       rintro e V1 ⟨rfl, hw1⟩
       obtain rfl := hw1.symm
       clear hw1))
  refine wp_region_any mixed (wpAny_tq 32 rfl (by kernel_rfl) [some (P0 b), some (P0 b), some (.pointer (some ⟨b, 0, none⟩)), some (.int .i64 N.nodes), some (P0 b2), some (P0 b2), some (.pointer (some ⟨b2, 0, none⟩)), some (.int .i64 M.nodes), some (.bool true), some (.bool true), some (P0 b), some (P0 b), some (.pointer (some ⟨b, 1, none⟩)), some (.int .i64 N.last), some (P0 b2), some (P0 b2), some (.pointer (some ⟨b2, 1, none⟩)), some (.int .i64 M.last), some (.bool true), some (.bool true), some (.bool true), some (P0 b), some (P0 b), some (.pointer (some ⟨b, 2, none⟩)), some (.map (some mb)), some (P0 b2), some (P0 b2), some (.pointer (some ⟨b2, 2, none⟩)), some (.map (some mb2)), some (.bool q), some (.bool q), some (.bool q)] rfl (by kernel_rfl) (by kernel_rfl) ?_ ?_)
  · intro i o' hi hsk ho a' w2 hout hin hk2
    replace hk2 : Kept [] w w2 := ⟨hk2.os, hk2.tape, hk2.output, hk2.size, hk2.block⟩
    match i, ho, hsk with
    | 0, ho, hsk =>
      obtain rfl := Option.some.inj ho
      exact wp_move (.tmp 0) rfl _ ((hout 0 (by kernel_rfl)).trans rfl) ⟨_, rfl, tq_is _ _ _ _ rfl, Kept.refl _ _, fun _ _ _ _ _ => trivial⟩
    | 1, ho, hsk =>
      obtain rfl := Option.some.inj ho
      have e0 : a'.eval (.tmp 17) = P0 b := is_tq (hin 0 17 (by kernel_rfl) (by kernel_rfl)) rfl
      exact o_nil (.tmp 17) rfl _ e0 ⟨_, rfl, tq_is _ _ _ _ rfl, Kept.refl _ _, fun _ _ _ _ _ => trivial⟩
    | 2, ho, hsk =>
      obtain rfl := Option.some.inj ho
      have e0 : a'.eval (.tmp 18) = P0 b := is_tq (hin 1 18 (by kernel_rfl) (by kernel_rfl)) rfl
      exact o_fld58_0 (.tmp 18) rfl b e0 ⟨_, rfl, tq_is _ _ _ _ rfl, Kept.refl _ _, fun _ _ _ _ _ => trivial⟩
    | 3, ho, hsk =>
      obtain rfl := Option.some.inj ho
      have e0 : a'.eval (.tmp 19) = .pointer (some ⟨b, 0, none⟩) := is_tq (hin 2 19 (by kernel_rfl) (by kernel_rfl)) rfl
      exact o_load3 (.tmp 19) rfl ⟨b, 0, none⟩ _ e0 (fits_cell ((unhide HA).kept hk2 (by simp)) 0 _ rfl) ⟨_, rfl, tq_is _ _ _ _ rfl, Kept.refl _ _, fun _ _ _ _ _ => trivial⟩
    | 4, ho, hsk =>
      obtain rfl := Option.some.inj ho
      exact wp_move (.tmp 1) rfl _ ((hout 1 (by kernel_rfl)).trans rfl) ⟨_, rfl, tq_is _ _ _ _ rfl, Kept.refl _ _, fun _ _ _ _ _ => trivial⟩
    | 5, ho, hsk =>
      obtain rfl := Option.some.inj ho
      have e0 : a'.eval (.tmp 21) = P0 b2 := is_tq (hin 4 21 (by kernel_rfl) (by kernel_rfl)) rfl
      exact o_nil (.tmp 21) rfl _ e0 ⟨_, rfl, tq_is _ _ _ _ rfl, Kept.refl _ _, fun _ _ _ _ _ => trivial⟩
    | 6, ho, hsk =>
      obtain rfl := Option.some.inj ho
      have e0 : a'.eval (.tmp 22) = P0 b2 := is_tq (hin 5 22 (by kernel_rfl) (by kernel_rfl)) rfl
      exact o_fld58_0 (.tmp 22) rfl b2 e0 ⟨_, rfl, tq_is _ _ _ _ rfl, Kept.refl _ _, fun _ _ _ _ _ => trivial⟩
    | 7, ho, hsk =>
      obtain rfl := Option.some.inj ho
      have e0 : a'.eval (.tmp 23) = .pointer (some ⟨b2, 0, none⟩) := is_tq (hin 6 23 (by kernel_rfl) (by kernel_rfl)) rfl
      exact o_load3 (.tmp 23) rfl ⟨b2, 0, none⟩ _ e0 (fits_cell ((unhide HB).kept hk2 (by simp)) 0 _ rfl) ⟨_, rfl, tq_is _ _ _ _ rfl, Kept.refl _ _, fun _ _ _ _ _ => trivial⟩
    | 8, ho, hsk =>
      obtain rfl := Option.some.inj ho
      have e0 : a'.eval (.tmp 20) = .int .i64 N.nodes := is_tq (hin 3 20 (by kernel_rfl) (by kernel_rfl)) rfl
      have e1 : a'.eval (.tmp 24) = .int .i64 M.nodes := is_tq (hin 7 24 (by kernel_rfl) (by kernel_rfl)) rfl
      exact o_eqlI3 (.tmp 20) (.tmp 24) rfl _ _ true (decide_eq_true hn) e0 e1 ⟨_, rfl, tq_is _ _ _ _ rfl, Kept.refl _ _, fun _ _ _ _ _ => trivial⟩
    | 9, ho, hsk =>
      obtain rfl := Option.some.inj ho
      have e0 : a'.eval (.tmp 25) = .bool true := is_tq (hin 8 25 (by kernel_rfl) (by kernel_rfl)) rfl
      exact wp_move (.tmp 25) rfl _ e0 ⟨_, rfl, tq_is _ _ _ _ rfl, Kept.refl _ _, fun _ _ _ _ _ => trivial⟩
    | 10, ho, hsk =>
      obtain rfl := Option.some.inj ho
      exact wp_move (.tmp 0) rfl _ ((hout 0 (by kernel_rfl)).trans rfl) ⟨_, rfl, tq_is _ _ _ _ rfl, Kept.refl _ _, fun _ _ _ _ _ => trivial⟩
    | 11, ho, hsk =>
      obtain rfl := Option.some.inj ho
      have e0 : a'.eval (.tmp 27) = P0 b := is_tq (hin 10 27 (by kernel_rfl) (by kernel_rfl)) rfl
      exact o_nil (.tmp 27) rfl _ e0 ⟨_, rfl, tq_is _ _ _ _ rfl, Kept.refl _ _, fun _ _ _ _ _ => trivial⟩
    | 12, ho, hsk =>
      obtain rfl := Option.some.inj ho
      have e0 : a'.eval (.tmp 28) = P0 b := is_tq (hin 11 28 (by kernel_rfl) (by kernel_rfl)) rfl
      exact o_fld58_1 (.tmp 28) rfl b e0 ⟨_, rfl, tq_is _ _ _ _ rfl, Kept.refl _ _, fun _ _ _ _ _ => trivial⟩
    | 13, ho, hsk =>
      obtain rfl := Option.some.inj ho
      have e0 : a'.eval (.tmp 29) = .pointer (some ⟨b, 1, none⟩) := is_tq (hin 12 29 (by kernel_rfl) (by kernel_rfl)) rfl
      exact o_load2 (.tmp 29) rfl ⟨b, 1, none⟩ _ e0 (fits_cell ((unhide HA).kept hk2 (by simp)) 1 _ rfl) ⟨_, rfl, tq_is _ _ _ _ rfl, Kept.refl _ _, fun _ _ _ _ _ => trivial⟩
    | 14, ho, hsk =>
      obtain rfl := Option.some.inj ho
      exact wp_move (.tmp 1) rfl _ ((hout 1 (by kernel_rfl)).trans rfl) ⟨_, rfl, tq_is _ _ _ _ rfl, Kept.refl _ _, fun _ _ _ _ _ => trivial⟩
    | 15, ho, hsk =>
      obtain rfl := Option.some.inj ho
      have e0 : a'.eval (.tmp 31) = P0 b2 := is_tq (hin 14 31 (by kernel_rfl) (by kernel_rfl)) rfl
      exact o_nil (.tmp 31) rfl _ e0 ⟨_, rfl, tq_is _ _ _ _ rfl, Kept.refl _ _, fun _ _ _ _ _ => trivial⟩
    | 16, ho, hsk =>
      obtain rfl := Option.some.inj ho
      have e0 : a'.eval (.tmp 32) = P0 b2 := is_tq (hin 15 32 (by kernel_rfl) (by kernel_rfl)) rfl
      exact o_fld58_1 (.tmp 32) rfl b2 e0 ⟨_, rfl, tq_is _ _ _ _ rfl, Kept.refl _ _, fun _ _ _ _ _ => trivial⟩
    | 17, ho, hsk =>
      obtain rfl := Option.some.inj ho
      have e0 : a'.eval (.tmp 33) = .pointer (some ⟨b2, 1, none⟩) := is_tq (hin 16 33 (by kernel_rfl) (by kernel_rfl)) rfl
      exact o_load2 (.tmp 33) rfl ⟨b2, 1, none⟩ _ e0 (fits_cell ((unhide HB).kept hk2 (by simp)) 1 _ rfl) ⟨_, rfl, tq_is _ _ _ _ rfl, Kept.refl _ _, fun _ _ _ _ _ => trivial⟩
    | 18, ho, hsk =>
      obtain rfl := Option.some.inj ho
      have e0 : a'.eval (.tmp 30) = .int .i64 N.last := is_tq (hin 13 30 (by kernel_rfl) (by kernel_rfl)) rfl
      have e1 : a'.eval (.tmp 34) = .int .i64 M.last := is_tq (hin 17 34 (by kernel_rfl) (by kernel_rfl)) rfl
      exact o_eqlI2 (.tmp 30) (.tmp 34) rfl _ _ true (decide_eq_true hne) e0 e1 ⟨_, rfl, tq_is _ _ _ _ rfl, Kept.refl _ _, fun _ _ _ _ _ => trivial⟩
    | 19, ho, hsk =>
      obtain rfl := Option.some.inj ho
      have e0 : a'.eval (.tmp 26) = .bool true := is_tq (hin 9 26 (by kernel_rfl) (by kernel_rfl)) rfl
      have e1 : a'.eval (.tmp 35) = .bool true := is_tq (hin 18 35 (by kernel_rfl) (by kernel_rfl)) rfl
      exact o_pick (.tmp 26) (.tmp 35) rfl _ e0 e1 ⟨_, rfl, tq_is _ _ _ _ rfl, Kept.refl _ _, fun _ _ _ _ _ => trivial⟩
    | 20, ho, hsk =>
      obtain rfl := Option.some.inj ho
      have e0 : a'.eval (.tmp 36) = .bool true := is_tq (hin 19 36 (by kernel_rfl) (by kernel_rfl)) rfl
      exact wp_move (.tmp 36) rfl _ e0 ⟨_, rfl, tq_is _ _ _ _ rfl, Kept.refl _ _, fun _ _ _ _ _ => trivial⟩
    | 21, ho, hsk =>
      obtain rfl := Option.some.inj ho
      exact wp_move (.tmp 0) rfl _ ((hout 0 (by kernel_rfl)).trans rfl) ⟨_, rfl, tq_is _ _ _ _ rfl, Kept.refl _ _, fun _ _ _ _ _ => trivial⟩
    | 22, ho, hsk =>
      obtain rfl := Option.some.inj ho
      have e0 : a'.eval (.tmp 38) = P0 b := is_tq (hin 21 38 (by kernel_rfl) (by kernel_rfl)) rfl
      exact o_nil (.tmp 38) rfl _ e0 ⟨_, rfl, tq_is _ _ _ _ rfl, Kept.refl _ _, fun _ _ _ _ _ => trivial⟩
    | 23, ho, hsk =>
      obtain rfl := Option.some.inj ho
      have e0 : a'.eval (.tmp 39) = P0 b := is_tq (hin 22 39 (by kernel_rfl) (by kernel_rfl)) rfl
      exact o_fld58_2 (.tmp 39) rfl b e0 ⟨_, rfl, tq_is _ _ _ _ rfl, Kept.refl _ _, fun _ _ _ _ _ => trivial⟩
    | 24, ho, hsk =>
      obtain rfl := Option.some.inj ho
      have e0 : a'.eval (.tmp 40) = .pointer (some ⟨b, 2, none⟩) := is_tq (hin 23 40 (by kernel_rfl) (by kernel_rfl)) rfl
      exact o_load55 (.tmp 40) rfl ⟨b, 2, none⟩ _ e0 (fits_cell ((unhide HA).kept hk2 (by simp)) 2 _ rfl) ⟨_, rfl, tq_is _ _ _ _ rfl, Kept.refl _ _, fun _ _ _ _ _ => trivial⟩
    | 25, ho, hsk =>
      obtain rfl := Option.some.inj ho
      exact wp_move (.tmp 1) rfl _ ((hout 1 (by kernel_rfl)).trans rfl) ⟨_, rfl, tq_is _ _ _ _ rfl, Kept.refl _ _, fun _ _ _ _ _ => trivial⟩
    | 26, ho, hsk =>
      obtain rfl := Option.some.inj ho
      have e0 : a'.eval (.tmp 42) = P0 b2 := is_tq (hin 25 42 (by kernel_rfl) (by kernel_rfl)) rfl
      exact o_nil (.tmp 42) rfl _ e0 ⟨_, rfl, tq_is _ _ _ _ rfl, Kept.refl _ _, fun _ _ _ _ _ => trivial⟩
    | 27, ho, hsk =>
      obtain rfl := Option.some.inj ho
      have e0 : a'.eval (.tmp 43) = P0 b2 := is_tq (hin 26 43 (by kernel_rfl) (by kernel_rfl)) rfl
      exact o_fld58_2 (.tmp 43) rfl b2 e0 ⟨_, rfl, tq_is _ _ _ _ rfl, Kept.refl _ _, fun _ _ _ _ _ => trivial⟩
    | 28, ho, hsk =>
      obtain rfl := Option.some.inj ho
      have e0 : a'.eval (.tmp 44) = .pointer (some ⟨b2, 2, none⟩) := is_tq (hin 27 44 (by kernel_rfl) (by kernel_rfl)) rfl
      exact o_load55 (.tmp 44) rfl ⟨b2, 2, none⟩ _ e0 (fits_cell ((unhide HB).kept hk2 (by simp)) 2 _ rfl) ⟨_, rfl, tq_is _ _ _ _ rfl, Kept.refl _ _, fun _ _ _ _ _ => trivial⟩
    | 29, ho, hsk =>
      obtain rfl := Option.some.inj ho
      have e0 : a'.eval (.tmp 41) = .map (some mb) := is_tq (hin 24 41 (by kernel_rfl) (by kernel_rfl)) rfl
      have e1 : a'.eval (.tmp 45) = .map (some mb2) := is_tq (hin 28 45 (by kernel_rfl) (by kernel_rfl)) rfl
      refine wp_callF 39 _ _ rfl #[.map (some mb), .map (some mb2), .func (.func 40) #[] #[]] (by simp [e0, e1]; rfl) (cg39 _ _) ((unhide PE w2 hk2).mono ?_)
      rintro e w3 ⟨rfl, hk3⟩
      exact ⟨_, rfl, _, rfl, tq_is _ _ _ _ rfl, hk3, fun _ _ _ _ _ => trivial⟩
    | 30, ho, hsk =>
      obtain rfl := Option.some.inj ho
      have e0 : a'.eval (.tmp 37) = .bool true := is_tq (hin 20 37 (by kernel_rfl) (by kernel_rfl)) rfl
      have e1 : a'.eval (.tmp 46) = .bool q := is_tq (hin 29 46 (by kernel_rfl) (by kernel_rfl)) rfl
      exact o_pick (.tmp 37) (.tmp 46) rfl _ e0 e1 ⟨_, rfl, tq_is _ _ _ _ rfl, Kept.refl _ _, fun _ _ _ _ _ => trivial⟩
    | 31, ho, hsk =>
      obtain rfl := Option.some.inj ho
      have e0 : a'.eval (.tmp 47) = .bool q := is_tq (hin 30 47 (by kernel_rfl) (by kernel_rfl)) rfl
      exact wp_assignV (.tmp 47) rfl _ e0 ⟨_, rfl, tq_is _ _ _ _ rfl, Kept.refl _ _, fun _ _ _ _ _ => trivial⟩
  intro w9 hk9
  replace hk9 : Kept [] w w9 := ⟨hk9.os, hk9.tape, hk9.output, hk9.size, hk9.block⟩
  simp only [valsQ, List.map_cons, List.map_nil, Option.getD_some, List.take_succ_cons, List.take_zero, putAll, Act.put, List.setIfInBounds_toArray, List.set_cons_succ, List.set_cons_zero]
  refine wpAny_done (by kernel_rfl) ?_ _
  go_wp2_with fail
  go_ret
  exact ⟨rfl, hk9⟩
theorem same14 (b mb b2 mb2 : Nat) (v v2 : Value) (N M : Nn) (w : World) (h : Nt w b mb v N) (h2 : Nt w b2 mb2 v2 M) : Calls Try.prog 14 #[P0 b, P0 b2] w fun e w' => e = .returned (.bool (sameN N M)) ∧ Kept [] w w' := by
  unfold sameN
  by_cases hn : N.nodes = M.nodes
  · by_cases hl : N.last = M.last
    · rw [decide_eq_true hn, decide_eq_true hl, Bool.true_and, Bool.true_and]
      exact s14c b mb b2 mb2 v v2 N M w h h2 hn hl
    · rw [decide_eq_true hn, decide_eq_false hl]
      exact s14b b mb b2 mb2 v v2 N M w h h2 hn hl
  · rw [decide_eq_false hn]
    exact s14a b mb b2 mb2 v v2 N M w h h2 hn
/-- Same, of none and a net. -/
theorem zn14 (b mb : Nat) (v : Value) (N : Nn) (w : World) (h : Nt w b mb v N) : Calls Try.prog 14 #[.pointer none, P0 b] w fun e w' => e = .returned (.bool false) ∧ w' = w := by
  have PN := hide (none38 b mb v N w h)
  have PM := hide (z38 none w (.inl rfl))
  clear h
  go_enter Try.func14, Try.ntmps14
  go_wp2_with (
    first
    | (go_at_call 38
       refine (unhide PM).mono ?_
       rintro e V1 ⟨rfl, hw1⟩
       obtain rfl := hw1.symm
       clear hw1
       refine Stp.go ?_))
  constructor
  go_wp2_with (
    first
    | (go_at_call 38
       refine (unhide PM).mono ?_
       rintro e V1 ⟨rfl, hw1⟩
       obtain rfl := hw1.symm
       clear hw1
       refine Stp.go ?_))
  constructor
  go_wp2_with (
    first
    | (go_at_call 38
       refine (unhide PN).mono ?_
       rintro e V1 ⟨rfl, hw1⟩
       obtain rfl := hw1.symm
       clear hw1))
  go_ret
  exact ⟨rfl, rfl⟩

end Go.Proofs.Ytpcggcicpojdoaa
