/-
  The walk of stands.
-/
import Derived.Test.YtffflafalffifaaStdb
import Derived.Test.YtffflafalffifaaNone
namespace Go.Proofs.Ytffflafalffifaa.K
open Go.RowKit Go.Shelf
attribute [local go_sem] Oper.semAt_some

set_option maxRecDepth 100000 in
set_option maxHeartbeats 8000000 in
theorem stands_in (b g r sg eg : Nat) (D : Dev) (leave : Int) (w : World) (h : Dv w b g D) (hr : Rv w r sg eg D) : CallsIn Fence.wide 3 Try.prog 13 #[P0 b, P0 r, .int .i64 leave] w fun e w' => e = .returned (.bool true) ∧ Kept [] w w' := by
  have hok := h.ok
  have hs1 := hok.s1
  have hs0 := hok.s0
  have hn1 := hok.n1
  have hn0 := hok.n0
  obtain ⟨cap, ecap, c0, c1, c2, c3, c4, cf, hb, hec⟩ := hr.cells
  have C0 := hide c0
  have C1 := hide c1
  have C4 := hide c4
  have HB := hide hb
  have HEC := hide hec
  have DV := hide h
  have RV := hide hr
  have KA := hide (Kept.refl [] w)
  clear c0 c1 c2 c3 c4 cf hb hec h hr
  refine callsIn_of_wp_marks Try.func13 rfl trivial ?_ rfl
  refine wpIn_wide.2 ?_
  simp only [Try.ntmps13, List.size_toArray, List.length_cons, List.length_nil, Nat.reduceAdd, Nat.reduceSub, Array.replicate_succ, Array.replicate_zero, List.push_toArray, List.append_toArray, List.nil_append, List.cons_append]
  go_wp2_with (
    first
    | (refine wpBox1 (P0 r) (fun w => run_box28 r w) (by rfl) (.tmp 1) (by rfl) (by rfl) ?_
       intro W1 b4 e1 B1 K1
       have R4 := hide B1
       have N1 : Hid (w.heap.size ≤ b4) := by have := (unhide KA).size; show _ ≤ _; omega
       replace KA := hide ((unhide KA).trans K1)
       clear e1 B1 K1
       refine Stp.go ?_))
  constructor
  go_wp2_with (
    first
    | (refine wpBox1 (.int .i64 leave) (fun w => run_box3 leave w) (by rfl) (.tmp 2) (by rfl) (by rfl) ?_
       intro W2 b5 e2 B2 K2
       have L5 := hide B2
       have N2 : Hid (w.heap.size ≤ b5) := by have := (unhide KA).size; show _ ≤ _; omega
       replace R4 := hide ((unhide R4).kept K2 (by simp))
       replace KA := hide ((unhide KA).trans K2)
       clear e2 B2 K2
       refine Stp.go ?_))
  constructor
  go_wp2_with (
    first
    | (refine wpAllocW [.bool false] zero4 6 (by rfl) (by rfl) (by rfl) ?_
       intro W3 b6 e3 B3 K3
       have N3 : Hid (w.heap.size ≤ b6) := by have := (unhide KA).size; show _ ≤ _; omega
       have G : Hid (Sv w W3 b4 b5 b6 r leave) := ⟨(unhide R4).kept K3 (by simp), (unhide L5).kept K3 (by simp), B3, (unhide KA).trans K3, unhide N1, unhide N2, unhide N3⟩
       clear e3 B3 K3 R4 L5 KA N1 N2 N3))
  refine wp_region_any mixed (wpAny_tr 36 rfl (by kernel_rfl) [.is (P0 b), .is (.int .i64 D.S.length), .is (P0 r), .is (P0 r), .is (.pointer (some ⟨r, 0, none⟩)), .is (.slice (some ⟨sg, 0, none⟩) D.S.length cap), .is (.int .i64 D.S.length), .is (.bool false), .is (.bool false), .is (P0 b), .is (.int .i64 D.N), .is (P0 r), .is (P0 r), .is (.pointer (some ⟨r, 1, none⟩)), .is (.slice (some ⟨eg, 0, none⟩) D.N ecap), .is (.int .i64 D.N), .is (.bool false), .is (.bool false), .is (.bool false), .is (P0 b), .is (.int .i64 D.done), .is (P0 r), .is (P0 r), .is (.pointer (some ⟨r, 4, none⟩)), .is (.int .i64 D.done), .is (.bool false), .is (.bool false), .is (.bool false), .is (P0 b), .row (D.S.flatten), .is (.string (strOfNums D.S.flatten)), .is (P0 r), .row (D.S.flatten), .is (.string (strOfNums D.S.flatten)), .is (.bool false), .is (.bool false)] rfl (by kernel_rfl) (by kernel_rfl) ?_ ?_)
  · intro i o' hi hsk ho a' w2 hout hin hk2
    replace hk2 : Kept [] W3 w2 := ⟨hk2.os, hk2.tape, hk2.output, hk2.size, hk2.block⟩
    match i, ho, hsk with
    | 0, ho, hsk =>
      obtain rfl := Option.some.inj ho
      exact wp_move (.tmp 0) rfl _ ((hout 0 (by kernel_rfl)).trans rfl) ⟨_, rfl, tr_is _ _ _ _ rfl, Kept.refl _ _, fun _ _ _ _ _ => trivial⟩
    | 1, ho, hsk =>
      obtain rfl := Option.some.inj ho
      have e0 : a'.eval (.tmp 23) = P0 b := is_tr (hin 0 23 (by kernel_rfl) (by kernel_rfl)) rfl
      refine wp_callF 31 _ _ rfl #[P0 b] (by simp [e0]) (cg31 _ _) ((size31 _ _ _ ((unhide DV).kept ((unhide G).k.trans hk2) (by simp) (by simp)).sz).mono ?_)
      rintro e w3 ⟨rfl, rfl⟩
      exact ⟨_, rfl, _, rfl, tr_is _ _ _ _ rfl, Kept.refl _ _, fun _ _ _ _ _ => trivial⟩
    | 2, ho, hsk =>
      obtain rfl := Option.some.inj ho
      exact o_load28 (.tmp 4) rfl ⟨b4, 0, none⟩ _ ((hout 4 (by kernel_rfl)).trans rfl) (fits_cell ((unhide G).r4.kept hk2 (by simp)) 0 _ rfl) ⟨_, rfl, tr_is _ _ _ _ rfl, Kept.refl _ _, fun _ _ _ _ _ => trivial⟩
    | 3, ho, hsk =>
      obtain rfl := Option.some.inj ho
      have e0 : a'.eval (.tmp 25) = P0 r := is_tr (hin 2 25 (by kernel_rfl) (by kernel_rfl)) rfl
      exact o_nil (.tmp 25) rfl _ e0 ⟨_, rfl, tr_is _ _ _ _ rfl, Kept.refl _ _, fun _ _ _ _ _ => trivial⟩
    | 4, ho, hsk =>
      obtain rfl := Option.some.inj ho
      have e0 : a'.eval (.tmp 26) = P0 r := is_tr (hin 3 26 (by kernel_rfl) (by kernel_rfl)) rfl
      exact o_fld51_0 (.tmp 26) rfl r e0 ⟨_, rfl, tr_is _ _ _ _ rfl, Kept.refl _ _, fun _ _ _ _ _ => trivial⟩
    | 5, ho, hsk =>
      obtain rfl := Option.some.inj ho
      have e0 : a'.eval (.tmp 27) = .pointer (some ⟨r, 0, none⟩) := is_tr (hin 4 27 (by kernel_rfl) (by kernel_rfl)) rfl
      exact o_load36 (.tmp 27) rfl ⟨r, 0, none⟩ _ e0 (((unhide G).k.trans hk2).cell (unhide C0) (by simp)) ⟨_, rfl, tr_is _ _ _ _ rfl, Kept.refl _ _, fun _ _ _ _ _ => trivial⟩
    | 6, ho, hsk =>
      obtain rfl := Option.some.inj ho
      have e0 : a'.eval (.tmp 28) = .slice (some ⟨sg, 0, none⟩) D.S.length cap := is_tr (hin 5 28 (by kernel_rfl) (by kernel_rfl)) rfl
      exact o_len36 28 rfl _ _ _ e0 ⟨_, rfl, tr_is _ _ _ _ rfl, Kept.refl _ _, fun _ _ _ _ _ => trivial⟩
    | 7, ho, hsk =>
      obtain rfl := Option.some.inj ho
      have e0 : a'.eval (.tmp 24) = .int .i64 D.S.length := is_tr (hin 1 24 (by kernel_rfl) (by kernel_rfl)) rfl
      have e1 : a'.eval (.tmp 29) = .int .i64 D.S.length := is_tr (hin 6 29 (by kernel_rfl) (by kernel_rfl)) rfl
      exact o_neq3v (.tmp 24) (.tmp 29) rfl _ _ true (by simp) e0 e1 ⟨_, rfl, tr_is _ _ _ _ rfl, Kept.refl _ _, fun _ _ _ _ _ => trivial⟩
    | 8, ho, hsk =>
      obtain rfl := Option.some.inj ho
      have e0 : a'.eval (.tmp 30) = .bool false := is_tr (hin 7 30 (by kernel_rfl) (by kernel_rfl)) rfl
      exact wp_move (.tmp 30) rfl _ e0 ⟨_, rfl, tr_is _ _ _ _ rfl, Kept.refl _ _, fun _ _ _ _ _ => trivial⟩
    | 9, ho, hsk =>
      obtain rfl := Option.some.inj ho
      exact wp_move (.tmp 0) rfl _ ((hout 0 (by kernel_rfl)).trans rfl) ⟨_, rfl, tr_is _ _ _ _ rfl, Kept.refl _ _, fun _ _ _ _ _ => trivial⟩
    | 10, ho, hsk =>
      obtain rfl := Option.some.inj ho
      have e0 : a'.eval (.tmp 32) = P0 b := is_tr (hin 9 32 (by kernel_rfl) (by kernel_rfl)) rfl
      refine wp_callF 32 _ _ rfl #[P0 b] (by simp [e0]) (cg32 _ _) ((nodes32 b g D _ ((unhide DV).kept ((unhide G).k.trans hk2) (by simp) (by simp))).mono ?_)
      rintro e w3 ⟨rfl, rfl⟩
      exact ⟨_, rfl, _, rfl, tr_is _ _ _ _ rfl, Kept.refl _ _, fun _ _ _ _ _ => trivial⟩
    | 11, ho, hsk =>
      obtain rfl := Option.some.inj ho
      exact o_load28 (.tmp 4) rfl ⟨b4, 0, none⟩ _ ((hout 4 (by kernel_rfl)).trans rfl) (fits_cell ((unhide G).r4.kept hk2 (by simp)) 0 _ rfl) ⟨_, rfl, tr_is _ _ _ _ rfl, Kept.refl _ _, fun _ _ _ _ _ => trivial⟩
    | 12, ho, hsk =>
      obtain rfl := Option.some.inj ho
      have e0 : a'.eval (.tmp 34) = P0 r := is_tr (hin 11 34 (by kernel_rfl) (by kernel_rfl)) rfl
      exact o_nil (.tmp 34) rfl _ e0 ⟨_, rfl, tr_is _ _ _ _ rfl, Kept.refl _ _, fun _ _ _ _ _ => trivial⟩
    | 13, ho, hsk =>
      obtain rfl := Option.some.inj ho
      have e0 : a'.eval (.tmp 35) = P0 r := is_tr (hin 12 35 (by kernel_rfl) (by kernel_rfl)) rfl
      exact o_fld51_1 (.tmp 35) rfl r e0 ⟨_, rfl, tr_is _ _ _ _ rfl, Kept.refl _ _, fun _ _ _ _ _ => trivial⟩
    | 14, ho, hsk =>
      obtain rfl := Option.some.inj ho
      have e0 : a'.eval (.tmp 36) = .pointer (some ⟨r, 1, none⟩) := is_tr (hin 13 36 (by kernel_rfl) (by kernel_rfl)) rfl
      exact o_load43 (.tmp 36) rfl ⟨r, 1, none⟩ _ e0 (((unhide G).k.trans hk2).cell (unhide C1) (by simp)) ⟨_, rfl, tr_is _ _ _ _ rfl, Kept.refl _ _, fun _ _ _ _ _ => trivial⟩
    | 15, ho, hsk =>
      obtain rfl := Option.some.inj ho
      have e0 : a'.eval (.tmp 37) = .slice (some ⟨eg, 0, none⟩) D.N ecap := is_tr (hin 14 37 (by kernel_rfl) (by kernel_rfl)) rfl
      exact o_len43 37 rfl _ _ _ e0 ⟨_, rfl, tr_is _ _ _ _ rfl, Kept.refl _ _, fun _ _ _ _ _ => trivial⟩
    | 16, ho, hsk =>
      obtain rfl := Option.some.inj ho
      have e0 : a'.eval (.tmp 33) = .int .i64 D.N := is_tr (hin 10 33 (by kernel_rfl) (by kernel_rfl)) rfl
      have e1 : a'.eval (.tmp 38) = .int .i64 D.N := is_tr (hin 15 38 (by kernel_rfl) (by kernel_rfl)) rfl
      exact o_neq3v (.tmp 33) (.tmp 38) rfl _ _ true (by simp) e0 e1 ⟨_, rfl, tr_is _ _ _ _ rfl, Kept.refl _ _, fun _ _ _ _ _ => trivial⟩
    | 17, ho, hsk =>
      obtain rfl := Option.some.inj ho
      have e0 : a'.eval (.tmp 31) = .bool false := is_tr (hin 8 31 (by kernel_rfl) (by kernel_rfl)) rfl
      have e1 : a'.eval (.tmp 39) = .bool false := is_tr (hin 16 39 (by kernel_rfl) (by kernel_rfl)) rfl
      exact o_pickOr0 (.tmp 31) (.tmp 39) rfl _ e0 e1 ⟨_, rfl, tr_is _ _ _ _ rfl, Kept.refl _ _, fun _ _ _ _ _ => trivial⟩
    | 18, ho, hsk =>
      obtain rfl := Option.some.inj ho
      have e0 : a'.eval (.tmp 40) = .bool false := is_tr (hin 17 40 (by kernel_rfl) (by kernel_rfl)) rfl
      exact wp_move (.tmp 40) rfl _ e0 ⟨_, rfl, tr_is _ _ _ _ rfl, Kept.refl _ _, fun _ _ _ _ _ => trivial⟩
    | 19, ho, hsk =>
      obtain rfl := Option.some.inj ho
      exact wp_move (.tmp 0) rfl _ ((hout 0 (by kernel_rfl)).trans rfl) ⟨_, rfl, tr_is _ _ _ _ rfl, Kept.refl _ _, fun _ _ _ _ _ => trivial⟩
    | 20, ho, hsk =>
      obtain rfl := Option.some.inj ho
      have e0 : a'.eval (.tmp 42) = P0 b := is_tr (hin 19 42 (by kernel_rfl) (by kernel_rfl)) rfl
      refine wp_callF 33 _ _ rfl #[P0 b] (by simp [e0]) (cg33 _ _) ((done33 b g D _ ((unhide DV).kept ((unhide G).k.trans hk2) (by simp) (by simp))).mono ?_)
      rintro e w3 ⟨rfl, rfl⟩
      exact ⟨_, rfl, _, rfl, tr_is _ _ _ _ rfl, Kept.refl _ _, fun _ _ _ _ _ => trivial⟩
    | 21, ho, hsk =>
      obtain rfl := Option.some.inj ho
      exact o_load28 (.tmp 4) rfl ⟨b4, 0, none⟩ _ ((hout 4 (by kernel_rfl)).trans rfl) (fits_cell ((unhide G).r4.kept hk2 (by simp)) 0 _ rfl) ⟨_, rfl, tr_is _ _ _ _ rfl, Kept.refl _ _, fun _ _ _ _ _ => trivial⟩
    | 22, ho, hsk =>
      obtain rfl := Option.some.inj ho
      have e0 : a'.eval (.tmp 44) = P0 r := is_tr (hin 21 44 (by kernel_rfl) (by kernel_rfl)) rfl
      exact o_nil (.tmp 44) rfl _ e0 ⟨_, rfl, tr_is _ _ _ _ rfl, Kept.refl _ _, fun _ _ _ _ _ => trivial⟩
    | 23, ho, hsk =>
      obtain rfl := Option.some.inj ho
      have e0 : a'.eval (.tmp 45) = P0 r := is_tr (hin 22 45 (by kernel_rfl) (by kernel_rfl)) rfl
      exact o_fld51_4 (.tmp 45) rfl r e0 ⟨_, rfl, tr_is _ _ _ _ rfl, Kept.refl _ _, fun _ _ _ _ _ => trivial⟩
    | 24, ho, hsk =>
      obtain rfl := Option.some.inj ho
      have e0 : a'.eval (.tmp 46) = .pointer (some ⟨r, 4, none⟩) := is_tr (hin 23 46 (by kernel_rfl) (by kernel_rfl)) rfl
      exact o_load2 (.tmp 46) rfl ⟨r, 4, none⟩ _ e0 (((unhide G).k.trans hk2).cell (unhide C4) (by simp)) ⟨_, rfl, tr_is _ _ _ _ rfl, Kept.refl _ _, fun _ _ _ _ _ => trivial⟩
    | 25, ho, hsk =>
      obtain rfl := Option.some.inj ho
      have e0 : a'.eval (.tmp 43) = .int .i64 D.done := is_tr (hin 20 43 (by kernel_rfl) (by kernel_rfl)) rfl
      have e1 : a'.eval (.tmp 47) = .int .i64 D.done := is_tr (hin 24 47 (by kernel_rfl) (by kernel_rfl)) rfl
      exact o_neq2v (.tmp 43) (.tmp 47) rfl _ _ true (by simp) e0 e1 ⟨_, rfl, tr_is _ _ _ _ rfl, Kept.refl _ _, fun _ _ _ _ _ => trivial⟩
    | 26, ho, hsk =>
      obtain rfl := Option.some.inj ho
      have e0 : a'.eval (.tmp 41) = .bool false := is_tr (hin 18 41 (by kernel_rfl) (by kernel_rfl)) rfl
      have e1 : a'.eval (.tmp 48) = .bool false := is_tr (hin 25 48 (by kernel_rfl) (by kernel_rfl)) rfl
      exact o_pickOr0 (.tmp 41) (.tmp 48) rfl _ e0 e1 ⟨_, rfl, tr_is _ _ _ _ rfl, Kept.refl _ _, fun _ _ _ _ _ => trivial⟩
    | 27, ho, hsk =>
      obtain rfl := Option.some.inj ho
      have e0 : a'.eval (.tmp 49) = .bool false := is_tr (hin 26 49 (by kernel_rfl) (by kernel_rfl)) rfl
      exact wp_move (.tmp 49) rfl _ e0 ⟨_, rfl, tr_is _ _ _ _ rfl, Kept.refl _ _, fun _ _ _ _ _ => trivial⟩
    | 28, ho, hsk =>
      obtain rfl := Option.some.inj ho
      exact wp_move (.tmp 0) rfl _ ((hout 0 (by kernel_rfl)).trans rfl) ⟨_, rfl, tr_is _ _ _ _ rfl, Kept.refl _ _, fun _ _ _ _ _ => trivial⟩
    | 29, ho, hsk =>
      obtain rfl := Option.some.inj ho
      have e0 : a'.eval (.tmp 51) = P0 b := is_tr (hin 28 51 (by kernel_rfl) (by kernel_rfl)) rfl
      refine wp_callF 34 _ _ rfl #[P0 b] (by simp [e0]) (cg34 _ _) ((bytes34 b g D _ ((unhide DV).kept ((unhide G).k.trans hk2) (by simp) (by simp))).mono ?_)
      rintro e w3 ⟨v3, rfl, ho3, hk3⟩
      exact ⟨_, rfl, _, rfl, tr_row _ _ _ _ D.S.flatten rfl (owns_rowAt ho3), hk3, fun _ _ _ _ _ => trivial⟩
    | 30, ho, hsk =>
      obtain rfl := Option.some.inj ho
      have e0 : RowAt w2 (a'.eval (.tmp 52)) (D.S.flatten) := row_tr (hin 29 52 (by kernel_rfl) (by kernel_rfl)) rfl
      exact o_conv42 (.tmp 52) rfl _ e0 ⟨_, rfl, tr_is _ _ _ _ rfl, Kept.refl _ _, fun _ _ _ _ _ => trivial⟩
    | 31, ho, hsk =>
      obtain rfl := Option.some.inj ho
      exact o_load28 (.tmp 4) rfl ⟨b4, 0, none⟩ _ ((hout 4 (by kernel_rfl)).trans rfl) (fits_cell ((unhide G).r4.kept hk2 (by simp)) 0 _ rfl) ⟨_, rfl, tr_is _ _ _ _ rfl, Kept.refl _ _, fun _ _ _ _ _ => trivial⟩
    | 32, ho, hsk =>
      obtain rfl := Option.some.inj ho
      have e0 : a'.eval (.tmp 54) = P0 r := is_tr (hin 31 54 (by kernel_rfl) (by kernel_rfl)) rfl
      refine wp_callF 35 _ _ rfl #[P0 r] (by simp [e0]) (cg35 _ _) ((r_bytes r sg eg D _ ((unhide RV).kept ((unhide G).k.trans hk2) (by simp) (by simp) (by simp))).mono ?_)
      rintro e w3 ⟨v3, rfl, ho3, hk3⟩
      exact ⟨_, rfl, _, rfl, tr_row _ _ _ _ D.S.flatten rfl (owns_rowAt ho3), hk3, fun _ _ _ _ _ => trivial⟩
    | 33, ho, hsk =>
      obtain rfl := Option.some.inj ho
      have e0 : RowAt w2 (a'.eval (.tmp 55)) (D.S.flatten) := row_tr (hin 32 55 (by kernel_rfl) (by kernel_rfl)) rfl
      exact o_conv42 (.tmp 55) rfl _ e0 ⟨_, rfl, tr_is _ _ _ _ rfl, Kept.refl _ _, fun _ _ _ _ _ => trivial⟩
    | 34, ho, hsk =>
      obtain rfl := Option.some.inj ho
      have e0 : a'.eval (.tmp 53) = .string (strOfNums D.S.flatten) := is_tr (hin 30 53 (by kernel_rfl) (by kernel_rfl)) rfl
      have e1 : a'.eval (.tmp 56) = .string (strOfNums D.S.flatten) := is_tr (hin 33 56 (by kernel_rfl) (by kernel_rfl)) rfl
      exact o_neq9s (.tmp 53) (.tmp 56) rfl _ e0 e1 ⟨_, rfl, tr_is _ _ _ _ rfl, Kept.refl _ _, fun _ _ _ _ _ => trivial⟩
    | 35, ho, hsk =>
      obtain rfl := Option.some.inj ho
      have e0 : a'.eval (.tmp 50) = .bool false := is_tr (hin 27 50 (by kernel_rfl) (by kernel_rfl)) rfl
      have e1 : a'.eval (.tmp 57) = .bool false := is_tr (hin 34 57 (by kernel_rfl) (by kernel_rfl)) rfl
      exact o_pickOr0 (.tmp 50) (.tmp 57) rfl _ e0 e1 ⟨_, rfl, tr_is _ _ _ _ rfl, Kept.refl _ _, fun _ _ _ _ _ => trivial⟩
  intro xx w9 hk9
  replace hk9 : Kept [] W3 w9 := ⟨hk9.os, hk9.tape, hk9.output, hk9.size, hk9.block⟩
  simp only [valsR, List.take_succ_cons, List.take_zero, putAll, Act.put, List.setIfInBounds_toArray, List.set_cons_succ, List.set_cons_zero]
  refine wpAny_done (by kernel_rfl) ?_ _
  replace G := hide ((unhide G).step hk9)
  clear hk9
  obtain ⟨y1, hy1⟩ : ∃ y, xx (0 + 1 + 1 + 1 + 1 + 1 + 1 + 1 + 1 + 1 + 1 + 1 + 1 + 1 + 1 + 1 + 1 + 1 + 1 + 1 + 1 + 1 + 1 + 1 + 1 + 1 + 1 + 1 + 1 + 1) = y := ⟨_, rfl⟩
  obtain ⟨y2, hy2⟩ : ∃ y, xx (0 + 1 + 1 + 1 + 1 + 1 + 1 + 1 + 1 + 1 + 1 + 1 + 1 + 1 + 1 + 1 + 1 + 1 + 1 + 1 + 1 + 1 + 1 + 1 + 1 + 1 + 1 + 1 + 1 + 1 + 1 + 1 + 1) = y := ⟨_, rfl⟩
  rw [hy1, hy2]
  clear hy1 hy2 xx
  go_wp2_with fail
  go_loopw [7] (fun i wr => ∃ x : Int, -1 ≤ x ∧ x ≤ D.N + 1 ∧ i = .int .i64 x ∧ Hid (Sv w wr b4 b5 b6 r leave)) (fun i _ => ((D.N : Int) + 1 - intOf i).toNat)
  case atStart => exact ⟨-1, by omega, by omega, rfl, G⟩
  case round =>
    clear G
    obtain ⟨x, hx1, hx2, rfl, G⟩ := hrel
    have q4 := fits_cell (unhide G).r4 0 _ rfl
    have q1 := (unhide G).k.cell (unhide C1) (by simp)
    by_cases hlt : x ≤ D.N
    · obtain ⟨ea, ee, hE⟩ : ∃ ea ee, D.epoch x = (ea, ee) := ⟨_, _, rfl⟩
      have hbd := epoch_bd hok x
      have P19 := hide (epoch19 b g D x wr ((unhide DV).kept (unhide G).k (by simp) (by simp)))
      have P36 := hide (r_epoch r sg eg D x wr ((unhide RV).kept (unhide G).k (by simp) (by simp) (by simp)))
      rw [hE] at P19 P36 hbd
      obtain ⟨hb1, hb2⟩ := hbd
      clear hE
      go_wp2_with (
        first
        | (go_at_call 19
           refine (unhide P19).mono ?_
           rintro e w' ⟨rfl, hww⟩
           obtain rfl := hww.symm
           clear hww
           refine Stp.go ?_))
      constructor
      go_wp2_with (
        first
        | (go_at_call 36
           refine (unhide P36).mono ?_
           rintro e w' ⟨rfl, hww⟩
           obtain rfl := hww.symm
           clear hww
           refine Stp.go ?_))
      constructor
      go_wp2_with (
        first
        | (refine wpNeq2S (by rfl) (.tmp 80) (.tmp 81) (by rfl) ea (by kernel_rfl) (by kernel_rfl) ?_
           refine Stp.go ?_))
      constructor
      go_wp2_with (
        first
        | (go_at_call 10; refine (num10 _ _).mono ?_; rintro e w' ⟨rfl, hww⟩; obtain rfl := hww.symm; clear hww
           refine Stp.go ?_))
      constructor
      go_wp2_with (
        first
        | (refine wpNeq3G (.tmp 85) (.tmp 86) (by rfl) (by kernel_rfl) ee (by kernel_rfl) (by kernel_rfl) ?_))
      go_loopw [12] (fun i wr => ∃ y : Int, ea - 1 ≤ y ∧ y ≤ ea + 2 ∧ i = .int .i64 y ∧ Hid (Sv w wr b4 b5 b6 r leave)) (fun i _ => (ea + 2 - intOf i).toNat)
      case atStart => exact ⟨ea - 1, by omega, by omega, rfl, G⟩
      case round =>
        clear G q4 q1 P19 P36
        obtain ⟨y, hy1, hy2, rfl, G⟩ := hrel
        by_cases hly : y ≤ ea + 1
        · go_wp2_with fail
          refine wp_region_any mixed (wpAny_tq 9 rfl (by kernel_rfl) [some (P0 b), some (.int .i64 x), some (.int .i64 y), some (.bool (D.fenced x y)), some (P0 r), some (.int .i64 x), some (.int .i64 y), some (.bool (D.fenced x y)), some (.bool false)] rfl (by kernel_rfl) (by kernel_rfl) ?_ ?_)
          · intro i o' hi hsk ho a' w2 hout hin hk2
            replace hk2 : Kept [] wr w2 := ⟨hk2.os, hk2.tape, hk2.output, hk2.size, hk2.block⟩
            match i, ho, hsk with
            | 0, ho, hsk =>
              obtain rfl := Option.some.inj ho
              exact wp_move (.tmp 0) rfl _ ((hout 0 (by kernel_rfl)).trans rfl) ⟨_, rfl, tq_is _ _ _ _ rfl, Kept.refl _ _, fun _ _ _ _ _ => trivial⟩
            | 1, ho, hsk =>
              obtain rfl := Option.some.inj ho
              exact wp_move (.tmp 7) rfl _ ((hout 7 (by kernel_rfl)).trans rfl) ⟨_, rfl, tq_is _ _ _ _ rfl, Kept.refl _ _, fun _ _ _ _ _ => trivial⟩
            | 2, ho, hsk =>
              obtain rfl := Option.some.inj ho
              exact wp_move (.tmp 12) rfl _ ((hout 12 (by kernel_rfl)).trans rfl) ⟨_, rfl, tq_is _ _ _ _ rfl, Kept.refl _ _, fun _ _ _ _ _ => trivial⟩
            | 3, ho, hsk =>
              obtain rfl := Option.some.inj ho
              have e0 : a'.eval (.tmp 97) = P0 b := is_tq (hin 0 97 (by kernel_rfl) (by kernel_rfl)) rfl
              have e1 : a'.eval (.tmp 98) = .int .i64 x := is_tq (hin 1 98 (by kernel_rfl) (by kernel_rfl)) rfl
              have e2 : a'.eval (.tmp 99) = .int .i64 y := is_tq (hin 2 99 (by kernel_rfl) (by kernel_rfl)) rfl
              refine wp_callF 37 _ _ rfl #[P0 b, .int .i64 x, .int .i64 y] (by simp [e0, e1, e2]) (cg37 _ _) ((fenced37 b g D x y _ ((unhide DV).kept ((unhide G).k.trans hk2) (by simp) (by simp))).mono ?_)
              rintro e w3 ⟨rfl, rfl⟩
              exact ⟨_, rfl, _, rfl, tq_is _ _ _ _ rfl, Kept.refl _ _, fun _ _ _ _ _ => trivial⟩
            | 4, ho, hsk =>
              obtain rfl := Option.some.inj ho
              exact o_load28 (.tmp 4) rfl ⟨b4, 0, none⟩ _ ((hout 4 (by kernel_rfl)).trans rfl) (fits_cell ((unhide G).r4.kept hk2 (by simp)) 0 _ rfl) ⟨_, rfl, tq_is _ _ _ _ rfl, Kept.refl _ _, fun _ _ _ _ _ => trivial⟩
            | 5, ho, hsk =>
              obtain rfl := Option.some.inj ho
              exact wp_move (.tmp 7) rfl _ ((hout 7 (by kernel_rfl)).trans rfl) ⟨_, rfl, tq_is _ _ _ _ rfl, Kept.refl _ _, fun _ _ _ _ _ => trivial⟩
            | 6, ho, hsk =>
              obtain rfl := Option.some.inj ho
              exact wp_move (.tmp 12) rfl _ ((hout 12 (by kernel_rfl)).trans rfl) ⟨_, rfl, tq_is _ _ _ _ rfl, Kept.refl _ _, fun _ _ _ _ _ => trivial⟩
            | 7, ho, hsk =>
              obtain rfl := Option.some.inj ho
              have e0 : a'.eval (.tmp 101) = P0 r := is_tq (hin 4 101 (by kernel_rfl) (by kernel_rfl)) rfl
              have e1 : a'.eval (.tmp 102) = .int .i64 x := is_tq (hin 5 102 (by kernel_rfl) (by kernel_rfl)) rfl
              have e2 : a'.eval (.tmp 103) = .int .i64 y := is_tq (hin 6 103 (by kernel_rfl) (by kernel_rfl)) rfl
              refine wp_callF 38 _ _ rfl #[P0 r, .int .i64 x, .int .i64 y] (by simp [e0, e1, e2]) (cg38 _ _) ((r_fenced r sg eg D x y _ ((unhide RV).kept ((unhide G).k.trans hk2) (by simp) (by simp) (by simp))).mono ?_)
              rintro e w3 ⟨rfl, rfl⟩
              exact ⟨_, rfl, _, rfl, tq_is _ _ _ _ rfl, Kept.refl _ _, fun _ _ _ _ _ => trivial⟩
            | 8, ho, hsk =>
              obtain rfl := Option.some.inj ho
              have e0 : a'.eval (.tmp 100) = .bool (D.fenced x y) := is_tq (hin 3 100 (by kernel_rfl) (by kernel_rfl)) rfl
              have e1 : a'.eval (.tmp 104) = .bool (D.fenced x y) := is_tq (hin 7 104 (by kernel_rfl) (by kernel_rfl)) rfl
              exact o_neq4v (.tmp 100) (.tmp 104) rfl _ _ true (by simp) e0 e1 ⟨_, rfl, tq_is _ _ _ _ rfl, Kept.refl _ _, fun _ _ _ _ _ => trivial⟩
          intro w9 hk9
          replace hk9 : Kept [] wr w9 := ⟨hk9.os, hk9.tape, hk9.output, hk9.size, hk9.block⟩
          simp only [valsQ, List.map_cons, List.map_nil, Option.getD_some, List.take_succ_cons, List.take_zero, putAll, Act.put, List.setIfInBounds_toArray, List.set_cons_succ, List.set_cons_zero]
          refine wpAny_done (by kernel_rfl) ?_ _
          replace G := hide ((unhide G).step hk9)
          clear hk9
          go_wp2_with fail
          go_roundw
          case rel => exact ⟨y + 1, by omega, by omega, rfl, G⟩
          case measure => simp [intOf]; omega
        · go_wp2_with fail
          go_roundw
          case rel => exact ⟨x + 1, by omega, by omega, rfl, G⟩
          case measure => simp [intOf]; omega
    · go_wp2_with fail
      clear q4 q1
      go_loopw [13] (fun i wr => ∃ y : Int, -1 ≤ y ∧ y ≤ D.S.length + 1 ∧ i = .int .i64 y ∧ Hid (Sv w wr b4 b5 b6 r leave)) (fun i _ => ((D.S.length : Int) + 1 - intOf i).toNat)
      case atStart => exact ⟨-1, by omega, by omega, rfl, G⟩
      case round =>
        clear G
        obtain ⟨y, hy1, hy2, rfl, G⟩ := hrel
        have q4 := fits_cell (unhide G).r4 0 _ rfl
        have q1 := (unhide G).k.cell (unhide C0) (by simp)
        by_cases hly : y ≤ D.S.length
        · obtain ⟨s, ee, hE⟩ : ∃ s ee, D.read y = (s, ee) := ⟨_, _, rfl⟩
          have hsec := read_sec hok y
          have P26 := hide (fun W (hk : Kept [] w W) => read26 b g D y W ((unhide DV).kept hk (by simp) (by simp)) (by omega))
          have P39 := hide (fun W (hk : Kept [] w W) => r_read r sg eg D y W ((unhide RV).kept hk (by simp) (by simp) (by simp)))
          rw [hE] at P26 P39 hsec
          clear hE
          go_wp2_with (
            first
            | (go_at_call 26
               refine (unhide P26 _ (unhide G).k).mono ?_
               rintro e V1 ⟨rfl, K1⟩
               replace G := hide ((unhide G).step K1)
               clear q4 q1
               clear K1
               refine Stp.go ?_))
          constructor
          go_wp2_with (
            first
            | (refine wpNew row38 (u8s nought) (sec_u8 nought_sec) zero38 14 (by rfl) (by rfl) (by rfl) (.tmp 119) (by rfl) (by rfl) (by rfl) (u8s s) (sec_u8 hsec) (u8s_one _) (by kernel_rfl) (by kernel_rfl) ?_
               intro V2 m2 e2 B2 K2
               replace G := hide ((unhide G).step K2)
               have M1 := hide B2
               have q4 := fits_cell (unhide G).r4 0 _ rfl
               clear e2 B2 K2
               refine Stp.go ?_))
          constructor
          go_wp2_with (
            first
            | (go_at_call 39
               refine (unhide P39 _ (unhide G).k).mono ?_
               rintro e V3 ⟨rfl, K3⟩
               replace G := hide ((unhide G).step K3)
               replace M1 := hide ((unhide M1).kept K3 (by simp))
               clear q4
               clear K3
               refine Stp.go ?_))
          constructor
          go_wp2_with (
            first
            | (refine wpNew row38 (u8s nought) (sec_u8 nought_sec) zero38 16 (by rfl) (by rfl) (by rfl) (.tmp 125) (by rfl) (by rfl) (by rfl) (u8s s) (sec_u8 hsec) (u8s_one _) (by kernel_rfl) (by kernel_rfl) ?_
               intro V4 m4 e4 B4 K4
               replace G := hide ((unhide G).step K4)
               replace M1 := hide ((unhide M1).kept K4 (by simp))
               have M2 := hide B4
               clear e4 B4 K4
               refine Stp.go ?_))
          constructor
          go_wp2_with (
            first
            | (refine wpLoadA row38 (by rfl) (.tmp 14) (by rfl) m2 0 (by kernel_rfl) (u8s s) (sec_u8 hsec) (unhide M1).range ?_
               refine Stp.go ?_))
          constructor
          go_wp2_with (
            first
            | (refine wpLoadA row38 (by rfl) (.tmp 16) (by rfl) m4 0 (by kernel_rfl) (u8s s) (sec_u8 hsec) (unhide M2).range ?_
               refine Stp.go ?_))
          constructor
          go_wp2_with (
            first
            | (refine wpNeqSS (by rfl) (.tmp 127) (.tmp 128) (by rfl) s hsec (by kernel_rfl) (by kernel_rfl) ?_
               refine Stp.go ?_))
          constructor
          go_wp2_with (
            first
            | (go_at_call 10; refine (num10 _ _).mono ?_; rintro e w' ⟨rfl, hww⟩; obtain rfl := hww.symm; clear hww
               refine Stp.go ?_))
          constructor
          go_wp2_with (
            first
            | (refine wpNeq3G (.tmp 132) (.tmp 133) (by rfl) (by kernel_rfl) ee (by kernel_rfl) (by kernel_rfl) ?_))
          go_roundw
          case rel => exact ⟨y + 1, by omega, by omega, rfl, G⟩
          case measure => simp [intOf]; omega
        · go_wp2_with (
            first
            | (go_at_call 40
               refine (all40' b _).mono ?_
               rintro e V5 ⟨q, rfl, hq1, hq2, K5⟩
               have gq : Hid (w.heap.size ≤ q) := by have := (unhide G).k.size; show _ ≤ _; omega
               have HQ := hide hq2
               have hq80 := eq80 (P0 q)
               replace G := hide ((unhide G).step K5)
               clear hq1 hq2 K5 q4 q1
               refine Stp.go ?_))
          constructor
          go_wp2_with (
            first
            | (refine wpVar (.int .i64 0) (.int .i64 0) zero3 (fun w b u h => st3 w b u _ h) 19 (by rfl) (by rfl) (by rfl) (.const (.int .i64 0)) (by rfl) (by rfl) (by rfl) (by kernel_rfl) (by rfl) ?_
               intro V6 bt et B6 K6
               have HT := hide B6
               have nt : Hid (V5.heap.size = bt) := by show _ = _; omega
               have HLT : Hid (b4 < V5.heap.size ∧ b5 < V5.heap.size ∧ b6 < V5.heap.size ∧ q < V5.heap.size) := ⟨(unhide G).r4.lt, (unhide G).l5.lt, (unhide G).o6.lt, (unhide HQ).lt⟩
               replace HQ := hide ((unhide HQ).kept K6 (by simp))
               replace G := hide ((unhide G).step K6)
               clear et B6 K6 hq80))
          have HAS : Hid (AS w leave b b4 b5 b6 r q [] V6) := ⟨unhide G, unhide HQ, unhide gq, fun D hD => by cases hD⟩
          clear G HQ gq nt HLT
          have hFw := wideF
          refine (wpIn_wide (n := 3)).1 ?_
          refine wpIn_loop_rounds 3 ?_
          rw [roundsIn_succ]
          have c19 := fits_cell (unhide HT) 0 _ rfl
          gi_wp2_with (
            first
            | (refine inVar (.int .i64 0) (.int .i64 0) zero3 (fun w b u h => st3 w b u _ h) 20 (by rfl) wideF (by rfl) (by rfl) (by rfl) (.const (.int .i64 0)) (by rfl) (by rfl) (fun _ => by rfl) (by rfl) (by rfl) (by rfl) ?_
               intro W8 bn en B8 K8
               have HN := hide B8
               have nbt : Hid (bt < bn) := by have := (unhide HT).lt; show _ < _; omega
               have HLT := hide (unhide HAS).lts
               have HGE := hide (unhide HAS).sv.k.size
               have HASb := hide ((unhide HAS).kept K8)
               have HTb := hide ((unhide HT).kept K8 (by simp))
               have nn : Hid (V6.heap.size = bn) := by show _ = _; omega
               clear en B8 K8 c19 HAS HT))
          have HNE : Hid (bn ≠ b4 ∧ bn ≠ b5 ∧ bn ≠ b6 ∧ bn ≠ q ∧ bn ≠ bt ∧ w.heap.size ≤ bn) := by
            have h1 := unhide HLT
            have h2 := unhide nn
            have h3 := unhide nbt
            have h4 := unhide HGE
            exact ⟨by omega, by omega, by omega, by omega, by omega, by omega⟩
          refine range_turn w b g D leave b4 b5 b6 r q [] bn bt 0 rfl rfl ((unhide DV).kept (unhide HASb).sv.k (by simp) (by simp)) (unhide HASb) (by simp) ⟨rfl, unhide HN, unhide HTb, fun _ h => by simp at h⟩ ?assign ?body ?done ?exit
          case assign =>
            intro l x W K hK
            simp only [Row.vals, List.zip_toArray, List.zip_cons_cons, List.zip_nil_right, List.foldl_toArray, List.foldl_cons, List.foldl_nil, List.setIfInBounds_toArray, List.set_cons_succ, List.set_cons_zero]
            gi_wp2_with (
              first
              | (refine inNew row38 (u8s nought) (sec_u8 nought_sec) zero38 22 (by rfl) (fun _ => trivial) (by rfl) (by rfl) (by rfl) (.tmp 146) (by rfl) (by rfl) (fun _ => by rfl) (by rfl) (u8s x.s) (sec_u8 x.h) (u8s_one _) (by rfl) (by rfl) ?_
                 intro W9 bx ex BX KX
                 have HBX := hide BX
                 have HKX := hide KX
                 clear ex BX KX)
              | fail)
            refine hK _ _ bx (unhide HKX) (unhide HBX) ?_
            simp only [ax, List.setIfInBounds_toArray, List.set_cons_succ, List.set_cons_zero]
          case body =>
            intro l pre x bx W hS hV hbx hlt
            simp only [ax, List.setIfInBounds_toArray, List.set_cons_succ, List.set_cons_zero]
            by_cases hx1 : x.i = pre.length
            · by_cases hx2 : x.s = D.S[pre.length]
              · have HX1 := hide hx1
                have HX2 := hide hx2
                clear hx2
                gi_wp2
                refine wpIn_region_any (by kernel_rfl) (anyIn_of_any (by rintro ⟨a, w, h⟩; exact h) (noDeferA (by kernel_rfl)) _ _ _ _ (wpAny_tq 23 rfl (by kernel_rfl) [some (.int .i64 x.i), some (.int .i64 pre.length), some (.bool false), some (.bool false), some (.int .i64 pre.length), some (P0 r), some (P0 r), some (.pointer (some ⟨r, 0, none⟩)), some (.slice (some ⟨sg, 0, none⟩) D.S.length cap), some (.int .i64 D.S.length), some (.bool false), some (.bool false), some (.bool false), some (aggV (u8s x.s)), some (P0 r), some (P0 r), some (.pointer (some ⟨r, 0, none⟩)), some (.slice (some ⟨sg, 0, none⟩) D.S.length cap), some (.int .i64 pre.length), some (.pointer (some ⟨sg, pre.length * 64, none⟩)), some (aggV (u8s D.S[pre.length])), some (.bool false), some (.bool false)] rfl (by kernel_rfl) (by kernel_rfl) ?_ ?_))
                · intro i o' hi hsk ho a' w2 hout hin hk2
                  replace hk2 : Kept [] W w2 := ⟨hk2.os, hk2.tape, hk2.output, hk2.size, hk2.block⟩
                  match i, ho, hsk with
                  | 0, ho, hsk =>
                    obtain rfl := Option.some.inj ho
                    exact wp_move (.tmp 21) rfl _ ((hout 21 (by kernel_rfl)).trans rfl) ⟨_, rfl, tq_is _ _ _ _ rfl, Kept.refl _ _, fun _ _ _ _ _ => trivial⟩
                  | 1, ho, hsk =>
                    obtain rfl := Option.some.inj ho
                    exact o_load3 (.tmp 20) rfl ⟨bn, 0, none⟩ _ ((hout 20 (by kernel_rfl)).trans rfl) (fits_cell (hV.n.kept hk2 (by simp)) 0 _ rfl) ⟨_, rfl, tq_is _ _ _ _ rfl, Kept.refl _ _, fun _ _ _ _ _ => trivial⟩
                  | 2, ho, hsk =>
                    obtain rfl := Option.some.inj ho
                    have e0 : a'.eval (.tmp 147) = .int .i64 x.i := is_tq (hin 0 147 (by kernel_rfl) (by kernel_rfl)) rfl
                    have e1 : a'.eval (.tmp 148) = .int .i64 pre.length := is_tq (hin 1 148 (by kernel_rfl) (by kernel_rfl)) rfl
                    exact o_neq3v (.tmp 147) (.tmp 148) rfl _ _ true (decide_eq_true (by omega)) e0 e1 ⟨_, rfl, tq_is _ _ _ _ rfl, Kept.refl _ _, fun _ _ _ _ _ => trivial⟩
                  | 3, ho, hsk =>
                    obtain rfl := Option.some.inj ho
                    have e0 : a'.eval (.tmp 149) = .bool false := is_tq (hin 2 149 (by kernel_rfl) (by kernel_rfl)) rfl
                    exact wp_move (.tmp 149) rfl _ e0 ⟨_, rfl, tq_is _ _ _ _ rfl, Kept.refl _ _, fun _ _ _ _ _ => trivial⟩
                  | 4, ho, hsk =>
                    obtain rfl := Option.some.inj ho
                    exact o_load3 (.tmp 20) rfl ⟨bn, 0, none⟩ _ ((hout 20 (by kernel_rfl)).trans rfl) (fits_cell (hV.n.kept hk2 (by simp)) 0 _ rfl) ⟨_, rfl, tq_is _ _ _ _ rfl, Kept.refl _ _, fun _ _ _ _ _ => trivial⟩
                  | 5, ho, hsk =>
                    obtain rfl := Option.some.inj ho
                    exact o_load28 (.tmp 4) rfl ⟨b4, 0, none⟩ _ ((hout 4 (by kernel_rfl)).trans rfl) (fits_cell (hS.sv.r4.kept hk2 (by simp)) 0 _ rfl) ⟨_, rfl, tq_is _ _ _ _ rfl, Kept.refl _ _, fun _ _ _ _ _ => trivial⟩
                  | 6, ho, hsk =>
                    obtain rfl := Option.some.inj ho
                    have e0 : a'.eval (.tmp 152) = P0 r := is_tq (hin 5 152 (by kernel_rfl) (by kernel_rfl)) rfl
                    exact o_nil (.tmp 152) rfl _ e0 ⟨_, rfl, tq_is _ _ _ _ rfl, Kept.refl _ _, fun _ _ _ _ _ => trivial⟩
                  | 7, ho, hsk =>
                    obtain rfl := Option.some.inj ho
                    have e0 : a'.eval (.tmp 153) = P0 r := is_tq (hin 6 153 (by kernel_rfl) (by kernel_rfl)) rfl
                    exact o_fld51_0 (.tmp 153) rfl r e0 ⟨_, rfl, tq_is _ _ _ _ rfl, Kept.refl _ _, fun _ _ _ _ _ => trivial⟩
                  | 8, ho, hsk =>
                    obtain rfl := Option.some.inj ho
                    have e0 : a'.eval (.tmp 154) = .pointer (some ⟨r, 0, none⟩) := is_tq (hin 7 154 (by kernel_rfl) (by kernel_rfl)) rfl
                    exact o_load36 (.tmp 154) rfl ⟨r, 0, none⟩ _ e0 ((hS.sv.k.trans hk2).cell (unhide C0) (by simp)) ⟨_, rfl, tq_is _ _ _ _ rfl, Kept.refl _ _, fun _ _ _ _ _ => trivial⟩
                  | 9, ho, hsk =>
                    obtain rfl := Option.some.inj ho
                    have e0 : a'.eval (.tmp 155) = .slice (some ⟨sg, 0, none⟩) D.S.length cap := is_tq (hin 8 155 (by kernel_rfl) (by kernel_rfl)) rfl
                    exact o_len36 155 rfl _ _ _ e0 ⟨_, rfl, tq_is _ _ _ _ rfl, Kept.refl _ _, fun _ _ _ _ _ => trivial⟩
                  | 10, ho, hsk =>
                    obtain rfl := Option.some.inj ho
                    have e0 : a'.eval (.tmp 151) = .int .i64 pre.length := is_tq (hin 4 151 (by kernel_rfl) (by kernel_rfl)) rfl
                    have e1 : a'.eval (.tmp 156) = .int .i64 D.S.length := is_tq (hin 9 156 (by kernel_rfl) (by kernel_rfl)) rfl
                    exact o_geq3v (.tmp 151) (.tmp 156) rfl _ _ false (decide_eq_false (by omega)) e0 e1 ⟨_, rfl, tq_is _ _ _ _ rfl, Kept.refl _ _, fun _ _ _ _ _ => trivial⟩
                  | 11, ho, hsk =>
                    obtain rfl := Option.some.inj ho
                    have e0 : a'.eval (.tmp 150) = .bool false := is_tq (hin 3 150 (by kernel_rfl) (by kernel_rfl)) rfl
                    have e1 : a'.eval (.tmp 157) = .bool false := is_tq (hin 10 157 (by kernel_rfl) (by kernel_rfl)) rfl
                    exact o_pickOr0 (.tmp 150) (.tmp 157) rfl _ e0 e1 ⟨_, rfl, tq_is _ _ _ _ rfl, Kept.refl _ _, fun _ _ _ _ _ => trivial⟩
                  | 12, ho, hsk =>
                    obtain rfl := Option.some.inj ho
                    have e0 : a'.eval (.tmp 158) = .bool false := is_tq (hin 11 158 (by kernel_rfl) (by kernel_rfl)) rfl
                    exact wp_move (.tmp 158) rfl _ e0 ⟨_, rfl, tq_is _ _ _ _ rfl, Kept.refl _ _, fun _ _ _ _ _ => trivial⟩
                  | 13, ho, hsk =>
                    obtain rfl := Option.some.inj ho
                    exact wp_loadA row38 (.tmp 22) rfl bx 0 ((hout 22 (by kernel_rfl)).trans rfl) (u8s x.s) (sec_u8 x.h) (hbx.kept hk2 (by simp)).range ⟨_, rfl, tq_is _ _ _ _ rfl, Kept.refl _ _, fun _ _ _ _ _ => trivial⟩
                  | 14, ho, hsk =>
                    obtain rfl := Option.some.inj ho
                    exact o_load28 (.tmp 4) rfl ⟨b4, 0, none⟩ _ ((hout 4 (by kernel_rfl)).trans rfl) (fits_cell (hS.sv.r4.kept hk2 (by simp)) 0 _ rfl) ⟨_, rfl, tq_is _ _ _ _ rfl, Kept.refl _ _, fun _ _ _ _ _ => trivial⟩
                  | 15, ho, hsk =>
                    obtain rfl := Option.some.inj ho
                    have e0 : a'.eval (.tmp 161) = P0 r := is_tq (hin 14 161 (by kernel_rfl) (by kernel_rfl)) rfl
                    exact o_nil (.tmp 161) rfl _ e0 ⟨_, rfl, tq_is _ _ _ _ rfl, Kept.refl _ _, fun _ _ _ _ _ => trivial⟩
                  | 16, ho, hsk =>
                    obtain rfl := Option.some.inj ho
                    have e0 : a'.eval (.tmp 162) = P0 r := is_tq (hin 15 162 (by kernel_rfl) (by kernel_rfl)) rfl
                    exact o_fld51_0 (.tmp 162) rfl r e0 ⟨_, rfl, tq_is _ _ _ _ rfl, Kept.refl _ _, fun _ _ _ _ _ => trivial⟩
                  | 17, ho, hsk =>
                    obtain rfl := Option.some.inj ho
                    have e0 : a'.eval (.tmp 163) = .pointer (some ⟨r, 0, none⟩) := is_tq (hin 16 163 (by kernel_rfl) (by kernel_rfl)) rfl
                    exact o_load36 (.tmp 163) rfl ⟨r, 0, none⟩ _ e0 ((hS.sv.k.trans hk2).cell (unhide C0) (by simp)) ⟨_, rfl, tq_is _ _ _ _ rfl, Kept.refl _ _, fun _ _ _ _ _ => trivial⟩
                  | 18, ho, hsk =>
                    obtain rfl := Option.some.inj ho
                    exact o_load3 (.tmp 20) rfl ⟨bn, 0, none⟩ _ ((hout 20 (by kernel_rfl)).trans rfl) (fits_cell (hV.n.kept hk2 (by simp)) 0 _ rfl) ⟨_, rfl, tq_is _ _ _ _ rfl, Kept.refl _ _, fun _ _ _ _ _ => trivial⟩
                  | 19, ho, hsk =>
                    obtain rfl := Option.some.inj ho
                    have e0 : a'.eval (.tmp 164) = .slice (some ⟨sg, 0, none⟩) D.S.length cap := is_tq (hin 17 164 (by kernel_rfl) (by kernel_rfl)) rfl
                    have e1 : a'.eval (.tmp 165) = .int .i64 pre.length := is_tq (hin 18 165 (by kernel_rfl) (by kernel_rfl)) rfl
                    exact o_idx36 (.tmp 164) (.tmp 165) rfl sg D.S.length cap pre.length hlt e0 e1 ⟨_, rfl, tq_is _ _ _ _ rfl, Kept.refl _ _, fun _ _ _ _ _ => trivial⟩
                  | 20, ho, hsk =>
                    obtain rfl := Option.some.inj ho
                    have e0 : a'.eval (.tmp 166) = .pointer (some ⟨sg, pre.length * 64, none⟩) := is_tq (hin 19 166 (by kernel_rfl) (by kernel_rfl)) rfl
                    exact wp_loadA row38 (.tmp 166) rfl sg (pre.length * 64) e0 (u8s D.S[pre.length]) (sec_u8 (hok.sec _ (List.getElem_mem hlt))) (((unhide RV).kept (hS.sv.k.trans hk2) (by simp) (by simp) (by simp)).sector pre.length hlt).2.1 ⟨_, rfl, tq_is _ _ _ _ rfl, Kept.refl _ _, fun _ _ _ _ _ => trivial⟩
                  | 21, ho, hsk =>
                    obtain rfl := Option.some.inj ho
                    have e0 : a'.eval (.tmp 160) = aggV (u8s x.s) := is_tq (hin 13 160 (by kernel_rfl) (by kernel_rfl)) rfl
                    have e1 : a'.eval (.tmp 167) = aggV (u8s D.S[pre.length]) := is_tq (hin 20 167 (by kernel_rfl) (by kernel_rfl)) rfl
                    exact o_neqS (.tmp 160) (.tmp 167) rfl x.s D.S[pre.length] x.h (hok.sec _ (List.getElem_mem hlt)) true (by rw [decide_eq_true_eq]; exact unhide HX2) e0 e1 ⟨_, rfl, tq_is _ _ _ _ rfl, Kept.refl _ _, fun _ _ _ _ _ => trivial⟩
                  | 22, ho, hsk =>
                    obtain rfl := Option.some.inj ho
                    have e0 : a'.eval (.tmp 159) = .bool false := is_tq (hin 12 159 (by kernel_rfl) (by kernel_rfl)) rfl
                    have e1 : a'.eval (.tmp 168) = .bool false := is_tq (hin 21 168 (by kernel_rfl) (by kernel_rfl)) rfl
                    exact o_pickOr0 (.tmp 159) (.tmp 168) rfl _ e0 e1 ⟨_, rfl, tq_is _ _ _ _ rfl, Kept.refl _ _, fun _ _ _ _ _ => trivial⟩
                intro w9 hk9
                replace hk9 : Kept [] W w9 := ⟨hk9.os, hk9.tape, hk9.output, hk9.size, hk9.block⟩
                simp only [valsQ, List.map_cons, List.map_nil, Option.getD_some, List.take_succ_cons, List.take_zero, putAll, Act.put, List.setIfInBounds_toArray, List.set_cons_succ, List.set_cons_zero]
                refine wpAny_done (by kernel_rfl) ?_ _
                have hS3 := hide (hS.kept hk9)
                have hV3 := hide (hV.kept hk9)
                have hK3 := hide hk9
                have c20 := fits_cell (unhide hV3).n 0 _ rfl
                have c19 := fits_cell (unhide hV3).t 0 _ rfl
                have c5 := fits_cell (unhide hS3).sv.l5 0 _ rfl
                clear hS hV hk9 hbx hx1
                by_cases hlv2 : (pre.length : Int) + 1 = leave
                · have d1 : ((pre.length : Int) + 1 == leave) = true := by simp [hlv2]
                  have d2 : decide ((pre.length : Int) + 1 = leave) = true := by simp [hlv2]
                  have HLV := hide hlv2
                  clear hlv2
                  gi_wp2_with (
                    first
                    | (refine inStore1 (.int .i64 pre.length) (.int .i64 ((pre.length : Int) + 1)) (fun w b u h => st3 w b u _ h) (fun _ => trivial) (by rfl) (.tmp 20) (.tmp 171) (by rfl) (by rfl) (by rfl) bn (by rfl) (by rfl) (unhide hV3).n ?_
                       intro W9 B9 e9
                       clear c19 c20 c5
                       have c20 := fits_cell B9 0 _ rfl
                       have c19 : W9.cell? ⟨bt, 0, none⟩ = some (.int .i64 0) := by rw [e9]; exact fits_cell ((unhide hV3).t.set_other (by have := unhide HNE; omega) _) 0 _ rfl
                       have c5 : W9.cell? ⟨b5, 0, none⟩ = some (.int .i64 leave) := by rw [e9]; exact fits_cell ((unhide hS3).sv.l5.set_other (by have := unhide HNE; omega) _) 0 _ rfl
                       have HE := hide e9
                       clear e9 B9)
                    | fail)
                  have e9 := unhide HE
                  have ne := unhide HNE
                  have hS9 : AS w leave b b4 b5 b6 r q [] W9 := by rw [e9]; exact (unhide hS3).set _ (unhide hV3).n ne.2.2.2.2.2 ⟨ne.1, ne.2.1, ne.2.2.1, ne.2.2.2.1⟩
                  have hn9 : Blk W9 bn 3 [.int .i64 ((pre ++ [x]).length : Nat)] := by
                    rw [e9, List.length_append]
                    exact (unhide hV3).n.one _
                  have ht9 : Blk W9 bt 3 [.int .i64 0] := by rw [e9]; exact (unhide hV3).t.set_other (by omega) _
                  have hl9 : ((pre ++ [x]).length : Int) = (pre.length : Int) + 1 := by simp
                  have hkf : ∀ B, KeepsFrom B W W9 := fun B => by rw [e9]; exact keepsFrom_set (unhide hK3) (unhide hV3).n _
                  exact ⟨hkf _, .inl ⟨rfl, trivial, hS9, hn9, ht9, by have := unhide HLV; omega⟩⟩
                · have d1 : ((pre.length : Int) + 1 == leave) = false := by simp [hlv2]
                  have d2 : decide ((pre.length : Int) + 1 = leave) = false := by simp [hlv2]
                  gi_wp2_with (
                    first
                    | (refine inStore1 (.int .i64 pre.length) (.int .i64 ((pre.length : Int) + 1)) (fun w b u h => st3 w b u _ h) (fun _ => trivial) (by rfl) (.tmp 20) (.tmp 171) (by rfl) (by rfl) (by rfl) bn (by rfl) (by rfl) (unhide hV3).n ?_
                       intro W9 B9 e9
                       clear c19 c20 c5
                       have c20 := fits_cell B9 0 _ rfl
                       have c19 : W9.cell? ⟨bt, 0, none⟩ = some (.int .i64 0) := by rw [e9]; exact fits_cell ((unhide hV3).t.set_other (by have := unhide HNE; omega) _) 0 _ rfl
                       have c5 : W9.cell? ⟨b5, 0, none⟩ = some (.int .i64 leave) := by rw [e9]; exact fits_cell ((unhide hS3).sv.l5.set_other (by have := unhide HNE; omega) _) 0 _ rfl
                       have HE := hide e9
                       clear e9 B9)
                    | fail)
                  have e9 := unhide HE
                  have ne := unhide HNE
                  have hS9 : AS w leave b b4 b5 b6 r q [] W9 := by rw [e9]; exact (unhide hS3).set _ (unhide hV3).n ne.2.2.2.2.2 ⟨ne.1, ne.2.1, ne.2.2.1, ne.2.2.2.1⟩
                  have hn9 : Blk W9 bn 3 [.int .i64 ((pre ++ [x]).length : Nat)] := by
                    rw [e9, List.length_append]
                    exact (unhide hV3).n.one _
                  have ht9 : Blk W9 bt 3 [.int .i64 0] := by rw [e9]; exact (unhide hV3).t.set_other (by omega) _
                  have hl9 : ((pre ++ [x]).length : Int) = (pre.length : Int) + 1 := by simp
                  have hkf : ∀ B, KeepsFrom B W W9 := fun B => by rw [e9]; exact keepsFrom_set (unhide hK3) (unhide hV3).n _
                  have hr9 := row_right (unhide hV3).rng hlt (unhide HX1) (unhide HX2)
                  exact ⟨hkf _, by rw [e9]; exact KeptC.setCell (KeptC.of_kept (unhide hK3)) (unhide hV3).n (by decide) _, hS9, ⟨hr9, hn9, ht9, fun _ h => hlv2 (by omega)⟩⟩
              · have hng : Hid (¬ pre ++ [x] = rows D.S hok.sec (pre ++ [x]).length) := row_wrong hlt (fun h => hx2 h.2)
                have HX2 := hide hx2
                clear hx2
                gi_wp2
                refine wpIn_region_any (by kernel_rfl) (anyIn_of_any (by rintro ⟨a, w, h⟩; exact h) (noDeferA (by kernel_rfl)) _ _ _ _ (wpAny_tq 23 rfl (by kernel_rfl) [some (.int .i64 x.i), some (.int .i64 pre.length), some (.bool false), some (.bool false), some (.int .i64 pre.length), some (P0 r), some (P0 r), some (.pointer (some ⟨r, 0, none⟩)), some (.slice (some ⟨sg, 0, none⟩) D.S.length cap), some (.int .i64 D.S.length), some (.bool false), some (.bool false), some (.bool false), some (aggV (u8s x.s)), some (P0 r), some (P0 r), some (.pointer (some ⟨r, 0, none⟩)), some (.slice (some ⟨sg, 0, none⟩) D.S.length cap), some (.int .i64 pre.length), some (.pointer (some ⟨sg, pre.length * 64, none⟩)), some (aggV (u8s D.S[pre.length])), some (.bool true), some (.bool true)] rfl (by kernel_rfl) (by kernel_rfl) ?_ ?_))
                · intro i o' hi hsk ho a' w2 hout hin hk2
                  replace hk2 : Kept [] W w2 := ⟨hk2.os, hk2.tape, hk2.output, hk2.size, hk2.block⟩
                  match i, ho, hsk with
                  | 0, ho, hsk =>
                    obtain rfl := Option.some.inj ho
                    exact wp_move (.tmp 21) rfl _ ((hout 21 (by kernel_rfl)).trans rfl) ⟨_, rfl, tq_is _ _ _ _ rfl, Kept.refl _ _, fun _ _ _ _ _ => trivial⟩
                  | 1, ho, hsk =>
                    obtain rfl := Option.some.inj ho
                    exact o_load3 (.tmp 20) rfl ⟨bn, 0, none⟩ _ ((hout 20 (by kernel_rfl)).trans rfl) (fits_cell (hV.n.kept hk2 (by simp)) 0 _ rfl) ⟨_, rfl, tq_is _ _ _ _ rfl, Kept.refl _ _, fun _ _ _ _ _ => trivial⟩
                  | 2, ho, hsk =>
                    obtain rfl := Option.some.inj ho
                    have e0 : a'.eval (.tmp 147) = .int .i64 x.i := is_tq (hin 0 147 (by kernel_rfl) (by kernel_rfl)) rfl
                    have e1 : a'.eval (.tmp 148) = .int .i64 pre.length := is_tq (hin 1 148 (by kernel_rfl) (by kernel_rfl)) rfl
                    exact o_neq3v (.tmp 147) (.tmp 148) rfl _ _ true (decide_eq_true (by omega)) e0 e1 ⟨_, rfl, tq_is _ _ _ _ rfl, Kept.refl _ _, fun _ _ _ _ _ => trivial⟩
                  | 3, ho, hsk =>
                    obtain rfl := Option.some.inj ho
                    have e0 : a'.eval (.tmp 149) = .bool false := is_tq (hin 2 149 (by kernel_rfl) (by kernel_rfl)) rfl
                    exact wp_move (.tmp 149) rfl _ e0 ⟨_, rfl, tq_is _ _ _ _ rfl, Kept.refl _ _, fun _ _ _ _ _ => trivial⟩
                  | 4, ho, hsk =>
                    obtain rfl := Option.some.inj ho
                    exact o_load3 (.tmp 20) rfl ⟨bn, 0, none⟩ _ ((hout 20 (by kernel_rfl)).trans rfl) (fits_cell (hV.n.kept hk2 (by simp)) 0 _ rfl) ⟨_, rfl, tq_is _ _ _ _ rfl, Kept.refl _ _, fun _ _ _ _ _ => trivial⟩
                  | 5, ho, hsk =>
                    obtain rfl := Option.some.inj ho
                    exact o_load28 (.tmp 4) rfl ⟨b4, 0, none⟩ _ ((hout 4 (by kernel_rfl)).trans rfl) (fits_cell (hS.sv.r4.kept hk2 (by simp)) 0 _ rfl) ⟨_, rfl, tq_is _ _ _ _ rfl, Kept.refl _ _, fun _ _ _ _ _ => trivial⟩
                  | 6, ho, hsk =>
                    obtain rfl := Option.some.inj ho
                    have e0 : a'.eval (.tmp 152) = P0 r := is_tq (hin 5 152 (by kernel_rfl) (by kernel_rfl)) rfl
                    exact o_nil (.tmp 152) rfl _ e0 ⟨_, rfl, tq_is _ _ _ _ rfl, Kept.refl _ _, fun _ _ _ _ _ => trivial⟩
                  | 7, ho, hsk =>
                    obtain rfl := Option.some.inj ho
                    have e0 : a'.eval (.tmp 153) = P0 r := is_tq (hin 6 153 (by kernel_rfl) (by kernel_rfl)) rfl
                    exact o_fld51_0 (.tmp 153) rfl r e0 ⟨_, rfl, tq_is _ _ _ _ rfl, Kept.refl _ _, fun _ _ _ _ _ => trivial⟩
                  | 8, ho, hsk =>
                    obtain rfl := Option.some.inj ho
                    have e0 : a'.eval (.tmp 154) = .pointer (some ⟨r, 0, none⟩) := is_tq (hin 7 154 (by kernel_rfl) (by kernel_rfl)) rfl
                    exact o_load36 (.tmp 154) rfl ⟨r, 0, none⟩ _ e0 ((hS.sv.k.trans hk2).cell (unhide C0) (by simp)) ⟨_, rfl, tq_is _ _ _ _ rfl, Kept.refl _ _, fun _ _ _ _ _ => trivial⟩
                  | 9, ho, hsk =>
                    obtain rfl := Option.some.inj ho
                    have e0 : a'.eval (.tmp 155) = .slice (some ⟨sg, 0, none⟩) D.S.length cap := is_tq (hin 8 155 (by kernel_rfl) (by kernel_rfl)) rfl
                    exact o_len36 155 rfl _ _ _ e0 ⟨_, rfl, tq_is _ _ _ _ rfl, Kept.refl _ _, fun _ _ _ _ _ => trivial⟩
                  | 10, ho, hsk =>
                    obtain rfl := Option.some.inj ho
                    have e0 : a'.eval (.tmp 151) = .int .i64 pre.length := is_tq (hin 4 151 (by kernel_rfl) (by kernel_rfl)) rfl
                    have e1 : a'.eval (.tmp 156) = .int .i64 D.S.length := is_tq (hin 9 156 (by kernel_rfl) (by kernel_rfl)) rfl
                    exact o_geq3v (.tmp 151) (.tmp 156) rfl _ _ false (decide_eq_false (by omega)) e0 e1 ⟨_, rfl, tq_is _ _ _ _ rfl, Kept.refl _ _, fun _ _ _ _ _ => trivial⟩
                  | 11, ho, hsk =>
                    obtain rfl := Option.some.inj ho
                    have e0 : a'.eval (.tmp 150) = .bool false := is_tq (hin 3 150 (by kernel_rfl) (by kernel_rfl)) rfl
                    have e1 : a'.eval (.tmp 157) = .bool false := is_tq (hin 10 157 (by kernel_rfl) (by kernel_rfl)) rfl
                    exact o_pickOr0 (.tmp 150) (.tmp 157) rfl _ e0 e1 ⟨_, rfl, tq_is _ _ _ _ rfl, Kept.refl _ _, fun _ _ _ _ _ => trivial⟩
                  | 12, ho, hsk =>
                    obtain rfl := Option.some.inj ho
                    have e0 : a'.eval (.tmp 158) = .bool false := is_tq (hin 11 158 (by kernel_rfl) (by kernel_rfl)) rfl
                    exact wp_move (.tmp 158) rfl _ e0 ⟨_, rfl, tq_is _ _ _ _ rfl, Kept.refl _ _, fun _ _ _ _ _ => trivial⟩
                  | 13, ho, hsk =>
                    obtain rfl := Option.some.inj ho
                    exact wp_loadA row38 (.tmp 22) rfl bx 0 ((hout 22 (by kernel_rfl)).trans rfl) (u8s x.s) (sec_u8 x.h) (hbx.kept hk2 (by simp)).range ⟨_, rfl, tq_is _ _ _ _ rfl, Kept.refl _ _, fun _ _ _ _ _ => trivial⟩
                  | 14, ho, hsk =>
                    obtain rfl := Option.some.inj ho
                    exact o_load28 (.tmp 4) rfl ⟨b4, 0, none⟩ _ ((hout 4 (by kernel_rfl)).trans rfl) (fits_cell (hS.sv.r4.kept hk2 (by simp)) 0 _ rfl) ⟨_, rfl, tq_is _ _ _ _ rfl, Kept.refl _ _, fun _ _ _ _ _ => trivial⟩
                  | 15, ho, hsk =>
                    obtain rfl := Option.some.inj ho
                    have e0 : a'.eval (.tmp 161) = P0 r := is_tq (hin 14 161 (by kernel_rfl) (by kernel_rfl)) rfl
                    exact o_nil (.tmp 161) rfl _ e0 ⟨_, rfl, tq_is _ _ _ _ rfl, Kept.refl _ _, fun _ _ _ _ _ => trivial⟩
                  | 16, ho, hsk =>
                    obtain rfl := Option.some.inj ho
                    have e0 : a'.eval (.tmp 162) = P0 r := is_tq (hin 15 162 (by kernel_rfl) (by kernel_rfl)) rfl
                    exact o_fld51_0 (.tmp 162) rfl r e0 ⟨_, rfl, tq_is _ _ _ _ rfl, Kept.refl _ _, fun _ _ _ _ _ => trivial⟩
                  | 17, ho, hsk =>
                    obtain rfl := Option.some.inj ho
                    have e0 : a'.eval (.tmp 163) = .pointer (some ⟨r, 0, none⟩) := is_tq (hin 16 163 (by kernel_rfl) (by kernel_rfl)) rfl
                    exact o_load36 (.tmp 163) rfl ⟨r, 0, none⟩ _ e0 ((hS.sv.k.trans hk2).cell (unhide C0) (by simp)) ⟨_, rfl, tq_is _ _ _ _ rfl, Kept.refl _ _, fun _ _ _ _ _ => trivial⟩
                  | 18, ho, hsk =>
                    obtain rfl := Option.some.inj ho
                    exact o_load3 (.tmp 20) rfl ⟨bn, 0, none⟩ _ ((hout 20 (by kernel_rfl)).trans rfl) (fits_cell (hV.n.kept hk2 (by simp)) 0 _ rfl) ⟨_, rfl, tq_is _ _ _ _ rfl, Kept.refl _ _, fun _ _ _ _ _ => trivial⟩
                  | 19, ho, hsk =>
                    obtain rfl := Option.some.inj ho
                    have e0 : a'.eval (.tmp 164) = .slice (some ⟨sg, 0, none⟩) D.S.length cap := is_tq (hin 17 164 (by kernel_rfl) (by kernel_rfl)) rfl
                    have e1 : a'.eval (.tmp 165) = .int .i64 pre.length := is_tq (hin 18 165 (by kernel_rfl) (by kernel_rfl)) rfl
                    exact o_idx36 (.tmp 164) (.tmp 165) rfl sg D.S.length cap pre.length hlt e0 e1 ⟨_, rfl, tq_is _ _ _ _ rfl, Kept.refl _ _, fun _ _ _ _ _ => trivial⟩
                  | 20, ho, hsk =>
                    obtain rfl := Option.some.inj ho
                    have e0 : a'.eval (.tmp 166) = .pointer (some ⟨sg, pre.length * 64, none⟩) := is_tq (hin 19 166 (by kernel_rfl) (by kernel_rfl)) rfl
                    exact wp_loadA row38 (.tmp 166) rfl sg (pre.length * 64) e0 (u8s D.S[pre.length]) (sec_u8 (hok.sec _ (List.getElem_mem hlt))) (((unhide RV).kept (hS.sv.k.trans hk2) (by simp) (by simp) (by simp)).sector pre.length hlt).2.1 ⟨_, rfl, tq_is _ _ _ _ rfl, Kept.refl _ _, fun _ _ _ _ _ => trivial⟩
                  | 21, ho, hsk =>
                    obtain rfl := Option.some.inj ho
                    have e0 : a'.eval (.tmp 160) = aggV (u8s x.s) := is_tq (hin 13 160 (by kernel_rfl) (by kernel_rfl)) rfl
                    have e1 : a'.eval (.tmp 167) = aggV (u8s D.S[pre.length]) := is_tq (hin 20 167 (by kernel_rfl) (by kernel_rfl)) rfl
                    exact o_neqS (.tmp 160) (.tmp 167) rfl x.s D.S[pre.length] x.h (hok.sec _ (List.getElem_mem hlt)) false (by rw [decide_eq_false_iff_not]; exact unhide HX2) e0 e1 ⟨_, rfl, tq_is _ _ _ _ rfl, Kept.refl _ _, fun _ _ _ _ _ => trivial⟩
                  | 22, ho, hsk =>
                    obtain rfl := Option.some.inj ho
                    have e0 : a'.eval (.tmp 159) = .bool false := is_tq (hin 12 159 (by kernel_rfl) (by kernel_rfl)) rfl
                    have e1 : a'.eval (.tmp 168) = .bool true := is_tq (hin 21 168 (by kernel_rfl) (by kernel_rfl)) rfl
                    exact o_pickOr0 (.tmp 159) (.tmp 168) rfl _ e0 e1 ⟨_, rfl, tq_is _ _ _ _ rfl, Kept.refl _ _, fun _ _ _ _ _ => trivial⟩
                intro w9 hk9
                replace hk9 : Kept [] W w9 := ⟨hk9.os, hk9.tape, hk9.output, hk9.size, hk9.block⟩
                simp only [valsQ, List.map_cons, List.map_nil, Option.getD_some, List.take_succ_cons, List.take_zero, putAll, Act.put, List.setIfInBounds_toArray, List.set_cons_succ, List.set_cons_zero]
                refine wpAny_done (by kernel_rfl) ?_ _
                have hS3 := hide (hS.kept hk9)
                have hK3 := hide hk9
                clear hS hV hk9 hbx
                gi_wp2_with (
                  first
                  | (refine inStore1 (.bool false) (.bool false) (fun w b u h => st4 w b u _ h) (fun _ => trivial) (by rfl) (.tmp 6) (.const (.bool false)) (by rfl) (by rfl) (by rfl) b6 (by rfl) (by rfl) (unhide hS3).sv.o6 ?_
                     intro W9 B9 e9
                     have HE := hide e9
                     clear e9 B9)
                  | fail)
                exact ⟨by rw [unhide HE]; exact keepsFrom_set (unhide hK3) (unhide hS3).sv.o6 _, .inr ⟨rfl, unhide hng⟩⟩
            · have hng : Hid (¬ pre ++ [x] = rows D.S hok.sec (pre ++ [x]).length) := row_wrong hlt (fun h => hx1 h.1)
              gi_wp2
              refine wpIn_region_any (by kernel_rfl) (anyIn_of_any (by rintro ⟨a, w, h⟩; exact h) (noDeferA (by kernel_rfl)) _ _ _ _ (wpAny_tq 23 rfl (by kernel_rfl) [some (.int .i64 x.i), some (.int .i64 pre.length), some (.bool true), some (.bool true), none, none, none, none, none, none, none, some (.bool true), some (.bool true), none, none, none, none, none, none, none, none, none, some (.bool true)] rfl (by kernel_rfl) (by kernel_rfl) ?_ ?_))
              · intro i o' hi hsk ho a' w2 hout hin hk2
                replace hk2 : Kept [] W w2 := ⟨hk2.os, hk2.tape, hk2.output, hk2.size, hk2.block⟩
                match i, ho, hsk with
                | 0, ho, hsk =>
                  obtain rfl := Option.some.inj ho
                  exact wp_move (.tmp 21) rfl _ ((hout 21 (by kernel_rfl)).trans rfl) ⟨_, rfl, tq_is _ _ _ _ rfl, Kept.refl _ _, fun _ _ _ _ _ => trivial⟩
                | 1, ho, hsk =>
                  obtain rfl := Option.some.inj ho
                  exact o_load3 (.tmp 20) rfl ⟨bn, 0, none⟩ _ ((hout 20 (by kernel_rfl)).trans rfl) (fits_cell (hV.n.kept hk2 (by simp)) 0 _ rfl) ⟨_, rfl, tq_is _ _ _ _ rfl, Kept.refl _ _, fun _ _ _ _ _ => trivial⟩
                | 2, ho, hsk =>
                  obtain rfl := Option.some.inj ho
                  have e0 : a'.eval (.tmp 147) = .int .i64 x.i := is_tq (hin 0 147 (by kernel_rfl) (by kernel_rfl)) rfl
                  have e1 : a'.eval (.tmp 148) = .int .i64 pre.length := is_tq (hin 1 148 (by kernel_rfl) (by kernel_rfl)) rfl
                  exact o_neq3v (.tmp 147) (.tmp 148) rfl _ _ false (decide_eq_false (by omega)) e0 e1 ⟨_, rfl, tq_is _ _ _ _ rfl, Kept.refl _ _, fun _ _ _ _ _ => trivial⟩
                | 3, ho, hsk =>
                  obtain rfl := Option.some.inj ho
                  have e0 : a'.eval (.tmp 149) = .bool true := is_tq (hin 2 149 (by kernel_rfl) (by kernel_rfl)) rfl
                  exact wp_move (.tmp 149) rfl _ e0 ⟨_, rfl, tq_is _ _ _ _ rfl, Kept.refl _ _, fun _ _ _ _ _ => trivial⟩
                | 4, ho, hsk =>
                  cases hsk
                | 5, ho, hsk =>
                  cases hsk
                | 6, ho, hsk =>
                  cases hsk
                | 7, ho, hsk =>
                  cases hsk
                | 8, ho, hsk =>
                  cases hsk
                | 9, ho, hsk =>
                  cases hsk
                | 10, ho, hsk =>
                  cases hsk
                | 11, ho, hsk =>
                  obtain rfl := Option.some.inj ho
                  have e0 : a'.eval (.tmp 150) = .bool true := is_tq (hin 3 150 (by kernel_rfl) (by kernel_rfl)) rfl
                  exact o_pickOrT (.tmp 150) (.tmp 157) rfl e0 ⟨_, rfl, tq_is _ _ _ _ rfl, Kept.refl _ _, fun _ _ _ _ _ => trivial⟩
                | 12, ho, hsk =>
                  obtain rfl := Option.some.inj ho
                  have e0 : a'.eval (.tmp 158) = .bool true := is_tq (hin 11 158 (by kernel_rfl) (by kernel_rfl)) rfl
                  exact wp_move (.tmp 158) rfl _ e0 ⟨_, rfl, tq_is _ _ _ _ rfl, Kept.refl _ _, fun _ _ _ _ _ => trivial⟩
                | 13, ho, hsk =>
                  cases hsk
                | 14, ho, hsk =>
                  cases hsk
                | 15, ho, hsk =>
                  cases hsk
                | 16, ho, hsk =>
                  cases hsk
                | 17, ho, hsk =>
                  cases hsk
                | 18, ho, hsk =>
                  cases hsk
                | 19, ho, hsk =>
                  cases hsk
                | 20, ho, hsk =>
                  cases hsk
                | 21, ho, hsk =>
                  cases hsk
                | 22, ho, hsk =>
                  obtain rfl := Option.some.inj ho
                  have e0 : a'.eval (.tmp 159) = .bool true := is_tq (hin 12 159 (by kernel_rfl) (by kernel_rfl)) rfl
                  exact o_pickOrT (.tmp 159) (.tmp 168) rfl e0 ⟨_, rfl, tq_is _ _ _ _ rfl, Kept.refl _ _, fun _ _ _ _ _ => trivial⟩
              intro w9 hk9
              replace hk9 : Kept [] W w9 := ⟨hk9.os, hk9.tape, hk9.output, hk9.size, hk9.block⟩
              simp only [valsQ, List.map_cons, List.map_nil, Option.getD_some, Option.getD_none, List.take_succ_cons, List.take_zero, putAll, Act.put, List.setIfInBounds_toArray, List.set_cons_succ, List.set_cons_zero]
              refine wpAny_done (by kernel_rfl) ?_ _
              have hS3 := hide (hS.kept hk9)
              have hK3 := hide hk9
              clear hS hV hk9 hbx
              gi_wp2_with (
                first
                | (refine inStore1 (.bool false) (.bool false) (fun w b u h => st4 w b u _ h) (fun _ => trivial) (by rfl) (.tmp 6) (.const (.bool false)) (by rfl) (by rfl) (by rfl) b6 (by rfl) (by rfl) (unhide hS3).sv.o6 ?_
                   intro W9 B9 e9
                   have HE := hide e9
                   clear e9 B9)
                | fail)
              exact ⟨by rw [unhide HE]; exact keepsFrom_set (unhide hK3) (unhide hS3).sv.o6 _, .inr ⟨rfl, unhide hng⟩⟩
          case done =>
            intro E n W hE hS hn ht hnN hor hK
            have hDw : w.heap.size ≤ E := by have := (unhide HASb).sv.k.size; omega
            clear HASb HN HTb nn nbt HNE HLT HGE hE
            by_cases hnN2 : n = D.S.length
            · subst hnN2
              gi_wp2
              refine wpIn_wide.2 ?_
              refine wp_region_any mixed (wpAny_tq 29 rfl (by kernel_rfl) [some (.int .i64 0), some (.bool false), some (.bool false), none, none, none, none, none, none, none, some (.bool false), some (.bool false), some (.int .i64 0), some (.bool true), some (.bool true), some (.int .i64 D.S.length), some (P0 r), some (P0 r), some (.pointer (some ⟨r, 0, none⟩)), some (.slice (some ⟨sg, 0, none⟩) D.S.length cap), some (.int .i64 D.S.length), some (.bool false), some (.bool false), some (.bool false), none, none, none, some (.bool false), some (.bool false)] rfl (by kernel_rfl) (by kernel_rfl) ?_ ?_)
              · intro i o' hi hsk ho a' w2 hout hin hk2
                replace hk2 : Kept [] W w2 := ⟨hk2.os, hk2.tape, hk2.output, hk2.size, hk2.block⟩
                match i, ho, hsk with
                | 0, ho, hsk =>
                  obtain rfl := Option.some.inj ho
                  exact o_load3 (.tmp 19) rfl ⟨bt, 0, none⟩ _ ((hout 19 (by kernel_rfl)).trans rfl) (fits_cell (ht.kept hk2 (by simp)) 0 _ rfl) ⟨_, rfl, tq_is _ _ _ _ rfl, Kept.refl _ _, fun _ _ _ _ _ => trivial⟩
                | 1, ho, hsk =>
                  obtain rfl := Option.some.inj ho
                  have e0 : a'.eval (.tmp 179) = .int .i64 0 := is_tq (hin 0 179 (by kernel_rfl) (by kernel_rfl)) rfl
                  exact o_eql3 (.tmp 179) 1 rfl _ false (by simp) e0 ⟨_, rfl, tq_is _ _ _ _ rfl, Kept.refl _ _, fun _ _ _ _ _ => trivial⟩
                | 2, ho, hsk =>
                  obtain rfl := Option.some.inj ho
                  have e0 : a'.eval (.tmp 180) = .bool false := is_tq (hin 1 180 (by kernel_rfl) (by kernel_rfl)) rfl
                  exact wp_move (.tmp 180) rfl _ e0 ⟨_, rfl, tq_is _ _ _ _ rfl, Kept.refl _ _, fun _ _ _ _ _ => trivial⟩
                | 3, ho, hsk =>
                  cases hsk
                | 4, ho, hsk =>
                  cases hsk
                | 5, ho, hsk =>
                  cases hsk
                | 6, ho, hsk =>
                  cases hsk
                | 7, ho, hsk =>
                  cases hsk
                | 8, ho, hsk =>
                  cases hsk
                | 9, ho, hsk =>
                  cases hsk
                | 10, ho, hsk =>
                  obtain rfl := Option.some.inj ho
                  have e0 : a'.eval (.tmp 181) = .bool false := is_tq (hin 2 181 (by kernel_rfl) (by kernel_rfl)) rfl
                  exact o_pickN (.tmp 181) (.tmp 188) rfl e0 ⟨_, rfl, tq_is _ _ _ _ rfl, Kept.refl _ _, fun _ _ _ _ _ => trivial⟩
                | 11, ho, hsk =>
                  obtain rfl := Option.some.inj ho
                  have e0 : a'.eval (.tmp 189) = .bool false := is_tq (hin 10 189 (by kernel_rfl) (by kernel_rfl)) rfl
                  exact wp_move (.tmp 189) rfl _ e0 ⟨_, rfl, tq_is _ _ _ _ rfl, Kept.refl _ _, fun _ _ _ _ _ => trivial⟩
                | 12, ho, hsk =>
                  obtain rfl := Option.some.inj ho
                  exact o_load3 (.tmp 19) rfl ⟨bt, 0, none⟩ _ ((hout 19 (by kernel_rfl)).trans rfl) (fits_cell (ht.kept hk2 (by simp)) 0 _ rfl) ⟨_, rfl, tq_is _ _ _ _ rfl, Kept.refl _ _, fun _ _ _ _ _ => trivial⟩
                | 13, ho, hsk =>
                  obtain rfl := Option.some.inj ho
                  have e0 : a'.eval (.tmp 191) = .int .i64 0 := is_tq (hin 12 191 (by kernel_rfl) (by kernel_rfl)) rfl
                  exact o_eql3 (.tmp 191) 0 rfl _ true (by simp) e0 ⟨_, rfl, tq_is _ _ _ _ rfl, Kept.refl _ _, fun _ _ _ _ _ => trivial⟩
                | 14, ho, hsk =>
                  obtain rfl := Option.some.inj ho
                  have e0 : a'.eval (.tmp 192) = .bool true := is_tq (hin 13 192 (by kernel_rfl) (by kernel_rfl)) rfl
                  exact wp_move (.tmp 192) rfl _ e0 ⟨_, rfl, tq_is _ _ _ _ rfl, Kept.refl _ _, fun _ _ _ _ _ => trivial⟩
                | 15, ho, hsk =>
                  obtain rfl := Option.some.inj ho
                  exact o_load3 (.tmp 20) rfl ⟨bn, 0, none⟩ _ ((hout 20 (by kernel_rfl)).trans rfl) (fits_cell (hn.kept hk2 (by simp)) 0 _ rfl) ⟨_, rfl, tq_is _ _ _ _ rfl, Kept.refl _ _, fun _ _ _ _ _ => trivial⟩
                | 16, ho, hsk =>
                  obtain rfl := Option.some.inj ho
                  exact o_load28 (.tmp 4) rfl ⟨b4, 0, none⟩ _ ((hout 4 (by kernel_rfl)).trans rfl) (fits_cell (hS.sv.r4.kept hk2 (by simp)) 0 _ rfl) ⟨_, rfl, tq_is _ _ _ _ rfl, Kept.refl _ _, fun _ _ _ _ _ => trivial⟩
                | 17, ho, hsk =>
                  obtain rfl := Option.some.inj ho
                  have e0 : a'.eval (.tmp 195) = P0 r := is_tq (hin 16 195 (by kernel_rfl) (by kernel_rfl)) rfl
                  exact o_nil (.tmp 195) rfl _ e0 ⟨_, rfl, tq_is _ _ _ _ rfl, Kept.refl _ _, fun _ _ _ _ _ => trivial⟩
                | 18, ho, hsk =>
                  obtain rfl := Option.some.inj ho
                  have e0 : a'.eval (.tmp 196) = P0 r := is_tq (hin 17 196 (by kernel_rfl) (by kernel_rfl)) rfl
                  exact o_fld51_0 (.tmp 196) rfl r e0 ⟨_, rfl, tq_is _ _ _ _ rfl, Kept.refl _ _, fun _ _ _ _ _ => trivial⟩
                | 19, ho, hsk =>
                  obtain rfl := Option.some.inj ho
                  have e0 : a'.eval (.tmp 197) = .pointer (some ⟨r, 0, none⟩) := is_tq (hin 18 197 (by kernel_rfl) (by kernel_rfl)) rfl
                  exact o_load36 (.tmp 197) rfl ⟨r, 0, none⟩ _ e0 ((hS.sv.k.trans hk2).cell (unhide C0) (by simp)) ⟨_, rfl, tq_is _ _ _ _ rfl, Kept.refl _ _, fun _ _ _ _ _ => trivial⟩
                | 20, ho, hsk =>
                  obtain rfl := Option.some.inj ho
                  have e0 : a'.eval (.tmp 198) = .slice (some ⟨sg, 0, none⟩) D.S.length cap := is_tq (hin 19 198 (by kernel_rfl) (by kernel_rfl)) rfl
                  exact o_len36 198 rfl _ _ _ e0 ⟨_, rfl, tq_is _ _ _ _ rfl, Kept.refl _ _, fun _ _ _ _ _ => trivial⟩
                | 21, ho, hsk =>
                  obtain rfl := Option.some.inj ho
                  have e0 : a'.eval (.tmp 194) = .int .i64 D.S.length := is_tq (hin 15 194 (by kernel_rfl) (by kernel_rfl)) rfl
                  have e1 : a'.eval (.tmp 199) = .int .i64 D.S.length := is_tq (hin 20 199 (by kernel_rfl) (by kernel_rfl)) rfl
                  exact o_neq3v (.tmp 194) (.tmp 199) rfl _ _ true (by simp) e0 e1 ⟨_, rfl, tq_is _ _ _ _ rfl, Kept.refl _ _, fun _ _ _ _ _ => trivial⟩
                | 22, ho, hsk =>
                  obtain rfl := Option.some.inj ho
                  have e0 : a'.eval (.tmp 193) = .bool true := is_tq (hin 14 193 (by kernel_rfl) (by kernel_rfl)) rfl
                  have e1 : a'.eval (.tmp 200) = .bool false := is_tq (hin 21 200 (by kernel_rfl) (by kernel_rfl)) rfl
                  exact o_pick (.tmp 193) (.tmp 200) rfl _ e0 e1 ⟨_, rfl, tq_is _ _ _ _ rfl, Kept.refl _ _, fun _ _ _ _ _ => trivial⟩
                | 23, ho, hsk =>
                  obtain rfl := Option.some.inj ho
                  have e0 : a'.eval (.tmp 201) = .bool false := is_tq (hin 22 201 (by kernel_rfl) (by kernel_rfl)) rfl
                  exact wp_move (.tmp 201) rfl _ e0 ⟨_, rfl, tq_is _ _ _ _ rfl, Kept.refl _ _, fun _ _ _ _ _ => trivial⟩
                | 24, ho, hsk =>
                  cases hsk
                | 25, ho, hsk =>
                  cases hsk
                | 26, ho, hsk =>
                  cases hsk
                | 27, ho, hsk =>
                  obtain rfl := Option.some.inj ho
                  have e0 : a'.eval (.tmp 202) = .bool false := is_tq (hin 23 202 (by kernel_rfl) (by kernel_rfl)) rfl
                  exact o_pickN (.tmp 202) (.tmp 205) rfl e0 ⟨_, rfl, tq_is _ _ _ _ rfl, Kept.refl _ _, fun _ _ _ _ _ => trivial⟩
                | 28, ho, hsk =>
                  obtain rfl := Option.some.inj ho
                  have e0 : a'.eval (.tmp 190) = .bool false := is_tq (hin 11 190 (by kernel_rfl) (by kernel_rfl)) rfl
                  have e1 : a'.eval (.tmp 206) = .bool false := is_tq (hin 27 206 (by kernel_rfl) (by kernel_rfl)) rfl
                  exact o_pickOr0 (.tmp 190) (.tmp 206) rfl _ e0 e1 ⟨_, rfl, tq_is _ _ _ _ rfl, Kept.refl _ _, fun _ _ _ _ _ => trivial⟩
              intro w9 hk9
              replace hk9 : Kept [] W w9 := ⟨hk9.os, hk9.tape, hk9.output, hk9.size, hk9.block⟩
              simp only [valsQ, List.map_cons, List.map_nil, Option.getD_some, Option.getD_none, List.take_succ_cons, List.take_zero, putAll, Act.put, List.setIfInBounds_toArray, List.set_cons_succ, List.set_cons_zero]
              refine wpAny_done (by kernel_rfl) ?_ _
              have HAS0 := hide ((hS.kept hk9).mark hDw (hk9.heap hK (by simp)))
              have c19 := fits_cell (ht.kept hk9 (by simp)) 0 _ rfl
              have hk9s := hide hk9
              clear hK hS hn ht hk9 hk9s
              gi_wp2_with (
                first
                | (refine inVar (.int .i64 0) (.int .i64 0) zero3 (fun w b u h => st3 w b u _ h) 19 (by rfl) wideF (by rfl) (by rfl) (by rfl) (.tmp 208) (by rfl) (by rfl) (fun _ => by rfl) (by rfl) (by rfl) (by rfl) ?_
                   intro W10 bt1 et B10 K10
                   have HT1 := hide B10
                   have HAS1 := hide ((unhide HAS0).kept K10)
                   have nt1 : Hid (w9.heap.size = bt1) := by show _ = _; omega
                   clear et K10 c19
                   have c19 := fits_cell B10 0 _ rfl
                   clear B10
                   refine Stp.go ?_))
              constructor
              gi_wp2_with (
                first
                | (refine inStore1 (.int .i64 0) (.int .i64 1) (fun w b u h => st3 w b u _ h) wideF (by rfl) (.tmp 19) (.tmp 143) (by rfl) (by rfl) (by rfl) bt1 (by rfl) (by rfl) (unhide HT1) ?_
                   intro W11 B11 e11
                   have HT2 := hide B11
                   have hlt1 := (unhide HAS0).lts
                   have hge1 := (unhide HAS0).sv.k.size
                   have nt2 := unhide nt1
                   have HAS2 : Hid (AS w leave b b4 b5 b6 r q [E] W11) := by rw [e11]; exact (unhide HAS1).set _ (unhide HT1) (by omega) ⟨by omega, by omega, by omega, by omega⟩
                   clear HAS1 HT1 e11 B11 c19 hlt1 hge1 nt2))
              rw [roundsIn_succ]
              have c19 := fits_cell (unhide HT2) 0 _ rfl
              gi_wp2_with (
                first
                | (refine inVar (.int .i64 0) (.int .i64 0) zero3 (fun w b u h => st3 w b u _ h) 20 (by rfl) wideF (by rfl) (by rfl) (by rfl) (.const (.int .i64 0)) (by rfl) (by rfl) (fun _ => by rfl) (by rfl) (by rfl) (by rfl) ?_
                   intro W8 bn1 en B8 K8
                   have HN1 := hide B8
                   have nbt1 : Hid (bt1 < bn1) := by have := (unhide HT2).lt; show _ < _; omega
                   have HLT := hide (unhide HAS2).lts
                   have HGE := hide (unhide HAS2).sv.k.size
                   have HAS3 := hide ((unhide HAS2).kept K8)
                   have HT3 := hide ((unhide HT2).kept K8 (by simp))
                   have nn1 : Hid (W11.heap.size = bn1) := by show _ = _; omega
                   clear en B8 K8 c19 HAS2 HT2))
              have HNE : Hid (bn1 ≠ b4 ∧ bn1 ≠ b5 ∧ bn1 ≠ b6 ∧ bn1 ≠ q ∧ bn1 ≠ bt1 ∧ w.heap.size ≤ bn1) := by
                have h1 := unhide HLT
                have h2 := unhide nn1
                have h3 := unhide nbt1
                have h4 := unhide HGE
                exact ⟨by omega, by omega, by omega, by omega, by omega, by omega⟩
              have HD1 := hide (unhide HAS3).lts.2.2.2.2
              refine range_turn w b g D leave b4 b5 b6 r q [E] bn1 bt1 1 rfl rfl ((unhide DV).kept (unhide HAS3).sv.k (by simp) (by simp)) (unhide HAS3) (unhide HAS3).lts.2.2.2.2 ⟨rfl, unhide HN1, unhide HT3, fun _ h => by simp at h⟩ ?assign1 ?body1 ?done1 ?exit1
              case assign1 =>
                intro l x W K hK
                simp only [Row.vals, List.zip_toArray, List.zip_cons_cons, List.zip_nil_right, List.foldl_toArray, List.foldl_cons, List.foldl_nil, List.setIfInBounds_toArray, List.set_cons_succ, List.set_cons_zero]
                gi_wp2_with (
                  first
                  | (refine inNew row38 (u8s nought) (sec_u8 nought_sec) zero38 22 (by rfl) (fun _ => trivial) (by rfl) (by rfl) (by rfl) (.tmp 146) (by rfl) (by rfl) (fun _ => by rfl) (by rfl) (u8s x.s) (sec_u8 x.h) (u8s_one _) (by rfl) (by rfl) ?_
                     intro W9 bx ex BX KX
                     have HBX := hide BX
                     have HKX := hide KX
                     clear ex BX KX)
                  | fail)
                refine hK _ _ bx (unhide HKX) (unhide HBX) ?_
                simp only [ax, List.setIfInBounds_toArray, List.set_cons_succ, List.set_cons_zero]
              case body1 =>
                intro l pre x bx W hS hV hbx hlt
                simp only [ax, List.setIfInBounds_toArray, List.set_cons_succ, List.set_cons_zero]
                by_cases hx1 : x.i = pre.length
                · by_cases hx2 : x.s = D.S[pre.length]
                  · have HX1 := hide hx1
                    have HX2 := hide hx2
                    clear hx2
                    gi_wp2
                    refine wpIn_region_any (by kernel_rfl) (anyIn_of_any (by rintro ⟨a, w, h⟩; exact h) (noDeferA (by kernel_rfl)) _ _ _ _ (wpAny_tq 23 rfl (by kernel_rfl) [some (.int .i64 x.i), some (.int .i64 pre.length), some (.bool false), some (.bool false), some (.int .i64 pre.length), some (P0 r), some (P0 r), some (.pointer (some ⟨r, 0, none⟩)), some (.slice (some ⟨sg, 0, none⟩) D.S.length cap), some (.int .i64 D.S.length), some (.bool false), some (.bool false), some (.bool false), some (aggV (u8s x.s)), some (P0 r), some (P0 r), some (.pointer (some ⟨r, 0, none⟩)), some (.slice (some ⟨sg, 0, none⟩) D.S.length cap), some (.int .i64 pre.length), some (.pointer (some ⟨sg, pre.length * 64, none⟩)), some (aggV (u8s D.S[pre.length])), some (.bool false), some (.bool false)] rfl (by kernel_rfl) (by kernel_rfl) ?_ ?_))
                    · intro i o' hi hsk ho a' w2 hout hin hk2
                      replace hk2 : Kept [] W w2 := ⟨hk2.os, hk2.tape, hk2.output, hk2.size, hk2.block⟩
                      match i, ho, hsk with
                      | 0, ho, hsk =>
                        obtain rfl := Option.some.inj ho
                        exact wp_move (.tmp 21) rfl _ ((hout 21 (by kernel_rfl)).trans rfl) ⟨_, rfl, tq_is _ _ _ _ rfl, Kept.refl _ _, fun _ _ _ _ _ => trivial⟩
                      | 1, ho, hsk =>
                        obtain rfl := Option.some.inj ho
                        exact o_load3 (.tmp 20) rfl ⟨bn1, 0, none⟩ _ ((hout 20 (by kernel_rfl)).trans rfl) (fits_cell (hV.n.kept hk2 (by simp)) 0 _ rfl) ⟨_, rfl, tq_is _ _ _ _ rfl, Kept.refl _ _, fun _ _ _ _ _ => trivial⟩
                      | 2, ho, hsk =>
                        obtain rfl := Option.some.inj ho
                        have e0 : a'.eval (.tmp 147) = .int .i64 x.i := is_tq (hin 0 147 (by kernel_rfl) (by kernel_rfl)) rfl
                        have e1 : a'.eval (.tmp 148) = .int .i64 pre.length := is_tq (hin 1 148 (by kernel_rfl) (by kernel_rfl)) rfl
                        exact o_neq3v (.tmp 147) (.tmp 148) rfl _ _ true (decide_eq_true (by omega)) e0 e1 ⟨_, rfl, tq_is _ _ _ _ rfl, Kept.refl _ _, fun _ _ _ _ _ => trivial⟩
                      | 3, ho, hsk =>
                        obtain rfl := Option.some.inj ho
                        have e0 : a'.eval (.tmp 149) = .bool false := is_tq (hin 2 149 (by kernel_rfl) (by kernel_rfl)) rfl
                        exact wp_move (.tmp 149) rfl _ e0 ⟨_, rfl, tq_is _ _ _ _ rfl, Kept.refl _ _, fun _ _ _ _ _ => trivial⟩
                      | 4, ho, hsk =>
                        obtain rfl := Option.some.inj ho
                        exact o_load3 (.tmp 20) rfl ⟨bn1, 0, none⟩ _ ((hout 20 (by kernel_rfl)).trans rfl) (fits_cell (hV.n.kept hk2 (by simp)) 0 _ rfl) ⟨_, rfl, tq_is _ _ _ _ rfl, Kept.refl _ _, fun _ _ _ _ _ => trivial⟩
                      | 5, ho, hsk =>
                        obtain rfl := Option.some.inj ho
                        exact o_load28 (.tmp 4) rfl ⟨b4, 0, none⟩ _ ((hout 4 (by kernel_rfl)).trans rfl) (fits_cell (hS.sv.r4.kept hk2 (by simp)) 0 _ rfl) ⟨_, rfl, tq_is _ _ _ _ rfl, Kept.refl _ _, fun _ _ _ _ _ => trivial⟩
                      | 6, ho, hsk =>
                        obtain rfl := Option.some.inj ho
                        have e0 : a'.eval (.tmp 152) = P0 r := is_tq (hin 5 152 (by kernel_rfl) (by kernel_rfl)) rfl
                        exact o_nil (.tmp 152) rfl _ e0 ⟨_, rfl, tq_is _ _ _ _ rfl, Kept.refl _ _, fun _ _ _ _ _ => trivial⟩
                      | 7, ho, hsk =>
                        obtain rfl := Option.some.inj ho
                        have e0 : a'.eval (.tmp 153) = P0 r := is_tq (hin 6 153 (by kernel_rfl) (by kernel_rfl)) rfl
                        exact o_fld51_0 (.tmp 153) rfl r e0 ⟨_, rfl, tq_is _ _ _ _ rfl, Kept.refl _ _, fun _ _ _ _ _ => trivial⟩
                      | 8, ho, hsk =>
                        obtain rfl := Option.some.inj ho
                        have e0 : a'.eval (.tmp 154) = .pointer (some ⟨r, 0, none⟩) := is_tq (hin 7 154 (by kernel_rfl) (by kernel_rfl)) rfl
                        exact o_load36 (.tmp 154) rfl ⟨r, 0, none⟩ _ e0 ((hS.sv.k.trans hk2).cell (unhide C0) (by simp)) ⟨_, rfl, tq_is _ _ _ _ rfl, Kept.refl _ _, fun _ _ _ _ _ => trivial⟩
                      | 9, ho, hsk =>
                        obtain rfl := Option.some.inj ho
                        have e0 : a'.eval (.tmp 155) = .slice (some ⟨sg, 0, none⟩) D.S.length cap := is_tq (hin 8 155 (by kernel_rfl) (by kernel_rfl)) rfl
                        exact o_len36 155 rfl _ _ _ e0 ⟨_, rfl, tq_is _ _ _ _ rfl, Kept.refl _ _, fun _ _ _ _ _ => trivial⟩
                      | 10, ho, hsk =>
                        obtain rfl := Option.some.inj ho
                        have e0 : a'.eval (.tmp 151) = .int .i64 pre.length := is_tq (hin 4 151 (by kernel_rfl) (by kernel_rfl)) rfl
                        have e1 : a'.eval (.tmp 156) = .int .i64 D.S.length := is_tq (hin 9 156 (by kernel_rfl) (by kernel_rfl)) rfl
                        exact o_geq3v (.tmp 151) (.tmp 156) rfl _ _ false (decide_eq_false (by omega)) e0 e1 ⟨_, rfl, tq_is _ _ _ _ rfl, Kept.refl _ _, fun _ _ _ _ _ => trivial⟩
                      | 11, ho, hsk =>
                        obtain rfl := Option.some.inj ho
                        have e0 : a'.eval (.tmp 150) = .bool false := is_tq (hin 3 150 (by kernel_rfl) (by kernel_rfl)) rfl
                        have e1 : a'.eval (.tmp 157) = .bool false := is_tq (hin 10 157 (by kernel_rfl) (by kernel_rfl)) rfl
                        exact o_pickOr0 (.tmp 150) (.tmp 157) rfl _ e0 e1 ⟨_, rfl, tq_is _ _ _ _ rfl, Kept.refl _ _, fun _ _ _ _ _ => trivial⟩
                      | 12, ho, hsk =>
                        obtain rfl := Option.some.inj ho
                        have e0 : a'.eval (.tmp 158) = .bool false := is_tq (hin 11 158 (by kernel_rfl) (by kernel_rfl)) rfl
                        exact wp_move (.tmp 158) rfl _ e0 ⟨_, rfl, tq_is _ _ _ _ rfl, Kept.refl _ _, fun _ _ _ _ _ => trivial⟩
                      | 13, ho, hsk =>
                        obtain rfl := Option.some.inj ho
                        exact wp_loadA row38 (.tmp 22) rfl bx 0 ((hout 22 (by kernel_rfl)).trans rfl) (u8s x.s) (sec_u8 x.h) (hbx.kept hk2 (by simp)).range ⟨_, rfl, tq_is _ _ _ _ rfl, Kept.refl _ _, fun _ _ _ _ _ => trivial⟩
                      | 14, ho, hsk =>
                        obtain rfl := Option.some.inj ho
                        exact o_load28 (.tmp 4) rfl ⟨b4, 0, none⟩ _ ((hout 4 (by kernel_rfl)).trans rfl) (fits_cell (hS.sv.r4.kept hk2 (by simp)) 0 _ rfl) ⟨_, rfl, tq_is _ _ _ _ rfl, Kept.refl _ _, fun _ _ _ _ _ => trivial⟩
                      | 15, ho, hsk =>
                        obtain rfl := Option.some.inj ho
                        have e0 : a'.eval (.tmp 161) = P0 r := is_tq (hin 14 161 (by kernel_rfl) (by kernel_rfl)) rfl
                        exact o_nil (.tmp 161) rfl _ e0 ⟨_, rfl, tq_is _ _ _ _ rfl, Kept.refl _ _, fun _ _ _ _ _ => trivial⟩
                      | 16, ho, hsk =>
                        obtain rfl := Option.some.inj ho
                        have e0 : a'.eval (.tmp 162) = P0 r := is_tq (hin 15 162 (by kernel_rfl) (by kernel_rfl)) rfl
                        exact o_fld51_0 (.tmp 162) rfl r e0 ⟨_, rfl, tq_is _ _ _ _ rfl, Kept.refl _ _, fun _ _ _ _ _ => trivial⟩
                      | 17, ho, hsk =>
                        obtain rfl := Option.some.inj ho
                        have e0 : a'.eval (.tmp 163) = .pointer (some ⟨r, 0, none⟩) := is_tq (hin 16 163 (by kernel_rfl) (by kernel_rfl)) rfl
                        exact o_load36 (.tmp 163) rfl ⟨r, 0, none⟩ _ e0 ((hS.sv.k.trans hk2).cell (unhide C0) (by simp)) ⟨_, rfl, tq_is _ _ _ _ rfl, Kept.refl _ _, fun _ _ _ _ _ => trivial⟩
                      | 18, ho, hsk =>
                        obtain rfl := Option.some.inj ho
                        exact o_load3 (.tmp 20) rfl ⟨bn1, 0, none⟩ _ ((hout 20 (by kernel_rfl)).trans rfl) (fits_cell (hV.n.kept hk2 (by simp)) 0 _ rfl) ⟨_, rfl, tq_is _ _ _ _ rfl, Kept.refl _ _, fun _ _ _ _ _ => trivial⟩
                      | 19, ho, hsk =>
                        obtain rfl := Option.some.inj ho
                        have e0 : a'.eval (.tmp 164) = .slice (some ⟨sg, 0, none⟩) D.S.length cap := is_tq (hin 17 164 (by kernel_rfl) (by kernel_rfl)) rfl
                        have e1 : a'.eval (.tmp 165) = .int .i64 pre.length := is_tq (hin 18 165 (by kernel_rfl) (by kernel_rfl)) rfl
                        exact o_idx36 (.tmp 164) (.tmp 165) rfl sg D.S.length cap pre.length hlt e0 e1 ⟨_, rfl, tq_is _ _ _ _ rfl, Kept.refl _ _, fun _ _ _ _ _ => trivial⟩
                      | 20, ho, hsk =>
                        obtain rfl := Option.some.inj ho
                        have e0 : a'.eval (.tmp 166) = .pointer (some ⟨sg, pre.length * 64, none⟩) := is_tq (hin 19 166 (by kernel_rfl) (by kernel_rfl)) rfl
                        exact wp_loadA row38 (.tmp 166) rfl sg (pre.length * 64) e0 (u8s D.S[pre.length]) (sec_u8 (hok.sec _ (List.getElem_mem hlt))) (((unhide RV).kept (hS.sv.k.trans hk2) (by simp) (by simp) (by simp)).sector pre.length hlt).2.1 ⟨_, rfl, tq_is _ _ _ _ rfl, Kept.refl _ _, fun _ _ _ _ _ => trivial⟩
                      | 21, ho, hsk =>
                        obtain rfl := Option.some.inj ho
                        have e0 : a'.eval (.tmp 160) = aggV (u8s x.s) := is_tq (hin 13 160 (by kernel_rfl) (by kernel_rfl)) rfl
                        have e1 : a'.eval (.tmp 167) = aggV (u8s D.S[pre.length]) := is_tq (hin 20 167 (by kernel_rfl) (by kernel_rfl)) rfl
                        exact o_neqS (.tmp 160) (.tmp 167) rfl x.s D.S[pre.length] x.h (hok.sec _ (List.getElem_mem hlt)) true (by rw [decide_eq_true_eq]; exact unhide HX2) e0 e1 ⟨_, rfl, tq_is _ _ _ _ rfl, Kept.refl _ _, fun _ _ _ _ _ => trivial⟩
                      | 22, ho, hsk =>
                        obtain rfl := Option.some.inj ho
                        have e0 : a'.eval (.tmp 159) = .bool false := is_tq (hin 12 159 (by kernel_rfl) (by kernel_rfl)) rfl
                        have e1 : a'.eval (.tmp 168) = .bool false := is_tq (hin 21 168 (by kernel_rfl) (by kernel_rfl)) rfl
                        exact o_pickOr0 (.tmp 159) (.tmp 168) rfl _ e0 e1 ⟨_, rfl, tq_is _ _ _ _ rfl, Kept.refl _ _, fun _ _ _ _ _ => trivial⟩
                    intro w9 hk9
                    replace hk9 : Kept [] W w9 := ⟨hk9.os, hk9.tape, hk9.output, hk9.size, hk9.block⟩
                    simp only [valsQ, List.map_cons, List.map_nil, Option.getD_some, List.take_succ_cons, List.take_zero, putAll, Act.put, List.setIfInBounds_toArray, List.set_cons_succ, List.set_cons_zero]
                    refine wpAny_done (by kernel_rfl) ?_ _
                    have hS3 := hide (hS.kept hk9)
                    have hV3 := hide (hV.kept hk9)
                    have hK3 := hide hk9
                    have c20 := fits_cell (unhide hV3).n 0 _ rfl
                    have c19 := fits_cell (unhide hV3).t 0 _ rfl
                    have c5 := fits_cell (unhide hS3).sv.l5 0 _ rfl
                    clear hS hV hk9 hbx hx1
                    gi_wp2_with (
                      first
                      | (refine inStore1 (.int .i64 pre.length) (.int .i64 ((pre.length : Int) + 1)) (fun w b u h => st3 w b u _ h) (fun _ => trivial) (by rfl) (.tmp 20) (.tmp 171) (by rfl) (by rfl) (by rfl) bn1 (by rfl) (by rfl) (unhide hV3).n ?_
                         intro W9 B9 e9
                         clear c19 c20 c5
                         have c20 := fits_cell B9 0 _ rfl
                         have c19 : W9.cell? ⟨bt1, 0, none⟩ = some (.int .i64 1) := by rw [e9]; exact fits_cell ((unhide hV3).t.set_other (by have := unhide HNE; omega) _) 0 _ rfl
                         have c5 : W9.cell? ⟨b5, 0, none⟩ = some (.int .i64 leave) := by rw [e9]; exact fits_cell ((unhide hS3).sv.l5.set_other (by have := unhide HNE; omega) _) 0 _ rfl
                         have HE := hide e9
                         clear e9 B9)
                      | fail)
                    have e9 := unhide HE
                    have ne := unhide HNE
                    have hS9 : AS w leave b b4 b5 b6 r q [E] W9 := by rw [e9]; exact (unhide hS3).set _ (unhide hV3).n ne.2.2.2.2.2 ⟨ne.1, ne.2.1, ne.2.2.1, ne.2.2.2.1⟩
                    have hn9 : Blk W9 bn1 3 [.int .i64 ((pre ++ [x]).length : Nat)] := by
                      rw [e9, List.length_append]
                      exact (unhide hV3).n.one _
                    have ht9 : Blk W9 bt1 3 [.int .i64 1] := by rw [e9]; exact (unhide hV3).t.set_other (by omega) _
                    have hl9 : ((pre ++ [x]).length : Int) = (pre.length : Int) + 1 := by simp
                    have hkf : ∀ B, KeepsFrom B W W9 := fun B => by rw [e9]; exact keepsFrom_set (unhide hK3) (unhide hV3).n _
                    have hr9 := row_right (unhide hV3).rng hlt (unhide HX1) (unhide HX2)
                    exact ⟨hkf _, by rw [e9]; exact KeptC.setCell (KeptC.of_kept (unhide hK3)) (unhide hV3).n (by decide) _, hS9, ⟨hr9, hn9, ht9, fun h => by cases h⟩⟩
                  · have hng : Hid (¬ pre ++ [x] = rows D.S hok.sec (pre ++ [x]).length) := row_wrong hlt (fun h => hx2 h.2)
                    have HX2 := hide hx2
                    clear hx2
                    gi_wp2
                    refine wpIn_region_any (by kernel_rfl) (anyIn_of_any (by rintro ⟨a, w, h⟩; exact h) (noDeferA (by kernel_rfl)) _ _ _ _ (wpAny_tq 23 rfl (by kernel_rfl) [some (.int .i64 x.i), some (.int .i64 pre.length), some (.bool false), some (.bool false), some (.int .i64 pre.length), some (P0 r), some (P0 r), some (.pointer (some ⟨r, 0, none⟩)), some (.slice (some ⟨sg, 0, none⟩) D.S.length cap), some (.int .i64 D.S.length), some (.bool false), some (.bool false), some (.bool false), some (aggV (u8s x.s)), some (P0 r), some (P0 r), some (.pointer (some ⟨r, 0, none⟩)), some (.slice (some ⟨sg, 0, none⟩) D.S.length cap), some (.int .i64 pre.length), some (.pointer (some ⟨sg, pre.length * 64, none⟩)), some (aggV (u8s D.S[pre.length])), some (.bool true), some (.bool true)] rfl (by kernel_rfl) (by kernel_rfl) ?_ ?_))
                    · intro i o' hi hsk ho a' w2 hout hin hk2
                      replace hk2 : Kept [] W w2 := ⟨hk2.os, hk2.tape, hk2.output, hk2.size, hk2.block⟩
                      match i, ho, hsk with
                      | 0, ho, hsk =>
                        obtain rfl := Option.some.inj ho
                        exact wp_move (.tmp 21) rfl _ ((hout 21 (by kernel_rfl)).trans rfl) ⟨_, rfl, tq_is _ _ _ _ rfl, Kept.refl _ _, fun _ _ _ _ _ => trivial⟩
                      | 1, ho, hsk =>
                        obtain rfl := Option.some.inj ho
                        exact o_load3 (.tmp 20) rfl ⟨bn1, 0, none⟩ _ ((hout 20 (by kernel_rfl)).trans rfl) (fits_cell (hV.n.kept hk2 (by simp)) 0 _ rfl) ⟨_, rfl, tq_is _ _ _ _ rfl, Kept.refl _ _, fun _ _ _ _ _ => trivial⟩
                      | 2, ho, hsk =>
                        obtain rfl := Option.some.inj ho
                        have e0 : a'.eval (.tmp 147) = .int .i64 x.i := is_tq (hin 0 147 (by kernel_rfl) (by kernel_rfl)) rfl
                        have e1 : a'.eval (.tmp 148) = .int .i64 pre.length := is_tq (hin 1 148 (by kernel_rfl) (by kernel_rfl)) rfl
                        exact o_neq3v (.tmp 147) (.tmp 148) rfl _ _ true (decide_eq_true (by omega)) e0 e1 ⟨_, rfl, tq_is _ _ _ _ rfl, Kept.refl _ _, fun _ _ _ _ _ => trivial⟩
                      | 3, ho, hsk =>
                        obtain rfl := Option.some.inj ho
                        have e0 : a'.eval (.tmp 149) = .bool false := is_tq (hin 2 149 (by kernel_rfl) (by kernel_rfl)) rfl
                        exact wp_move (.tmp 149) rfl _ e0 ⟨_, rfl, tq_is _ _ _ _ rfl, Kept.refl _ _, fun _ _ _ _ _ => trivial⟩
                      | 4, ho, hsk =>
                        obtain rfl := Option.some.inj ho
                        exact o_load3 (.tmp 20) rfl ⟨bn1, 0, none⟩ _ ((hout 20 (by kernel_rfl)).trans rfl) (fits_cell (hV.n.kept hk2 (by simp)) 0 _ rfl) ⟨_, rfl, tq_is _ _ _ _ rfl, Kept.refl _ _, fun _ _ _ _ _ => trivial⟩
                      | 5, ho, hsk =>
                        obtain rfl := Option.some.inj ho
                        exact o_load28 (.tmp 4) rfl ⟨b4, 0, none⟩ _ ((hout 4 (by kernel_rfl)).trans rfl) (fits_cell (hS.sv.r4.kept hk2 (by simp)) 0 _ rfl) ⟨_, rfl, tq_is _ _ _ _ rfl, Kept.refl _ _, fun _ _ _ _ _ => trivial⟩
                      | 6, ho, hsk =>
                        obtain rfl := Option.some.inj ho
                        have e0 : a'.eval (.tmp 152) = P0 r := is_tq (hin 5 152 (by kernel_rfl) (by kernel_rfl)) rfl
                        exact o_nil (.tmp 152) rfl _ e0 ⟨_, rfl, tq_is _ _ _ _ rfl, Kept.refl _ _, fun _ _ _ _ _ => trivial⟩
                      | 7, ho, hsk =>
                        obtain rfl := Option.some.inj ho
                        have e0 : a'.eval (.tmp 153) = P0 r := is_tq (hin 6 153 (by kernel_rfl) (by kernel_rfl)) rfl
                        exact o_fld51_0 (.tmp 153) rfl r e0 ⟨_, rfl, tq_is _ _ _ _ rfl, Kept.refl _ _, fun _ _ _ _ _ => trivial⟩
                      | 8, ho, hsk =>
                        obtain rfl := Option.some.inj ho
                        have e0 : a'.eval (.tmp 154) = .pointer (some ⟨r, 0, none⟩) := is_tq (hin 7 154 (by kernel_rfl) (by kernel_rfl)) rfl
                        exact o_load36 (.tmp 154) rfl ⟨r, 0, none⟩ _ e0 ((hS.sv.k.trans hk2).cell (unhide C0) (by simp)) ⟨_, rfl, tq_is _ _ _ _ rfl, Kept.refl _ _, fun _ _ _ _ _ => trivial⟩
                      | 9, ho, hsk =>
                        obtain rfl := Option.some.inj ho
                        have e0 : a'.eval (.tmp 155) = .slice (some ⟨sg, 0, none⟩) D.S.length cap := is_tq (hin 8 155 (by kernel_rfl) (by kernel_rfl)) rfl
                        exact o_len36 155 rfl _ _ _ e0 ⟨_, rfl, tq_is _ _ _ _ rfl, Kept.refl _ _, fun _ _ _ _ _ => trivial⟩
                      | 10, ho, hsk =>
                        obtain rfl := Option.some.inj ho
                        have e0 : a'.eval (.tmp 151) = .int .i64 pre.length := is_tq (hin 4 151 (by kernel_rfl) (by kernel_rfl)) rfl
                        have e1 : a'.eval (.tmp 156) = .int .i64 D.S.length := is_tq (hin 9 156 (by kernel_rfl) (by kernel_rfl)) rfl
                        exact o_geq3v (.tmp 151) (.tmp 156) rfl _ _ false (decide_eq_false (by omega)) e0 e1 ⟨_, rfl, tq_is _ _ _ _ rfl, Kept.refl _ _, fun _ _ _ _ _ => trivial⟩
                      | 11, ho, hsk =>
                        obtain rfl := Option.some.inj ho
                        have e0 : a'.eval (.tmp 150) = .bool false := is_tq (hin 3 150 (by kernel_rfl) (by kernel_rfl)) rfl
                        have e1 : a'.eval (.tmp 157) = .bool false := is_tq (hin 10 157 (by kernel_rfl) (by kernel_rfl)) rfl
                        exact o_pickOr0 (.tmp 150) (.tmp 157) rfl _ e0 e1 ⟨_, rfl, tq_is _ _ _ _ rfl, Kept.refl _ _, fun _ _ _ _ _ => trivial⟩
                      | 12, ho, hsk =>
                        obtain rfl := Option.some.inj ho
                        have e0 : a'.eval (.tmp 158) = .bool false := is_tq (hin 11 158 (by kernel_rfl) (by kernel_rfl)) rfl
                        exact wp_move (.tmp 158) rfl _ e0 ⟨_, rfl, tq_is _ _ _ _ rfl, Kept.refl _ _, fun _ _ _ _ _ => trivial⟩
                      | 13, ho, hsk =>
                        obtain rfl := Option.some.inj ho
                        exact wp_loadA row38 (.tmp 22) rfl bx 0 ((hout 22 (by kernel_rfl)).trans rfl) (u8s x.s) (sec_u8 x.h) (hbx.kept hk2 (by simp)).range ⟨_, rfl, tq_is _ _ _ _ rfl, Kept.refl _ _, fun _ _ _ _ _ => trivial⟩
                      | 14, ho, hsk =>
                        obtain rfl := Option.some.inj ho
                        exact o_load28 (.tmp 4) rfl ⟨b4, 0, none⟩ _ ((hout 4 (by kernel_rfl)).trans rfl) (fits_cell (hS.sv.r4.kept hk2 (by simp)) 0 _ rfl) ⟨_, rfl, tq_is _ _ _ _ rfl, Kept.refl _ _, fun _ _ _ _ _ => trivial⟩
                      | 15, ho, hsk =>
                        obtain rfl := Option.some.inj ho
                        have e0 : a'.eval (.tmp 161) = P0 r := is_tq (hin 14 161 (by kernel_rfl) (by kernel_rfl)) rfl
                        exact o_nil (.tmp 161) rfl _ e0 ⟨_, rfl, tq_is _ _ _ _ rfl, Kept.refl _ _, fun _ _ _ _ _ => trivial⟩
                      | 16, ho, hsk =>
                        obtain rfl := Option.some.inj ho
                        have e0 : a'.eval (.tmp 162) = P0 r := is_tq (hin 15 162 (by kernel_rfl) (by kernel_rfl)) rfl
                        exact o_fld51_0 (.tmp 162) rfl r e0 ⟨_, rfl, tq_is _ _ _ _ rfl, Kept.refl _ _, fun _ _ _ _ _ => trivial⟩
                      | 17, ho, hsk =>
                        obtain rfl := Option.some.inj ho
                        have e0 : a'.eval (.tmp 163) = .pointer (some ⟨r, 0, none⟩) := is_tq (hin 16 163 (by kernel_rfl) (by kernel_rfl)) rfl
                        exact o_load36 (.tmp 163) rfl ⟨r, 0, none⟩ _ e0 ((hS.sv.k.trans hk2).cell (unhide C0) (by simp)) ⟨_, rfl, tq_is _ _ _ _ rfl, Kept.refl _ _, fun _ _ _ _ _ => trivial⟩
                      | 18, ho, hsk =>
                        obtain rfl := Option.some.inj ho
                        exact o_load3 (.tmp 20) rfl ⟨bn1, 0, none⟩ _ ((hout 20 (by kernel_rfl)).trans rfl) (fits_cell (hV.n.kept hk2 (by simp)) 0 _ rfl) ⟨_, rfl, tq_is _ _ _ _ rfl, Kept.refl _ _, fun _ _ _ _ _ => trivial⟩
                      | 19, ho, hsk =>
                        obtain rfl := Option.some.inj ho
                        have e0 : a'.eval (.tmp 164) = .slice (some ⟨sg, 0, none⟩) D.S.length cap := is_tq (hin 17 164 (by kernel_rfl) (by kernel_rfl)) rfl
                        have e1 : a'.eval (.tmp 165) = .int .i64 pre.length := is_tq (hin 18 165 (by kernel_rfl) (by kernel_rfl)) rfl
                        exact o_idx36 (.tmp 164) (.tmp 165) rfl sg D.S.length cap pre.length hlt e0 e1 ⟨_, rfl, tq_is _ _ _ _ rfl, Kept.refl _ _, fun _ _ _ _ _ => trivial⟩
                      | 20, ho, hsk =>
                        obtain rfl := Option.some.inj ho
                        have e0 : a'.eval (.tmp 166) = .pointer (some ⟨sg, pre.length * 64, none⟩) := is_tq (hin 19 166 (by kernel_rfl) (by kernel_rfl)) rfl
                        exact wp_loadA row38 (.tmp 166) rfl sg (pre.length * 64) e0 (u8s D.S[pre.length]) (sec_u8 (hok.sec _ (List.getElem_mem hlt))) (((unhide RV).kept (hS.sv.k.trans hk2) (by simp) (by simp) (by simp)).sector pre.length hlt).2.1 ⟨_, rfl, tq_is _ _ _ _ rfl, Kept.refl _ _, fun _ _ _ _ _ => trivial⟩
                      | 21, ho, hsk =>
                        obtain rfl := Option.some.inj ho
                        have e0 : a'.eval (.tmp 160) = aggV (u8s x.s) := is_tq (hin 13 160 (by kernel_rfl) (by kernel_rfl)) rfl
                        have e1 : a'.eval (.tmp 167) = aggV (u8s D.S[pre.length]) := is_tq (hin 20 167 (by kernel_rfl) (by kernel_rfl)) rfl
                        exact o_neqS (.tmp 160) (.tmp 167) rfl x.s D.S[pre.length] x.h (hok.sec _ (List.getElem_mem hlt)) false (by rw [decide_eq_false_iff_not]; exact unhide HX2) e0 e1 ⟨_, rfl, tq_is _ _ _ _ rfl, Kept.refl _ _, fun _ _ _ _ _ => trivial⟩
                      | 22, ho, hsk =>
                        obtain rfl := Option.some.inj ho
                        have e0 : a'.eval (.tmp 159) = .bool false := is_tq (hin 12 159 (by kernel_rfl) (by kernel_rfl)) rfl
                        have e1 : a'.eval (.tmp 168) = .bool true := is_tq (hin 21 168 (by kernel_rfl) (by kernel_rfl)) rfl
                        exact o_pickOr0 (.tmp 159) (.tmp 168) rfl _ e0 e1 ⟨_, rfl, tq_is _ _ _ _ rfl, Kept.refl _ _, fun _ _ _ _ _ => trivial⟩
                    intro w9 hk9
                    replace hk9 : Kept [] W w9 := ⟨hk9.os, hk9.tape, hk9.output, hk9.size, hk9.block⟩
                    simp only [valsQ, List.map_cons, List.map_nil, Option.getD_some, List.take_succ_cons, List.take_zero, putAll, Act.put, List.setIfInBounds_toArray, List.set_cons_succ, List.set_cons_zero]
                    refine wpAny_done (by kernel_rfl) ?_ _
                    have hS3 := hide (hS.kept hk9)
                    have hK3 := hide hk9
                    clear hS hV hk9 hbx
                    gi_wp2_with (
                      first
                      | (refine inStore1 (.bool false) (.bool false) (fun w b u h => st4 w b u _ h) (fun _ => trivial) (by rfl) (.tmp 6) (.const (.bool false)) (by rfl) (by rfl) (by rfl) b6 (by rfl) (by rfl) (unhide hS3).sv.o6 ?_
                         intro W9 B9 e9
                         have HE := hide e9
                         clear e9 B9)
                      | fail)
                    exact ⟨by rw [unhide HE]; exact keepsFrom_set (unhide hK3) (unhide hS3).sv.o6 _, .inr ⟨rfl, unhide hng⟩⟩
                · have hng : Hid (¬ pre ++ [x] = rows D.S hok.sec (pre ++ [x]).length) := row_wrong hlt (fun h => hx1 h.1)
                  gi_wp2
                  refine wpIn_region_any (by kernel_rfl) (anyIn_of_any (by rintro ⟨a, w, h⟩; exact h) (noDeferA (by kernel_rfl)) _ _ _ _ (wpAny_tq 23 rfl (by kernel_rfl) [some (.int .i64 x.i), some (.int .i64 pre.length), some (.bool true), some (.bool true), none, none, none, none, none, none, none, some (.bool true), some (.bool true), none, none, none, none, none, none, none, none, none, some (.bool true)] rfl (by kernel_rfl) (by kernel_rfl) ?_ ?_))
                  · intro i o' hi hsk ho a' w2 hout hin hk2
                    replace hk2 : Kept [] W w2 := ⟨hk2.os, hk2.tape, hk2.output, hk2.size, hk2.block⟩
                    match i, ho, hsk with
                    | 0, ho, hsk =>
                      obtain rfl := Option.some.inj ho
                      exact wp_move (.tmp 21) rfl _ ((hout 21 (by kernel_rfl)).trans rfl) ⟨_, rfl, tq_is _ _ _ _ rfl, Kept.refl _ _, fun _ _ _ _ _ => trivial⟩
                    | 1, ho, hsk =>
                      obtain rfl := Option.some.inj ho
                      exact o_load3 (.tmp 20) rfl ⟨bn1, 0, none⟩ _ ((hout 20 (by kernel_rfl)).trans rfl) (fits_cell (hV.n.kept hk2 (by simp)) 0 _ rfl) ⟨_, rfl, tq_is _ _ _ _ rfl, Kept.refl _ _, fun _ _ _ _ _ => trivial⟩
                    | 2, ho, hsk =>
                      obtain rfl := Option.some.inj ho
                      have e0 : a'.eval (.tmp 147) = .int .i64 x.i := is_tq (hin 0 147 (by kernel_rfl) (by kernel_rfl)) rfl
                      have e1 : a'.eval (.tmp 148) = .int .i64 pre.length := is_tq (hin 1 148 (by kernel_rfl) (by kernel_rfl)) rfl
                      exact o_neq3v (.tmp 147) (.tmp 148) rfl _ _ false (decide_eq_false (by omega)) e0 e1 ⟨_, rfl, tq_is _ _ _ _ rfl, Kept.refl _ _, fun _ _ _ _ _ => trivial⟩
                    | 3, ho, hsk =>
                      obtain rfl := Option.some.inj ho
                      have e0 : a'.eval (.tmp 149) = .bool true := is_tq (hin 2 149 (by kernel_rfl) (by kernel_rfl)) rfl
                      exact wp_move (.tmp 149) rfl _ e0 ⟨_, rfl, tq_is _ _ _ _ rfl, Kept.refl _ _, fun _ _ _ _ _ => trivial⟩
                    | 4, ho, hsk =>
                      cases hsk
                    | 5, ho, hsk =>
                      cases hsk
                    | 6, ho, hsk =>
                      cases hsk
                    | 7, ho, hsk =>
                      cases hsk
                    | 8, ho, hsk =>
                      cases hsk
                    | 9, ho, hsk =>
                      cases hsk
                    | 10, ho, hsk =>
                      cases hsk
                    | 11, ho, hsk =>
                      obtain rfl := Option.some.inj ho
                      have e0 : a'.eval (.tmp 150) = .bool true := is_tq (hin 3 150 (by kernel_rfl) (by kernel_rfl)) rfl
                      exact o_pickOrT (.tmp 150) (.tmp 157) rfl e0 ⟨_, rfl, tq_is _ _ _ _ rfl, Kept.refl _ _, fun _ _ _ _ _ => trivial⟩
                    | 12, ho, hsk =>
                      obtain rfl := Option.some.inj ho
                      have e0 : a'.eval (.tmp 158) = .bool true := is_tq (hin 11 158 (by kernel_rfl) (by kernel_rfl)) rfl
                      exact wp_move (.tmp 158) rfl _ e0 ⟨_, rfl, tq_is _ _ _ _ rfl, Kept.refl _ _, fun _ _ _ _ _ => trivial⟩
                    | 13, ho, hsk =>
                      cases hsk
                    | 14, ho, hsk =>
                      cases hsk
                    | 15, ho, hsk =>
                      cases hsk
                    | 16, ho, hsk =>
                      cases hsk
                    | 17, ho, hsk =>
                      cases hsk
                    | 18, ho, hsk =>
                      cases hsk
                    | 19, ho, hsk =>
                      cases hsk
                    | 20, ho, hsk =>
                      cases hsk
                    | 21, ho, hsk =>
                      cases hsk
                    | 22, ho, hsk =>
                      obtain rfl := Option.some.inj ho
                      have e0 : a'.eval (.tmp 159) = .bool true := is_tq (hin 12 159 (by kernel_rfl) (by kernel_rfl)) rfl
                      exact o_pickOrT (.tmp 159) (.tmp 168) rfl e0 ⟨_, rfl, tq_is _ _ _ _ rfl, Kept.refl _ _, fun _ _ _ _ _ => trivial⟩
                  intro w9 hk9
                  replace hk9 : Kept [] W w9 := ⟨hk9.os, hk9.tape, hk9.output, hk9.size, hk9.block⟩
                  simp only [valsQ, List.map_cons, List.map_nil, Option.getD_some, Option.getD_none, List.take_succ_cons, List.take_zero, putAll, Act.put, List.setIfInBounds_toArray, List.set_cons_succ, List.set_cons_zero]
                  refine wpAny_done (by kernel_rfl) ?_ _
                  have hS3 := hide (hS.kept hk9)
                  have hK3 := hide hk9
                  clear hS hV hk9 hbx
                  gi_wp2_with (
                    first
                    | (refine inStore1 (.bool false) (.bool false) (fun w b u h => st4 w b u _ h) (fun _ => trivial) (by rfl) (.tmp 6) (.const (.bool false)) (by rfl) (by rfl) (by rfl) b6 (by rfl) (by rfl) (unhide hS3).sv.o6 ?_
                       intro W9 B9 e9
                       have HE := hide e9
                       clear e9 B9)
                    | fail)
                  exact ⟨by rw [unhide HE]; exact keepsFrom_set (unhide hK3) (unhide hS3).sv.o6 _, .inr ⟨rfl, unhide hng⟩⟩
              case done1 =>
                intro E2 n2 W hE2 hS hn ht hnN2 hor2 hK
                obtain rfl : n2 = D.S.length := by omega
                have hDw2 : w.heap.size ≤ E2 := by have := (unhide HAS3).sv.k.size; omega
                have hDD : Hid (E ≠ E2) := by have := unhide HD1 E (by simp); show _ ≠ _; omega
                gi_wp2
                refine wpIn_wide.2 ?_
                refine wp_region_any mixed (wpAny_tq 29 rfl (by kernel_rfl) [some (.int .i64 1), some (.bool true), some (.bool true), some (.int .i64 D.S.length), some (P0 r), some (P0 r), some (.pointer (some ⟨r, 0, none⟩)), some (.slice (some ⟨sg, 0, none⟩) D.S.length cap), some (.int .i64 D.S.length), some (.bool false), some (.bool false), some (.bool false), some (.int .i64 1), some (.bool false), some (.bool false), none, none, none, none, none, none, none, some (.bool false), some (.bool false), none, none, none, some (.bool false), some (.bool false)] rfl (by kernel_rfl) (by kernel_rfl) ?_ ?_)
                · intro i o' hi hsk ho a' w2 hout hin hk2
                  replace hk2 : Kept [] W w2 := ⟨hk2.os, hk2.tape, hk2.output, hk2.size, hk2.block⟩
                  match i, ho, hsk with
                  | 0, ho, hsk =>
                    obtain rfl := Option.some.inj ho
                    exact o_load3 (.tmp 19) rfl ⟨bt1, 0, none⟩ _ ((hout 19 (by kernel_rfl)).trans rfl) (fits_cell (ht.kept hk2 (by simp)) 0 _ rfl) ⟨_, rfl, tq_is _ _ _ _ rfl, Kept.refl _ _, fun _ _ _ _ _ => trivial⟩
                  | 1, ho, hsk =>
                    obtain rfl := Option.some.inj ho
                    have e0 : a'.eval (.tmp 179) = .int .i64 1 := is_tq (hin 0 179 (by kernel_rfl) (by kernel_rfl)) rfl
                    exact o_eql3 (.tmp 179) 1 rfl _ true (by simp) e0 ⟨_, rfl, tq_is _ _ _ _ rfl, Kept.refl _ _, fun _ _ _ _ _ => trivial⟩
                  | 2, ho, hsk =>
                    obtain rfl := Option.some.inj ho
                    have e0 : a'.eval (.tmp 180) = .bool true := is_tq (hin 1 180 (by kernel_rfl) (by kernel_rfl)) rfl
                    exact wp_move (.tmp 180) rfl _ e0 ⟨_, rfl, tq_is _ _ _ _ rfl, Kept.refl _ _, fun _ _ _ _ _ => trivial⟩
                  | 3, ho, hsk =>
                    obtain rfl := Option.some.inj ho
                    exact o_load3 (.tmp 20) rfl ⟨bn1, 0, none⟩ _ ((hout 20 (by kernel_rfl)).trans rfl) (fits_cell (hn.kept hk2 (by simp)) 0 _ rfl) ⟨_, rfl, tq_is _ _ _ _ rfl, Kept.refl _ _, fun _ _ _ _ _ => trivial⟩
                  | 4, ho, hsk =>
                    obtain rfl := Option.some.inj ho
                    exact o_load28 (.tmp 4) rfl ⟨b4, 0, none⟩ _ ((hout 4 (by kernel_rfl)).trans rfl) (fits_cell (hS.sv.r4.kept hk2 (by simp)) 0 _ rfl) ⟨_, rfl, tq_is _ _ _ _ rfl, Kept.refl _ _, fun _ _ _ _ _ => trivial⟩
                  | 5, ho, hsk =>
                    obtain rfl := Option.some.inj ho
                    have e0 : a'.eval (.tmp 183) = P0 r := is_tq (hin 4 183 (by kernel_rfl) (by kernel_rfl)) rfl
                    exact o_nil (.tmp 183) rfl _ e0 ⟨_, rfl, tq_is _ _ _ _ rfl, Kept.refl _ _, fun _ _ _ _ _ => trivial⟩
                  | 6, ho, hsk =>
                    obtain rfl := Option.some.inj ho
                    have e0 : a'.eval (.tmp 184) = P0 r := is_tq (hin 5 184 (by kernel_rfl) (by kernel_rfl)) rfl
                    exact o_fld51_0 (.tmp 184) rfl r e0 ⟨_, rfl, tq_is _ _ _ _ rfl, Kept.refl _ _, fun _ _ _ _ _ => trivial⟩
                  | 7, ho, hsk =>
                    obtain rfl := Option.some.inj ho
                    have e0 : a'.eval (.tmp 185) = .pointer (some ⟨r, 0, none⟩) := is_tq (hin 6 185 (by kernel_rfl) (by kernel_rfl)) rfl
                    exact o_load36 (.tmp 185) rfl ⟨r, 0, none⟩ _ e0 ((hS.sv.k.trans hk2).cell (unhide C0) (by simp)) ⟨_, rfl, tq_is _ _ _ _ rfl, Kept.refl _ _, fun _ _ _ _ _ => trivial⟩
                  | 8, ho, hsk =>
                    obtain rfl := Option.some.inj ho
                    have e0 : a'.eval (.tmp 186) = .slice (some ⟨sg, 0, none⟩) D.S.length cap := is_tq (hin 7 186 (by kernel_rfl) (by kernel_rfl)) rfl
                    exact o_len36 186 rfl _ _ _ e0 ⟨_, rfl, tq_is _ _ _ _ rfl, Kept.refl _ _, fun _ _ _ _ _ => trivial⟩
                  | 9, ho, hsk =>
                    obtain rfl := Option.some.inj ho
                    have e0 : a'.eval (.tmp 182) = .int .i64 D.S.length := is_tq (hin 3 182 (by kernel_rfl) (by kernel_rfl)) rfl
                    have e1 : a'.eval (.tmp 187) = .int .i64 D.S.length := is_tq (hin 8 187 (by kernel_rfl) (by kernel_rfl)) rfl
                    exact o_neq3v (.tmp 182) (.tmp 187) rfl _ _ true (by simp) e0 e1 ⟨_, rfl, tq_is _ _ _ _ rfl, Kept.refl _ _, fun _ _ _ _ _ => trivial⟩
                  | 10, ho, hsk =>
                    obtain rfl := Option.some.inj ho
                    have e0 : a'.eval (.tmp 181) = .bool true := is_tq (hin 2 181 (by kernel_rfl) (by kernel_rfl)) rfl
                    have e1 : a'.eval (.tmp 188) = .bool false := is_tq (hin 9 188 (by kernel_rfl) (by kernel_rfl)) rfl
                    exact o_pick (.tmp 181) (.tmp 188) rfl _ e0 e1 ⟨_, rfl, tq_is _ _ _ _ rfl, Kept.refl _ _, fun _ _ _ _ _ => trivial⟩
                  | 11, ho, hsk =>
                    obtain rfl := Option.some.inj ho
                    have e0 : a'.eval (.tmp 189) = .bool false := is_tq (hin 10 189 (by kernel_rfl) (by kernel_rfl)) rfl
                    exact wp_move (.tmp 189) rfl _ e0 ⟨_, rfl, tq_is _ _ _ _ rfl, Kept.refl _ _, fun _ _ _ _ _ => trivial⟩
                  | 12, ho, hsk =>
                    obtain rfl := Option.some.inj ho
                    exact o_load3 (.tmp 19) rfl ⟨bt1, 0, none⟩ _ ((hout 19 (by kernel_rfl)).trans rfl) (fits_cell (ht.kept hk2 (by simp)) 0 _ rfl) ⟨_, rfl, tq_is _ _ _ _ rfl, Kept.refl _ _, fun _ _ _ _ _ => trivial⟩
                  | 13, ho, hsk =>
                    obtain rfl := Option.some.inj ho
                    have e0 : a'.eval (.tmp 191) = .int .i64 1 := is_tq (hin 12 191 (by kernel_rfl) (by kernel_rfl)) rfl
                    exact o_eql3 (.tmp 191) 0 rfl _ false (by simp) e0 ⟨_, rfl, tq_is _ _ _ _ rfl, Kept.refl _ _, fun _ _ _ _ _ => trivial⟩
                  | 14, ho, hsk =>
                    obtain rfl := Option.some.inj ho
                    have e0 : a'.eval (.tmp 192) = .bool false := is_tq (hin 13 192 (by kernel_rfl) (by kernel_rfl)) rfl
                    exact wp_move (.tmp 192) rfl _ e0 ⟨_, rfl, tq_is _ _ _ _ rfl, Kept.refl _ _, fun _ _ _ _ _ => trivial⟩
                  | 15, ho, hsk =>
                    cases hsk
                  | 16, ho, hsk =>
                    cases hsk
                  | 17, ho, hsk =>
                    cases hsk
                  | 18, ho, hsk =>
                    cases hsk
                  | 19, ho, hsk =>
                    cases hsk
                  | 20, ho, hsk =>
                    cases hsk
                  | 21, ho, hsk =>
                    cases hsk
                  | 22, ho, hsk =>
                    obtain rfl := Option.some.inj ho
                    have e0 : a'.eval (.tmp 193) = .bool false := is_tq (hin 14 193 (by kernel_rfl) (by kernel_rfl)) rfl
                    exact o_pickN (.tmp 193) (.tmp 200) rfl e0 ⟨_, rfl, tq_is _ _ _ _ rfl, Kept.refl _ _, fun _ _ _ _ _ => trivial⟩
                  | 23, ho, hsk =>
                    obtain rfl := Option.some.inj ho
                    have e0 : a'.eval (.tmp 201) = .bool false := is_tq (hin 22 201 (by kernel_rfl) (by kernel_rfl)) rfl
                    exact wp_move (.tmp 201) rfl _ e0 ⟨_, rfl, tq_is _ _ _ _ rfl, Kept.refl _ _, fun _ _ _ _ _ => trivial⟩
                  | 24, ho, hsk =>
                    cases hsk
                  | 25, ho, hsk =>
                    cases hsk
                  | 26, ho, hsk =>
                    cases hsk
                  | 27, ho, hsk =>
                    obtain rfl := Option.some.inj ho
                    have e0 : a'.eval (.tmp 202) = .bool false := is_tq (hin 23 202 (by kernel_rfl) (by kernel_rfl)) rfl
                    exact o_pickN (.tmp 202) (.tmp 205) rfl e0 ⟨_, rfl, tq_is _ _ _ _ rfl, Kept.refl _ _, fun _ _ _ _ _ => trivial⟩
                  | 28, ho, hsk =>
                    obtain rfl := Option.some.inj ho
                    have e0 : a'.eval (.tmp 190) = .bool false := is_tq (hin 11 190 (by kernel_rfl) (by kernel_rfl)) rfl
                    have e1 : a'.eval (.tmp 206) = .bool false := is_tq (hin 27 206 (by kernel_rfl) (by kernel_rfl)) rfl
                    exact o_pickOr0 (.tmp 190) (.tmp 206) rfl _ e0 e1 ⟨_, rfl, tq_is _ _ _ _ rfl, Kept.refl _ _, fun _ _ _ _ _ => trivial⟩
                intro w9 hk9
                replace hk9 : Kept [] W w9 := ⟨hk9.os, hk9.tape, hk9.output, hk9.size, hk9.block⟩
                simp only [valsQ, List.map_cons, List.map_nil, Option.getD_some, Option.getD_none, List.take_succ_cons, List.take_zero, putAll, Act.put, List.setIfInBounds_toArray, List.set_cons_succ, List.set_cons_zero]
                refine wpAny_done (by kernel_rfl) ?_ _
                have HAS0 := hide ((hS.kept hk9).mark hDw2 (hk9.heap hK (by simp)))
                have c19 := fits_cell (ht.kept hk9 (by simp)) 0 _ rfl
                clear hK hS hn ht hk9 HAS3 HT3 HN1 HNE HLT HGE nt1 nn1 nbt1 hE2 HD1
                gi_wp2_with (
                  first
                  | (refine inVar (.int .i64 0) (.int .i64 1) zero3 (fun w b u h => st3 w b u _ h) 19 (by rfl) wideF (by rfl) (by rfl) (by rfl) (.tmp 208) (by rfl) (by rfl) (fun _ => by rfl) (by rfl) (by rfl) (by rfl) ?_
                     intro W10 bt2 et B10 K10
                     have HT1 := hide B10
                     have HAS1 := hide ((unhide HAS0).kept K10)
                     have nt1 : Hid (w9.heap.size = bt2) := by show _ = _; omega
                     clear et K10 c19
                     have c19 := fits_cell B10 0 _ rfl
                     clear B10
                     refine Stp.go ?_))
                constructor
                gi_wp2_with (
                  first
                  | (refine inStore1 (.int .i64 1) (.int .i64 2) (fun w b u h => st3 w b u _ h) wideF (by rfl) (.tmp 19) (.tmp 143) (by rfl) (by rfl) (by rfl) bt2 (by rfl) (by rfl) (unhide HT1) ?_
                     intro W11 B11 e11
                     have HT2 := hide B11
                     have hlt1 := (unhide HAS0).lts
                     have hge1 := (unhide HAS0).sv.k.size
                     have nt2 := unhide nt1
                     have HAS2 : Hid (AS w leave b b4 b5 b6 r q [E2, E] W11) := by rw [e11]; exact (unhide HAS1).set _ (unhide HT1) (by omega) ⟨by omega, by omega, by omega, by omega⟩
                     clear HAS1 HT1 e11 B11 c19 hlt1 hge1 nt2))
                rw [roundsIn_succ]
                have c19 := fits_cell (unhide HT2) 0 _ rfl
                gi_wp2
                refine (wpIn_wide (n := 3)).1 ?_
                gi_wp2_with (
                  first
                  | (refine inStore1 (.bool false) (.bool true) (fun w b u h => st4 w b u _ h) wideF (by rfl) (.tmp 6) (.const (.bool true)) (by rfl) (by rfl) (by rfl) b6 (by rfl) (by rfl) (unhide HAS2).sv.o6 ?_
                     intro W14 B14 e14
                     have HB14 := hide B14
                     have HE14 := hide e14
                     clear B14 e14)
                  | fail)
                have hA := unhide HAS2
                have hEE := unhide HE14
                have hD1 := hA.d E (by simp)
                have hD2 := hA.d E2 (by simp)
                have s1 : ∀ X : Nat, W11.heap[X]? = some (Obj.deferred (some [])) → W14.heap[X]? = some (Obj.deferred (some [])) := by
                  intro X h
                  have hne2 : X ≠ b6 := by intro e; subst e; rw [hA.sv.o6] at h; cases h
                  rw [hEE, Below.heap_setCell _ _ _ _ (by simpa using hne2)]; exact h
                exact all_leaves rfl (unhide HB14) (by rw [hEE]; exact hA.sv.k.setCell (p := ⟨b6, 0, none⟩) (by have := hA.sv.ge; simp; omega) _) (s1 _ hD2.2) (s1 _ hD1.2) (unhide hDD) hD2.1 hD1.1
              case exit1 =>
                intro a W h
                exact wpIn_exit h
            · have hlv3 : (n : Int) = leave := by omega
              gi_wp2
              refine wpIn_wide.2 ?_
              refine wp_region_any mixed (wpAny_tq 29 rfl (by kernel_rfl) [some (.int .i64 0), some (.bool false), some (.bool false), none, none, none, none, none, none, none, some (.bool false), some (.bool false), some (.int .i64 0), some (.bool true), some (.bool true), some (.int .i64 n), some (P0 r), some (P0 r), some (.pointer (some ⟨r, 0, none⟩)), some (.slice (some ⟨sg, 0, none⟩) D.S.length cap), some (.int .i64 D.S.length), some (.bool true), some (.bool true), some (.bool true), some (.int .i64 n), some (.int .i64 leave), some (.bool false), some (.bool false), some (.bool false)] rfl (by kernel_rfl) (by kernel_rfl) ?_ ?_)
              · intro i o' hi hsk ho a' w2 hout hin hk2
                replace hk2 : Kept [] W w2 := ⟨hk2.os, hk2.tape, hk2.output, hk2.size, hk2.block⟩
                match i, ho, hsk with
                | 0, ho, hsk =>
                  obtain rfl := Option.some.inj ho
                  exact o_load3 (.tmp 19) rfl ⟨bt, 0, none⟩ _ ((hout 19 (by kernel_rfl)).trans rfl) (fits_cell (ht.kept hk2 (by simp)) 0 _ rfl) ⟨_, rfl, tq_is _ _ _ _ rfl, Kept.refl _ _, fun _ _ _ _ _ => trivial⟩
                | 1, ho, hsk =>
                  obtain rfl := Option.some.inj ho
                  have e0 : a'.eval (.tmp 179) = .int .i64 0 := is_tq (hin 0 179 (by kernel_rfl) (by kernel_rfl)) rfl
                  exact o_eql3 (.tmp 179) 1 rfl _ false (by simp) e0 ⟨_, rfl, tq_is _ _ _ _ rfl, Kept.refl _ _, fun _ _ _ _ _ => trivial⟩
                | 2, ho, hsk =>
                  obtain rfl := Option.some.inj ho
                  have e0 : a'.eval (.tmp 180) = .bool false := is_tq (hin 1 180 (by kernel_rfl) (by kernel_rfl)) rfl
                  exact wp_move (.tmp 180) rfl _ e0 ⟨_, rfl, tq_is _ _ _ _ rfl, Kept.refl _ _, fun _ _ _ _ _ => trivial⟩
                | 3, ho, hsk =>
                  cases hsk
                | 4, ho, hsk =>
                  cases hsk
                | 5, ho, hsk =>
                  cases hsk
                | 6, ho, hsk =>
                  cases hsk
                | 7, ho, hsk =>
                  cases hsk
                | 8, ho, hsk =>
                  cases hsk
                | 9, ho, hsk =>
                  cases hsk
                | 10, ho, hsk =>
                  obtain rfl := Option.some.inj ho
                  have e0 : a'.eval (.tmp 181) = .bool false := is_tq (hin 2 181 (by kernel_rfl) (by kernel_rfl)) rfl
                  exact o_pickN (.tmp 181) (.tmp 188) rfl e0 ⟨_, rfl, tq_is _ _ _ _ rfl, Kept.refl _ _, fun _ _ _ _ _ => trivial⟩
                | 11, ho, hsk =>
                  obtain rfl := Option.some.inj ho
                  have e0 : a'.eval (.tmp 189) = .bool false := is_tq (hin 10 189 (by kernel_rfl) (by kernel_rfl)) rfl
                  exact wp_move (.tmp 189) rfl _ e0 ⟨_, rfl, tq_is _ _ _ _ rfl, Kept.refl _ _, fun _ _ _ _ _ => trivial⟩
                | 12, ho, hsk =>
                  obtain rfl := Option.some.inj ho
                  exact o_load3 (.tmp 19) rfl ⟨bt, 0, none⟩ _ ((hout 19 (by kernel_rfl)).trans rfl) (fits_cell (ht.kept hk2 (by simp)) 0 _ rfl) ⟨_, rfl, tq_is _ _ _ _ rfl, Kept.refl _ _, fun _ _ _ _ _ => trivial⟩
                | 13, ho, hsk =>
                  obtain rfl := Option.some.inj ho
                  have e0 : a'.eval (.tmp 191) = .int .i64 0 := is_tq (hin 12 191 (by kernel_rfl) (by kernel_rfl)) rfl
                  exact o_eql3 (.tmp 191) 0 rfl _ true (by simp) e0 ⟨_, rfl, tq_is _ _ _ _ rfl, Kept.refl _ _, fun _ _ _ _ _ => trivial⟩
                | 14, ho, hsk =>
                  obtain rfl := Option.some.inj ho
                  have e0 : a'.eval (.tmp 192) = .bool true := is_tq (hin 13 192 (by kernel_rfl) (by kernel_rfl)) rfl
                  exact wp_move (.tmp 192) rfl _ e0 ⟨_, rfl, tq_is _ _ _ _ rfl, Kept.refl _ _, fun _ _ _ _ _ => trivial⟩
                | 15, ho, hsk =>
                  obtain rfl := Option.some.inj ho
                  exact o_load3 (.tmp 20) rfl ⟨bn, 0, none⟩ _ ((hout 20 (by kernel_rfl)).trans rfl) (fits_cell (hn.kept hk2 (by simp)) 0 _ rfl) ⟨_, rfl, tq_is _ _ _ _ rfl, Kept.refl _ _, fun _ _ _ _ _ => trivial⟩
                | 16, ho, hsk =>
                  obtain rfl := Option.some.inj ho
                  exact o_load28 (.tmp 4) rfl ⟨b4, 0, none⟩ _ ((hout 4 (by kernel_rfl)).trans rfl) (fits_cell (hS.sv.r4.kept hk2 (by simp)) 0 _ rfl) ⟨_, rfl, tq_is _ _ _ _ rfl, Kept.refl _ _, fun _ _ _ _ _ => trivial⟩
                | 17, ho, hsk =>
                  obtain rfl := Option.some.inj ho
                  have e0 : a'.eval (.tmp 195) = P0 r := is_tq (hin 16 195 (by kernel_rfl) (by kernel_rfl)) rfl
                  exact o_nil (.tmp 195) rfl _ e0 ⟨_, rfl, tq_is _ _ _ _ rfl, Kept.refl _ _, fun _ _ _ _ _ => trivial⟩
                | 18, ho, hsk =>
                  obtain rfl := Option.some.inj ho
                  have e0 : a'.eval (.tmp 196) = P0 r := is_tq (hin 17 196 (by kernel_rfl) (by kernel_rfl)) rfl
                  exact o_fld51_0 (.tmp 196) rfl r e0 ⟨_, rfl, tq_is _ _ _ _ rfl, Kept.refl _ _, fun _ _ _ _ _ => trivial⟩
                | 19, ho, hsk =>
                  obtain rfl := Option.some.inj ho
                  have e0 : a'.eval (.tmp 197) = .pointer (some ⟨r, 0, none⟩) := is_tq (hin 18 197 (by kernel_rfl) (by kernel_rfl)) rfl
                  exact o_load36 (.tmp 197) rfl ⟨r, 0, none⟩ _ e0 ((hS.sv.k.trans hk2).cell (unhide C0) (by simp)) ⟨_, rfl, tq_is _ _ _ _ rfl, Kept.refl _ _, fun _ _ _ _ _ => trivial⟩
                | 20, ho, hsk =>
                  obtain rfl := Option.some.inj ho
                  have e0 : a'.eval (.tmp 198) = .slice (some ⟨sg, 0, none⟩) D.S.length cap := is_tq (hin 19 198 (by kernel_rfl) (by kernel_rfl)) rfl
                  exact o_len36 198 rfl _ _ _ e0 ⟨_, rfl, tq_is _ _ _ _ rfl, Kept.refl _ _, fun _ _ _ _ _ => trivial⟩
                | 21, ho, hsk =>
                  obtain rfl := Option.some.inj ho
                  have e0 : a'.eval (.tmp 194) = .int .i64 n := is_tq (hin 15 194 (by kernel_rfl) (by kernel_rfl)) rfl
                  have e1 : a'.eval (.tmp 199) = .int .i64 D.S.length := is_tq (hin 20 199 (by kernel_rfl) (by kernel_rfl)) rfl
                  exact o_neq3v (.tmp 194) (.tmp 199) rfl _ _ false (decide_eq_false (by omega)) e0 e1 ⟨_, rfl, tq_is _ _ _ _ rfl, Kept.refl _ _, fun _ _ _ _ _ => trivial⟩
                | 22, ho, hsk =>
                  obtain rfl := Option.some.inj ho
                  have e0 : a'.eval (.tmp 193) = .bool true := is_tq (hin 14 193 (by kernel_rfl) (by kernel_rfl)) rfl
                  have e1 : a'.eval (.tmp 200) = .bool true := is_tq (hin 21 200 (by kernel_rfl) (by kernel_rfl)) rfl
                  exact o_pick (.tmp 193) (.tmp 200) rfl _ e0 e1 ⟨_, rfl, tq_is _ _ _ _ rfl, Kept.refl _ _, fun _ _ _ _ _ => trivial⟩
                | 23, ho, hsk =>
                  obtain rfl := Option.some.inj ho
                  have e0 : a'.eval (.tmp 201) = .bool true := is_tq (hin 22 201 (by kernel_rfl) (by kernel_rfl)) rfl
                  exact wp_move (.tmp 201) rfl _ e0 ⟨_, rfl, tq_is _ _ _ _ rfl, Kept.refl _ _, fun _ _ _ _ _ => trivial⟩
                | 24, ho, hsk =>
                  obtain rfl := Option.some.inj ho
                  exact o_load3 (.tmp 20) rfl ⟨bn, 0, none⟩ _ ((hout 20 (by kernel_rfl)).trans rfl) (fits_cell (hn.kept hk2 (by simp)) 0 _ rfl) ⟨_, rfl, tq_is _ _ _ _ rfl, Kept.refl _ _, fun _ _ _ _ _ => trivial⟩
                | 25, ho, hsk =>
                  obtain rfl := Option.some.inj ho
                  exact o_load3 (.tmp 5) rfl ⟨b5, 0, none⟩ _ ((hout 5 (by kernel_rfl)).trans rfl) (fits_cell (hS.sv.l5.kept hk2 (by simp)) 0 _ rfl) ⟨_, rfl, tq_is _ _ _ _ rfl, Kept.refl _ _, fun _ _ _ _ _ => trivial⟩
                | 26, ho, hsk =>
                  obtain rfl := Option.some.inj ho
                  have e0 : a'.eval (.tmp 203) = .int .i64 n := is_tq (hin 24 203 (by kernel_rfl) (by kernel_rfl)) rfl
                  have e1 : a'.eval (.tmp 204) = .int .i64 leave := is_tq (hin 25 204 (by kernel_rfl) (by kernel_rfl)) rfl
                  exact o_neq3v (.tmp 203) (.tmp 204) rfl _ _ true (decide_eq_true (by omega)) e0 e1 ⟨_, rfl, tq_is _ _ _ _ rfl, Kept.refl _ _, fun _ _ _ _ _ => trivial⟩
                | 27, ho, hsk =>
                  obtain rfl := Option.some.inj ho
                  have e0 : a'.eval (.tmp 202) = .bool true := is_tq (hin 23 202 (by kernel_rfl) (by kernel_rfl)) rfl
                  have e1 : a'.eval (.tmp 205) = .bool false := is_tq (hin 26 205 (by kernel_rfl) (by kernel_rfl)) rfl
                  exact o_pick (.tmp 202) (.tmp 205) rfl _ e0 e1 ⟨_, rfl, tq_is _ _ _ _ rfl, Kept.refl _ _, fun _ _ _ _ _ => trivial⟩
                | 28, ho, hsk =>
                  obtain rfl := Option.some.inj ho
                  have e0 : a'.eval (.tmp 190) = .bool false := is_tq (hin 11 190 (by kernel_rfl) (by kernel_rfl)) rfl
                  have e1 : a'.eval (.tmp 206) = .bool false := is_tq (hin 27 206 (by kernel_rfl) (by kernel_rfl)) rfl
                  exact o_pickOr0 (.tmp 190) (.tmp 206) rfl _ e0 e1 ⟨_, rfl, tq_is _ _ _ _ rfl, Kept.refl _ _, fun _ _ _ _ _ => trivial⟩
              intro w9 hk9
              replace hk9 : Kept [] W w9 := ⟨hk9.os, hk9.tape, hk9.output, hk9.size, hk9.block⟩
              simp only [valsQ, List.map_cons, List.map_nil, Option.getD_some, Option.getD_none, List.take_succ_cons, List.take_zero, putAll, Act.put, List.setIfInBounds_toArray, List.set_cons_succ, List.set_cons_zero]
              refine wpAny_done (by kernel_rfl) ?_ _
              have HAS0 := hide ((hS.kept hk9).mark hDw (hk9.heap hK (by simp)))
              have c19 := fits_cell (ht.kept hk9 (by simp)) 0 _ rfl
              have hk9s := hide hk9
              clear hK hS hn ht hk9 hk9s
              gi_wp2_with (
                first
                | (refine inVar (.int .i64 0) (.int .i64 0) zero3 (fun w b u h => st3 w b u _ h) 19 (by rfl) wideF (by rfl) (by rfl) (by rfl) (.tmp 208) (by rfl) (by rfl) (fun _ => by rfl) (by rfl) (by rfl) (by rfl) ?_
                   intro W10 bt1 et B10 K10
                   have HT1 := hide B10
                   have HAS1 := hide ((unhide HAS0).kept K10)
                   have nt1 : Hid (w9.heap.size = bt1) := by show _ = _; omega
                   clear et K10 c19
                   have c19 := fits_cell B10 0 _ rfl
                   clear B10
                   refine Stp.go ?_))
              constructor
              gi_wp2_with (
                first
                | (refine inStore1 (.int .i64 0) (.int .i64 1) (fun w b u h => st3 w b u _ h) wideF (by rfl) (.tmp 19) (.tmp 143) (by rfl) (by rfl) (by rfl) bt1 (by rfl) (by rfl) (unhide HT1) ?_
                   intro W11 B11 e11
                   have HT2 := hide B11
                   have hlt1 := (unhide HAS0).lts
                   have hge1 := (unhide HAS0).sv.k.size
                   have nt2 := unhide nt1
                   have HAS2 : Hid (AS w leave b b4 b5 b6 r q [E] W11) := by rw [e11]; exact (unhide HAS1).set _ (unhide HT1) (by omega) ⟨by omega, by omega, by omega, by omega⟩
                   clear HAS1 HT1 e11 B11 c19 hlt1 hge1 nt2))
              rw [roundsIn_succ]
              have c19 := fits_cell (unhide HT2) 0 _ rfl
              gi_wp2_with (
                first
                | (refine inVar (.int .i64 0) (.int .i64 0) zero3 (fun w b u h => st3 w b u _ h) 20 (by rfl) wideF (by rfl) (by rfl) (by rfl) (.const (.int .i64 0)) (by rfl) (by rfl) (fun _ => by rfl) (by rfl) (by rfl) (by rfl) ?_
                   intro W8 bn1 en B8 K8
                   have HN1 := hide B8
                   have nbt1 : Hid (bt1 < bn1) := by have := (unhide HT2).lt; show _ < _; omega
                   have HLT := hide (unhide HAS2).lts
                   have HGE := hide (unhide HAS2).sv.k.size
                   have HAS3 := hide ((unhide HAS2).kept K8)
                   have HT3 := hide ((unhide HT2).kept K8 (by simp))
                   have nn1 : Hid (W11.heap.size = bn1) := by show _ = _; omega
                   clear en B8 K8 c19 HAS2 HT2))
              have HNE : Hid (bn1 ≠ b4 ∧ bn1 ≠ b5 ∧ bn1 ≠ b6 ∧ bn1 ≠ q ∧ bn1 ≠ bt1 ∧ w.heap.size ≤ bn1) := by
                have h1 := unhide HLT
                have h2 := unhide nn1
                have h3 := unhide nbt1
                have h4 := unhide HGE
                exact ⟨by omega, by omega, by omega, by omega, by omega, by omega⟩
              have HD1 := hide (unhide HAS3).lts.2.2.2.2
              refine range_turn w b g D leave b4 b5 b6 r q [E] bn1 bt1 1 rfl rfl ((unhide DV).kept (unhide HAS3).sv.k (by simp) (by simp)) (unhide HAS3) (unhide HAS3).lts.2.2.2.2 ⟨rfl, unhide HN1, unhide HT3, fun _ h => by simp at h⟩ ?assign1 ?body1 ?done1 ?exit1
              case assign1 =>
                intro l x W K hK
                simp only [Row.vals, List.zip_toArray, List.zip_cons_cons, List.zip_nil_right, List.foldl_toArray, List.foldl_cons, List.foldl_nil, List.setIfInBounds_toArray, List.set_cons_succ, List.set_cons_zero]
                gi_wp2_with (
                  first
                  | (refine inNew row38 (u8s nought) (sec_u8 nought_sec) zero38 22 (by rfl) (fun _ => trivial) (by rfl) (by rfl) (by rfl) (.tmp 146) (by rfl) (by rfl) (fun _ => by rfl) (by rfl) (u8s x.s) (sec_u8 x.h) (u8s_one _) (by rfl) (by rfl) ?_
                     intro W9 bx ex BX KX
                     have HBX := hide BX
                     have HKX := hide KX
                     clear ex BX KX)
                  | fail)
                refine hK _ _ bx (unhide HKX) (unhide HBX) ?_
                simp only [ax, List.setIfInBounds_toArray, List.set_cons_succ, List.set_cons_zero]
              case body1 =>
                intro l pre x bx W hS hV hbx hlt
                simp only [ax, List.setIfInBounds_toArray, List.set_cons_succ, List.set_cons_zero]
                by_cases hx1 : x.i = pre.length
                · by_cases hx2 : x.s = D.S[pre.length]
                  · have HX1 := hide hx1
                    have HX2 := hide hx2
                    clear hx2
                    gi_wp2
                    refine wpIn_region_any (by kernel_rfl) (anyIn_of_any (by rintro ⟨a, w, h⟩; exact h) (noDeferA (by kernel_rfl)) _ _ _ _ (wpAny_tq 23 rfl (by kernel_rfl) [some (.int .i64 x.i), some (.int .i64 pre.length), some (.bool false), some (.bool false), some (.int .i64 pre.length), some (P0 r), some (P0 r), some (.pointer (some ⟨r, 0, none⟩)), some (.slice (some ⟨sg, 0, none⟩) D.S.length cap), some (.int .i64 D.S.length), some (.bool false), some (.bool false), some (.bool false), some (aggV (u8s x.s)), some (P0 r), some (P0 r), some (.pointer (some ⟨r, 0, none⟩)), some (.slice (some ⟨sg, 0, none⟩) D.S.length cap), some (.int .i64 pre.length), some (.pointer (some ⟨sg, pre.length * 64, none⟩)), some (aggV (u8s D.S[pre.length])), some (.bool false), some (.bool false)] rfl (by kernel_rfl) (by kernel_rfl) ?_ ?_))
                    · intro i o' hi hsk ho a' w2 hout hin hk2
                      replace hk2 : Kept [] W w2 := ⟨hk2.os, hk2.tape, hk2.output, hk2.size, hk2.block⟩
                      match i, ho, hsk with
                      | 0, ho, hsk =>
                        obtain rfl := Option.some.inj ho
                        exact wp_move (.tmp 21) rfl _ ((hout 21 (by kernel_rfl)).trans rfl) ⟨_, rfl, tq_is _ _ _ _ rfl, Kept.refl _ _, fun _ _ _ _ _ => trivial⟩
                      | 1, ho, hsk =>
                        obtain rfl := Option.some.inj ho
                        exact o_load3 (.tmp 20) rfl ⟨bn1, 0, none⟩ _ ((hout 20 (by kernel_rfl)).trans rfl) (fits_cell (hV.n.kept hk2 (by simp)) 0 _ rfl) ⟨_, rfl, tq_is _ _ _ _ rfl, Kept.refl _ _, fun _ _ _ _ _ => trivial⟩
                      | 2, ho, hsk =>
                        obtain rfl := Option.some.inj ho
                        have e0 : a'.eval (.tmp 147) = .int .i64 x.i := is_tq (hin 0 147 (by kernel_rfl) (by kernel_rfl)) rfl
                        have e1 : a'.eval (.tmp 148) = .int .i64 pre.length := is_tq (hin 1 148 (by kernel_rfl) (by kernel_rfl)) rfl
                        exact o_neq3v (.tmp 147) (.tmp 148) rfl _ _ true (decide_eq_true (by omega)) e0 e1 ⟨_, rfl, tq_is _ _ _ _ rfl, Kept.refl _ _, fun _ _ _ _ _ => trivial⟩
                      | 3, ho, hsk =>
                        obtain rfl := Option.some.inj ho
                        have e0 : a'.eval (.tmp 149) = .bool false := is_tq (hin 2 149 (by kernel_rfl) (by kernel_rfl)) rfl
                        exact wp_move (.tmp 149) rfl _ e0 ⟨_, rfl, tq_is _ _ _ _ rfl, Kept.refl _ _, fun _ _ _ _ _ => trivial⟩
                      | 4, ho, hsk =>
                        obtain rfl := Option.some.inj ho
                        exact o_load3 (.tmp 20) rfl ⟨bn1, 0, none⟩ _ ((hout 20 (by kernel_rfl)).trans rfl) (fits_cell (hV.n.kept hk2 (by simp)) 0 _ rfl) ⟨_, rfl, tq_is _ _ _ _ rfl, Kept.refl _ _, fun _ _ _ _ _ => trivial⟩
                      | 5, ho, hsk =>
                        obtain rfl := Option.some.inj ho
                        exact o_load28 (.tmp 4) rfl ⟨b4, 0, none⟩ _ ((hout 4 (by kernel_rfl)).trans rfl) (fits_cell (hS.sv.r4.kept hk2 (by simp)) 0 _ rfl) ⟨_, rfl, tq_is _ _ _ _ rfl, Kept.refl _ _, fun _ _ _ _ _ => trivial⟩
                      | 6, ho, hsk =>
                        obtain rfl := Option.some.inj ho
                        have e0 : a'.eval (.tmp 152) = P0 r := is_tq (hin 5 152 (by kernel_rfl) (by kernel_rfl)) rfl
                        exact o_nil (.tmp 152) rfl _ e0 ⟨_, rfl, tq_is _ _ _ _ rfl, Kept.refl _ _, fun _ _ _ _ _ => trivial⟩
                      | 7, ho, hsk =>
                        obtain rfl := Option.some.inj ho
                        have e0 : a'.eval (.tmp 153) = P0 r := is_tq (hin 6 153 (by kernel_rfl) (by kernel_rfl)) rfl
                        exact o_fld51_0 (.tmp 153) rfl r e0 ⟨_, rfl, tq_is _ _ _ _ rfl, Kept.refl _ _, fun _ _ _ _ _ => trivial⟩
                      | 8, ho, hsk =>
                        obtain rfl := Option.some.inj ho
                        have e0 : a'.eval (.tmp 154) = .pointer (some ⟨r, 0, none⟩) := is_tq (hin 7 154 (by kernel_rfl) (by kernel_rfl)) rfl
                        exact o_load36 (.tmp 154) rfl ⟨r, 0, none⟩ _ e0 ((hS.sv.k.trans hk2).cell (unhide C0) (by simp)) ⟨_, rfl, tq_is _ _ _ _ rfl, Kept.refl _ _, fun _ _ _ _ _ => trivial⟩
                      | 9, ho, hsk =>
                        obtain rfl := Option.some.inj ho
                        have e0 : a'.eval (.tmp 155) = .slice (some ⟨sg, 0, none⟩) D.S.length cap := is_tq (hin 8 155 (by kernel_rfl) (by kernel_rfl)) rfl
                        exact o_len36 155 rfl _ _ _ e0 ⟨_, rfl, tq_is _ _ _ _ rfl, Kept.refl _ _, fun _ _ _ _ _ => trivial⟩
                      | 10, ho, hsk =>
                        obtain rfl := Option.some.inj ho
                        have e0 : a'.eval (.tmp 151) = .int .i64 pre.length := is_tq (hin 4 151 (by kernel_rfl) (by kernel_rfl)) rfl
                        have e1 : a'.eval (.tmp 156) = .int .i64 D.S.length := is_tq (hin 9 156 (by kernel_rfl) (by kernel_rfl)) rfl
                        exact o_geq3v (.tmp 151) (.tmp 156) rfl _ _ false (decide_eq_false (by omega)) e0 e1 ⟨_, rfl, tq_is _ _ _ _ rfl, Kept.refl _ _, fun _ _ _ _ _ => trivial⟩
                      | 11, ho, hsk =>
                        obtain rfl := Option.some.inj ho
                        have e0 : a'.eval (.tmp 150) = .bool false := is_tq (hin 3 150 (by kernel_rfl) (by kernel_rfl)) rfl
                        have e1 : a'.eval (.tmp 157) = .bool false := is_tq (hin 10 157 (by kernel_rfl) (by kernel_rfl)) rfl
                        exact o_pickOr0 (.tmp 150) (.tmp 157) rfl _ e0 e1 ⟨_, rfl, tq_is _ _ _ _ rfl, Kept.refl _ _, fun _ _ _ _ _ => trivial⟩
                      | 12, ho, hsk =>
                        obtain rfl := Option.some.inj ho
                        have e0 : a'.eval (.tmp 158) = .bool false := is_tq (hin 11 158 (by kernel_rfl) (by kernel_rfl)) rfl
                        exact wp_move (.tmp 158) rfl _ e0 ⟨_, rfl, tq_is _ _ _ _ rfl, Kept.refl _ _, fun _ _ _ _ _ => trivial⟩
                      | 13, ho, hsk =>
                        obtain rfl := Option.some.inj ho
                        exact wp_loadA row38 (.tmp 22) rfl bx 0 ((hout 22 (by kernel_rfl)).trans rfl) (u8s x.s) (sec_u8 x.h) (hbx.kept hk2 (by simp)).range ⟨_, rfl, tq_is _ _ _ _ rfl, Kept.refl _ _, fun _ _ _ _ _ => trivial⟩
                      | 14, ho, hsk =>
                        obtain rfl := Option.some.inj ho
                        exact o_load28 (.tmp 4) rfl ⟨b4, 0, none⟩ _ ((hout 4 (by kernel_rfl)).trans rfl) (fits_cell (hS.sv.r4.kept hk2 (by simp)) 0 _ rfl) ⟨_, rfl, tq_is _ _ _ _ rfl, Kept.refl _ _, fun _ _ _ _ _ => trivial⟩
                      | 15, ho, hsk =>
                        obtain rfl := Option.some.inj ho
                        have e0 : a'.eval (.tmp 161) = P0 r := is_tq (hin 14 161 (by kernel_rfl) (by kernel_rfl)) rfl
                        exact o_nil (.tmp 161) rfl _ e0 ⟨_, rfl, tq_is _ _ _ _ rfl, Kept.refl _ _, fun _ _ _ _ _ => trivial⟩
                      | 16, ho, hsk =>
                        obtain rfl := Option.some.inj ho
                        have e0 : a'.eval (.tmp 162) = P0 r := is_tq (hin 15 162 (by kernel_rfl) (by kernel_rfl)) rfl
                        exact o_fld51_0 (.tmp 162) rfl r e0 ⟨_, rfl, tq_is _ _ _ _ rfl, Kept.refl _ _, fun _ _ _ _ _ => trivial⟩
                      | 17, ho, hsk =>
                        obtain rfl := Option.some.inj ho
                        have e0 : a'.eval (.tmp 163) = .pointer (some ⟨r, 0, none⟩) := is_tq (hin 16 163 (by kernel_rfl) (by kernel_rfl)) rfl
                        exact o_load36 (.tmp 163) rfl ⟨r, 0, none⟩ _ e0 ((hS.sv.k.trans hk2).cell (unhide C0) (by simp)) ⟨_, rfl, tq_is _ _ _ _ rfl, Kept.refl _ _, fun _ _ _ _ _ => trivial⟩
                      | 18, ho, hsk =>
                        obtain rfl := Option.some.inj ho
                        exact o_load3 (.tmp 20) rfl ⟨bn1, 0, none⟩ _ ((hout 20 (by kernel_rfl)).trans rfl) (fits_cell (hV.n.kept hk2 (by simp)) 0 _ rfl) ⟨_, rfl, tq_is _ _ _ _ rfl, Kept.refl _ _, fun _ _ _ _ _ => trivial⟩
                      | 19, ho, hsk =>
                        obtain rfl := Option.some.inj ho
                        have e0 : a'.eval (.tmp 164) = .slice (some ⟨sg, 0, none⟩) D.S.length cap := is_tq (hin 17 164 (by kernel_rfl) (by kernel_rfl)) rfl
                        have e1 : a'.eval (.tmp 165) = .int .i64 pre.length := is_tq (hin 18 165 (by kernel_rfl) (by kernel_rfl)) rfl
                        exact o_idx36 (.tmp 164) (.tmp 165) rfl sg D.S.length cap pre.length hlt e0 e1 ⟨_, rfl, tq_is _ _ _ _ rfl, Kept.refl _ _, fun _ _ _ _ _ => trivial⟩
                      | 20, ho, hsk =>
                        obtain rfl := Option.some.inj ho
                        have e0 : a'.eval (.tmp 166) = .pointer (some ⟨sg, pre.length * 64, none⟩) := is_tq (hin 19 166 (by kernel_rfl) (by kernel_rfl)) rfl
                        exact wp_loadA row38 (.tmp 166) rfl sg (pre.length * 64) e0 (u8s D.S[pre.length]) (sec_u8 (hok.sec _ (List.getElem_mem hlt))) (((unhide RV).kept (hS.sv.k.trans hk2) (by simp) (by simp) (by simp)).sector pre.length hlt).2.1 ⟨_, rfl, tq_is _ _ _ _ rfl, Kept.refl _ _, fun _ _ _ _ _ => trivial⟩
                      | 21, ho, hsk =>
                        obtain rfl := Option.some.inj ho
                        have e0 : a'.eval (.tmp 160) = aggV (u8s x.s) := is_tq (hin 13 160 (by kernel_rfl) (by kernel_rfl)) rfl
                        have e1 : a'.eval (.tmp 167) = aggV (u8s D.S[pre.length]) := is_tq (hin 20 167 (by kernel_rfl) (by kernel_rfl)) rfl
                        exact o_neqS (.tmp 160) (.tmp 167) rfl x.s D.S[pre.length] x.h (hok.sec _ (List.getElem_mem hlt)) true (by rw [decide_eq_true_eq]; exact unhide HX2) e0 e1 ⟨_, rfl, tq_is _ _ _ _ rfl, Kept.refl _ _, fun _ _ _ _ _ => trivial⟩
                      | 22, ho, hsk =>
                        obtain rfl := Option.some.inj ho
                        have e0 : a'.eval (.tmp 159) = .bool false := is_tq (hin 12 159 (by kernel_rfl) (by kernel_rfl)) rfl
                        have e1 : a'.eval (.tmp 168) = .bool false := is_tq (hin 21 168 (by kernel_rfl) (by kernel_rfl)) rfl
                        exact o_pickOr0 (.tmp 159) (.tmp 168) rfl _ e0 e1 ⟨_, rfl, tq_is _ _ _ _ rfl, Kept.refl _ _, fun _ _ _ _ _ => trivial⟩
                    intro w9 hk9
                    replace hk9 : Kept [] W w9 := ⟨hk9.os, hk9.tape, hk9.output, hk9.size, hk9.block⟩
                    simp only [valsQ, List.map_cons, List.map_nil, Option.getD_some, List.take_succ_cons, List.take_zero, putAll, Act.put, List.setIfInBounds_toArray, List.set_cons_succ, List.set_cons_zero]
                    refine wpAny_done (by kernel_rfl) ?_ _
                    have hS3 := hide (hS.kept hk9)
                    have hV3 := hide (hV.kept hk9)
                    have hK3 := hide hk9
                    have c20 := fits_cell (unhide hV3).n 0 _ rfl
                    have c19 := fits_cell (unhide hV3).t 0 _ rfl
                    have c5 := fits_cell (unhide hS3).sv.l5 0 _ rfl
                    clear hS hV hk9 hbx hx1
                    gi_wp2_with (
                      first
                      | (refine inStore1 (.int .i64 pre.length) (.int .i64 ((pre.length : Int) + 1)) (fun w b u h => st3 w b u _ h) (fun _ => trivial) (by rfl) (.tmp 20) (.tmp 171) (by rfl) (by rfl) (by rfl) bn1 (by rfl) (by rfl) (unhide hV3).n ?_
                         intro W9 B9 e9
                         clear c19 c20 c5
                         have c20 := fits_cell B9 0 _ rfl
                         have c19 : W9.cell? ⟨bt1, 0, none⟩ = some (.int .i64 1) := by rw [e9]; exact fits_cell ((unhide hV3).t.set_other (by have := unhide HNE; omega) _) 0 _ rfl
                         have c5 : W9.cell? ⟨b5, 0, none⟩ = some (.int .i64 leave) := by rw [e9]; exact fits_cell ((unhide hS3).sv.l5.set_other (by have := unhide HNE; omega) _) 0 _ rfl
                         have HE := hide e9
                         clear e9 B9)
                      | fail)
                    have e9 := unhide HE
                    have ne := unhide HNE
                    have hS9 : AS w leave b b4 b5 b6 r q [E] W9 := by rw [e9]; exact (unhide hS3).set _ (unhide hV3).n ne.2.2.2.2.2 ⟨ne.1, ne.2.1, ne.2.2.1, ne.2.2.2.1⟩
                    have hn9 : Blk W9 bn1 3 [.int .i64 ((pre ++ [x]).length : Nat)] := by
                      rw [e9, List.length_append]
                      exact (unhide hV3).n.one _
                    have ht9 : Blk W9 bt1 3 [.int .i64 1] := by rw [e9]; exact (unhide hV3).t.set_other (by omega) _
                    have hl9 : ((pre ++ [x]).length : Int) = (pre.length : Int) + 1 := by simp
                    have hkf : ∀ B, KeepsFrom B W W9 := fun B => by rw [e9]; exact keepsFrom_set (unhide hK3) (unhide hV3).n _
                    have hr9 := row_right (unhide hV3).rng hlt (unhide HX1) (unhide HX2)
                    exact ⟨hkf _, by rw [e9]; exact KeptC.setCell (KeptC.of_kept (unhide hK3)) (unhide hV3).n (by decide) _, hS9, ⟨hr9, hn9, ht9, fun h => by cases h⟩⟩
                  · have hng : Hid (¬ pre ++ [x] = rows D.S hok.sec (pre ++ [x]).length) := row_wrong hlt (fun h => hx2 h.2)
                    have HX2 := hide hx2
                    clear hx2
                    gi_wp2
                    refine wpIn_region_any (by kernel_rfl) (anyIn_of_any (by rintro ⟨a, w, h⟩; exact h) (noDeferA (by kernel_rfl)) _ _ _ _ (wpAny_tq 23 rfl (by kernel_rfl) [some (.int .i64 x.i), some (.int .i64 pre.length), some (.bool false), some (.bool false), some (.int .i64 pre.length), some (P0 r), some (P0 r), some (.pointer (some ⟨r, 0, none⟩)), some (.slice (some ⟨sg, 0, none⟩) D.S.length cap), some (.int .i64 D.S.length), some (.bool false), some (.bool false), some (.bool false), some (aggV (u8s x.s)), some (P0 r), some (P0 r), some (.pointer (some ⟨r, 0, none⟩)), some (.slice (some ⟨sg, 0, none⟩) D.S.length cap), some (.int .i64 pre.length), some (.pointer (some ⟨sg, pre.length * 64, none⟩)), some (aggV (u8s D.S[pre.length])), some (.bool true), some (.bool true)] rfl (by kernel_rfl) (by kernel_rfl) ?_ ?_))
                    · intro i o' hi hsk ho a' w2 hout hin hk2
                      replace hk2 : Kept [] W w2 := ⟨hk2.os, hk2.tape, hk2.output, hk2.size, hk2.block⟩
                      match i, ho, hsk with
                      | 0, ho, hsk =>
                        obtain rfl := Option.some.inj ho
                        exact wp_move (.tmp 21) rfl _ ((hout 21 (by kernel_rfl)).trans rfl) ⟨_, rfl, tq_is _ _ _ _ rfl, Kept.refl _ _, fun _ _ _ _ _ => trivial⟩
                      | 1, ho, hsk =>
                        obtain rfl := Option.some.inj ho
                        exact o_load3 (.tmp 20) rfl ⟨bn1, 0, none⟩ _ ((hout 20 (by kernel_rfl)).trans rfl) (fits_cell (hV.n.kept hk2 (by simp)) 0 _ rfl) ⟨_, rfl, tq_is _ _ _ _ rfl, Kept.refl _ _, fun _ _ _ _ _ => trivial⟩
                      | 2, ho, hsk =>
                        obtain rfl := Option.some.inj ho
                        have e0 : a'.eval (.tmp 147) = .int .i64 x.i := is_tq (hin 0 147 (by kernel_rfl) (by kernel_rfl)) rfl
                        have e1 : a'.eval (.tmp 148) = .int .i64 pre.length := is_tq (hin 1 148 (by kernel_rfl) (by kernel_rfl)) rfl
                        exact o_neq3v (.tmp 147) (.tmp 148) rfl _ _ true (decide_eq_true (by omega)) e0 e1 ⟨_, rfl, tq_is _ _ _ _ rfl, Kept.refl _ _, fun _ _ _ _ _ => trivial⟩
                      | 3, ho, hsk =>
                        obtain rfl := Option.some.inj ho
                        have e0 : a'.eval (.tmp 149) = .bool false := is_tq (hin 2 149 (by kernel_rfl) (by kernel_rfl)) rfl
                        exact wp_move (.tmp 149) rfl _ e0 ⟨_, rfl, tq_is _ _ _ _ rfl, Kept.refl _ _, fun _ _ _ _ _ => trivial⟩
                      | 4, ho, hsk =>
                        obtain rfl := Option.some.inj ho
                        exact o_load3 (.tmp 20) rfl ⟨bn1, 0, none⟩ _ ((hout 20 (by kernel_rfl)).trans rfl) (fits_cell (hV.n.kept hk2 (by simp)) 0 _ rfl) ⟨_, rfl, tq_is _ _ _ _ rfl, Kept.refl _ _, fun _ _ _ _ _ => trivial⟩
                      | 5, ho, hsk =>
                        obtain rfl := Option.some.inj ho
                        exact o_load28 (.tmp 4) rfl ⟨b4, 0, none⟩ _ ((hout 4 (by kernel_rfl)).trans rfl) (fits_cell (hS.sv.r4.kept hk2 (by simp)) 0 _ rfl) ⟨_, rfl, tq_is _ _ _ _ rfl, Kept.refl _ _, fun _ _ _ _ _ => trivial⟩
                      | 6, ho, hsk =>
                        obtain rfl := Option.some.inj ho
                        have e0 : a'.eval (.tmp 152) = P0 r := is_tq (hin 5 152 (by kernel_rfl) (by kernel_rfl)) rfl
                        exact o_nil (.tmp 152) rfl _ e0 ⟨_, rfl, tq_is _ _ _ _ rfl, Kept.refl _ _, fun _ _ _ _ _ => trivial⟩
                      | 7, ho, hsk =>
                        obtain rfl := Option.some.inj ho
                        have e0 : a'.eval (.tmp 153) = P0 r := is_tq (hin 6 153 (by kernel_rfl) (by kernel_rfl)) rfl
                        exact o_fld51_0 (.tmp 153) rfl r e0 ⟨_, rfl, tq_is _ _ _ _ rfl, Kept.refl _ _, fun _ _ _ _ _ => trivial⟩
                      | 8, ho, hsk =>
                        obtain rfl := Option.some.inj ho
                        have e0 : a'.eval (.tmp 154) = .pointer (some ⟨r, 0, none⟩) := is_tq (hin 7 154 (by kernel_rfl) (by kernel_rfl)) rfl
                        exact o_load36 (.tmp 154) rfl ⟨r, 0, none⟩ _ e0 ((hS.sv.k.trans hk2).cell (unhide C0) (by simp)) ⟨_, rfl, tq_is _ _ _ _ rfl, Kept.refl _ _, fun _ _ _ _ _ => trivial⟩
                      | 9, ho, hsk =>
                        obtain rfl := Option.some.inj ho
                        have e0 : a'.eval (.tmp 155) = .slice (some ⟨sg, 0, none⟩) D.S.length cap := is_tq (hin 8 155 (by kernel_rfl) (by kernel_rfl)) rfl
                        exact o_len36 155 rfl _ _ _ e0 ⟨_, rfl, tq_is _ _ _ _ rfl, Kept.refl _ _, fun _ _ _ _ _ => trivial⟩
                      | 10, ho, hsk =>
                        obtain rfl := Option.some.inj ho
                        have e0 : a'.eval (.tmp 151) = .int .i64 pre.length := is_tq (hin 4 151 (by kernel_rfl) (by kernel_rfl)) rfl
                        have e1 : a'.eval (.tmp 156) = .int .i64 D.S.length := is_tq (hin 9 156 (by kernel_rfl) (by kernel_rfl)) rfl
                        exact o_geq3v (.tmp 151) (.tmp 156) rfl _ _ false (decide_eq_false (by omega)) e0 e1 ⟨_, rfl, tq_is _ _ _ _ rfl, Kept.refl _ _, fun _ _ _ _ _ => trivial⟩
                      | 11, ho, hsk =>
                        obtain rfl := Option.some.inj ho
                        have e0 : a'.eval (.tmp 150) = .bool false := is_tq (hin 3 150 (by kernel_rfl) (by kernel_rfl)) rfl
                        have e1 : a'.eval (.tmp 157) = .bool false := is_tq (hin 10 157 (by kernel_rfl) (by kernel_rfl)) rfl
                        exact o_pickOr0 (.tmp 150) (.tmp 157) rfl _ e0 e1 ⟨_, rfl, tq_is _ _ _ _ rfl, Kept.refl _ _, fun _ _ _ _ _ => trivial⟩
                      | 12, ho, hsk =>
                        obtain rfl := Option.some.inj ho
                        have e0 : a'.eval (.tmp 158) = .bool false := is_tq (hin 11 158 (by kernel_rfl) (by kernel_rfl)) rfl
                        exact wp_move (.tmp 158) rfl _ e0 ⟨_, rfl, tq_is _ _ _ _ rfl, Kept.refl _ _, fun _ _ _ _ _ => trivial⟩
                      | 13, ho, hsk =>
                        obtain rfl := Option.some.inj ho
                        exact wp_loadA row38 (.tmp 22) rfl bx 0 ((hout 22 (by kernel_rfl)).trans rfl) (u8s x.s) (sec_u8 x.h) (hbx.kept hk2 (by simp)).range ⟨_, rfl, tq_is _ _ _ _ rfl, Kept.refl _ _, fun _ _ _ _ _ => trivial⟩
                      | 14, ho, hsk =>
                        obtain rfl := Option.some.inj ho
                        exact o_load28 (.tmp 4) rfl ⟨b4, 0, none⟩ _ ((hout 4 (by kernel_rfl)).trans rfl) (fits_cell (hS.sv.r4.kept hk2 (by simp)) 0 _ rfl) ⟨_, rfl, tq_is _ _ _ _ rfl, Kept.refl _ _, fun _ _ _ _ _ => trivial⟩
                      | 15, ho, hsk =>
                        obtain rfl := Option.some.inj ho
                        have e0 : a'.eval (.tmp 161) = P0 r := is_tq (hin 14 161 (by kernel_rfl) (by kernel_rfl)) rfl
                        exact o_nil (.tmp 161) rfl _ e0 ⟨_, rfl, tq_is _ _ _ _ rfl, Kept.refl _ _, fun _ _ _ _ _ => trivial⟩
                      | 16, ho, hsk =>
                        obtain rfl := Option.some.inj ho
                        have e0 : a'.eval (.tmp 162) = P0 r := is_tq (hin 15 162 (by kernel_rfl) (by kernel_rfl)) rfl
                        exact o_fld51_0 (.tmp 162) rfl r e0 ⟨_, rfl, tq_is _ _ _ _ rfl, Kept.refl _ _, fun _ _ _ _ _ => trivial⟩
                      | 17, ho, hsk =>
                        obtain rfl := Option.some.inj ho
                        have e0 : a'.eval (.tmp 163) = .pointer (some ⟨r, 0, none⟩) := is_tq (hin 16 163 (by kernel_rfl) (by kernel_rfl)) rfl
                        exact o_load36 (.tmp 163) rfl ⟨r, 0, none⟩ _ e0 ((hS.sv.k.trans hk2).cell (unhide C0) (by simp)) ⟨_, rfl, tq_is _ _ _ _ rfl, Kept.refl _ _, fun _ _ _ _ _ => trivial⟩
                      | 18, ho, hsk =>
                        obtain rfl := Option.some.inj ho
                        exact o_load3 (.tmp 20) rfl ⟨bn1, 0, none⟩ _ ((hout 20 (by kernel_rfl)).trans rfl) (fits_cell (hV.n.kept hk2 (by simp)) 0 _ rfl) ⟨_, rfl, tq_is _ _ _ _ rfl, Kept.refl _ _, fun _ _ _ _ _ => trivial⟩
                      | 19, ho, hsk =>
                        obtain rfl := Option.some.inj ho
                        have e0 : a'.eval (.tmp 164) = .slice (some ⟨sg, 0, none⟩) D.S.length cap := is_tq (hin 17 164 (by kernel_rfl) (by kernel_rfl)) rfl
                        have e1 : a'.eval (.tmp 165) = .int .i64 pre.length := is_tq (hin 18 165 (by kernel_rfl) (by kernel_rfl)) rfl
                        exact o_idx36 (.tmp 164) (.tmp 165) rfl sg D.S.length cap pre.length hlt e0 e1 ⟨_, rfl, tq_is _ _ _ _ rfl, Kept.refl _ _, fun _ _ _ _ _ => trivial⟩
                      | 20, ho, hsk =>
                        obtain rfl := Option.some.inj ho
                        have e0 : a'.eval (.tmp 166) = .pointer (some ⟨sg, pre.length * 64, none⟩) := is_tq (hin 19 166 (by kernel_rfl) (by kernel_rfl)) rfl
                        exact wp_loadA row38 (.tmp 166) rfl sg (pre.length * 64) e0 (u8s D.S[pre.length]) (sec_u8 (hok.sec _ (List.getElem_mem hlt))) (((unhide RV).kept (hS.sv.k.trans hk2) (by simp) (by simp) (by simp)).sector pre.length hlt).2.1 ⟨_, rfl, tq_is _ _ _ _ rfl, Kept.refl _ _, fun _ _ _ _ _ => trivial⟩
                      | 21, ho, hsk =>
                        obtain rfl := Option.some.inj ho
                        have e0 : a'.eval (.tmp 160) = aggV (u8s x.s) := is_tq (hin 13 160 (by kernel_rfl) (by kernel_rfl)) rfl
                        have e1 : a'.eval (.tmp 167) = aggV (u8s D.S[pre.length]) := is_tq (hin 20 167 (by kernel_rfl) (by kernel_rfl)) rfl
                        exact o_neqS (.tmp 160) (.tmp 167) rfl x.s D.S[pre.length] x.h (hok.sec _ (List.getElem_mem hlt)) false (by rw [decide_eq_false_iff_not]; exact unhide HX2) e0 e1 ⟨_, rfl, tq_is _ _ _ _ rfl, Kept.refl _ _, fun _ _ _ _ _ => trivial⟩
                      | 22, ho, hsk =>
                        obtain rfl := Option.some.inj ho
                        have e0 : a'.eval (.tmp 159) = .bool false := is_tq (hin 12 159 (by kernel_rfl) (by kernel_rfl)) rfl
                        have e1 : a'.eval (.tmp 168) = .bool true := is_tq (hin 21 168 (by kernel_rfl) (by kernel_rfl)) rfl
                        exact o_pickOr0 (.tmp 159) (.tmp 168) rfl _ e0 e1 ⟨_, rfl, tq_is _ _ _ _ rfl, Kept.refl _ _, fun _ _ _ _ _ => trivial⟩
                    intro w9 hk9
                    replace hk9 : Kept [] W w9 := ⟨hk9.os, hk9.tape, hk9.output, hk9.size, hk9.block⟩
                    simp only [valsQ, List.map_cons, List.map_nil, Option.getD_some, List.take_succ_cons, List.take_zero, putAll, Act.put, List.setIfInBounds_toArray, List.set_cons_succ, List.set_cons_zero]
                    refine wpAny_done (by kernel_rfl) ?_ _
                    have hS3 := hide (hS.kept hk9)
                    have hK3 := hide hk9
                    clear hS hV hk9 hbx
                    gi_wp2_with (
                      first
                      | (refine inStore1 (.bool false) (.bool false) (fun w b u h => st4 w b u _ h) (fun _ => trivial) (by rfl) (.tmp 6) (.const (.bool false)) (by rfl) (by rfl) (by rfl) b6 (by rfl) (by rfl) (unhide hS3).sv.o6 ?_
                         intro W9 B9 e9
                         have HE := hide e9
                         clear e9 B9)
                      | fail)
                    exact ⟨by rw [unhide HE]; exact keepsFrom_set (unhide hK3) (unhide hS3).sv.o6 _, .inr ⟨rfl, unhide hng⟩⟩
                · have hng : Hid (¬ pre ++ [x] = rows D.S hok.sec (pre ++ [x]).length) := row_wrong hlt (fun h => hx1 h.1)
                  gi_wp2
                  refine wpIn_region_any (by kernel_rfl) (anyIn_of_any (by rintro ⟨a, w, h⟩; exact h) (noDeferA (by kernel_rfl)) _ _ _ _ (wpAny_tq 23 rfl (by kernel_rfl) [some (.int .i64 x.i), some (.int .i64 pre.length), some (.bool true), some (.bool true), none, none, none, none, none, none, none, some (.bool true), some (.bool true), none, none, none, none, none, none, none, none, none, some (.bool true)] rfl (by kernel_rfl) (by kernel_rfl) ?_ ?_))
                  · intro i o' hi hsk ho a' w2 hout hin hk2
                    replace hk2 : Kept [] W w2 := ⟨hk2.os, hk2.tape, hk2.output, hk2.size, hk2.block⟩
                    match i, ho, hsk with
                    | 0, ho, hsk =>
                      obtain rfl := Option.some.inj ho
                      exact wp_move (.tmp 21) rfl _ ((hout 21 (by kernel_rfl)).trans rfl) ⟨_, rfl, tq_is _ _ _ _ rfl, Kept.refl _ _, fun _ _ _ _ _ => trivial⟩
                    | 1, ho, hsk =>
                      obtain rfl := Option.some.inj ho
                      exact o_load3 (.tmp 20) rfl ⟨bn1, 0, none⟩ _ ((hout 20 (by kernel_rfl)).trans rfl) (fits_cell (hV.n.kept hk2 (by simp)) 0 _ rfl) ⟨_, rfl, tq_is _ _ _ _ rfl, Kept.refl _ _, fun _ _ _ _ _ => trivial⟩
                    | 2, ho, hsk =>
                      obtain rfl := Option.some.inj ho
                      have e0 : a'.eval (.tmp 147) = .int .i64 x.i := is_tq (hin 0 147 (by kernel_rfl) (by kernel_rfl)) rfl
                      have e1 : a'.eval (.tmp 148) = .int .i64 pre.length := is_tq (hin 1 148 (by kernel_rfl) (by kernel_rfl)) rfl
                      exact o_neq3v (.tmp 147) (.tmp 148) rfl _ _ false (decide_eq_false (by omega)) e0 e1 ⟨_, rfl, tq_is _ _ _ _ rfl, Kept.refl _ _, fun _ _ _ _ _ => trivial⟩
                    | 3, ho, hsk =>
                      obtain rfl := Option.some.inj ho
                      have e0 : a'.eval (.tmp 149) = .bool true := is_tq (hin 2 149 (by kernel_rfl) (by kernel_rfl)) rfl
                      exact wp_move (.tmp 149) rfl _ e0 ⟨_, rfl, tq_is _ _ _ _ rfl, Kept.refl _ _, fun _ _ _ _ _ => trivial⟩
                    | 4, ho, hsk =>
                      cases hsk
                    | 5, ho, hsk =>
                      cases hsk
                    | 6, ho, hsk =>
                      cases hsk
                    | 7, ho, hsk =>
                      cases hsk
                    | 8, ho, hsk =>
                      cases hsk
                    | 9, ho, hsk =>
                      cases hsk
                    | 10, ho, hsk =>
                      cases hsk
                    | 11, ho, hsk =>
                      obtain rfl := Option.some.inj ho
                      have e0 : a'.eval (.tmp 150) = .bool true := is_tq (hin 3 150 (by kernel_rfl) (by kernel_rfl)) rfl
                      exact o_pickOrT (.tmp 150) (.tmp 157) rfl e0 ⟨_, rfl, tq_is _ _ _ _ rfl, Kept.refl _ _, fun _ _ _ _ _ => trivial⟩
                    | 12, ho, hsk =>
                      obtain rfl := Option.some.inj ho
                      have e0 : a'.eval (.tmp 158) = .bool true := is_tq (hin 11 158 (by kernel_rfl) (by kernel_rfl)) rfl
                      exact wp_move (.tmp 158) rfl _ e0 ⟨_, rfl, tq_is _ _ _ _ rfl, Kept.refl _ _, fun _ _ _ _ _ => trivial⟩
                    | 13, ho, hsk =>
                      cases hsk
                    | 14, ho, hsk =>
                      cases hsk
                    | 15, ho, hsk =>
                      cases hsk
                    | 16, ho, hsk =>
                      cases hsk
                    | 17, ho, hsk =>
                      cases hsk
                    | 18, ho, hsk =>
                      cases hsk
                    | 19, ho, hsk =>
                      cases hsk
                    | 20, ho, hsk =>
                      cases hsk
                    | 21, ho, hsk =>
                      cases hsk
                    | 22, ho, hsk =>
                      obtain rfl := Option.some.inj ho
                      have e0 : a'.eval (.tmp 159) = .bool true := is_tq (hin 12 159 (by kernel_rfl) (by kernel_rfl)) rfl
                      exact o_pickOrT (.tmp 159) (.tmp 168) rfl e0 ⟨_, rfl, tq_is _ _ _ _ rfl, Kept.refl _ _, fun _ _ _ _ _ => trivial⟩
                  intro w9 hk9
                  replace hk9 : Kept [] W w9 := ⟨hk9.os, hk9.tape, hk9.output, hk9.size, hk9.block⟩
                  simp only [valsQ, List.map_cons, List.map_nil, Option.getD_some, Option.getD_none, List.take_succ_cons, List.take_zero, putAll, Act.put, List.setIfInBounds_toArray, List.set_cons_succ, List.set_cons_zero]
                  refine wpAny_done (by kernel_rfl) ?_ _
                  have hS3 := hide (hS.kept hk9)
                  have hK3 := hide hk9
                  clear hS hV hk9 hbx
                  gi_wp2_with (
                    first
                    | (refine inStore1 (.bool false) (.bool false) (fun w b u h => st4 w b u _ h) (fun _ => trivial) (by rfl) (.tmp 6) (.const (.bool false)) (by rfl) (by rfl) (by rfl) b6 (by rfl) (by rfl) (unhide hS3).sv.o6 ?_
                       intro W9 B9 e9
                       have HE := hide e9
                       clear e9 B9)
                    | fail)
                  exact ⟨by rw [unhide HE]; exact keepsFrom_set (unhide hK3) (unhide hS3).sv.o6 _, .inr ⟨rfl, unhide hng⟩⟩
              case done1 =>
                intro E2 n2 W hE2 hS hn ht hnN2 hor2 hK
                obtain rfl : n2 = D.S.length := by omega
                have hDw2 : w.heap.size ≤ E2 := by have := (unhide HAS3).sv.k.size; omega
                have hDD : Hid (E ≠ E2) := by have := unhide HD1 E (by simp); show _ ≠ _; omega
                gi_wp2
                refine wpIn_wide.2 ?_
                refine wp_region_any mixed (wpAny_tq 29 rfl (by kernel_rfl) [some (.int .i64 1), some (.bool true), some (.bool true), some (.int .i64 D.S.length), some (P0 r), some (P0 r), some (.pointer (some ⟨r, 0, none⟩)), some (.slice (some ⟨sg, 0, none⟩) D.S.length cap), some (.int .i64 D.S.length), some (.bool false), some (.bool false), some (.bool false), some (.int .i64 1), some (.bool false), some (.bool false), none, none, none, none, none, none, none, some (.bool false), some (.bool false), none, none, none, some (.bool false), some (.bool false)] rfl (by kernel_rfl) (by kernel_rfl) ?_ ?_)
                · intro i o' hi hsk ho a' w2 hout hin hk2
                  replace hk2 : Kept [] W w2 := ⟨hk2.os, hk2.tape, hk2.output, hk2.size, hk2.block⟩
                  match i, ho, hsk with
                  | 0, ho, hsk =>
                    obtain rfl := Option.some.inj ho
                    exact o_load3 (.tmp 19) rfl ⟨bt1, 0, none⟩ _ ((hout 19 (by kernel_rfl)).trans rfl) (fits_cell (ht.kept hk2 (by simp)) 0 _ rfl) ⟨_, rfl, tq_is _ _ _ _ rfl, Kept.refl _ _, fun _ _ _ _ _ => trivial⟩
                  | 1, ho, hsk =>
                    obtain rfl := Option.some.inj ho
                    have e0 : a'.eval (.tmp 179) = .int .i64 1 := is_tq (hin 0 179 (by kernel_rfl) (by kernel_rfl)) rfl
                    exact o_eql3 (.tmp 179) 1 rfl _ true (by simp) e0 ⟨_, rfl, tq_is _ _ _ _ rfl, Kept.refl _ _, fun _ _ _ _ _ => trivial⟩
                  | 2, ho, hsk =>
                    obtain rfl := Option.some.inj ho
                    have e0 : a'.eval (.tmp 180) = .bool true := is_tq (hin 1 180 (by kernel_rfl) (by kernel_rfl)) rfl
                    exact wp_move (.tmp 180) rfl _ e0 ⟨_, rfl, tq_is _ _ _ _ rfl, Kept.refl _ _, fun _ _ _ _ _ => trivial⟩
                  | 3, ho, hsk =>
                    obtain rfl := Option.some.inj ho
                    exact o_load3 (.tmp 20) rfl ⟨bn1, 0, none⟩ _ ((hout 20 (by kernel_rfl)).trans rfl) (fits_cell (hn.kept hk2 (by simp)) 0 _ rfl) ⟨_, rfl, tq_is _ _ _ _ rfl, Kept.refl _ _, fun _ _ _ _ _ => trivial⟩
                  | 4, ho, hsk =>
                    obtain rfl := Option.some.inj ho
                    exact o_load28 (.tmp 4) rfl ⟨b4, 0, none⟩ _ ((hout 4 (by kernel_rfl)).trans rfl) (fits_cell (hS.sv.r4.kept hk2 (by simp)) 0 _ rfl) ⟨_, rfl, tq_is _ _ _ _ rfl, Kept.refl _ _, fun _ _ _ _ _ => trivial⟩
                  | 5, ho, hsk =>
                    obtain rfl := Option.some.inj ho
                    have e0 : a'.eval (.tmp 183) = P0 r := is_tq (hin 4 183 (by kernel_rfl) (by kernel_rfl)) rfl
                    exact o_nil (.tmp 183) rfl _ e0 ⟨_, rfl, tq_is _ _ _ _ rfl, Kept.refl _ _, fun _ _ _ _ _ => trivial⟩
                  | 6, ho, hsk =>
                    obtain rfl := Option.some.inj ho
                    have e0 : a'.eval (.tmp 184) = P0 r := is_tq (hin 5 184 (by kernel_rfl) (by kernel_rfl)) rfl
                    exact o_fld51_0 (.tmp 184) rfl r e0 ⟨_, rfl, tq_is _ _ _ _ rfl, Kept.refl _ _, fun _ _ _ _ _ => trivial⟩
                  | 7, ho, hsk =>
                    obtain rfl := Option.some.inj ho
                    have e0 : a'.eval (.tmp 185) = .pointer (some ⟨r, 0, none⟩) := is_tq (hin 6 185 (by kernel_rfl) (by kernel_rfl)) rfl
                    exact o_load36 (.tmp 185) rfl ⟨r, 0, none⟩ _ e0 ((hS.sv.k.trans hk2).cell (unhide C0) (by simp)) ⟨_, rfl, tq_is _ _ _ _ rfl, Kept.refl _ _, fun _ _ _ _ _ => trivial⟩
                  | 8, ho, hsk =>
                    obtain rfl := Option.some.inj ho
                    have e0 : a'.eval (.tmp 186) = .slice (some ⟨sg, 0, none⟩) D.S.length cap := is_tq (hin 7 186 (by kernel_rfl) (by kernel_rfl)) rfl
                    exact o_len36 186 rfl _ _ _ e0 ⟨_, rfl, tq_is _ _ _ _ rfl, Kept.refl _ _, fun _ _ _ _ _ => trivial⟩
                  | 9, ho, hsk =>
                    obtain rfl := Option.some.inj ho
                    have e0 : a'.eval (.tmp 182) = .int .i64 D.S.length := is_tq (hin 3 182 (by kernel_rfl) (by kernel_rfl)) rfl
                    have e1 : a'.eval (.tmp 187) = .int .i64 D.S.length := is_tq (hin 8 187 (by kernel_rfl) (by kernel_rfl)) rfl
                    exact o_neq3v (.tmp 182) (.tmp 187) rfl _ _ true (by simp) e0 e1 ⟨_, rfl, tq_is _ _ _ _ rfl, Kept.refl _ _, fun _ _ _ _ _ => trivial⟩
                  | 10, ho, hsk =>
                    obtain rfl := Option.some.inj ho
                    have e0 : a'.eval (.tmp 181) = .bool true := is_tq (hin 2 181 (by kernel_rfl) (by kernel_rfl)) rfl
                    have e1 : a'.eval (.tmp 188) = .bool false := is_tq (hin 9 188 (by kernel_rfl) (by kernel_rfl)) rfl
                    exact o_pick (.tmp 181) (.tmp 188) rfl _ e0 e1 ⟨_, rfl, tq_is _ _ _ _ rfl, Kept.refl _ _, fun _ _ _ _ _ => trivial⟩
                  | 11, ho, hsk =>
                    obtain rfl := Option.some.inj ho
                    have e0 : a'.eval (.tmp 189) = .bool false := is_tq (hin 10 189 (by kernel_rfl) (by kernel_rfl)) rfl
                    exact wp_move (.tmp 189) rfl _ e0 ⟨_, rfl, tq_is _ _ _ _ rfl, Kept.refl _ _, fun _ _ _ _ _ => trivial⟩
                  | 12, ho, hsk =>
                    obtain rfl := Option.some.inj ho
                    exact o_load3 (.tmp 19) rfl ⟨bt1, 0, none⟩ _ ((hout 19 (by kernel_rfl)).trans rfl) (fits_cell (ht.kept hk2 (by simp)) 0 _ rfl) ⟨_, rfl, tq_is _ _ _ _ rfl, Kept.refl _ _, fun _ _ _ _ _ => trivial⟩
                  | 13, ho, hsk =>
                    obtain rfl := Option.some.inj ho
                    have e0 : a'.eval (.tmp 191) = .int .i64 1 := is_tq (hin 12 191 (by kernel_rfl) (by kernel_rfl)) rfl
                    exact o_eql3 (.tmp 191) 0 rfl _ false (by simp) e0 ⟨_, rfl, tq_is _ _ _ _ rfl, Kept.refl _ _, fun _ _ _ _ _ => trivial⟩
                  | 14, ho, hsk =>
                    obtain rfl := Option.some.inj ho
                    have e0 : a'.eval (.tmp 192) = .bool false := is_tq (hin 13 192 (by kernel_rfl) (by kernel_rfl)) rfl
                    exact wp_move (.tmp 192) rfl _ e0 ⟨_, rfl, tq_is _ _ _ _ rfl, Kept.refl _ _, fun _ _ _ _ _ => trivial⟩
                  | 15, ho, hsk =>
                    cases hsk
                  | 16, ho, hsk =>
                    cases hsk
                  | 17, ho, hsk =>
                    cases hsk
                  | 18, ho, hsk =>
                    cases hsk
                  | 19, ho, hsk =>
                    cases hsk
                  | 20, ho, hsk =>
                    cases hsk
                  | 21, ho, hsk =>
                    cases hsk
                  | 22, ho, hsk =>
                    obtain rfl := Option.some.inj ho
                    have e0 : a'.eval (.tmp 193) = .bool false := is_tq (hin 14 193 (by kernel_rfl) (by kernel_rfl)) rfl
                    exact o_pickN (.tmp 193) (.tmp 200) rfl e0 ⟨_, rfl, tq_is _ _ _ _ rfl, Kept.refl _ _, fun _ _ _ _ _ => trivial⟩
                  | 23, ho, hsk =>
                    obtain rfl := Option.some.inj ho
                    have e0 : a'.eval (.tmp 201) = .bool false := is_tq (hin 22 201 (by kernel_rfl) (by kernel_rfl)) rfl
                    exact wp_move (.tmp 201) rfl _ e0 ⟨_, rfl, tq_is _ _ _ _ rfl, Kept.refl _ _, fun _ _ _ _ _ => trivial⟩
                  | 24, ho, hsk =>
                    cases hsk
                  | 25, ho, hsk =>
                    cases hsk
                  | 26, ho, hsk =>
                    cases hsk
                  | 27, ho, hsk =>
                    obtain rfl := Option.some.inj ho
                    have e0 : a'.eval (.tmp 202) = .bool false := is_tq (hin 23 202 (by kernel_rfl) (by kernel_rfl)) rfl
                    exact o_pickN (.tmp 202) (.tmp 205) rfl e0 ⟨_, rfl, tq_is _ _ _ _ rfl, Kept.refl _ _, fun _ _ _ _ _ => trivial⟩
                  | 28, ho, hsk =>
                    obtain rfl := Option.some.inj ho
                    have e0 : a'.eval (.tmp 190) = .bool false := is_tq (hin 11 190 (by kernel_rfl) (by kernel_rfl)) rfl
                    have e1 : a'.eval (.tmp 206) = .bool false := is_tq (hin 27 206 (by kernel_rfl) (by kernel_rfl)) rfl
                    exact o_pickOr0 (.tmp 190) (.tmp 206) rfl _ e0 e1 ⟨_, rfl, tq_is _ _ _ _ rfl, Kept.refl _ _, fun _ _ _ _ _ => trivial⟩
                intro w9 hk9
                replace hk9 : Kept [] W w9 := ⟨hk9.os, hk9.tape, hk9.output, hk9.size, hk9.block⟩
                simp only [valsQ, List.map_cons, List.map_nil, Option.getD_some, Option.getD_none, List.take_succ_cons, List.take_zero, putAll, Act.put, List.setIfInBounds_toArray, List.set_cons_succ, List.set_cons_zero]
                refine wpAny_done (by kernel_rfl) ?_ _
                have HAS0 := hide ((hS.kept hk9).mark hDw2 (hk9.heap hK (by simp)))
                have c19 := fits_cell (ht.kept hk9 (by simp)) 0 _ rfl
                clear hK hS hn ht hk9 HAS3 HT3 HN1 HNE HLT HGE nt1 nn1 nbt1 hE2 HD1
                gi_wp2_with (
                  first
                  | (refine inVar (.int .i64 0) (.int .i64 1) zero3 (fun w b u h => st3 w b u _ h) 19 (by rfl) wideF (by rfl) (by rfl) (by rfl) (.tmp 208) (by rfl) (by rfl) (fun _ => by rfl) (by rfl) (by rfl) (by rfl) ?_
                     intro W10 bt2 et B10 K10
                     have HT1 := hide B10
                     have HAS1 := hide ((unhide HAS0).kept K10)
                     have nt1 : Hid (w9.heap.size = bt2) := by show _ = _; omega
                     clear et K10 c19
                     have c19 := fits_cell B10 0 _ rfl
                     clear B10
                     refine Stp.go ?_))
                constructor
                gi_wp2_with (
                  first
                  | (refine inStore1 (.int .i64 1) (.int .i64 2) (fun w b u h => st3 w b u _ h) wideF (by rfl) (.tmp 19) (.tmp 143) (by rfl) (by rfl) (by rfl) bt2 (by rfl) (by rfl) (unhide HT1) ?_
                     intro W11 B11 e11
                     have HT2 := hide B11
                     have hlt1 := (unhide HAS0).lts
                     have hge1 := (unhide HAS0).sv.k.size
                     have nt2 := unhide nt1
                     have HAS2 : Hid (AS w leave b b4 b5 b6 r q [E2, E] W11) := by rw [e11]; exact (unhide HAS1).set _ (unhide HT1) (by omega) ⟨by omega, by omega, by omega, by omega⟩
                     clear HAS1 HT1 e11 B11 c19 hlt1 hge1 nt2))
                rw [roundsIn_succ]
                have c19 := fits_cell (unhide HT2) 0 _ rfl
                gi_wp2
                refine (wpIn_wide (n := 3)).1 ?_
                gi_wp2_with (
                  first
                  | (refine inStore1 (.bool false) (.bool true) (fun w b u h => st4 w b u _ h) wideF (by rfl) (.tmp 6) (.const (.bool true)) (by rfl) (by rfl) (by rfl) b6 (by rfl) (by rfl) (unhide HAS2).sv.o6 ?_
                     intro W14 B14 e14
                     have HB14 := hide B14
                     have HE14 := hide e14
                     clear B14 e14)
                  | fail)
                have hA := unhide HAS2
                have hEE := unhide HE14
                have hD1 := hA.d E (by simp)
                have hD2 := hA.d E2 (by simp)
                have s1 : ∀ X : Nat, W11.heap[X]? = some (Obj.deferred (some [])) → W14.heap[X]? = some (Obj.deferred (some [])) := by
                  intro X h
                  have hne2 : X ≠ b6 := by intro e; subst e; rw [hA.sv.o6] at h; cases h
                  rw [hEE, Below.heap_setCell _ _ _ _ (by simpa using hne2)]; exact h
                exact all_leaves rfl (unhide HB14) (by rw [hEE]; exact hA.sv.k.setCell (p := ⟨b6, 0, none⟩) (by have := hA.sv.ge; simp; omega) _) (s1 _ hD2.2) (s1 _ hD1.2) (unhide hDD) hD2.1 hD1.1
              case exit1 =>
                intro a W h
                exact wpIn_exit h
          case exit =>
            intro a W h
            exact wpIn_exit h
theorem stands13 (b g r sg eg : Nat) (D : Dev) (leave : Int) (w : World) (h : Dv w b g D) (hr : Rv w r sg eg D) : Calls Try.prog 13 #[P0 b, P0 r, .int .i64 leave] w fun e w' => e = .returned (.bool true) ∧ Kept [] w w' :=
  callsIn_wide.1 (stands_in b g r sg eg D leave w h hr)

end Go.Proofs.Ytffflafalffifaa.K
