/-
  The walks of the document's Record, and of the law's where.
-/
import Derived.Test.YtcfoebpbbmnleaaAt
namespace Go.Proofs.Ytcfoebpbbmnleaa
open Go.RowKit

theorem at_lease (j : Job) (n : Int) (w : World) : Calls Try.prog 22 #[aggV (jobC j), aggV (fourC 2 n 0 0)] w fun e w' => e = .returned (two (j.lease n)) ∧ Kept [] w w' := by
  have := at22 j ⟨2, n, 0, 0⟩ w
  rw [where_lease] at this
  exact this
theorem at_head (j : Job) (n : Int) (w : World) : Calls Try.prog 22 #[aggV (jobC j), aggV (fourC 3 n 0 0)] w fun e w' => e = .returned (two (j.head n)) ∧ Kept [] w w' := by
  have := at22 j ⟨3, n, 0, 0⟩ w
  rw [where_head] at this
  exact this
theorem at_page (j : Job) (p : Int) (w : World) : Calls Try.prog 22 #[aggV (jobC j), aggV (fourC 5 0 p 0)] w fun e w' => e = .returned (two (j.page p)) ∧ Kept [] w w' := by
  have := at22 j ⟨5, 0, p, 0⟩ w
  rw [where_page] at this
  exact this
theorem cf22 (vs : Array Value) (w : World) : (callFunc 22 vs).run Try.prog w = .ok (.enter 22 vs) w := by kernel_rfl
section
variable {o : Oper} {a : Act} {w : World} {K : Act → World → Prop} {Q : Exit → Act → World → Prop}
theorem o_ext0 (x : Operand) (ho : o.op = .extract x 0) (p q : Value) (hx : a.eval x = .tuple #[p, q]) (h : K (a.put o.dst p) w) : o.wp Try.prog a w K Q := by
  unfold Oper.wp execOp
  simp only [ho, hx]
  simp [go_sem]
  exact h
theorem o_ext1 (x : Operand) (ho : o.op = .extract x 1) (p q : Value) (hx : a.eval x = .tuple #[p, q]) (h : K (a.put o.dst q) w) : o.wp Try.prog a w K Q := by
  unfold Oper.wp execOp
  simp only [ho, hx]
  simp [go_sem]
  exact h
end

set_option maxHeartbeats 1000000 in
set_option maxRecDepth 100000 in
theorem refRecord23 (j : Job) (n s : Int) (w : World) : Calls Try.prog 23 #[aggV (jobC j), .int .i64 n, .int .i64 s] w fun e w' => e = .returned (two (j.record n s)) ∧ Kept [] w w' := by
  rw [← where_rec]
  cases hm : j.may with
  | false =>
    go_enter Try.func23, Try.ntmps23
    go_wp2_with (
      first
      | (refine wpBoxV rfl (.tmp 0) rfl (jobC j) rfl ?_
         intro W1 b1 e1 B1 K1
         have BB := hide B1
         have KK := hide K1
         have hM := hide (may10 j W1)
         rw [hm] at hM
         clear e1 B1 K1)
      | (refine wpLoadA row23 rfl (.tmp 3) rfl b1 0 rfl (jobC j) rfl (unhide BB).range ?_)
      | (go_at_call 10; refine (unhide hM).mono ?_; rintro e W2 ⟨rfl, K2⟩
         have BB2 := hide ((unhide BB).kept K2 (by simp))
         have KK2 := hide ((unhide KK).trans K2)
         clear BB KK hM K2))
    go_ret2
    exact ⟨rfl, unhide KK2⟩
  | true =>
    have hl := Job.l_le hm
    by_cases h1 : s < 1
    · have hr : lsnB s = false := by simp [lsnB]; omega
      rw [hr]
      go_enter Try.func23, Try.ntmps23
      go_wp2_with (
        first
        | (refine wpBoxV rfl (.tmp 0) rfl (jobC j) rfl ?_
           intro W1 b1 e1 B1 K1
           have BB := hide B1
           have KK := hide K1
           have hM := hide (may10 j W1)
           rw [hm] at hM
           clear e1 B1 K1)
        | (refine wpLoadA row23 rfl (.tmp 3) rfl b1 0 rfl (jobC j) rfl (unhide BB).range ?_)
        | (go_at_call 10; refine (unhide hM).mono ?_; rintro e W2 ⟨rfl, K2⟩
           have BB2 := hide ((unhide BB).kept K2 (by simp))
           have KK2 := hide ((unhide KK).trans K2)
           clear BB KK hM K2))
      go_ret2
      exact ⟨rfl, unhide KK2⟩
    by_cases h2 : s > 2147483647
    · have hr : lsnB s = false := by simp [lsnB]; omega
      rw [hr]
      go_enter Try.func23, Try.ntmps23
      go_wp2_with (
        first
        | (refine wpBoxV rfl (.tmp 0) rfl (jobC j) rfl ?_
           intro W1 b1 e1 B1 K1
           have BB := hide B1
           have KK := hide K1
           have hM := hide (may10 j W1)
           rw [hm] at hM
           clear e1 B1 K1)
        | (refine wpLoadA row23 rfl (.tmp 3) rfl b1 0 rfl (jobC j) rfl (unhide BB).range ?_)
        | (go_at_call 10; refine (unhide hM).mono ?_; rintro e W2 ⟨rfl, K2⟩
           have BB2 := hide ((unhide BB).kept K2 (by simp))
           have KK2 := hide ((unhide KK).trans K2)
           clear BB KK hM K2))
      go_ret2
      exact ⟨rfl, unhide KK2⟩
    have hr : lsnB s = true := by simp [lsnB]; omega
    rw [hr, Bool.and_self, if_pos rfl]
    clear hr
    generalize hmm : j.m s = m
    have hM2 : Hid ((s - 1) % j.l = m) := hmm
    clear hmm
    generalize hA : j.where? ⟨4, n, m, 0⟩ = A
    obtain ⟨p, q⟩ := A
    have hA2 := hide hA
    clear hA
    go_enter Try.func23, Try.ntmps23
    go_wp2_with (
      first
      | (refine wpBoxV rfl (.tmp 0) rfl (jobC j) rfl ?_
         intro W1 b1 e1 B1 K1
         have BB := hide B1
         have KK := hide K1
         have hM := hide (may10 j W1)
         rw [hm] at hM
         clear e1 B1 K1)
      | (refine wpLoadA row23 rfl (.tmp 3) rfl b1 0 rfl (jobC j) rfl (unhide BB).range ?_)
      | (go_at_call 10; refine (unhide hM).mono ?_; rintro e W2 ⟨rfl, K2⟩
         have BB2 := hide ((unhide BB).kept K2 (by simp))
         have KK2 := hide ((unhide KK).trans K2)
         clear BB KK hM K2))
    refine wp_region_prefG mixed 11 2 rfl (by kernel_rfl) (tab (List.map Fact.is [aggV (jobC j), .int .i64 n, .int .i64 s, .int .i64 (s - 1), .pointer (some ⟨b1, 3, none⟩), .int .i64 j.l, .int .i64 m, aggV (fourC 4 n m 0), two (p, q), .int .i64 p, .int .i64 q])) (apartE []) (fun j o i b _ ho hg => guards_spec (by kernel_rfl) j o i b ho hg) (tab_kept _) (by kernel_rfl) ?_ ?_
    · intro i o hi ho a' w2 hout hin hk
      match i, ho with
      | 0, ho =>
        obtain rfl := Option.some.inj ho
        exact wp_loadA row23 (.tmp 3) rfl b1 0 ((hout 3 (by kernel_rfl)).trans rfl) (jobC j) rfl ((unhide BB2).kept hk (by simp)).range ⟨_, rfl, tab_is _ _ _ _ rfl, Kept.refl _ _, fun i u _ _ _ => fun _ hj => absurd hj (by decide)⟩
      | 1, ho =>
        obtain rfl := Option.some.inj ho
        exact o_moveV (.tmp 1) _ rfl ((hout 1 (by kernel_rfl)).trans rfl) ⟨_, rfl, tab_is _ _ _ _ rfl, Kept.refl _ _, fun i u _ _ _ => fun _ hj => absurd hj (by decide)⟩
      | 2, ho =>
        obtain rfl := Option.some.inj ho
        exact o_moveV (.tmp 2) _ rfl ((hout 2 (by kernel_rfl)).trans rfl) ⟨_, rfl, tab_is _ _ _ _ rfl, Kept.refl _ _, fun i u _ _ _ => fun _ hj => absurd hj (by decide)⟩
      | 3, ho =>
        obtain rfl := Option.some.inj ho
        have e0 : a'.eval (.tmp 21) = .int .i64 s := is_tab (hin 2 21 (by kernel_rfl) (by kernel_rfl)) rfl
        exact o_sub2 (.tmp 21) (.const (.int .i64 1)) rfl _ _ (by unfold I64; omega) e0 rfl ⟨_, rfl, tab_is _ _ _ _ rfl, Kept.refl _ _, fun i u _ _ _ => fun _ hj => absurd hj (by decide)⟩
      | 4, ho =>
        obtain rfl := Option.some.inj ho
        exact o_field23 (.tmp 3) rfl b1 ((hout 3 (by kernel_rfl)).trans rfl) ⟨_, rfl, tab_is _ _ _ _ rfl, Kept.refl _ _, fun i u _ _ _ => fun _ hj => absurd hj (by decide)⟩
      | 5, ho =>
        obtain rfl := Option.some.inj ho
        have e0 : a'.eval (.tmp 23) = .pointer (some ⟨b1, 3, none⟩) := is_tab (hin 4 23 (by kernel_rfl) (by kernel_rfl)) rfl
        exact o_load3 (.tmp 23) rfl ⟨b1, 3, none⟩ _ e0 (fits_cell ((unhide BB2).kept hk (by simp)) 3 _ rfl) ⟨_, rfl, tab_is _ _ _ _ rfl, Kept.refl _ _, fun i u _ _ _ => fun _ hj => absurd hj (by decide)⟩
      | 6, ho =>
        obtain rfl := Option.some.inj ho
        have e0 : a'.eval (.tmp 22) = .int .i64 (s - 1) := is_tab (hin 3 22 (by kernel_rfl) (by kernel_rfl)) rfl
        have e1 : a'.eval (.tmp 24) = .int .i64 j.l := is_tab (hin 5 24 (by kernel_rfl) (by kernel_rfl)) rfl
        exact o_rem2 (.tmp 22) (.tmp 24) rfl _ _ m (by omega) (by omega) (unhide hM2) e0 e1 ⟨_, rfl, tab_is _ _ _ _ rfl, Kept.refl _ _, fun i u _ _ _ => fun _ hj => absurd hj (by decide)⟩
      | 7, ho =>
        obtain rfl := Option.some.inj ho
        have e0 : a'.eval (.tmp 20) = .int .i64 n := is_tab (hin 1 20 (by kernel_rfl) (by kernel_rfl)) rfl
        have e1 : a'.eval (.tmp 25) = .int .i64 m := is_tab (hin 6 25 (by kernel_rfl) (by kernel_rfl)) rfl
        exact wp_buildP _ rfl #[(0, .int .i64 4), (1, .int .i64 n), (2, .int .i64 m)] (by simp [e0, e1]; rfl) (fourC 4 n m 0) (build37f _ _ _ _) ⟨_, rfl, tab_is _ _ _ _ rfl, Kept.refl _ _, fun i u _ _ _ => fun _ hj => absurd hj (by decide)⟩
      | 8, ho =>
        obtain rfl := Option.some.inj ho
        have e0 : a'.eval (.tmp 19) = aggV (jobC j) := is_tab (hin 0 19 (by kernel_rfl) (by kernel_rfl)) rfl
        have e1 : a'.eval (.tmp 26) = aggV (fourC 4 n m 0) := is_tab (hin 7 26 (by kernel_rfl) (by kernel_rfl)) rfl
        refine wp_callF 22 _ _ rfl #[aggV (jobC j), aggV (fourC 4 n m 0)] (by simp [e0, e1]) (cf22 _ _) ((at22 j ⟨4, n, m, 0⟩ w2).mono ?_)
        rintro e w3 ⟨rfl, hk3⟩
        rw [unhide hA2]
        exact ⟨_, rfl, _, rfl, tab_is _ _ _ _ rfl, hk3, fun i u _ _ _ => fun _ hj => absurd hj (by decide)⟩
      | 9, ho =>
        obtain rfl := Option.some.inj ho
        have e0 : a'.eval (.tmp 27) = two (p, q) := is_tab (hin 8 27 (by kernel_rfl) (by kernel_rfl)) rfl
        exact o_ext0 (.tmp 27) rfl _ _ e0 ⟨_, rfl, tab_is _ _ _ _ rfl, Kept.refl _ _, fun i u _ _ _ => fun _ hj => absurd hj (by decide)⟩
      | 10, ho =>
        obtain rfl := Option.some.inj ho
        have e0 : a'.eval (.tmp 27) = two (p, q) := is_tab (hin 8 27 (by kernel_rfl) (by kernel_rfl)) rfl
        exact o_ext1 (.tmp 27) rfl _ _ e0 ⟨_, rfl, tab_is _ _ _ _ rfl, Kept.refl _ _, fun i u _ _ _ => fun _ hj => absurd hj (by decide)⟩
    · intro vs w3 hlen hF hE hk
      obtain rfl := vs_is hF (by rw [hlen]; rfl)
      have dk3 := hide ((unhide KK2).trans hk)
      clear hF hE hk KK2 BB2
      simp only [List.take_succ_cons, List.take_zero, putAll, Act.put, List.setIfInBounds_toArray, List.set_cons_succ, List.set_cons_zero]
      refine wpAny_all (rs := [11]) (by kernel_rfl) (by simp) ?_
      intro i hi
      obtain rfl : i = 11 := by simpa using hi
      refine wpOp_of rfl rfl (wp_assign (.tmp 28) rfl ?_)
      refine wpAny_all (rs := [12]) (by kernel_rfl) (by simp) ?_
      intro i hi
      obtain rfl : i = 12 := by simpa using hi
      refine wpOp_of rfl rfl (wp_assign (.tmp 29) rfl ?_)
      refine wpAny_done (by kernel_rfl) ?_ _
      go_wp2_with fail
      go_ret2
      exact ⟨rfl, unhide dk3⟩

set_option maxHeartbeats 2000000 in
set_option maxRecDepth 100000 in
theorem where12 (j : Job) (xn xp xs xl : Int) (w : World) : Calls Try.prog 12 #[aggV (jobC j), aggV (fourC xn xp xs xl)] w fun e w' => e = .returned (.bool true) ∧ Kept [] w w' := by
  have p1 := hide (lease18 j xn)
  have q1 := hide (at_lease j xn)
  have p2 := hide (head20 j xn)
  have q2 := hide (at_head j xn)
  have p3 := hide (record16 j xn xl)
  have q3 := hide (refRecord23 j xn xl)
  have p4 := hide (page17 j xp)
  have q4 := hide (at_page j xp)
  generalize j.lease xn = A at p1 q1
  generalize j.head xn = B at p2 q2
  generalize j.record xn xl = C at p3 q3
  generalize j.page xp = D at p4 q4
  obtain ⟨a, a'⟩ := A
  obtain ⟨b, b'⟩ := B
  obtain ⟨c, c'⟩ := C
  obtain ⟨d, d'⟩ := D
  go_enter Try.func12, Try.ntmps12
  go_wp2_with (
    first
    | (refine wpBoxV rfl (.tmp 0) rfl (jobC j) rfl ?_
       intro W1 b1 e1 B1 K1
       have BB := hide B1
       have KK := hide K1
       clear e1 B1 K1)
    | (refine wpBoxV rfl (.tmp 1) rfl (fourC xn xp xs xl) rfl ?_
       intro W2 b2 e2 B2 K2
       have BX := hide B2
       obtain ⟨x0, x1, x2, x3⟩ := four_cells B2
       replace BB := hide ((unhide BB).kept K2 (by simp))
       replace KK := hide ((unhide KK).trans K2)
       clear e2 B2 K2)
    | (refine wpLoadA row23 rfl (.tmp 2) rfl b1 0 rfl (jobC j) rfl (unhide BB).range ?_)
    | (go_at_call 18; refine (unhide p1 _).mono ?_; clear p1; rintro e W' ⟨rfl, K'⟩
       clear x0 x1 x2 x3
       replace BB := hide ((unhide BB).kept K' (by simp))
       replace BX := hide ((unhide BX).kept K' (by simp))
       replace KK := hide ((unhide KK).trans K')
       obtain ⟨x0, x1, x2, x3⟩ := four_cells (unhide BX)
       clear K')
    | (go_at_call 22; refine (unhide q1 _).mono ?_; clear q1; rintro e W' ⟨rfl, K'⟩
       clear x0 x1 x2 x3
       replace BB := hide ((unhide BB).kept K' (by simp))
       replace BX := hide ((unhide BX).kept K' (by simp))
       replace KK := hide ((unhide KK).trans K')
       obtain ⟨x0, x1, x2, x3⟩ := four_cells (unhide BX)
       clear K')
    | (go_at_call 20; refine (unhide p2 _).mono ?_; clear p2; rintro e W' ⟨rfl, K'⟩
       clear x0 x1 x2 x3
       replace BB := hide ((unhide BB).kept K' (by simp))
       replace BX := hide ((unhide BX).kept K' (by simp))
       replace KK := hide ((unhide KK).trans K')
       obtain ⟨x0, x1, x2, x3⟩ := four_cells (unhide BX)
       clear K')
    | (go_at_call 22; refine (unhide q2 _).mono ?_; clear q2; rintro e W' ⟨rfl, K'⟩
       clear x0 x1 x2 x3
       replace BB := hide ((unhide BB).kept K' (by simp))
       replace BX := hide ((unhide BX).kept K' (by simp))
       replace KK := hide ((unhide KK).trans K')
       obtain ⟨x0, x1, x2, x3⟩ := four_cells (unhide BX)
       clear K')
    | (go_at_call 16; refine (unhide p3 _).mono ?_; clear p3; rintro e W' ⟨rfl, K'⟩
       clear x0 x1 x2 x3
       replace BB := hide ((unhide BB).kept K' (by simp))
       replace BX := hide ((unhide BX).kept K' (by simp))
       replace KK := hide ((unhide KK).trans K')
       obtain ⟨x0, x1, x2, x3⟩ := four_cells (unhide BX)
       clear K')
    | (go_at_call 23; refine (unhide q3 _).mono ?_; clear q3; rintro e W' ⟨rfl, K'⟩
       clear x0 x1 x2 x3
       replace BB := hide ((unhide BB).kept K' (by simp))
       replace BX := hide ((unhide BX).kept K' (by simp))
       replace KK := hide ((unhide KK).trans K')
       obtain ⟨x0, x1, x2, x3⟩ := four_cells (unhide BX)
       clear K')
    | (go_at_call 17; refine (unhide p4 _).mono ?_; clear p4; rintro e W' ⟨rfl, K'⟩
       clear x0 x1 x2 x3
       replace BB := hide ((unhide BB).kept K' (by simp))
       replace BX := hide ((unhide BX).kept K' (by simp))
       replace KK := hide ((unhide KK).trans K')
       obtain ⟨x0, x1, x2, x3⟩ := four_cells (unhide BX)
       clear K')
    | (go_at_call 22; refine (unhide q4 _).mono ?_; clear q4; rintro e W' ⟨rfl, K'⟩
       clear x0 x1 x2 x3
       replace BB := hide ((unhide BB).kept K' (by simp))
       replace BX := hide ((unhide BX).kept K' (by simp))
       replace KK := hide ((unhide KK).trans K')
       obtain ⟨x0, x1, x2, x3⟩ := four_cells (unhide BX)
       clear K')
    | (refine wpBuildP rfl #[(0, .const (.int .i64 2)), (1, .tmp 31)] rfl #[(0, .int .i64 2), (1, .int .i64 xn)] (by kernel_rfl) (fourC 2 xn 0 0) (build37b _ _ _) ?_)
    | (refine wpBuildP rfl #[(0, .const (.int .i64 3)), (1, .tmp 46)] rfl #[(0, .int .i64 3), (1, .int .i64 xn)] (by kernel_rfl) (fourC 3 xn 0 0) (build37b _ _ _) ?_)
    | (refine wpBuildP rfl #[(0, .const (.int .i64 5)), (2, .tmp 79)] rfl #[(0, .int .i64 5), (2, .int .i64 xp)] (by kernel_rfl) (fourC 5 0 xp 0) (build37g _ _ _) ?_)
    | (go_at_call 11; refine (num11 _ _).mono ?_; rintro e W' ⟨rfl, rfl⟩))
  go_ret
  exact ⟨by simp, unhide KK⟩

end Go.Proofs.Ytcfoebpbbmnleaa
