/-
  look: what the device says of a log.
-/
import Derived.Test.YtmeajhdhiebkdaaDoorLl
namespace Go.Proofs.YtmeajhdhiebkdaaDoor
set_option maxRecDepth 100000
open Go.RowKit

theorem sect54 (j : Ar.Job) (w : World) : Calls Tryd.prog 54 #[aggV (Ar.jobC j)] w fun e w' => e = .returned (.tuple #[.int .i64 j.sectors.1, .int .i64 j.sectors.2]) ∧ Kept [] w w' := Ar.sectors8 j w
theorem take57 (s : List Int) (hs : Rc.Byts 64 s) (w : World) (hF : Rc.First w) : Calls Tryd.prog 57 #[aggV (u8s s)] w fun e w' => e = .returned (.tuple #[aggV (Rc.hdC (Rc.takeR s).1.1 (Rc.takeR s).1.2), .int .i64 (Rc.takeR s).2]) ∧ Kept [] w w' := Rc.takehead12 s hs w hF
theorem size55 (b g : Nat) (D : Dv.Dev) (w : World) (h : Dv.Dv w b g D) : Calls Tryd.prog 55 #[P0 b] w fun e w' => e = .returned (.int .i64 (D.S.length : Int)) ∧ w' = w := Dv.size31 _ _ w h.sz
theorem take_st {s : List Int} (h : (Rc.takeR s).2 = 0) : 1 ≤ (Rc.takeR s).1.1 ∧ (Rc.takeR s).1.1 ≤ 2147483647 := by
  unfold Rc.takeR at h ⊢
  split at h
  · rename_i h1
    rw [if_pos h1]
    show 1 ≤ (Rc.hdR s).1 ∧ (Rc.hdR s).1 ≤ 2147483647
    have h2 := h1.1
    unfold Rc.puthR at h2
    split at h2
    · rename_i h3
      simp only [Rc.isHd, Bool.and_eq_true, decide_eq_true_eq] at h3
      omega
    · split at h2
      · rename_i h3
        simp only [Rc.isWrit, Bool.and_eq_true, decide_eq_true_eq] at h3
        omega
      · simp at h2
  · simp at h
/-- What look tells: Start, the records, the code. -/
def lookR (D : Dv.Dev) (J : Ar.Job) (nd : Int) (may : Bool) : Int × List Rc.Rec × Int :=
  if ¬ (J.head nd).2 = 0 ∨ may = false ∨ (D.S.length : Int) < J.sectors.1 then (0, [], 2)
  else if ¬ (Rc.takeR (D.read (J.head nd).1).1).2 = 0 then (0, [], (Rc.takeR (D.read (J.head nd).1).1).2)
  else ((Rc.takeR (D.read (J.head nd).1).1).1.1, standS D J nd (Rc.takeR (D.read (J.head nd).1).1).1.1 (Rc.takeR (D.read (J.head nd).1).1).1.2, 0)
theorem zero91 (w : World) : (Instr.alloc 91 true (.tuple #[])).run Tryd.prog w = .ok (P0 w.heap.size) (w.alloc (.cells (Rc.hdC 0 0).toArray 91)) := by kernel_rfl
theorem row91 : Row 91 2 := ⟨_, Tryd.underlying91, rfl, by kernel_rfl⟩
theorem results_tmp3 {f : Func} {d1 d2 d3 : Tmp} (hr : f.results = #[.tmp d1, .tmp d2, .tmp d3]) (tmps : Array Value) (w : World) : (results f tmps).run Tryd.prog w = .ok (.tuple #[tmps[d1]?.getD undef, tmps[d2]?.getD undef, tmps[d3]?.getD undef]) w := by
  simp [results, hr, Sem.run_pure]
set_option maxHeartbeats 4000000 in
theorem look_a1 (b g : Nat) (D : Dv.Dev) (J : Ar.Job) (nd : Int) (may : Bool) (w : World) (hD : Dv.Dv w b g D) (hbad : ¬ (J.head nd).2 = 0) : Calls Tryd.prog 31 #[P0 b, aggV (Ar.jobC J), .int .i64 nd, .bool may] w fun e w' => e = .returned (.tuple #[.int .i64 0, .slice none 0 0, .int .i64 2]) ∧ Kept [] w w' := by
  have HD := hide hD
  have HJL : Hid ((Ar.jobC J).length = 5) := rfl
  obtain ⟨many, hmany⟩ : ∃ x, x = J.sectors.1 := ⟨_, rfl⟩
  obtain ⟨mc, hmc⟩ : ∃ x, x = J.sectors.2 := ⟨_, rfl⟩
  obtain ⟨po, hpo⟩ : ∃ x, x = (J.head nd).1 := ⟨_, rfl⟩
  obtain ⟨hc, hhc⟩ : ∃ x, x = (J.head nd).2 := ⟨_, rfl⟩
  obtain ⟨sn, hsn⟩ : ∃ x : Nat, x = D.S.length := ⟨_, rfl⟩
  have hs1 : 1 ≤ sn := by rw [hsn]; exact hD.ok.s0
  have HSN : Hid (sn = D.S.length) := hsn
  have P54 := hide (fun W => sect54 J W)
  have P37 := hide (fun W => head37 J nd W)
  rw [← hmany, ← hmc] at P54
  rw [← hpo, ← hhc] at P37
  rw [← hhc] at hbad
  have hb2 : (hc != 0) = true := by simpa using hbad
  clear hD hsn
  go_enter Tryd.func31, Tryd.ntmps31
  go_wp2_with (
    first
    | (refine wpBoxV (by rfl) (.tmp 1) (by rfl) (Ar.jobC J) (by kernel_rfl) ?_
       intro W1 t5 e5 B5 K5
       have H5 := hide B5
       have HK := hide K5
       clear e5 B5 K5
       refine Stp.go ?_))
  constructor
  go_wp2_with (
    first
    | (refine wpLoadA row23 (by rfl) (.tmp 5) (by rfl) t5 0 (by kernel_rfl) (Ar.jobC J) (unhide HJL) (unhide H5).range ?_
       refine Stp.go ?_))
  constructor
  go_wp2_with (
    first
    | (go_at_call 54
       refine (unhide P54 _).mono ?_
       rintro e W2 ⟨rfl, K2⟩
       replace H5 := hide ((unhide H5).kept K2 (by simp))
       replace HK := hide ((unhide HK).trans K2)
       clear K2
       refine Stp.go ?_))
  constructor
  go_wp2_with (
    first
    | (refine wpLoadA row23 (by rfl) (.tmp 5) (by rfl) t5 0 (by kernel_rfl) (Ar.jobC J) (unhide HJL) (unhide H5).range ?_
       refine Stp.go ?_))
  constructor
  go_wp2_with (
    first
    | (go_at_call 37
       refine (unhide P37 _).mono ?_
       rintro e W3 ⟨rfl, K3⟩
       replace H5 := hide ((unhide H5).kept K3 (by simp))
       replace HK := hide ((unhide HK).trans K3)
       have P55 := hide (size55 b g D _ ((unhide HD).kept (unhide HK) (by simp) (by simp)))
       rw [← unhide HSN] at P55
       clear K3
       refine Stp.go ?_))
  constructor
  go_wp2_with (
    first
    | (go_at_call 55
       refine (unhide P55).mono ?_
       rintro e w' ⟨rfl, hw9⟩
       obtain rfl := hw9.symm
       clear hw9))
  refine bodyPost_ret (results_tmp3 rfl _ _) rfl ?_
  exact ⟨rfl, unhide HK⟩
set_option maxHeartbeats 4000000 in
theorem look_a2 (b g : Nat) (D : Dv.Dev) (J : Ar.Job) (nd : Int) (may : Bool) (w : World) (hD : Dv.Dv w b g D) (hok : (J.head nd).2 = 0) (hbad : may = false) : Calls Tryd.prog 31 #[P0 b, aggV (Ar.jobC J), .int .i64 nd, .bool may] w fun e w' => e = .returned (.tuple #[.int .i64 0, .slice none 0 0, .int .i64 2]) ∧ Kept [] w w' := by
  have HD := hide hD
  have HJL : Hid ((Ar.jobC J).length = 5) := rfl
  obtain ⟨many, hmany⟩ : ∃ x, x = J.sectors.1 := ⟨_, rfl⟩
  obtain ⟨mc, hmc⟩ : ∃ x, x = J.sectors.2 := ⟨_, rfl⟩
  obtain ⟨po, hpo⟩ : ∃ x, x = (J.head nd).1 := ⟨_, rfl⟩
  obtain ⟨hc, hhc⟩ : ∃ x, x = (J.head nd).2 := ⟨_, rfl⟩
  obtain ⟨sn, hsn⟩ : ∃ x : Nat, x = D.S.length := ⟨_, rfl⟩
  have hs1 : 1 ≤ sn := by rw [hsn]; exact hD.ok.s0
  have HSN : Hid (sn = D.S.length) := hsn
  have P54 := hide (fun W => sect54 J W)
  have P37 := hide (fun W => head37 J nd W)
  rw [← hmany, ← hmc] at P54
  rw [← hpo, ← hhc] at P37
  rw [← hhc] at hok
  subst hok hbad
  clear hD hsn
  go_enter Tryd.func31, Tryd.ntmps31
  go_wp2_with (
    first
    | (refine wpBoxV (by rfl) (.tmp 1) (by rfl) (Ar.jobC J) (by kernel_rfl) ?_
       intro W1 t5 e5 B5 K5
       have H5 := hide B5
       have HK := hide K5
       clear e5 B5 K5
       refine Stp.go ?_))
  constructor
  go_wp2_with (
    first
    | (refine wpLoadA row23 (by rfl) (.tmp 5) (by rfl) t5 0 (by kernel_rfl) (Ar.jobC J) (unhide HJL) (unhide H5).range ?_
       refine Stp.go ?_))
  constructor
  go_wp2_with (
    first
    | (go_at_call 54
       refine (unhide P54 _).mono ?_
       rintro e W2 ⟨rfl, K2⟩
       replace H5 := hide ((unhide H5).kept K2 (by simp))
       replace HK := hide ((unhide HK).trans K2)
       clear K2
       refine Stp.go ?_))
  constructor
  go_wp2_with (
    first
    | (refine wpLoadA row23 (by rfl) (.tmp 5) (by rfl) t5 0 (by kernel_rfl) (Ar.jobC J) (unhide HJL) (unhide H5).range ?_
       refine Stp.go ?_))
  constructor
  go_wp2_with (
    first
    | (go_at_call 37
       refine (unhide P37 _).mono ?_
       rintro e W3 ⟨rfl, K3⟩
       replace H5 := hide ((unhide H5).kept K3 (by simp))
       replace HK := hide ((unhide HK).trans K3)
       have P55 := hide (size55 b g D _ ((unhide HD).kept (unhide HK) (by simp) (by simp)))
       rw [← unhide HSN] at P55
       clear K3
       refine Stp.go ?_))
  constructor
  go_wp2_with (
    first
    | (go_at_call 55
       refine (unhide P55).mono ?_
       rintro e w' ⟨rfl, hw9⟩
       obtain rfl := hw9.symm
       clear hw9))
  refine bodyPost_ret (results_tmp3 rfl _ _) rfl ?_
  exact ⟨rfl, unhide HK⟩
set_option maxHeartbeats 4000000 in
theorem look_a3 (b g : Nat) (D : Dv.Dev) (J : Ar.Job) (nd : Int) (may : Bool) (w : World) (hD : Dv.Dv w b g D) (hok : (J.head nd).2 = 0) (hmy : may = true) (hbad : (D.S.length : Int) < J.sectors.1) : Calls Tryd.prog 31 #[P0 b, aggV (Ar.jobC J), .int .i64 nd, .bool may] w fun e w' => e = .returned (.tuple #[.int .i64 0, .slice none 0 0, .int .i64 2]) ∧ Kept [] w w' := by
  have HD := hide hD
  have HJL : Hid ((Ar.jobC J).length = 5) := rfl
  obtain ⟨many, hmany⟩ : ∃ x, x = J.sectors.1 := ⟨_, rfl⟩
  obtain ⟨mc, hmc⟩ : ∃ x, x = J.sectors.2 := ⟨_, rfl⟩
  obtain ⟨po, hpo⟩ : ∃ x, x = (J.head nd).1 := ⟨_, rfl⟩
  obtain ⟨hc, hhc⟩ : ∃ x, x = (J.head nd).2 := ⟨_, rfl⟩
  obtain ⟨sn, hsn⟩ : ∃ x : Nat, x = D.S.length := ⟨_, rfl⟩
  have hs1 : 1 ≤ sn := by rw [hsn]; exact hD.ok.s0
  have HSN : Hid (sn = D.S.length) := hsn
  have P54 := hide (fun W => sect54 J W)
  have P37 := hide (fun W => head37 J nd W)
  rw [← hmany, ← hmc] at P54
  rw [← hpo, ← hhc] at P37
  rw [← hhc] at hok
  subst hok hmy
  rw [← hmany, ← hsn] at hbad
  clear hD hsn
  go_enter Tryd.func31, Tryd.ntmps31
  go_wp2_with (
    first
    | (refine wpBoxV (by rfl) (.tmp 1) (by rfl) (Ar.jobC J) (by kernel_rfl) ?_
       intro W1 t5 e5 B5 K5
       have H5 := hide B5
       have HK := hide K5
       clear e5 B5 K5
       refine Stp.go ?_))
  constructor
  go_wp2_with (
    first
    | (refine wpLoadA row23 (by rfl) (.tmp 5) (by rfl) t5 0 (by kernel_rfl) (Ar.jobC J) (unhide HJL) (unhide H5).range ?_
       refine Stp.go ?_))
  constructor
  go_wp2_with (
    first
    | (go_at_call 54
       refine (unhide P54 _).mono ?_
       rintro e W2 ⟨rfl, K2⟩
       replace H5 := hide ((unhide H5).kept K2 (by simp))
       replace HK := hide ((unhide HK).trans K2)
       clear K2
       refine Stp.go ?_))
  constructor
  go_wp2_with (
    first
    | (refine wpLoadA row23 (by rfl) (.tmp 5) (by rfl) t5 0 (by kernel_rfl) (Ar.jobC J) (unhide HJL) (unhide H5).range ?_
       refine Stp.go ?_))
  constructor
  go_wp2_with (
    first
    | (go_at_call 37
       refine (unhide P37 _).mono ?_
       rintro e W3 ⟨rfl, K3⟩
       replace H5 := hide ((unhide H5).kept K3 (by simp))
       replace HK := hide ((unhide HK).trans K3)
       have P55 := hide (size55 b g D _ ((unhide HD).kept (unhide HK) (by simp) (by simp)))
       rw [← unhide HSN] at P55
       clear K3
       refine Stp.go ?_))
  constructor
  go_wp2_with (
    first
    | (go_at_call 55
       refine (unhide P55).mono ?_
       rintro e w' ⟨rfl, hw9⟩
       obtain rfl := hw9.symm
       clear hw9
       refine Stp.go ?_))
  constructor
  go_wp2_with (
    first
    | (go_at_call 55
       refine (unhide P55).mono ?_
       rintro e w' ⟨rfl, hw9⟩
       obtain rfl := hw9.symm
       clear hw9))
  refine bodyPost_ret (results_tmp3 rfl _ _) rfl ?_
  exact ⟨rfl, unhide HK⟩
theorem hdC_one (st ep : Int) : ∀ u ∈ Rc.hdC st ep, u.oneCell' = true := by
  intro u hu
  simp only [Rc.hdC, List.mem_cons, List.not_mem_nil, or_false] at hu
  rcases hu with rfl | rfl <;> rfl
theorem head_ok {J : Ar.Job} {nd : Int} (h : (J.head nd).2 = 0) : J.may = true ∧ 0 ≤ nd ∧ nd < J.n := by
  unfold Ar.Job.head at h
  split at h
  · rename_i h1
    simp only [Bool.and_eq_true, Ar.below, decide_eq_true_eq] at h1
    exact ⟨h1.1, h1.2⟩
  · simp at h
set_option maxHeartbeats 4000000 in
theorem look_bad (b g : Nat) (D : Dv.Dev) (J : Ar.Job) (nd : Int) (may : Bool) (w : World) (hD : Dv.Dv w b g D) (hok : (J.head nd).2 = 0) (hmy : may = true) (hbig : ¬ (D.S.length : Int) < J.sectors.1) (hF : Rc.First w) (hbad : ¬ (Rc.takeR (D.read (J.head nd).1).1).2 = 0) : Calls Tryd.prog 31 #[P0 b, aggV (Ar.jobC J), .int .i64 nd, .bool may] w fun e w' => e = .returned (.tuple #[.int .i64 0, .slice none 0 0, .int .i64 (Rc.takeR (D.read (J.head nd).1).1).2]) ∧ Kept [] w w' := by
  have HD := hide hD
  have HJL : Hid ((Ar.jobC J).length = 5) := rfl
  obtain ⟨many, hmany⟩ : ∃ x, x = J.sectors.1 := ⟨_, rfl⟩
  obtain ⟨mc, hmc⟩ : ∃ x, x = J.sectors.2 := ⟨_, rfl⟩
  obtain ⟨po, hpo⟩ : ∃ x, x = (J.head nd).1 := ⟨_, rfl⟩
  obtain ⟨hc, hhc⟩ : ∃ x, x = (J.head nd).2 := ⟨_, rfl⟩
  obtain ⟨sn, hsn⟩ : ∃ x : Nat, x = D.S.length := ⟨_, rfl⟩
  have hs1 : 1 ≤ sn := by rw [hsn]; exact hD.ok.s0
  have HSN : Hid (sn = D.S.length) := hsn
  have P54 := hide (fun W => sect54 J W)
  have P37 := hide (fun W => head37 J nd W)
  rw [← hmany, ← hmc] at P54
  rw [← hpo, ← hhc] at P37
  have HDO := hide hD.ok
  have HOK := hide (head_ok hok)
  rw [← hhc] at hok
  subst hok hmy
  rw [← hmany, ← hsn] at hbig
  obtain ⟨sa, hsa⟩ : ∃ x, x = (D.read po).1 := ⟨_, rfl⟩
  obtain ⟨ea, hea⟩ : ∃ x, x = (D.read po).2 := ⟨_, rfl⟩
  obtain ⟨st, hst⟩ : ∃ x, x = (Rc.takeR sa).1.1 := ⟨_, rfl⟩
  obtain ⟨ep, hep⟩ : ∃ x, x = (Rc.takeR sa).1.2 := ⟨_, rfl⟩
  obtain ⟨tc, htc⟩ : ∃ x, x = (Rc.takeR sa).2 := ⟨_, rfl⟩
  have hsb : Rc.Byts 64 sa := by rw [hsa]; exact read_byts (unhide HDO) po
  have HSL : Hid ((u8s sa).length = 64) := by rw [u8s_len]; exact hsb.len
  have HHL : Hid ((Rc.hdC st ep).length = 2) := rfl
  have HF := hide hF
  have PRD : Hid (∀ W', Kept [] w W' → Calls Tryd.prog 56 #[P0 b, .int .i64 po] W' fun e w' => e = .returned (.tuple #[aggV (u8s sa), .int .i64 ea]) ∧ Kept [] W' w') := by
    intro W' hk
    rw [hsa, hea]
    exact read56 b g D po W' ((unhide HD).kept hk (by simp) (by simp)) (by rw [hpo]; exact head_pos J nd (unhide HOK).1 (unhide HOK).2)
  have P57 : Hid (∀ W', Rc.First W' → Calls Tryd.prog 57 #[aggV (u8s sa)] W' fun e w' => e = .returned (.tuple #[aggV (Rc.hdC st ep), .int .i64 tc]) ∧ Kept [] W' w') := by
    intro W' hF'
    rw [hst, hep, htc]
    exact take57 sa hsb W' hF'
  have HT : Hid (tc = (Rc.takeR (D.read (J.head nd).1).1).2) := by show _ = _; rw [htc, hsa, hpo]
  have HS2 : Hid (st = (Rc.takeR (D.read (J.head nd).1).1).1.1 ∧ ep = (Rc.takeR (D.read (J.head nd).1).1).1.2) := by rw [hst, hep, hsa, hpo]; exact ⟨rfl, rfl⟩
  rw [← unhide HT] at hbad
  have hb2 : (tc != 0) = true := by simpa using hbad
  rw [← unhide HT]
  clear hst hep htc hsa hea hpo hsb hF
  clear hD hsn
  go_enter Tryd.func31, Tryd.ntmps31
  go_wp2_with (
    first
    | (refine wpBoxV (by rfl) (.tmp 1) (by rfl) (Ar.jobC J) (by kernel_rfl) ?_
       intro W1 t5 e5 B5 K5
       have H5 := hide B5
       have HK := hide K5
       clear e5 B5 K5
       refine Stp.go ?_))
  constructor
  go_wp2_with (
    first
    | (refine wpLoadA row23 (by rfl) (.tmp 5) (by rfl) t5 0 (by kernel_rfl) (Ar.jobC J) (unhide HJL) (unhide H5).range ?_
       refine Stp.go ?_))
  constructor
  go_wp2_with (
    first
    | (go_at_call 54
       refine (unhide P54 _).mono ?_
       rintro e W2 ⟨rfl, K2⟩
       replace H5 := hide ((unhide H5).kept K2 (by simp))
       replace HK := hide ((unhide HK).trans K2)
       clear K2
       refine Stp.go ?_))
  constructor
  go_wp2_with (
    first
    | (refine wpLoadA row23 (by rfl) (.tmp 5) (by rfl) t5 0 (by kernel_rfl) (Ar.jobC J) (unhide HJL) (unhide H5).range ?_
       refine Stp.go ?_))
  constructor
  go_wp2_with (
    first
    | (go_at_call 37
       refine (unhide P37 _).mono ?_
       rintro e W3 ⟨rfl, K3⟩
       replace H5 := hide ((unhide H5).kept K3 (by simp))
       replace HK := hide ((unhide HK).trans K3)
       have P55 := hide (size55 b g D _ ((unhide HD).kept (unhide HK) (by simp) (by simp)))
       rw [← unhide HSN] at P55
       clear K3
       refine Stp.go ?_))
  constructor
  go_wp2_with (
    first
    | (go_at_call 55
       refine (unhide P55).mono ?_
       rintro e w' ⟨rfl, hw9⟩
       obtain rfl := hw9.symm
       clear hw9
       refine Stp.go ?_))
  constructor
  go_wp2_with (
    first
    | (go_at_call 55
       refine (unhide P55).mono ?_
       rintro e w' ⟨rfl, hw9⟩
       obtain rfl := hw9.symm
       clear hw9
       refine Stp.go ?_))
  constructor
  go_wp2_with (
    first
    | (go_at_call 56
       refine (unhide PRD _ (unhide HK)).mono ?_
       rintro e W4 ⟨rfl, K4⟩
       replace H5 := hide ((unhide H5).kept K4 (by simp))
       replace HK := hide ((unhide HK).trans K4)
       clear K4
       refine Stp.go ?_))
  constructor
  go_wp2_with (
    first
    | (refine wpNew row80 (u8s (Rc.zs 64)) (by simp [u8s_len, Rc.zs]) (fun w => Rc.zero29 w) 15 (by rfl) (by rfl) (by rfl) (.tmp 50) (by rfl) (by rfl) (by rfl) (u8s sa) (unhide HSL) (u8s_one _) (by kernel_rfl) (by kernel_rfl) ?_
       intro W5 q15 e15 B15 K15
       have H15 := hide B15
       replace H5 := hide ((unhide H5).kept K15 (by simp))
       replace HK := hide ((unhide HK).trans K15)
       clear e15 B15 K15
       refine Stp.go ?_))
  constructor
  go_wp2_with (
    first
    | (refine wpLoadA row80 (by rfl) (.tmp 15) (by rfl) q15 0 (by kernel_rfl) (u8s sa) (unhide HSL) (unhide H15).range ?_
       refine Stp.go ?_))
  constructor
  go_wp2_with (
    first
    | (go_at_call 57
       refine (unhide P57 _ ((unhide HF).kept (unhide HK))).mono ?_
       rintro e W6 ⟨rfl, K6⟩
       replace H5 := hide ((unhide H5).kept K6 (by simp))
       replace HK := hide ((unhide HK).trans K6)
       clear K6
       refine Stp.go ?_))
  constructor
  go_wp2_with (
    first
    | (refine wpNew row91 (Rc.hdC 0 0) rfl zero91 17 (by rfl) (by rfl) (by rfl) (.tmp 55) (by rfl) (by rfl) (by rfl) (Rc.hdC st ep) (unhide HHL) (hdC_one st ep) (by kernel_rfl) (by kernel_rfl) ?_
       intro V q17 e17 B17 K17
       have H17 := hide B17
       replace H5 := hide ((unhide H5).kept K17 (by simp))
       replace HK := hide ((unhide HK).trans K17)
       clear e17 B17 K17))
  refine bodyPost_ret (results_tmp3 rfl _ _) rfl ?_
  exact ⟨rfl, unhide HK⟩
@[reducible] def S31 (w V : World) (n : Nat) (xs : List Value) (d : Nat → Bool) (vs : Nat → Value) (W : World) : Prop :=
  Kept [] V W ∧ (d 6 = true → OwnO W (vs 6) n xs ∧ ∀ k, (vs 6).ownBlock = some k → w.heap.size ≤ k) ∧ (d 8 = true → vs 8 = vs 6)
theorem S31.loc {w V : World} {n : Nat} {xs : List Value} : ∀ d d' vs vs' W, (∀ i ∈ [6, 8], d i = d' i ∧ vs i = vs' i) → S31 w V n xs d vs W → S31 w V n xs d' vs' W := by
  intro d d' vs vs' W H h
  have e0 := H 6 (by simp)
  have e1 := H 8 (by simp)
  unfold S31 at h ⊢
  rw [← e0.1, ← e0.2, ← e1.1, ← e1.2]
  exact h
theorem cg58 (vs : Array Value) (w : World) : (callFunc 58 vs).run Tryd.prog w = .ok (.enter 58 vs) w := by kernel_rfl
section
variable {o : Oper} {a : Act} {w : World} {K : Act → World → Prop} {Q : Exit → Act → World → Prop}
theorem o_fld91_0 (x : Operand) (ho : o.op = .fieldAddr 91 x 0) (b : Nat) (hx : a.eval x = P0 b) (h : K (a.put o.dst (.pointer (some ⟨b, 0, none⟩))) w) : o.wp Tryd.prog a w K Q := by
  unfold Oper.wp execOp
  simp only [ho, hx]
  simp [go_sem]
  exact h
end
set_option maxHeartbeats 4000000 in
theorem look_yes (b g : Nat) (D : Dv.Dev) (J : Ar.Job) (nd : Int) (may : Bool) (w : World) (hD : Dv.Dv w b g D) (hok : (J.head nd).2 = 0) (hmy : may = true) (hbig : ¬ (D.S.length : Int) < J.sectors.1) (hF : Rc.First w) (hyes : (Rc.takeR (D.read (J.head nd).1).1).2 = 0) : Calls Tryd.prog 31 #[P0 b, aggV (Ar.jobC J), .int .i64 nd, .bool may] w fun e w' => ∃ u, e = .returned (.tuple #[.int .i64 (Rc.takeR (D.read (J.head nd).1).1).1.1, u, .int .i64 0]) ∧ OwnO w' u (standS D J nd (Rc.takeR (D.read (J.head nd).1).1).1.1 (Rc.takeR (D.read (J.head nd).1).1).1.2).length (cellsR (standS D J nd (Rc.takeR (D.read (J.head nd).1).1).1.1 (Rc.takeR (D.read (J.head nd).1).1).1.2)) ∧ (∀ k, u.ownBlock = some k → w.heap.size ≤ k) ∧ Kept [] w w' := by
  have HD := hide hD
  have HJL : Hid ((Ar.jobC J).length = 5) := rfl
  obtain ⟨many, hmany⟩ : ∃ x, x = J.sectors.1 := ⟨_, rfl⟩
  obtain ⟨mc, hmc⟩ : ∃ x, x = J.sectors.2 := ⟨_, rfl⟩
  obtain ⟨po, hpo⟩ : ∃ x, x = (J.head nd).1 := ⟨_, rfl⟩
  obtain ⟨hc, hhc⟩ : ∃ x, x = (J.head nd).2 := ⟨_, rfl⟩
  obtain ⟨sn, hsn⟩ : ∃ x : Nat, x = D.S.length := ⟨_, rfl⟩
  have hs1 : 1 ≤ sn := by rw [hsn]; exact hD.ok.s0
  have HSN : Hid (sn = D.S.length) := hsn
  have P54 := hide (fun W => sect54 J W)
  have P37 := hide (fun W => head37 J nd W)
  rw [← hmany, ← hmc] at P54
  rw [← hpo, ← hhc] at P37
  have HDO := hide hD.ok
  have HOK := hide (head_ok hok)
  rw [← hhc] at hok
  subst hok hmy
  rw [← hmany, ← hsn] at hbig
  obtain ⟨sa, hsa⟩ : ∃ x, x = (D.read po).1 := ⟨_, rfl⟩
  obtain ⟨ea, hea⟩ : ∃ x, x = (D.read po).2 := ⟨_, rfl⟩
  obtain ⟨st, hst⟩ : ∃ x, x = (Rc.takeR sa).1.1 := ⟨_, rfl⟩
  obtain ⟨ep, hep⟩ : ∃ x, x = (Rc.takeR sa).1.2 := ⟨_, rfl⟩
  obtain ⟨tc, htc⟩ : ∃ x, x = (Rc.takeR sa).2 := ⟨_, rfl⟩
  have hsb : Rc.Byts 64 sa := by rw [hsa]; exact read_byts (unhide HDO) po
  have HSL : Hid ((u8s sa).length = 64) := by rw [u8s_len]; exact hsb.len
  have HHL : Hid ((Rc.hdC st ep).length = 2) := rfl
  have HF := hide hF
  have PRD : Hid (∀ W', Kept [] w W' → Calls Tryd.prog 56 #[P0 b, .int .i64 po] W' fun e w' => e = .returned (.tuple #[aggV (u8s sa), .int .i64 ea]) ∧ Kept [] W' w') := by
    intro W' hk
    rw [hsa, hea]
    exact read56 b g D po W' ((unhide HD).kept hk (by simp) (by simp)) (by rw [hpo]; exact head_pos J nd (unhide HOK).1 (unhide HOK).2)
  have P57 : Hid (∀ W', Rc.First W' → Calls Tryd.prog 57 #[aggV (u8s sa)] W' fun e w' => e = .returned (.tuple #[aggV (Rc.hdC st ep), .int .i64 tc]) ∧ Kept [] W' w') := by
    intro W' hF'
    rw [hst, hep, htc]
    exact take57 sa hsb W' hF'
  have HT : Hid (tc = (Rc.takeR (D.read (J.head nd).1).1).2) := by show _ = _; rw [htc, hsa, hpo]
  have HS2 : Hid (st = (Rc.takeR (D.read (J.head nd).1).1).1.1 ∧ ep = (Rc.takeR (D.read (J.head nd).1).1).1.2) := by rw [hst, hep, hsa, hpo]; exact ⟨rfl, rfl⟩
  have hst1 := take_st (s := sa) (by rw [← htc, unhide HT]; exact hyes)
  rw [← hst] at hst1
  rw [← unhide HT] at hyes
  have hRR : standS D J nd (Rc.takeR (D.read (J.head nd).1).1).1.1 (Rc.takeR (D.read (J.head nd).1).1).1.2 = standS D J nd st ep := by rw [(unhide HS2).1, (unhide HS2).2]
  rw [hRR, ← (unhide HS2).1]
  obtain ⟨n, hn⟩ : ∃ x, x = (standS D J nd st ep).length := ⟨_, rfl⟩
  obtain ⟨xs, hxs⟩ : ∃ x, x = cellsR (standS D J nd st ep) := ⟨_, rfl⟩
  rw [← hn, ← hxs]
  have P58 : Hid (∀ W', Kept [] w W' → Calls Tryd.prog 58 #[P0 b, aggV (Ar.jobC J), .int .i64 nd, aggV (Rc.hdC st ep)] W' fun e w' => ∃ u, e = .returned u ∧ OwnO w' u n xs ∧ (∀ k, u.ownBlock = some k → W'.heap.size ≤ k) ∧ Kept [] W' w') := by
    intro W' hk
    rw [hn, hxs]
    exact standing58 b g D J nd st ep W' ((unhide HD).kept hk (by simp) (by simp)) (unhide HOK).1 (unhide HOK).2 hst1
  subst hyes
  clear hRR hn hxs hst1
  clear hst hep hsa hea hpo hsb hF
  clear hD hsn
  go_enter Tryd.func31, Tryd.ntmps31
  go_wp2_with (
    first
    | (refine wpBoxV (by rfl) (.tmp 1) (by rfl) (Ar.jobC J) (by kernel_rfl) ?_
       intro W1 t5 e5 B5 K5
       have H5 := hide B5
       have HK := hide K5
       clear e5 B5 K5
       refine Stp.go ?_))
  constructor
  go_wp2_with (
    first
    | (refine wpLoadA row23 (by rfl) (.tmp 5) (by rfl) t5 0 (by kernel_rfl) (Ar.jobC J) (unhide HJL) (unhide H5).range ?_
       refine Stp.go ?_))
  constructor
  go_wp2_with (
    first
    | (go_at_call 54
       refine (unhide P54 _).mono ?_
       rintro e W2 ⟨rfl, K2⟩
       replace H5 := hide ((unhide H5).kept K2 (by simp))
       replace HK := hide ((unhide HK).trans K2)
       clear K2
       refine Stp.go ?_))
  constructor
  go_wp2_with (
    first
    | (refine wpLoadA row23 (by rfl) (.tmp 5) (by rfl) t5 0 (by kernel_rfl) (Ar.jobC J) (unhide HJL) (unhide H5).range ?_
       refine Stp.go ?_))
  constructor
  go_wp2_with (
    first
    | (go_at_call 37
       refine (unhide P37 _).mono ?_
       rintro e W3 ⟨rfl, K3⟩
       replace H5 := hide ((unhide H5).kept K3 (by simp))
       replace HK := hide ((unhide HK).trans K3)
       have P55 := hide (size55 b g D _ ((unhide HD).kept (unhide HK) (by simp) (by simp)))
       rw [← unhide HSN] at P55
       clear K3
       refine Stp.go ?_))
  constructor
  go_wp2_with (
    first
    | (go_at_call 55
       refine (unhide P55).mono ?_
       rintro e w' ⟨rfl, hw9⟩
       obtain rfl := hw9.symm
       clear hw9
       refine Stp.go ?_))
  constructor
  go_wp2_with (
    first
    | (go_at_call 55
       refine (unhide P55).mono ?_
       rintro e w' ⟨rfl, hw9⟩
       obtain rfl := hw9.symm
       clear hw9
       refine Stp.go ?_))
  constructor
  go_wp2_with (
    first
    | (go_at_call 56
       refine (unhide PRD _ (unhide HK)).mono ?_
       rintro e W4 ⟨rfl, K4⟩
       replace H5 := hide ((unhide H5).kept K4 (by simp))
       replace HK := hide ((unhide HK).trans K4)
       clear K4
       refine Stp.go ?_))
  constructor
  go_wp2_with (
    first
    | (refine wpNew row80 (u8s (Rc.zs 64)) (by simp [u8s_len, Rc.zs]) (fun w => Rc.zero29 w) 15 (by rfl) (by rfl) (by rfl) (.tmp 50) (by rfl) (by rfl) (by rfl) (u8s sa) (unhide HSL) (u8s_one _) (by kernel_rfl) (by kernel_rfl) ?_
       intro W5 q15 e15 B15 K15
       have H15 := hide B15
       replace H5 := hide ((unhide H5).kept K15 (by simp))
       replace HK := hide ((unhide HK).trans K15)
       clear e15 B15 K15
       refine Stp.go ?_))
  constructor
  go_wp2_with (
    first
    | (refine wpLoadA row80 (by rfl) (.tmp 15) (by rfl) q15 0 (by kernel_rfl) (u8s sa) (unhide HSL) (unhide H15).range ?_
       refine Stp.go ?_))
  constructor
  go_wp2_with (
    first
    | (go_at_call 57
       refine (unhide P57 _ ((unhide HF).kept (unhide HK))).mono ?_
       rintro e W6 ⟨rfl, K6⟩
       replace H5 := hide ((unhide H5).kept K6 (by simp))
       replace HK := hide ((unhide HK).trans K6)
       clear K6
       refine Stp.go ?_))
  constructor
  go_wp2_with (
    first
    | (refine wpNew row91 (Rc.hdC 0 0) rfl zero91 17 (by rfl) (by rfl) (by rfl) (.tmp 55) (by rfl) (by rfl) (by rfl) (Rc.hdC st ep) (unhide HHL) (hdC_one st ep) (by kernel_rfl) (by kernel_rfl) ?_
       intro V q17 e17 B17 K17
       have H17 := hide B17
       replace H5 := hide ((unhide H5).kept K17 (by simp))
       replace HK := hide ((unhide HK).trans K17)
       clear e17 B17 K17
       refine Stp.go ?_))
  constructor
  go_wp2_with fail
  refine wp_region_any mixed (wpAny_gx 10 rfl (by kernel_rfl) [some (.pointer (some ⟨q17, 0, none⟩)), some (.int .i64 st), some (P0 b), some (aggV (Ar.jobC J)), some (.int .i64 nd), some (aggV (Rc.hdC st ep)), none, some (.int .i64 st), none, some (.int .i64 0)] rfl (by kernel_rfl) (fun l_ vs W => (S31 w V n xs) (fun i => l_.getD i false) vs W) (⟨⟨rfl, rfl, rfl, Nat.le_refl _, fun _ _ _ => rfl⟩, (fun h => by cases h), fun h => by cases h⟩) ?_ ?_)
  · intro ix o' hi ho a' w2 l_ vs hls hlf hJ hout hin hdep hnot
    match ix, ho with
    | 0, ho =>
      obtain rfl := Option.some.inj ho
      have e0 := hout 17 (by kernel_rfl)
      replace e0 : a'.eval (.tmp 17) = _ := e0.trans rfl
      exact o_fld91_0 (.tmp 17) rfl _ e0 ⟨_, rfl, told_of rfl, keepG (St := (S31 w V n xs)) [6, 8] S31.loc (by omega) (by decide) hJ⟩
    | 1, ho =>
      obtain rfl := Option.some.inj ho
      have e0 : a'.eval (.tmp 60) = .pointer (some ⟨q17, 0, none⟩) := by have h9 := hin 0 60 (by kernel_rfl) (by kernel_rfl); exact h9.1.trans (told_is _ h9.2 rfl)
      exact q_load2 (.tmp 60) rfl _ _ e0 (fits_cell ((unhide H17).kept hJ.1 (by simp)) 0 _ rfl) ⟨_, rfl, told_of rfl, keepG (St := (S31 w V n xs)) [6, 8] S31.loc (by omega) (by decide) hJ⟩
    | 2, ho =>
      obtain rfl := Option.some.inj ho
      have e0 := hout 0 (by kernel_rfl)
      replace e0 : a'.eval (.tmp 0) = _ := e0.trans rfl
      exact wp_move (.tmp 0) rfl _ e0 ⟨_, rfl, told_of rfl, keepG (St := (S31 w V n xs)) [6, 8] S31.loc (by omega) (by decide) hJ⟩
    | 3, ho =>
      obtain rfl := Option.some.inj ho
      have e0 := hout 5 (by kernel_rfl)
      replace e0 : a'.eval (.tmp 5) = _ := e0.trans rfl
      exact wp_loadA row23 (.tmp 5) rfl t5 0 e0 (Ar.jobC J) rfl ((unhide H5).kept hJ.1 (by simp)).range ⟨_, rfl, told_of rfl, keepG (St := (S31 w V n xs)) [6, 8] S31.loc (by omega) (by decide) hJ⟩
    | 4, ho =>
      obtain rfl := Option.some.inj ho
      have e0 := hout 2 (by kernel_rfl)
      replace e0 : a'.eval (.tmp 2) = _ := e0.trans rfl
      exact wp_move (.tmp 2) rfl _ e0 ⟨_, rfl, told_of rfl, keepG (St := (S31 w V n xs)) [6, 8] S31.loc (by omega) (by decide) hJ⟩
    | 5, ho =>
      obtain rfl := Option.some.inj ho
      have e0 := hout 17 (by kernel_rfl)
      replace e0 : a'.eval (.tmp 17) = _ := e0.trans rfl
      exact wp_loadA row91 (.tmp 17) rfl q17 0 e0 (Rc.hdC st ep) rfl ((unhide H17).kept hJ.1 (by simp)).range ⟨_, rfl, told_of rfl, keepG (St := (S31 w V n xs)) [6, 8] S31.loc (by omega) (by decide) hJ⟩
    | 6, ho =>
      obtain rfl := Option.some.inj ho
      have e0 : a'.eval (.tmp 62) = P0 b := by have h9 := hin 2 62 (by kernel_rfl) (by kernel_rfl); exact h9.1.trans (told_is _ h9.2 rfl)
      have e1 : a'.eval (.tmp 63) = aggV (Ar.jobC J) := by have h9 := hin 3 63 (by kernel_rfl) (by kernel_rfl); exact h9.1.trans (told_is _ h9.2 rfl)
      have e2 : a'.eval (.tmp 64) = .int .i64 nd := by have h9 := hin 4 64 (by kernel_rfl) (by kernel_rfl); exact h9.1.trans (told_is _ h9.2 rfl)
      have e3 : a'.eval (.tmp 65) = aggV (Rc.hdC st ep) := by have h9 := hin 5 65 (by kernel_rfl) (by kernel_rfl); exact h9.1.trans (told_is _ h9.2 rfl)
      refine wp_callF 58 _ _ rfl #[P0 b, aggV (Ar.jobC J), .int .i64 nd, aggV (Rc.hdC st ep)] (by simp [e0, e1, e2, e3]) (cg58 _ _) ((unhide P58 w2 ((unhide HK).trans hJ.1)).mono ?_)
      rintro e w3 ⟨u, rfl, hO3, hf3, hk3⟩
      exact ⟨_, rfl, _, rfl, told_no rfl, nextG (St := (S31 w V n xs)) (by omega) ⟨hJ.1.trans hk3, (fun _ => ⟨hO3, fun k hk => by have h1 := hf3 k hk; have h2 := (unhide HK).size; have h3 := hJ.1.size; omega⟩), (fun h => by have h9 : l_.getD 8 false = true := h; rw [hnot 8 (by kernel_rfl)] at h9; cases h9)⟩⟩
    | 7, ho =>
      obtain rfl := Option.some.inj ho
      have e0 : a'.eval (.tmp 61) = .int .i64 st := by have h9 := hin 1 61 (by kernel_rfl) (by kernel_rfl); exact h9.1.trans (told_is _ h9.2 rfl)
      exact wp_assignV (.tmp 61) rfl _ e0 ⟨_, rfl, told_of rfl, keepG (St := (S31 w V n xs)) [6, 8] S31.loc (by omega) (by decide) hJ⟩
    | 8, ho =>
      obtain rfl := Option.some.inj ho
      have e0 : a'.eval (.tmp 66) = vs 6 := (hin 6 66 (by kernel_rfl) (by kernel_rfl)).1
      exact wp_assignV (.tmp 66) rfl _ e0 ⟨_, rfl, told_no rfl, nextG (St := (S31 w V n xs)) (by omega) ⟨hJ.1, fun h => hJ.2.1 h, fun _ => rfl⟩⟩
    | 9, ho =>
      obtain rfl := Option.some.inj ho
      exact wp_assignV (.const (.int .i64 0)) rfl _ rfl ⟨_, rfl, told_of rfl, keepG (St := (S31 w V n xs)) [6, 8] S31.loc (by omega) (by decide) hJ⟩
  intro l_ vs9 V9 hl hJ htold
  have t0 : vs9 0 = .pointer (some ⟨q17, 0, none⟩) := told_is _ (htold 0 (by decide)) rfl
  have t1 : vs9 1 = .int .i64 st := told_is _ (htold 1 (by decide)) rfl
  have t2 : vs9 2 = P0 b := told_is _ (htold 2 (by decide)) rfl
  have t3 : vs9 3 = aggV (Ar.jobC J) := told_is _ (htold 3 (by decide)) rfl
  have t4 : vs9 4 = .int .i64 nd := told_is _ (htold 4 (by decide)) rfl
  have t5 : vs9 5 = aggV (Rc.hdC st ep) := told_is _ (htold 5 (by decide)) rfl
  have t7 : vs9 7 = .int .i64 st := told_is _ (htold 7 (by decide)) rfl
  have t9 : vs9 9 = .int .i64 0 := told_is _ (htold 9 (by decide)) rfl
  rw [show (List.range 10).map vs9 = [vs9 0, vs9 1, vs9 2, vs9 3, vs9 4, vs9 5, vs9 6, vs9 7, vs9 8, vs9 9] from rfl]
  simp only [t0, t1, t2, t3, t4, t5, t7, t9, putAll, Act.put, List.setIfInBounds_toArray, List.set_cons_succ, List.set_cons_zero]
  clear t0 t1 t2 t3 t4 t5 t7 t9 htold
  obtain ⟨hO9, hf9⟩ := hJ.2.1 (hl 6 (by decide))
  have e8 := hJ.2.2 (hl 8 (by decide))
  rw [e8]
  have HO9 := hide hO9
  have HF9 := hide hf9
  have HK9 := hide ((unhide HK).trans hJ.1)
  clear hJ hl e8 hO9 hf9
  go_wp2_with fail
  refine bodyPost_ret (results_tmp3 rfl _ _) rfl ?_
  exact ⟨vs9 6, rfl, unhide HO9, unhide HF9, unhide HK9⟩
theorem look31 (b g : Nat) (D : Dv.Dev) (J : Ar.Job) (nd : Int) (may : Bool) (w : World) (hD : Dv.Dv w b g D) (hF : Rc.First w) : Calls Tryd.prog 31 #[P0 b, aggV (Ar.jobC J), .int .i64 nd, .bool may] w fun e w' => ∃ u, e = .returned (.tuple #[.int .i64 (lookR D J nd may).1, u, .int .i64 (lookR D J nd may).2.2]) ∧ OwnO w' u (lookR D J nd may).2.1.length (cellsR (lookR D J nd may).2.1) ∧ (∀ k, u.ownBlock = some k → w.heap.size ≤ k) ∧ Kept [] w w' := by
  unfold lookR
  by_cases hbad : ¬ (J.head nd).2 = 0 ∨ may = false ∨ (D.S.length : Int) < J.sectors.1
  · rw [if_pos hbad]
    have h : Calls Tryd.prog 31 #[P0 b, aggV (Ar.jobC J), .int .i64 nd, .bool may] w fun e w' => e = .returned (.tuple #[.int .i64 0, .slice none 0 0, .int .i64 2]) ∧ Kept [] w w' := by
      by_cases h1 : (J.head nd).2 = 0
      · cases h2 : may with
        | false => exact look_a2 b g D J nd false w hD h1 rfl
        | true => exact look_a3 b g D J nd true w hD h1 rfl (by rw [h2] at hbad; simpa [h1] using hbad)
      · exact look_a1 b g D J nd may w hD h1
    exact h.mono (by rintro e w' ⟨rfl, hk⟩; exact ⟨_, rfl, OwnO.nil _, (fun k e => by cases e), hk⟩)
  · rw [if_neg hbad]
    simp only [not_or, Classical.not_not, Bool.not_eq_false] at hbad
    obtain ⟨h1, h2, h3⟩ := hbad
    by_cases ht : (Rc.takeR (D.read (J.head nd).1).1).2 = 0
    · rw [if_neg (by simpa using ht)]
      exact look_yes b g D J nd may w hD h1 h2 h3 hF ht
    · rw [if_pos ht]
      exact (look_bad b g D J nd may w hD h1 h2 h3 hF ht).mono (by rintro e w' ⟨rfl, hk⟩; exact ⟨_, rfl, OwnO.nil _, (fun k e => by cases e), hk⟩)

end Go.Proofs.YtmeajhdhiebkdaaDoor
