/-
  What stands at the places of a log, gone over.
-/
import Derived.Test.YtmeajhdhiebkdaaDoorLh
namespace Go.Proofs.YtmeajhdhiebkdaaDoor
set_option maxRecDepth 100000
open Go.RowKit Go.Shelf
attribute [local go_sem] Oper.semAt_some

section
variable {o : Oper} {a : Act} {w : World} {K : Act → World → Prop} {Q : Exit → Act → World → Prop}
theorem o_addc3 (x : Operand) (c : Int) (ho : o.op = .binOp .add 3 x (.const (.int .i64 c)) 3) (m r : Int) (hr : m + c = r) (hb : -9223372036854775808 ≤ r ∧ r ≤ 9223372036854775807) (hx : a.eval x = .int .i64 m) (h : K (a.put o.dst (.int .i64 r)) w) : o.wp Tryd.prog a w K Q := by
  have hw : IntKind.i64.wrap r = r := by rw [IntKind.wrap_i64]; omega
  unfold Oper.wp execOp
  simp only [ho, hx]
  simp [go_sem, Act.eval, hr, hw]
  exact h
end
theorem inMin {F : Fence} {n : Nat} {ops : Array Oper} {rest : List Oper} {o : Oper} {a : Act} {w : World} {Q : Exit → Act → World → Prop} (hF : ∀ f, F.fn f) (hw : Region.wanted o (yielded ops a.tmps) = true) (x : Operand) (c : Int) (ho : o.op = .call { callee := .builtin .min, args := #[x, .const (.int .i64 c)], argTypes := #[2, 2] }) (hsem : o.semAt F.round a.eval = execOp a.eval o) (m M : Int) (hM : M = min m c) (hx : a.eval x = .int .i64 m)
    (h : wpListIn F n Tryd.prog ops Q rest (a.put o.dst (.int .i64 M)) w) : wpListIn F n Tryd.prog ops Q (o :: rest) a w := by
  refine wpListIn_want hw (wpIn_value (v := .int .i64 M) hF hsem ?_ h)
  have hc : a.eval (.const (.int .i64 c)) = .int .i64 c := rfl
  unfold execOp
  simp only [ho, resolve, invoke, builtin, Sem.run_bind, Sem.run_pure, Result.andThen_ok, List.map_toArray, List.map_cons, List.map_nil, hx, hc]
  by_cases hlt : m ≤ c
  · rw [hM, Int.min_eq_left hlt]
    simp [go_sem]
    omega
  · rw [hM, Int.min_eq_right (by omega)]
    simp [go_sem]
    omega
theorem rec_small (J : Ar.Job) (n s : Int) (h : J.may = true) (hn : 0 ≤ n ∧ n < J.n) : 0 ≤ (J.record n s).1 ∧ (J.record n s).1 ≤ 10000 := by
  simp only [Ar.Job.may, decide_eq_true_eq] at h
  unfold Ar.Job.record
  split
  · have h1 : n * (1 + 2 * J.l) ≤ 8 * 129 := Int.mul_le_mul (by omega) (by omega) (by omega) (by omega)
    have h2 : 0 ≤ n * (1 + 2 * J.l) := Int.mul_nonneg (by omega) (by omega)
    have h3 := Int.emod_nonneg (s - 1) (b := J.l) (by omega)
    have h4 := Int.emod_lt_of_pos (s - 1) (b := J.l) (by omega)
    constructor <;> simp only <;> omega
  · constructor <;> simp only <;> omega
set_option maxHeartbeats 8000000 in
theorem laid_in (n : Nat) (hn : 1 ≤ n) (lp p1 p2 p3 p4 b g : Nat) (D : Dv.Dev) (J : Ar.Job) (nd st : Int) (W : World) (hD : Dv.Dv W b g D) (hv : Lv W p1 p2 p3 p4 b J nd st) (hmay : J.may = true) (hnd : 0 ≤ nd ∧ nd < J.n) (hst : 1 ≤ st ∧ st ≤ 2147483647)
    (I Ix : Nat → World → Prop) (hI : ∀ k A B, I k A → A.grownBy B none → I k B)
    (hY : ∀ k r W1, (laidS D J nd st)[k]? = some r → I k W1 → YieldAt Fence.wide (n - 1) Tryd.prog lp #[aggV (Rc.recC r)] W1 fun e W' => (e = .returned (.bool true) ∧ I (k + 1) W' ∧ KeptJ W1 W') ∨ (e = .returned (.bool false) ∧ Ix (k + 1) W'))
    (h0 : I 0 W) :
    CallsIn Fence.wide n Tryd.prog 91 #[.func (.yield lp) #[] #[], P0 p1, P0 p2, P0 p3, P0 p4] W fun e W' => (∃ v, e = .returned v) ∧ (I (laidS D J nd st).length W' ∨ ∃ k, k < (laidS D J nd st).length ∧ Ix (k + 1) W') := by
  have hFw := wideF
  have HD := hide hD
  have HV := hide hv
  have HJL : Hid ((Ar.jobC J).length = 5) := rfl
  have HM := hide hmay
  have HND := hide hnd
  have hc2 := fits_cell hv.n 0 _ rfl
  have HI0 := hide h0
  obtain ⟨S, hS⟩ : ∃ S, S = laidS D J nd st := ⟨_, rfl⟩
  rw [← hS] at hY
  rw [← hS]
  have HS := hide hS
  have hl64 : 2 ≤ J.l ∧ J.l ≤ 64 := by
    simp only [Ar.Job.may, decide_eq_true_eq] at hmay
    omega
  rw [callsIn_wide]
  clear hD hv hmay hnd h0 hS
  go_enter Tryd.func91, Tryd.ntmps91
  go_wp2_with (
    first
    | (refine wpLoadA row23 (by rfl) (.tmp 1) (by rfl) p1 0 (by kernel_rfl) (Ar.jobC J) (unhide HJL) (unhide HV).j.range ?_
       refine Stp.go ?_))
  constructor
  go_wp2_with (
    first
    | (go_at_call 34
       refine (places34 J nd _).mono ?_
       rintro e V ⟨c1, c2, rfl, hpl, hk, _, _⟩
       have HPL := hide hpl
       replace HD := hide ((unhide HD).kept hk (by simp) (by simp))
       replace HV := hide ((unhide HV).kept hk)
       replace HI0 := hide (hI _ _ _ (unhide HI0) (grown_of_kept hk))
       have hc3 := fits_cell (unhide HV).s 0 _ rfl
       clear hpl hk hc2
       refine Stp.go ?_))
  constructor
  go_wp2_with fail
  clear hc3
  rw [← wpIn_wide (n := n)]
  gi_loopw [7] (fun i w1 => ∃ k : Nat, k ≤ laidN J st ∧ k ≤ S.length ∧ i = .int .i64 (st + k) ∧ Hid (laidF D J nd (st + k) (laidN J st - k) = S.drop k) ∧ Hid (I k w1) ∧ Hid (KeptJ V w1)) (fun i _ => (st + laidN J st - intOf i).toNat)
  case atStart => exact ⟨0, by omega, by omega, by simp, by show laidF _ _ _ _ _ = _; rw [unhide HS]; simp [laidS], HI0, KeptJ.refl _⟩
  case round =>
    clear HI0
    obtain ⟨k, hkN, hkS, rfl, HE, HI, HKJ⟩ := hrel
    obtain ⟨M, hM⟩ : ∃ M, M = min (st + J.l) 2147483647 := ⟨_, rfl⟩
    have HMM := hide hM
    have hN : (laidN J st : Int) = M - st := by unfold laidN; omega
    have hMb : M ≤ 2147483647 := by omega
    obtain ⟨ls, hls⟩ : ∃ ls, ls = st + (k : Int) := ⟨_, rfl⟩
    rw [← hls] at HE
    rw [← hls]
    have HLS : Hid (ls = st + (k : Int)) := hls
    have hq3 := fits_cell ((unhide HKJ).lv (unhide HV)).s 0 _ rfl
    have hq1 : wr.cell? ⟨p1, 3, none⟩ = some (.int .i64 J.l) := fits_cell ((unhide HKJ).lv (unhide HV)).j 3 _ rfl
    by_cases hlt : k < laidN J st
    · have hlM : ls < M := by omega
      have hls1 : 1 ≤ ls := by omega
      obtain ⟨m, hm⟩ : ∃ m, laidN J st - k = m + 1 := ⟨laidN J st - k - 1, by omega⟩
      have HMK : Hid (laidN J st - (k + 1) = m ∧ k + 1 ≤ laidN J st ∧ ls + 1 ≤ st + (laidN J st : Int)) := ⟨by omega, by omega, by omega⟩
      have hE := unhide HE
      rw [hm, laidF] at hE
      obtain ⟨po, hpo⟩ : ∃ po, po = (J.record nd ls).1 := ⟨_, rfl⟩
      obtain ⟨sa, hsa⟩ : ∃ sa, sa = (D.read po).1 := ⟨_, rfl⟩
      obtain ⟨ea, hea⟩ : ∃ ea, ea = (D.read po).2 := ⟨_, rfl⟩
      obtain ⟨sb, hsb⟩ : ∃ sb, sb = (D.read (po + 1)).1 := ⟨_, rfl⟩
      obtain ⟨eb, heb⟩ : ∃ eb, eb = (D.read (po + 1)).2 := ⟨_, rfl⟩
      obtain ⟨r, hr⟩ : ∃ r, r = (Rc.getR sa sb).1 := ⟨_, rfl⟩
      obtain ⟨cr, hcr⟩ : ∃ cr, cr = (Rc.getR sa sb).2 := ⟨_, rfl⟩
      have hg : gotA D J nd ls = (r, cr) := by unfold gotA; rw [← hpo, ← hsa, ← hsb, hr, hcr]
      rw [hg] at hE
      have hpb := rec_small J nd ls (unhide HM) (unhide HND)
      rw [← hpo] at hpb
      have HPB : Hid (-9223372036854775808 ≤ po + 1 ∧ po + 1 ≤ 9223372036854775807) := by constructor <;> omega
      have hba := read_byts (unhide HD).ok po
      have hbb := read_byts (unhide HD).ok (po + 1)
      rw [← hsa] at hba
      rw [← hsb] at hbb
      have hrb : Rc.Byts 96 r.bd := by rw [hr]; exact (Rc.getR_ok hba hbb).bd
      have HLsa : Hid ((u8s sa).length = 64) := by rw [u8s_len]; exact hba.len
      have HLsb : Hid ((u8s sb).length = 64) := by rw [u8s_len]; exact hbb.len
      have HLr := hide (recC_len hrb)
      have P59 : Hid (∀ W', Kept [] wr W' → Calls Tryd.prog 59 #[.int .i64 ls, P0 c1, P0 c2] W' fun e w' => e = .returned (.int .i64 po) ∧ Kept [] W' w') := by
        intro W' hk
        rw [hpo]
        exact place59 c1 c2 J nd ls W' (((unhide HKJ).pl (unhide HPL)).kept hk (by simp) (by simp))
      have PRa : Hid (∀ W', Kept [] wr W' → Calls Tryd.prog 56 #[P0 b, .int .i64 po] W' fun e w' => e = .returned (.tuple #[aggV (u8s sa), .int .i64 ea]) ∧ Kept [] W' w') := by
        intro W' hk
        rw [hsa, hea]
        exact read56 b g D po W' (((unhide HKJ).dv (unhide HD)).kept hk (by simp) (by simp)) (by constructor <;> omega)
      have PRb : Hid (∀ W', Kept [] wr W' → Calls Tryd.prog 56 #[P0 b, .int .i64 (po + 1)] W' fun e w' => e = .returned (.tuple #[aggV (u8s sb), .int .i64 eb]) ∧ Kept [] W' w') := by
        intro W' hk
        rw [hsb, heb]
        exact read56 b g D (po + 1) W' (((unhide HKJ).dv (unhide HD)).kept hk (by simp) (by simp)) (unhide HPB)
      have P92 : Hid (∀ W', Calls Tryd.prog 92 #[aggV (u8s sa), aggV (u8s sb)] W' fun e w' => e = .returned (.tuple #[aggV (Rc.recC r), .int .i64 cr]) ∧ Kept [] W' w') := by
        intro W'
        rw [hr, hcr]
        exact get92 sa sb hba hbb W'
      have HV0 := HV
      replace HV := hide ((unhide HKJ).lv (unhide HV))
      have HQ := hide hE
      clear hE hg hr hcr hpo hsa hea hsb heb hpb hba hbb hrb hm hls hM hN hlt HE
      gi_wp2_with (
        first
        | (refine inMin wideF (by rfl) (.tmp 22) 2147483647 (by rfl) (by rfl) (st + J.l) M (unhide HMM) (by kernel_rfl) ?_))
      refine wpIn_wide.2 ?_
      refine wp_region_any mixed (wpAny_gx 11 rfl (by kernel_rfl) [some (P0 b), some (plV c1 c2), some (.int .i64 ls), some (.int .i64 po), some (.tuple #[aggV (u8s sa), .int .i64 ea]), some (.tuple #[aggV (u8s sa), .int .i64 ea]), some (aggV (u8s sa)), some (.int .i64 ea), none, none, some (.int .i64 ea)] rfl (by kernel_rfl) (fun l_ vs W => (SA wr 8 9 sa) (fun i => l_.getD i false) vs W) (⟨⟨rfl, rfl, rfl, Nat.le_refl _, fun _ _ _ => rfl⟩, fun h => by cases h⟩) ?_ ?_)
      · intro ix o' hi ho a' w2 l_ vs hls hlf hJ hout hin hdep hnot
        match ix, ho with
        | 0, ho =>
          obtain rfl := Option.some.inj ho
          have e0 := hout 4 (by kernel_rfl)
          replace e0 : a'.eval (.tmp 4) = _ := e0.trans rfl
          exact q_load31 (.tmp 4) rfl _ _ e0 (fits_cell ((unhide HV).d.kept hJ.1 (by simp)) 0 _ rfl) ⟨_, rfl, told_of rfl, keepG (St := (SA wr 8 9 sa)) [8, 9] SA.loc (by omega) (by decide) hJ⟩
        | 1, ho =>
          obtain rfl := Option.some.inj ho
          have e0 := hout 6 (by kernel_rfl)
          replace e0 : a'.eval (.tmp 6) = _ := e0.trans rfl
          exact wp_move (.tmp 6) rfl _ e0 ⟨_, rfl, told_of rfl, keepG (St := (SA wr 8 9 sa)) [8, 9] SA.loc (by omega) (by decide) hJ⟩
        | 2, ho =>
          obtain rfl := Option.some.inj ho
          have e0 := hout 7 (by kernel_rfl)
          replace e0 : a'.eval (.tmp 7) = _ := e0.trans rfl
          exact wp_move (.tmp 7) rfl _ e0 ⟨_, rfl, told_of rfl, keepG (St := (SA wr 8 9 sa)) [8, 9] SA.loc (by omega) (by decide) hJ⟩
        | 3, ho =>
          obtain rfl := Option.some.inj ho
          have e0 : a'.eval (.tmp 29) = plV c1 c2 := by have h9 := hin 1 29 (by kernel_rfl) (by kernel_rfl); exact h9.1.trans (told_is _ h9.2 rfl)
          have e1 : a'.eval (.tmp 30) = .int .i64 ls := by have h9 := hin 2 30 (by kernel_rfl) (by kernel_rfl); exact h9.1.trans (told_is _ h9.2 rfl)
          refine wp_callC 59 29 _ _ rfl #[P0 c1, P0 c2] e0 #[.int .i64 ls] (by simp [e1]) (cg59 _ _) ((unhide P59 w2 hJ.1).mono ?_)
          rintro e w3 ⟨rfl, hk3⟩
          exact ⟨_, rfl, _, rfl, told_of rfl, keepG (St := (SA wr 8 9 sa)) [8, 9] SA.loc (by omega) (by decide) (SA.kept hJ hk3)⟩
        | 4, ho =>
          obtain rfl := Option.some.inj ho
          have e0 : a'.eval (.tmp 28) = P0 b := by have h9 := hin 0 28 (by kernel_rfl) (by kernel_rfl); exact h9.1.trans (told_is _ h9.2 rfl)
          have e1 : a'.eval (.tmp 31) = .int .i64 po := by have h9 := hin 3 31 (by kernel_rfl) (by kernel_rfl); exact h9.1.trans (told_is _ h9.2 rfl)
          refine wp_callF 56 _ _ rfl #[P0 b, .int .i64 (po)] (by simp [e0, e1]) (cg56 _ _) ((unhide PRa w2 hJ.1).mono ?_)
          rintro e w3 ⟨rfl, hk3⟩
          exact ⟨_, rfl, _, rfl, told_of rfl, keepG (St := (SA wr 8 9 sa)) [8, 9] SA.loc (by omega) (by decide) (SA.kept hJ hk3)⟩
        | 5, ho =>
          obtain rfl := Option.some.inj ho
          have e0 : a'.eval (.tmp 32) = .tuple #[aggV (u8s sa), .int .i64 ea] := by have h9 := hin 4 32 (by kernel_rfl) (by kernel_rfl); exact h9.1.trans (told_is _ h9.2 rfl)
          exact wp_move (.tmp 32) rfl _ e0 ⟨_, rfl, told_of rfl, keepG (St := (SA wr 8 9 sa)) [8, 9] SA.loc (by omega) (by decide) hJ⟩
        | 6, ho =>
          obtain rfl := Option.some.inj ho
          have e0 : a'.eval (.tmp 27) = .tuple #[aggV (u8s sa), .int .i64 ea] := by have h9 := hin 5 27 (by kernel_rfl) (by kernel_rfl); exact h9.1.trans (told_is _ h9.2 rfl)
          exact o_ext0 (.tmp 27) rfl _ _ e0 ⟨_, rfl, told_of rfl, keepG (St := (SA wr 8 9 sa)) [8, 9] SA.loc (by omega) (by decide) hJ⟩
        | 7, ho =>
          obtain rfl := Option.some.inj ho
          have e0 : a'.eval (.tmp 27) = .tuple #[aggV (u8s sa), .int .i64 ea] := by have h9 := hin 5 27 (by kernel_rfl) (by kernel_rfl); exact h9.1.trans (told_is _ h9.2 rfl)
          exact o_ext1 (.tmp 27) rfl _ _ e0 ⟨_, rfl, told_of rfl, keepG (St := (SA wr 8 9 sa)) [8, 9] SA.loc (by omega) (by decide) hJ⟩
        | 8, ho =>
          obtain rfl := Option.some.inj ho
          exact wp_allocA (u8s (Rc.zs 64)) (fun w => Rc.zero29 w) rfl ⟨_, rfl, told_no rfl, nextG (St := (SA wr 8 9 sa)) (by omega) ⟨hJ.1.alloc _, fun _ => ⟨w2.heap.size, rfl, hJ.1.size, fun _ => Blk.new w2 80 _, fun h => by have h9 : l_.getD 9 false = true := h; rw [hnot 9 (by kernel_rfl)] at h9; cases h9⟩⟩⟩
        | 9, ho =>
          obtain rfl := Option.some.inj ho
          have e0 : a'.eval (.tmp 8) = vs 8 := (hin 8 8 (by kernel_rfl) (by kernel_rfl)).1
          have e1 : a'.eval (.tmp 33) = aggV (u8s sa) := by have h9 := hin 6 33 (by kernel_rfl) (by kernel_rfl); exact h9.1.trans (told_is _ h9.2 rfl)
          obtain ⟨p, hp, hge, hz, _⟩ := hJ.2 (hdep 8 (by kernel_rfl))
          exact wp_storeN row80 (.tmp 8) (.tmp 33) rfl rfl p 0 (u8s sa) (e0.trans hp) e1 (unhide HLsa) (u8s_one _) ((hz hlf).there (by rw [u8s_len]; simp [Rc.zs])) ⟨undef, rfl, told_no rfl, nextG (St := (SA wr 8 9 sa)) (by omega) ⟨hJ.1.setCells _ _ (by omega), fun _ => ⟨p, hp, hge, (fun h => by cases h), fun _ => (hz hlf).put (by rw [unhide HLsa, u8s_len]; simp [Rc.zs])⟩⟩⟩
        | 10, ho =>
          obtain rfl := Option.some.inj ho
          have e0 : a'.eval (.tmp 34) = .int .i64 ea := by have h9 := hin 7 34 (by kernel_rfl) (by kernel_rfl); exact h9.1.trans (told_is _ h9.2 rfl)
          exact wp_assignV (.tmp 34) rfl _ e0 ⟨_, rfl, told_of rfl, keepG (St := (SA wr 8 9 sa)) [8, 9] SA.loc (by omega) (by decide) hJ⟩
      intro l_ vs4 V4 hl hJ htold
      have t0 : vs4 0 = P0 b := told_is _ (htold 0 (by decide)) rfl
      have t1 : vs4 1 = plV c1 c2 := told_is _ (htold 1 (by decide)) rfl
      have t2 : vs4 2 = .int .i64 ls := told_is _ (htold 2 (by decide)) rfl
      have t3 : vs4 3 = .int .i64 po := told_is _ (htold 3 (by decide)) rfl
      have t4 : vs4 4 = .tuple #[aggV (u8s sa), .int .i64 ea] := told_is _ (htold 4 (by decide)) rfl
      have t5 : vs4 5 = .tuple #[aggV (u8s sa), .int .i64 ea] := told_is _ (htold 5 (by decide)) rfl
      have t6 : vs4 6 = aggV (u8s sa) := told_is _ (htold 6 (by decide)) rfl
      have t7 : vs4 7 = .int .i64 ea := told_is _ (htold 7 (by decide)) rfl
      have t10 : vs4 10 = .int .i64 ea := told_is _ (htold 10 (by decide)) rfl
      rw [show (List.range 11).map vs4 = [vs4 0, vs4 1, vs4 2, vs4 3, vs4 4, vs4 5, vs4 6, vs4 7, vs4 8, vs4 9, vs4 10] from rfl]
      simp only [t0, t1, t2, t3, t4, t5, t6, t7, t10, putAll, Act.put, List.setIfInBounds_toArray, List.set_cons_succ, List.set_cons_zero]
      clear t0 t1 t2 t3 t4 t5 t6 t7 t10 htold
      obtain ⟨q8, e8, hge8, _, hB8⟩ := hJ.2 (hl 8 (by decide))
      have HB8 := hide (hB8 (hl 9 (by decide)))
      have HK4 := hide hJ.1
      rw [e8]
      replace HV := hide ((unhide HV).kept hJ.1)
      clear hJ hl e8 hge8 hB8
      gi_wp2_with fail
      refine wpIn_wide.2 ?_
      refine wp_region_any mixed (wpAny_gx 12 rfl (by kernel_rfl) [some (P0 b), some (plV c1 c2), some (.int .i64 ls), some (.int .i64 po), some (.int .i64 (po + 1)), some (.tuple #[aggV (u8s sb), .int .i64 eb]), some (.tuple #[aggV (u8s sb), .int .i64 eb]), some (aggV (u8s sb)), some (.int .i64 eb), none, none, some (.int .i64 eb)] rfl (by kernel_rfl) (fun l_ vs W => (SA V4 9 10 sb) (fun i => l_.getD i false) vs W) (⟨⟨rfl, rfl, rfl, Nat.le_refl _, fun _ _ _ => rfl⟩, fun h => by cases h⟩) ?_ ?_)
      · intro ix o' hi ho a' w2 l_ vs hls hlf hJ hout hin hdep hnot
        match ix, ho with
        | 0, ho =>
          obtain rfl := Option.some.inj ho
          have e0 := hout 4 (by kernel_rfl)
          replace e0 : a'.eval (.tmp 4) = _ := e0.trans rfl
          exact q_load31 (.tmp 4) rfl _ _ e0 (fits_cell ((unhide HV).d.kept hJ.1 (by simp)) 0 _ rfl) ⟨_, rfl, told_of rfl, keepG (St := (SA V4 9 10 sb)) [9, 10] SA.loc (by omega) (by decide) hJ⟩
        | 1, ho =>
          obtain rfl := Option.some.inj ho
          have e0 := hout 6 (by kernel_rfl)
          replace e0 : a'.eval (.tmp 6) = _ := e0.trans rfl
          exact wp_move (.tmp 6) rfl _ e0 ⟨_, rfl, told_of rfl, keepG (St := (SA V4 9 10 sb)) [9, 10] SA.loc (by omega) (by decide) hJ⟩
        | 2, ho =>
          obtain rfl := Option.some.inj ho
          have e0 := hout 7 (by kernel_rfl)
          replace e0 : a'.eval (.tmp 7) = _ := e0.trans rfl
          exact wp_move (.tmp 7) rfl _ e0 ⟨_, rfl, told_of rfl, keepG (St := (SA V4 9 10 sb)) [9, 10] SA.loc (by omega) (by decide) hJ⟩
        | 3, ho =>
          obtain rfl := Option.some.inj ho
          have e0 : a'.eval (.tmp 37) = plV c1 c2 := by have h9 := hin 1 37 (by kernel_rfl) (by kernel_rfl); exact h9.1.trans (told_is _ h9.2 rfl)
          have e1 : a'.eval (.tmp 38) = .int .i64 ls := by have h9 := hin 2 38 (by kernel_rfl) (by kernel_rfl); exact h9.1.trans (told_is _ h9.2 rfl)
          refine wp_callC 59 37 _ _ rfl #[P0 c1, P0 c2] e0 #[.int .i64 ls] (by simp [e1]) (cg59 _ _) ((unhide P59 w2 (Kept.trans (unhide HK4) hJ.1)).mono ?_)
          rintro e w3 ⟨rfl, hk3⟩
          exact ⟨_, rfl, _, rfl, told_of rfl, keepG (St := (SA V4 9 10 sb)) [9, 10] SA.loc (by omega) (by decide) (SA.kept hJ hk3)⟩
        | 4, ho =>
          obtain rfl := Option.some.inj ho
          have e0 : a'.eval (.tmp 39) = .int .i64 po := by have h9 := hin 3 39 (by kernel_rfl) (by kernel_rfl); exact h9.1.trans (told_is _ h9.2 rfl)
          exact o_addc3 (.tmp 39) 1 rfl _ _ rfl (unhide HPB) e0 ⟨_, rfl, told_of rfl, keepG (St := (SA V4 9 10 sb)) [9, 10] SA.loc (by omega) (by decide) hJ⟩
        | 5, ho =>
          obtain rfl := Option.some.inj ho
          have e0 : a'.eval (.tmp 36) = P0 b := by have h9 := hin 0 36 (by kernel_rfl) (by kernel_rfl); exact h9.1.trans (told_is _ h9.2 rfl)
          have e1 : a'.eval (.tmp 40) = .int .i64 (po + 1) := by have h9 := hin 4 40 (by kernel_rfl) (by kernel_rfl); exact h9.1.trans (told_is _ h9.2 rfl)
          refine wp_callF 56 _ _ rfl #[P0 b, .int .i64 (po + 1)] (by simp [e0, e1]) (cg56 _ _) ((unhide PRb w2 (Kept.trans (unhide HK4) hJ.1)).mono ?_)
          rintro e w3 ⟨rfl, hk3⟩
          exact ⟨_, rfl, _, rfl, told_of rfl, keepG (St := (SA V4 9 10 sb)) [9, 10] SA.loc (by omega) (by decide) (SA.kept hJ hk3)⟩
        | 6, ho =>
          obtain rfl := Option.some.inj ho
          have e0 : a'.eval (.tmp 41) = .tuple #[aggV (u8s sb), .int .i64 eb] := by have h9 := hin 5 41 (by kernel_rfl) (by kernel_rfl); exact h9.1.trans (told_is _ h9.2 rfl)
          exact wp_move (.tmp 41) rfl _ e0 ⟨_, rfl, told_of rfl, keepG (St := (SA V4 9 10 sb)) [9, 10] SA.loc (by omega) (by decide) hJ⟩
        | 7, ho =>
          obtain rfl := Option.some.inj ho
          have e0 : a'.eval (.tmp 35) = .tuple #[aggV (u8s sb), .int .i64 eb] := by have h9 := hin 6 35 (by kernel_rfl) (by kernel_rfl); exact h9.1.trans (told_is _ h9.2 rfl)
          exact o_ext0 (.tmp 35) rfl _ _ e0 ⟨_, rfl, told_of rfl, keepG (St := (SA V4 9 10 sb)) [9, 10] SA.loc (by omega) (by decide) hJ⟩
        | 8, ho =>
          obtain rfl := Option.some.inj ho
          have e0 : a'.eval (.tmp 35) = .tuple #[aggV (u8s sb), .int .i64 eb] := by have h9 := hin 6 35 (by kernel_rfl) (by kernel_rfl); exact h9.1.trans (told_is _ h9.2 rfl)
          exact o_ext1 (.tmp 35) rfl _ _ e0 ⟨_, rfl, told_of rfl, keepG (St := (SA V4 9 10 sb)) [9, 10] SA.loc (by omega) (by decide) hJ⟩
        | 9, ho =>
          obtain rfl := Option.some.inj ho
          exact wp_allocA (u8s (Rc.zs 64)) (fun w => Rc.zero29 w) rfl ⟨_, rfl, told_no rfl, nextG (St := (SA V4 9 10 sb)) (by omega) ⟨hJ.1.alloc _, fun _ => ⟨w2.heap.size, rfl, hJ.1.size, fun _ => Blk.new w2 80 _, fun h => by have h9 : l_.getD 10 false = true := h; rw [hnot 10 (by kernel_rfl)] at h9; cases h9⟩⟩⟩
        | 10, ho =>
          obtain rfl := Option.some.inj ho
          have e0 : a'.eval (.tmp 10) = vs 9 := (hin 9 10 (by kernel_rfl) (by kernel_rfl)).1
          have e1 : a'.eval (.tmp 42) = aggV (u8s sb) := by have h9 := hin 7 42 (by kernel_rfl) (by kernel_rfl); exact h9.1.trans (told_is _ h9.2 rfl)
          obtain ⟨p, hp, hge, hz, _⟩ := hJ.2 (hdep 9 (by kernel_rfl))
          exact wp_storeN row80 (.tmp 10) (.tmp 42) rfl rfl p 0 (u8s sb) (e0.trans hp) e1 (unhide HLsb) (u8s_one _) ((hz hlf).there (by rw [u8s_len]; simp [Rc.zs])) ⟨undef, rfl, told_no rfl, nextG (St := (SA V4 9 10 sb)) (by omega) ⟨hJ.1.setCells _ _ (by omega), fun _ => ⟨p, hp, hge, (fun h => by cases h), fun _ => (hz hlf).put (by rw [unhide HLsb, u8s_len]; simp [Rc.zs])⟩⟩⟩
        | 11, ho =>
          obtain rfl := Option.some.inj ho
          have e0 : a'.eval (.tmp 43) = .int .i64 eb := by have h9 := hin 8 43 (by kernel_rfl) (by kernel_rfl); exact h9.1.trans (told_is _ h9.2 rfl)
          exact wp_assignV (.tmp 43) rfl _ e0 ⟨_, rfl, told_of rfl, keepG (St := (SA V4 9 10 sb)) [9, 10] SA.loc (by omega) (by decide) hJ⟩
      intro l_ vs5 V5 hl hJ htold
      have t0 : vs5 0 = P0 b := told_is _ (htold 0 (by decide)) rfl
      have t1 : vs5 1 = plV c1 c2 := told_is _ (htold 1 (by decide)) rfl
      have t2 : vs5 2 = .int .i64 ls := told_is _ (htold 2 (by decide)) rfl
      have t3 : vs5 3 = .int .i64 po := told_is _ (htold 3 (by decide)) rfl
      have t4 : vs5 4 = .int .i64 (po + 1) := told_is _ (htold 4 (by decide)) rfl
      have t5 : vs5 5 = .tuple #[aggV (u8s sb), .int .i64 eb] := told_is _ (htold 5 (by decide)) rfl
      have t6 : vs5 6 = .tuple #[aggV (u8s sb), .int .i64 eb] := told_is _ (htold 6 (by decide)) rfl
      have t7 : vs5 7 = aggV (u8s sb) := told_is _ (htold 7 (by decide)) rfl
      have t8 : vs5 8 = .int .i64 eb := told_is _ (htold 8 (by decide)) rfl
      have t11 : vs5 11 = .int .i64 eb := told_is _ (htold 11 (by decide)) rfl
      rw [show (List.range 12).map vs5 = [vs5 0, vs5 1, vs5 2, vs5 3, vs5 4, vs5 5, vs5 6, vs5 7, vs5 8, vs5 9, vs5 10, vs5 11] from rfl]
      simp only [t0, t1, t2, t3, t4, t5, t6, t7, t8, t11, putAll, Act.put, List.setIfInBounds_toArray, List.set_cons_succ, List.set_cons_zero]
      clear t0 t1 t2 t3 t4 t5 t6 t7 t8 t11 htold
      obtain ⟨q10, e10, hge10, _, hB10⟩ := hJ.2 (hl 9 (by decide))
      have HB10 := hide (hB10 (hl 10 (by decide)))
      have HK5 : Hid (Kept [] V4 V5) := hJ.1
      rw [e10]
      replace HB8 := hide ((unhide HB8).kept (unhide HK5) (by simp))
      have HK6 : Hid (Kept [] wr V5) := (unhide HK4).trans (unhide HK5)
      clear hJ hl e10 hge10 hB10 P59 PRa PRb HK4 HK5 HV
      by_cases hc : cr = 0
      · subst hc
        have hq := unhide HQ
        rw [if_pos rfl] at hq
        have hsk : S[k]? = some r := by
          have h9 := congrArg (fun l => l[0]?) hq
          simp only [List.getElem?_drop, Nat.add_zero] at h9
          exact h9.symm
        have HSK := hide hsk
        have HSL : Hid (k + 1 ≤ S.length) := (List.getElem?_eq_some_iff.1 hsk).1
        have HSD : Hid (laidF D J nd (ls + 1) m = S.drop (k + 1)) := by
          have h9 : S.drop (k + 1) = (S.drop k).drop 1 := by rw [List.drop_drop]
          show _ = _
          rw [h9, ← hq]
          rfl
        clear hq hsk HQ
        gi_wp2_with (
          first
          | (refine inLoadA row80 wideF (by rfl) (.tmp 8) (by rfl) (by rfl) q8 0 (by rfl) (u8s sa) (unhide HLsa) (unhide HB8).range ?_)
          | (refine inLoadA row80 wideF (by rfl) (.tmp 10) (by rfl) (by rfl) q10 0 (by rfl) (u8s sb) (unhide HLsb) (unhide HB10).range ?_)
          | (gi_at_call 92; refine (callsIn_wide.2 (unhide P92 _)).mono ?_; rintro e' W6 ⟨rfl, K6⟩
             replace HK6 := hide ((unhide HK6).trans K6)
             clear K6)
          | (refine inNew row45 (Rc.recC Rc.zrec) (recC_len (r := Rc.zrec) (Rc.zs_byts 96)) (fun w => Rc.zero25 w) 12 (by rfl) wideF (by rfl) (by rfl) (by rfl) (.tmp 48) (by rfl) (by rfl) (fun _ => by rfl) (by rfl) (Rc.recC r) (unhide HLr) (recC_one r) (by rfl) (by rfl) ?_
             intro W7 q12 e12 B12 K12
             have HB12 := hide B12
             replace HK6 := hide ((unhide HK6).trans K12)
             have hI7 := hI _ _ _ (unhide HI) (grown_of_kept (unhide HK6))
             obtain ⟨fn, tmps, assign, body, hy, hR⟩ := hY k r W7 (unhide HSK) hI7
             have hR' := hide hR
             clear hR hI7
             clear e12 B12 K12)
          | (refine inLoadA row45 wideF (by rfl) (.tmp 12) (by rfl) (by rfl) q12 0 (by rfl) (Rc.recC r) (unhide HLr) (unhide HB12).range ?_))
        refine (unhide hR').mono ?_
        rintro e W8 (⟨rfl, hI8, hk8⟩ | ⟨rfl, hX8⟩)
        · have HI8 := hide hI8
          have HK8 : Hid (KeptJ V W8) := ((unhide HKJ).trans (KeptJ.of_kept (unhide HK6))).trans hk8
          clear hI8 hk8 hR' hy
          gi_wp2
          go_roundw
          case rel =>
            have h9 := unhide HLS
            have h8 := unhide HMK
            refine ⟨k + 1, h8.2.1, unhide HSL, by congr 1; omega, ?_, HI8, HK8⟩
            show laidF _ _ _ _ _ = _
            rw [h8.1, show st + ((k + 1 : Nat) : Int) = ls + 1 by omega]
            exact unhide HSD
          case measure =>
            have h8 := unhide HMK
            simp [intOf]
            omega
        · have HX8 := hide hX8
          clear hX8 hR' hy
          gi_wp2
          refine bodyPost_ret (results_none rfl _ _ _) rfl ?_
          exact ⟨⟨_, rfl⟩, .inr ⟨k, unhide HSL, unhide HX8⟩⟩
      · have hq := unhide HQ
        rw [if_neg hc] at hq
        have hks : k = S.length := by
          have h9 := congrArg List.length hq
          rw [List.length_drop, List.length_nil] at h9
          omega
        have HKS : Hid (k = S.length) := hks
        have hc2 : (cr != 0) = true := by simpa using hc
        clear hq hks HQ
        gi_wp2_with (
          first
          | (refine inLoadA row80 wideF (by rfl) (.tmp 8) (by rfl) (by rfl) q8 0 (by rfl) (u8s sa) (unhide HLsa) (unhide HB8).range ?_)
          | (refine inLoadA row80 wideF (by rfl) (.tmp 10) (by rfl) (by rfl) q10 0 (by rfl) (u8s sb) (unhide HLsb) (unhide HB10).range ?_)
          | (gi_at_call 92; refine (callsIn_wide.2 (unhide P92 _)).mono ?_; rintro e' W6 ⟨rfl, K6⟩
             replace HK6 := hide ((unhide HK6).trans K6)
             clear K6)
          | (refine inNew row45 (Rc.recC Rc.zrec) (recC_len (r := Rc.zrec) (Rc.zs_byts 96)) (fun w => Rc.zero25 w) 12 (by rfl) wideF (by rfl) (by rfl) (by rfl) (.tmp 48) (by rfl) (by rfl) (fun _ => by rfl) (by rfl) (Rc.recC r) (unhide HLr) (recC_one r) (by rfl) (by rfl) ?_
             intro W7 q12 e12 B12 K12
             have HB12 := hide B12
             replace HK6 := hide ((unhide HK6).trans K12)
             clear e12 B12 K12))
        refine bodyPost_ret (results_none rfl _ _ _) rfl ?_
        refine ⟨⟨_, rfl⟩, .inl ?_⟩
        rw [← unhide HKS]
        exact hI _ _ _ (unhide HI) (grown_of_kept (unhide HK6))
    · have hlM : ¬ ls < M := by omega
      gi_wp2_with (
        first
        | (refine inMin wideF (by rfl) (.tmp 22) 2147483647 (by rfl) (by rfl) (st + J.l) M (unhide HMM) (by kernel_rfl) ?_))
      go_end0
      have h9 := unhide HE
      rw [show laidN J st - k = 0 by omega, laidF] at h9
      have h8 := congrArg List.length h9
      rw [List.length_drop, List.length_nil] at h8
      refine ⟨⟨_, rfl⟩, .inl ?_⟩
      rw [show S.length = k by omega]
      exact unhide HI

end Go.Proofs.YtmeajhdhiebkdaaDoor
