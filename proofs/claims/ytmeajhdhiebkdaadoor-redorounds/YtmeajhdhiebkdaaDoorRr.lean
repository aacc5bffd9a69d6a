/-
  RedoRounds.
-/
import Derived.Test.YtmeajhdhiebkdaaDoorHd
namespace Go.Proofs.YtmeajhdhiebkdaaDoor
set_option maxRecDepth 100000
open Go.RowKit

theorem wpSt3 {ops : Array Oper} {rest : List Oper} {op : Oper} {a : Act} {w : World} {Q : Exit → Act → World → Prop} (hgd : op.guard = none) (x y : Operand) (ho : op.op = .store 3 x y) (hd : op.dst = none) (b i TT : Nat) (us : List Value) (n : Int) (hx : a.eval x = .pointer (some ⟨b, i, none⟩)) (hy : a.eval y = .int .i64 n) (hB : Blk w b TT us) (hi : i < us.length)
    (h : ∀ W, Blk W b TT (us.set i (.int .i64 n)) → Kept [b] w W → wpList Tryd.prog ops Q rest a W) : wpList Tryd.prog ops Q (op :: rest) a w :=
  wpList_plain hgd fun K hK => by
    have hc := hB.cell i
    rw [List.getElem?_eq_getElem hi] at hc
    have hf := hB.frozen i
    have hs : (storeVar 3 ⟨b, i, none⟩ (.int .i64 n)).run Tryd.prog w = .ok () (w.setCell ⟨b, i, none⟩ (.int .i64 n)) := by simp [storeVar, go_sem, hc, hf]
    unfold Oper.wp execOp
    simp only [ho, hx, hy, Instr.storeAt, Instr.sureAddr, Sem.run_bind, Sem.run_pure, Result.andThen_ok, hs]
    refine hK _ _ ?_
    rw [hd]
    exact h _ (hB.set (i := i) (.int .i64 n)) ((Kept.refl _ _).setCell (by simp) _)
theorem wpIdxW {ops : Array Oper} {rest : List Oper} {op : Oper} {a : Act} {w : World} {Q : Exit → Act → World → Prop} (hw : Region.wanted op (yielded ops a.tmps) = true) (x y : Operand) (ho : op.op = .indexAddr 37 x y) (g off m c k : Nat) (hk : k < m) (hx : a.eval x = .slice (some ⟨g, off, none⟩) m c) (hy : a.eval y = .int .i64 k) (h : wpList Tryd.prog ops Q rest (a.put op.dst (.pointer (some ⟨g, off + k * 101, none⟩))) w) : wpList Tryd.prog ops Q (op :: rest) a w :=
  BigFrame.wpList_want hw fun _ hK => o_idx37 x y ho g off m c k hk hx hy (hK _ _ h)
theorem kr_readP {W0 W : World} {l b g : Nat} {a i : Int} {D : Dv.Dev} {L : Lo} (hF : Rc.First W0) (hh : Rn a D L i) (hfl : L.fl = L.R.length) (h : Ka W0 W l b g D L) : Calls Tryd.prog 20 #[P0 b, aggV (Ar.jobC (jP a)), .int .i64 0] W fun e w' => ∃ u, e = .returned (.tuple #[.int .i64 L.st, u, .int .i64 0]) ∧ OwnO w' u L.R.length (cellsR L.R) ∧ Kept [] W w' := by
  have h9 := kr_read hF hh.hol hfl h
  rw [hh.J, hh.nd] at h9
  exact h9
theorem kr_end {W0 W : World} {l b g : Nat} {a i : Int} {D : Dv.Dev} {L : Lo} (hF : Rc.First W0) (n : Int) (hh : Rn a D L (i + 1)) (hi : i = n) (hfl : L.fl = L.R.length) (h : Ka W0 W l b g D L) : Calls Tryd.prog 20 #[P0 b, aggV (Ar.jobC (jP a)), .int .i64 0] W fun e w' => ∃ (s0 : Int) (m : Nat) (ro : Option Addr) (rc : Nat) (R : List Rc.Rec), e = .returned (.tuple #[.int .i64 s0, .slice ro m rc, .int .i64 0]) ∧ R.length = m ∧ OwnO w' (.slice ro m rc) m (cellsR R) ∧ Ka W0 w' l b g D L ∧ s0 + (m : Int) = n + 1 ∧ 1 ≤ s0 ∧ (∀ (k : Nat) (r : Rc.Rec), R[k]? = some r → r.ls = s0 + k ∧ r.ps = s0 + k ∧ r.bd = bt (s0 + k) :: Rc.zs 95) ∧ ∀ r ∈ R, Rc.Byts 96 r.bd := by
  refine (kr_readP hF hh hfl h).mono ?_
  rintro e w' ⟨u, rfl, hO, hK⟩
  obtain ⟨ro, rc, rfl, _, _⟩ := hO.sl
  refine ⟨L.st, L.R.length, ro, rc, L.R, rfl, rfl, hO, h.step hK, by rw [← hi]; exact hh.nx, hh.hol.st, fun k r hr => ?_, fun r hr => ?_⟩
  · have h1 := (hh.hol.recs k r hr).ls
    have h2 := hh.bd k r hr
    rw [h1] at h2
    exact ⟨h1, h2⟩
  · obtain ⟨k, hk⟩ := List.mem_iff_getElem?.1 hr
    exact (hh.hol.recs k r hk).bd
theorem kd_newP {a : Int} (h : 2 ≤ a ∧ a ≤ 64) (w0 W : World) (hk : Kept [] w0 W) : Calls Tryd.prog 10 #[aggV (Ar.jobC (jP a))] W fun e w' => ∃ b g, e = .returned (P0 b) ∧ Kd w0 w' b g (eP a) := kd_new (jP a) (jP_may h) w0 W hk
theorem kd_openP {a : Int} (h : 2 ≤ a ∧ a ≤ 64) {w0 W : World} {b g : Nat} (hF : Rc.First w0) (hd : Kd w0 W b g (eP a)) : Calls Tryd.prog 11 #[P0 b, aggV (Ar.jobC (jP a)), .int .i64 0, .int .i64 1] W fun e w' => ∃ l, e = .returned (.tuple #[P0 l, .int .i64 0]) ∧ ∃ L, Ka w0 w' l b g (eP a) L ∧ Rn a (eP a) L 1 := by
  have hh := hol0 h
  have h9 := kd_open hF (jP a) 0 1 1 [] (by omega) hh.look hd
  exact h9.mono (by rintro e w' ⟨l, rfl, h1⟩; exact ⟨l, rfl, _, h1, hh, rfl, rfl, rfl, rfl, fun k r hk => by cases hk⟩)
set_option maxHeartbeats 4000000 in
theorem rounds_bad (a n kp : Int) (w : World) (hF : Rc.First w) (hbad : ¬ (2 ≤ a ∧ a ≤ 64 ∧ 0 ≤ n ∧ n ≤ 300 ∧ 0 ≤ kp ∧ kp < a)) : Calls Tryd.prog 4 #[.int .i64 a, .int .i64 n, .int .i64 kp] w fun e w' => e = .returned (.bool true) ∧ Kept [] w w' := by
  by_cases c0 : a < 2
  · clear hbad
    go_enter Tryd.func4, Tryd.ntmps4
    go_wp2_with (
      first
      | (go_at_call 9
         refine (known9 _ hF).mono ?_
         rintro e V9 ⟨rfl, K9⟩
         have HK9 := hide K9
         clear K9
         refine Stp.go ?_))
    constructor
    go_wp2_with fail
    go_ret
    exact ⟨rfl, unhide HK9⟩
  by_cases c1 : 64 < a
  · clear hbad
    go_enter Tryd.func4, Tryd.ntmps4
    go_wp2_with (
      first
      | (go_at_call 9
         refine (known9 _ hF).mono ?_
         rintro e V9 ⟨rfl, K9⟩
         have HK9 := hide K9
         clear K9
         refine Stp.go ?_))
    constructor
    go_wp2_with fail
    go_ret
    exact ⟨rfl, unhide HK9⟩
  by_cases c2 : n < 0
  · clear hbad
    go_enter Tryd.func4, Tryd.ntmps4
    go_wp2_with (
      first
      | (go_at_call 9
         refine (known9 _ hF).mono ?_
         rintro e V9 ⟨rfl, K9⟩
         have HK9 := hide K9
         clear K9
         refine Stp.go ?_))
    constructor
    go_wp2_with fail
    go_ret
    exact ⟨rfl, unhide HK9⟩
  by_cases c3 : 300 < n
  · clear hbad
    go_enter Tryd.func4, Tryd.ntmps4
    go_wp2_with (
      first
      | (go_at_call 9
         refine (known9 _ hF).mono ?_
         rintro e V9 ⟨rfl, K9⟩
         have HK9 := hide K9
         clear K9
         refine Stp.go ?_))
    constructor
    go_wp2_with fail
    go_ret
    exact ⟨rfl, unhide HK9⟩
  by_cases c4 : kp < 0
  · clear hbad
    go_enter Tryd.func4, Tryd.ntmps4
    go_wp2_with (
      first
      | (go_at_call 9
         refine (known9 _ hF).mono ?_
         rintro e V9 ⟨rfl, K9⟩
         have HK9 := hide K9
         clear K9
         refine Stp.go ?_))
    constructor
    go_wp2_with fail
    go_ret
    exact ⟨rfl, unhide HK9⟩
  have c5 : a ≤ kp := by omega
  clear hbad
  go_enter Tryd.func4, Tryd.ntmps4
  go_wp2_with (
    first
    | (go_at_call 9
       refine (known9 _ hF).mono ?_
       rintro e V9 ⟨rfl, K9⟩
       have HK9 := hide K9
       clear K9
       refine Stp.go ?_))
  constructor
  go_wp2_with fail
  go_ret
  exact ⟨rfl, unhide HK9⟩
set_option maxHeartbeats 16000000 in
theorem rounds_ok (a n kp : Int) (w : World) (hF : Rc.First w) (ha : 2 ≤ a ∧ a ≤ 64) (hn : 0 ≤ n ∧ n ≤ 300) (hk : 0 ≤ kp ∧ kp < a) : Calls Tryd.prog 4 #[.int .i64 a, .int .i64 n, .int .i64 kp] w fun e w' => e = .returned (.bool true) ∧ Kept [] w w' := by
  have g0 : ¬ a < 2 := by omega
  have g1 : ¬ 64 < a := by omega
  have g2 : ¬ n < 0 := by omega
  have g3 : ¬ 300 < n := by omega
  have g4 : ¬ kp < 0 := by omega
  have g5 : ¬ a ≤ kp := by omega
  go_enter Tryd.func4, Tryd.ntmps4
  go_wp2_with (
    first
    | (go_at_call 22
       refine (job22 _).mono ?_
       rintro e V1 ⟨rfl, K1⟩
       have HQ := hide K1
       clear K1
       refine Stp.go ?_))
  constructor
  go_wp2_with (
    first
    | (refine wpNew row23 (Ar.jobC ⟨0, 0, 0, 0, 0⟩) rfl (fun w => Ar.zero23 w) 7 (by rfl) (by rfl) (by rfl) (.tmp 42) (by rfl) (by rfl) (by rfl) (Ar.jobC lawJ) rfl (Ar.jobC_one _) (by kernel_rfl) (by kernel_rfl) ?_
       intro V2 q eq BQ KQ
       have HG : Hid (w.heap.size ≤ q) := by rw [eq]; exact (unhide HQ).size
       replace HQ : Hid (Kept [] w V2) := (unhide HQ).trans KQ
       have HB := hide BQ
       clear eq BQ KQ g0 g1 g2 g3 g4 g5
       refine Stp.go ?_))
  constructor
  go_wp2_with (
    first
    | (refine wpSt3 (by rfl) (.tmp 44) (.tmp 43) (by rfl) (by rfl) q 3 23 (Ar.jobC lawJ) a (by kernel_rfl) (by kernel_rfl) (unhide HB) (by decide) ?_
       intro W0 BQ KQ
       replace HQ : Hid (Kept [] w W0) := (unhide HQ).fresh KQ (fun i hi hl => by have := unhide HG; simp at hi; omega)
       replace HB : Hid (Blk W0 q 23 (Ar.jobC (jP a))) := BQ
       have HF : Hid (Rc.First W0) := hF.kept (unhide HQ)
       clear BQ KQ HG
       refine Stp.go ?_))
  constructor
  go_wp2_with (
    first
    | (refine wpLoadA row23 (by rfl) (.tmp 7) (by rfl) q 0 (by kernel_rfl) (Ar.jobC (jP a)) rfl (unhide HB).range ?_
       refine Stp.go ?_))
  constructor
  go_wp2_with (
    first
    | (go_at_call 10
       refine (kd_newP ha W0 _ (Kept.refl _ _)).mono ?_
       rintro e V3 ⟨b, g, rfl, h3⟩
       have HD := hide h3
       clear h3
       refine Stp.go ?_))
  constructor
  go_wp2_with (
    first
    | (refine wpLoadA row23 (by rfl) (.tmp 7) (by rfl) q 0 (by kernel_rfl) (Ar.jobC (jP a)) rfl ((unhide HB).kept (unhide HD).k (by simp)).range ?_
       refine Stp.go ?_))
  constructor
  go_wp2_with (
    first
    | (go_at_call 11
       refine (kd_openP ha (unhide HF) (unhide HD)).mono ?_
       rintro e V4 ⟨l, rfl, L0, h4, h5⟩
       have HX : Hid (∃ D L, Ka W0 V4 l b g D L ∧ Rn a D L (((0 : Nat) : Int) + 1)) := ⟨_, _, h4, h5⟩
       clear h4 h5 HD
       refine Stp.go ?_))
  constructor
  go_wp2_with fail
  go_loopw [11] (fun i wr => ∃ k : Nat, (k : Int) ≤ n ∧ i = .int .i64 ((k : Int) + 1) ∧ Hid (∃ D L, Ka W0 wr l b g D L ∧ Rn a D L ((k : Int) + 1))) (fun i _ => 400 - (intOf i).toNat)
  case atStart => exact ⟨0, by omega, rfl, HX⟩
  case round =>
    clear HX
    obtain ⟨k, hkn, rfl, HX⟩ := hrel
    obtain ⟨D, L, hK0, hN0⟩ := unhide HX
    have HK := hide hK0
    have HN := hide hN0
    clear HX hK0 hN0
    by_cases hlt : (k : Int) + 1 ≤ n
    · by_cases hr : L.room = 0
      · have HL : Hid ((L.R.length : Int) = a) := by
          have h9 := (unhide HN).room (by omega)
          show _ = _
          omega
        have HC := hide ((unhide HN).flush.cut rfl (unhide HL) kp hk (by omega))
        go_wp2_with (
          first
          | (go_at_call 12
             refine (kr_room 0 hr (unhide HK)).mono ?_
             rintro e V21 ⟨rfl, h21⟩
             replace HK := hide h21
             clear h21
             refine Stp.go ?_))
        constructor
        go_wp2_with (
          first
          | (go_at_call 13
             refine (kr_flush (unhide HN).hol (unhide HK)).mono ?_
             rintro e V22 ⟨rfl, h22⟩
             replace HK := hide h22
             replace HN := hide (unhide HN).flush
             clear h22
             refine Stp.go ?_))
        constructor
        go_wp2_with (
          first
          | (go_at_call 23
             refine (kr_next ((k : Int) + 1) (unhide HN).nx (unhide HK)).mono ?_
             rintro e V23 ⟨rfl, h23⟩
             replace HK := hide h23
             clear h23
             refine Stp.go ?_))
        constructor
        go_wp2_with (
          first
          | (go_at_call 14
             refine (kr_cut (unhide HF) ((k : Int) + 1 - kp) (unhide HN).hol (unhide HC).1 (unhide HK)).mono ?_
             rintro e V24 ⟨rfl, h24⟩
             replace HK := hide h24
             replace HN := hide (unhide HC).2.1
             have HR := hide (unhide HC).2.2
             clear HC
             clear h24
             refine Stp.go ?_))
        constructor
        go_wp2_with (
          first
          | (go_at_call 24
             refine (version24 _ _ _).mono ?_
             rintro e V25 ⟨rfl, h25⟩
             replace HK := hide ((unhide HK).step h25)
             clear h25
             refine Stp.go ?_))
        constructor
        go_wp2_with (
          first
          | (go_at_call 16
             refine (kr_app (unhide HK) (unhide HN) (unhide HR) (by omega)).mono ?_
             rintro e V26 ⟨rfl, L', h26, h8⟩
             replace HK := hide h26
             replace HN := hide h8
             clear h26 h8 HR))
        go_roundw
        case rel => exact ⟨k + 1, by omega, by go_num, ⟨_, _, unhide HK, by have h9 := unhide HN; rw [show (((k + 1 : Nat) : Int) + 1) = (k : Int) + 1 + 1 by omega]; exact h9⟩⟩
        case measure => simp [intOf]; omega
      · obtain ⟨m, hm⟩ : ∃ m, L.room = m := ⟨_, rfl⟩
        have HR := hide hr
        rw [hm] at hr
        have d1 : (m == 0) = false := by simpa using hr
        have d2 : decide (m = 0) = false := by simpa using hr
        go_wp2_with (
          first
          | (go_at_call 12
             refine (kr_room m hm (unhide HK)).mono ?_
             rintro e V27 ⟨rfl, h27⟩
             replace HK := hide h27
             clear h27
             refine Stp.go ?_))
        constructor
        go_wp2_with (
          first
          | (go_at_call 24
             refine (version24 _ _ _).mono ?_
             rintro e V28 ⟨rfl, h28⟩
             replace HK := hide ((unhide HK).step h28)
             clear h28
             refine Stp.go ?_))
        constructor
        go_wp2_with (
          first
          | (go_at_call 16
             refine (kr_app (unhide HK) (unhide HN) (unhide HR) (by omega)).mono ?_
             rintro e V29 ⟨rfl, L', h29, h8⟩
             replace HK := hide h29
             replace HN := hide h8
             clear h29 h8 HR))
        go_roundw
        case rel => exact ⟨k + 1, by omega, by go_num, ⟨_, _, unhide HK, by have h9 := unhide HN; rw [show (((k + 1 : Nat) : Int) + 1) = (k : Int) + 1 + 1 by omega]; exact h9⟩⟩
        case measure => simp [intOf]; omega
    · have hkn2 : (k : Int) = n := by omega
      go_wp2_with (
        first
        | (go_at_call 13
           refine (kr_flush (unhide HN).hol (unhide HK)).mono ?_
           rintro e V30 ⟨rfl, h30⟩
           replace HK := hide h30
           replace HN := hide (unhide HN).flush
           clear h30
           refine Stp.go ?_))
      constructor
      go_wp2_with (
        first
        | (refine wpLoadA row23 (by rfl) (.tmp 7) (by rfl) q 0 (by kernel_rfl) (Ar.jobC (jP a)) rfl ((unhide HB).kept (unhide HK).k (by simp)).range ?_
           refine Stp.go ?_))
      constructor
      go_wp2_with (
        first
        | (go_at_call 20
           refine (kr_end (unhide HF) n (unhide HN) hkn2 rfl (unhide HK)).mono ?_
           rintro e V8 ⟨s0, m, ro, rc, R, rfl, hme, hO, hK8, hsum, hs1, hRR, hBD⟩
           have HO := hide hO
           replace HK := hide hK8
           have HRR := hide hRR
           have HBD := hide hBD
           have HME := hide hme
           have dq1 : (s0 + (m : Int) != n + 1) = false := by simp [hsum]
           have dq2 : (s0 + (m : Int) == n + 1) = true := by simp [hsum]
           have dq3 : decide (s0 + (m : Int) = n + 1) = true := by simp [hsum]
           clear hO hK8 hRR hBD hme
           refine Stp.go ?_))
      constructor
      go_wp2_with fail
      go_loopw [16] (fun i wr => ∃ j : Nat, j ≤ m ∧ i = .int .i64 j ∧ Hid (wr = V8)) (fun i _ => m - (intOf i).toNat)
      case atStart => exact ⟨0, by omega, rfl, (rfl : V8 = V8)⟩
      case round =>
        obtain ⟨j, hjm, rfl, hwr⟩ := hrel
        replace hwr := unhide hwr
        subst hwr
        have hm301 : (m : Int) ≤ 301 := by omega
        by_cases hj : (j : Int) < (m : Int)
        · have hjn : j < m := by omega
          have hjR : j < R.length := by rw [unhide HME]; exact hjn
          have hO2 : OwnO wr (.slice ro m rc) R.length (cellsR R) := by rw [unhide HME]; exact unhide HO
          obtain ⟨gb, off, c, hu, hrg⟩ := hO2.rec_at (unhide HBD) hjR
          injection hu with hu1 hu2 hu3
          subst hu1
          obtain ⟨e1, e2, e3⟩ := unhide HRR j _ (List.getElem?_eq_getElem hjR)
          have q2 := hrg 2 _ rfl
          have q4 := hrg 4 _ rfl
          have q5 : wr.cell? ⟨gb, off + j * 101 + 5, none⟩ = some (.int .u8 ((s0 + j) % 256)) := by
            refine hrg 5 _ ?_
            simp [Rc.recC, e3, u8s, bt]
          rw [e1] at q2
          rw [e2] at q4
          clear hu2 hu3 hrg e1 e2 e3 hO2 HRR HO
          go_wp2_with (
            first
            | (refine wpIdxW (by rfl) (.tmp 126) (.tmp 127) (by rfl) gb off m rc j hjn (by kernel_rfl) (by kernel_rfl) ?_
               refine Stp.go ?_))
          constructor
          go_wp2_with (
            first
            | (refine wpIdxW (by rfl) (.tmp 134) (.tmp 135) (by rfl) gb off m rc j hjn (by kernel_rfl) (by kernel_rfl) ?_
               refine Stp.go ?_))
          constructor
          go_wp2_with (
            first
            | (refine wpIdxW (by rfl) (.tmp 143) (.tmp 144) (by rfl) gb off m rc j hjn (by kernel_rfl) (by kernel_rfl) ?_
               refine Stp.go ?_))
          constructor
          go_wp2_with fail
          go_roundw
          case rel => exact ⟨j + 1, by omega, by go_num, True.intro⟩
          case measure => simp [intOf]; omega
        · go_wp2_with (
            first
            | (go_at_call 9
               refine (known9 _ ((unhide HK).first (unhide HF))).mono ?_
               rintro e V9 ⟨rfl, K9⟩
               have HK9 := hide K9
               clear K9
               refine Stp.go ?_))
          constructor
          go_wp2_with fail
          go_ret
          exact ⟨rfl, ((unhide HQ).trans (unhide HK).k).trans (unhide HK9)⟩
theorem rounds4 (a n kp : Int) (w : World) (hF : Rc.First w) : Calls Tryd.prog 4 #[.int .i64 a, .int .i64 n, .int .i64 kp] w fun e w' => e = .returned (.bool true) ∧ Kept [] w w' := by
  by_cases h : 2 ≤ a ∧ a ≤ 64 ∧ 0 ≤ n ∧ n ≤ 300 ∧ 0 ≤ kp ∧ kp < a
  · exact rounds_ok a n kp w hF ⟨h.1, h.2.1⟩ ⟨h.2.2.1, h.2.2.2.1⟩ h.2.2.2.2
  · exact rounds_bad a n kp w hF h

end Go.Proofs.YtmeajhdhiebkdaaDoor
