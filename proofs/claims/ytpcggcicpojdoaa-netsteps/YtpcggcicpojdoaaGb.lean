/-
  The walk of stands.
-/
import Derived.Test.YtpcggcicpojdoaaGa
namespace Go.Proofs.Ytpcggcicpojdoaa
open Go.RowKit Go.Shelf
attribute [local go_sem] Oper.semAt_some

theorem cg21 (vs : Array Value) (w : World) : (callFunc 21 vs).run Try.prog w = .ok (.enter 21 vs) w := by kernel_rfl
theorem cg26 (vs : Array Value) (w : World) : (callFunc 26 vs).run Try.prog w = .ok (.enter 26 vs) w := by kernel_rfl
theorem cg23 (vs : Array Value) (w : World) : (callFunc 23 vs).run Try.prog w = .ok (.enter 23 vs) w := by kernel_rfl
theorem cg36 (vs : Array Value) (w : World) : (callFunc 36 vs).run Try.prog w = .ok (.enter 36 vs) w := by kernel_rfl
/-- What the region of both To keeps. -/
@[reducible] def S22 (V : World) (NN : List Value) (d : Nat → Bool) (vs : Nat → Value) (W : World) : Prop :=
  Kept [] V W ∧ (d 2 = true → W.ownsRow 0 2 1 (vs 2) NN.length NN) ∧ (d 5 = true → W.ownsRow 0 2 1 (vs 5) NN.length NN) ∧ (d 6 = true → d 2 = true ∧ vs 6 = vs 2) ∧ (d 7 = true → d 5 = true ∧ vs 7 = vs 5)
theorem S22.loc {V : World} {NN : List Value} : ∀ d d' vs vs' W, (∀ i ∈ [2, 5, 6, 7], d i = d' i ∧ vs i = vs' i) → S22 V NN d vs W → S22 V NN d' vs' W := by
  intro d d' vs vs' W H h
  have e2 := H 2 (by simp)
  have e5 := H 5 (by simp)
  have e6 := H 6 (by simp)
  have e7 := H 7 (by simp)
  unfold S22 at h ⊢
  rw [← e2.1, ← e2.2, ← e5.1, ← e5.2, ← e6.1, ← e6.2, ← e7.1, ← e7.2]
  exact h
theorem sig_small {L : List Ltr} (h : ∀ l ∈ L, l.bs.length ≤ 512) {s : Int × Int × Int × List Int} (hs : s ∈ sigs L) : s.2.2.2.length ≤ 512 := by
  obtain ⟨l, hl, rfl⟩ := List.mem_map.1 hs
  exact h l hl
theorem small_at {W : World} {b mb : Nat} {v : Value} {N : Nn} (h : Nt W b mb v N) {x : Int} {l : Ltr} (hs : l.sig = (psigAt N.pl.S x).getD sig0) : l.bs.length ≤ 512 := by
  have e : l.bs = l.sig.2.2.2 := rfl
  rw [e, hs]
  cases hp : psigAt N.pl.S x with
  | none => simp [sig0]
  | some s =>
    refine sig_small h.small (s := s) ?_
    unfold psigAt at hp
    split at hp
    · exact List.mem_of_getElem? hp
    · cases hp
theorem small_look {W : World} {b mb : Nat} {v : Value} {N : Nn} (h : Nt W b mb v N) {k : Int} {l : Ltr} (hs : l.sig = plook N.pl.S k) : l.bs.length ≤ 512 := by
  have e : l.bs = l.sig.2.2.2 := rfl
  rw [e, hs, show plook N.pl.S k = (lookL k N.L).sig from plook_sig N.L k]
  exact (h.look k).2
theorem KeptS.of_own {x : Lx} {A B : World} (h : Kept x.v.ownBlock.toList A B) : KeptS x A B := ⟨h.size, fun i cs T p _ hi hn => h.heap hi (by rw [Option.mem_toList]; exact hn)⟩
theorem KeptS.setCell {x : Lx} {A W : World} {b i t : Nat} {us : List Value} (h : KeptS x A W) (hb : Blk W b t us) (h1 : t ≠ 47) (h2 : t ≠ 5) (u : Value) : KeptS x A (W.setCell ⟨b, i, none⟩ u) := by
  refine ⟨Nat.le_trans h.size (by simp [World.setCell]), fun k cs T p hT hk hx => ?_⟩
  have h9 := h.block k cs T p hT hk hx
  have hne : k ≠ b := by
    intro e; subst e
    unfold Blk at hb
    rw [hb] at h9
    injection h9 with h9
    injection h9 with _ h9
    rcases hT with e | e
    · exact h1 (h9.trans e)
    · exact h2 (h9.trans e)
  rw [Below.heap_setCell _ _ _ _ (by simpa using hne)]; exact h9
theorem keepsFrom_own {B : Nat} {W A W' : World} {v : Value} {bs : List Int} (hk : Kept [] W A) (hB : Bod A v bs) (h : Kept v.ownBlock.toList A W') : KeepsFrom B W W' :=
  (keepsFrom_of_kept hk).trans (keepsFrom_X h (fun k hm => by rw [Option.mem_toList] at hm; obtain ⟨cs, hc⟩ := hB.block k hm; exact ⟨cs, 5, (0, 0), hc⟩))
set_option maxRecDepth 100000 in
set_option maxHeartbeats 8000000 in
theorem stands_in (b mb : Nat) (v : Value) (N : Nn) (r : Nat) (lv : Value) (R : Nn) (leave : Int) (w : World) (h : Pw w b mb v N r lv R) (hla : N.last ≤ 1000000000000) : CallsIn Fence.wide 3 Try.prog 13 #[P0 b, P0 r, .int .i64 leave] w fun e w' => e = .returned (.bool true) ∧ Kept [] w w' := by
  obtain ⟨n, hn⟩ : ∃ n, N.L.length = n := ⟨_, rfl⟩
  obtain ⟨la, hlae⟩ : ∃ la, N.last = la := ⟨_, rfl⟩
  have hnR : R.L.length = n := by rw [← hn, ← sigs_len, ← sigs_len, h.sig]
  have hlR : R.last = la := by rw [← hlae, h.last]
  have hn4 : n ≤ 4096 := by rw [← hn]; exact h.net.many
  have hl0 : 0 ≤ la := by rw [← hlae]; exact h.net.last
  rw [hlae] at hla
  have P21 := hide (fun W (hk : Kept [] w W) => len21 b mb v N W (h.net.kept0 hk))
  have P26 := hide (fun W (hk : Kept [] w W) => last26 b mb v N W (h.net.kept0 hk))
  rw [hn] at P21
  rw [hlae] at P26
  obtain ⟨lo, lc, elv⟩ := owns_slN h.ref.row
  have hhd := h.ref.head
  rw [elv, hnR, hlR] at hhd
  have HRH := hide hhd
  have HP := hide h
  have HNN := hide hn
  have HNR := hide hnR
  have HLV := hide elv
  have KA := hide (Kept.refl [] w)
  clear h hhd hlae hlR elv hn hnR
  refine callsIn_of_wp_marks Try.func13 rfl trivial ?_ rfl
  refine wpIn_wide.2 ?_
  simp only [Try.ntmps13, List.size_toArray, List.length_cons, List.length_nil, Nat.reduceAdd, Nat.reduceSub, Array.replicate_succ, Array.replicate_zero, List.push_toArray, List.append_toArray, List.nil_append, List.cons_append]
  go_wp2_with (
    first
    | (refine wpBox1 (P0 r) (fun w => run_box27 r w) (by rfl) (.tmp 1) (by rfl) (by rfl) ?_
       intro W1 b4 e1 B1 K1
       have R4 := hide B1
       have N1 : Hid (w.heap.size ≤ b4) := by have := (unhide KA).size; show _ ≤ _; omega
       replace KA := hide ((unhide KA).trans K1)
       clear e1 B1 K1
       refine Stp.go ?_))
  constructor
  go_wp2_with (
    first
    | (refine wpBox1 (.int .i64 leave) (fun w => box3 leave w) (by rfl) (.tmp 2) (by rfl) (by rfl) ?_
       intro W2 b5 e2 B2 K2
       have L5 := hide B2
       have N2 : Hid (w.heap.size ≤ b5) := by have := (unhide KA).size; show _ ≤ _; omega
       replace R4 := hide ((unhide R4).kept K2 (by simp))
       replace KA := hide ((unhide KA).trans K2)
       clear e2 B2 K2
       refine Stp.go ?_))
  constructor
  go_wp2_with (
    first
    | (refine wpAllocW [.bool false] zero4 6 (by rfl) (by rfl) (by rfl) ?_
       intro W3 b6 e3 B3 K3
       have N3 : Hid (w.heap.size ≤ b6) := by have := (unhide KA).size; show _ ≤ _; omega
       have G : Hid (Sv w W3 b4 b5 b6 r leave) := ⟨(unhide R4).kept K3 (by simp), (unhide L5).kept K3 (by simp), B3, (unhide KA).trans K3, unhide N1, unhide N2, unhide N3⟩
       clear e3 B3 K3 R4 L5 KA N1 N2 N3))
  refine wp_region_any mixed (wpAny_tq 17 rfl (by kernel_rfl) [some (P0 b), some (.int .i64 n), some (P0 r), some (P0 r), some (.pointer (some ⟨r, 1, none⟩)), some (.slice lo n lc), some (.int .i64 n), some (.bool false), some (.bool false), some (P0 b), some (.int .i64 la), some (P0 r), some (P0 r), some (.pointer (some ⟨r, 2, none⟩)), some (.int .i64 la), some (.bool false), some (.bool false)] rfl (by kernel_rfl) (by kernel_rfl) ?_ ?_)
  · intro i o' hi hsk ho a' w2 hout hin hk2
    replace hk2 : Kept [] W3 w2 := ⟨hk2.os, hk2.tape, hk2.output, hk2.size, hk2.block⟩
    match i, ho, hsk with
    | 0, ho, hsk =>
      obtain rfl := Option.some.inj ho
      exact wp_move (.tmp 0) rfl _ ((hout 0 (by kernel_rfl)).trans rfl) ⟨_, rfl, tq_is _ _ _ _ rfl, Kept.refl _ _, fun _ _ _ _ _ => trivial⟩
    | 1, ho, hsk =>
      obtain rfl := Option.some.inj ho
      have e0 : a'.eval (.tmp 25) = P0 b := is_tq (hin 0 25 (by kernel_rfl) (by kernel_rfl)) rfl
      refine wp_callF 21 _ _ rfl #[P0 b] (by simp [e0]) (cg21 _ _) ((unhide P21 _ ((unhide G).k.trans hk2)).mono ?_)
      rintro e w3 ⟨rfl, rfl⟩
      exact ⟨_, rfl, _, rfl, tq_is _ _ _ _ rfl, Kept.refl _ _, fun _ _ _ _ _ => trivial⟩
    | 2, ho, hsk =>
      obtain rfl := Option.some.inj ho
      exact o_load27 (.tmp 4) rfl ⟨b4, 0, none⟩ _ ((hout 4 (by kernel_rfl)).trans rfl) (fits_cell ((unhide G).r4.kept hk2 (by simp)) 0 _ rfl) ⟨_, rfl, tq_is _ _ _ _ rfl, Kept.refl _ _, fun _ _ _ _ _ => trivial⟩
    | 3, ho, hsk =>
      obtain rfl := Option.some.inj ho
      have e0 : a'.eval (.tmp 27) = P0 r := is_tq (hin 2 27 (by kernel_rfl) (by kernel_rfl)) rfl
      exact o_nil (.tmp 27) rfl _ e0 ⟨_, rfl, tq_is _ _ _ _ rfl, Kept.refl _ _, fun _ _ _ _ _ => trivial⟩
    | 4, ho, hsk =>
      obtain rfl := Option.some.inj ho
      have e0 : a'.eval (.tmp 28) = P0 r := is_tq (hin 3 28 (by kernel_rfl) (by kernel_rfl)) rfl
      exact o_fld60_1 (.tmp 28) rfl r e0 ⟨_, rfl, tq_is _ _ _ _ rfl, Kept.refl _ _, fun _ _ _ _ _ => trivial⟩
    | 5, ho, hsk =>
      obtain rfl := Option.some.inj ho
      have e0 : a'.eval (.tmp 29) = .pointer (some ⟨r, 1, none⟩) := is_tq (hin 4 29 (by kernel_rfl) (by kernel_rfl)) rfl
      exact o_load43 (.tmp 29) rfl ⟨r, 1, none⟩ _ e0 (fits_cell ((unhide HRH).kept ((unhide G).k.trans hk2) (by simp)) 1 _ rfl) ⟨_, rfl, tq_is _ _ _ _ rfl, Kept.refl _ _, fun _ _ _ _ _ => trivial⟩
    | 6, ho, hsk =>
      obtain rfl := Option.some.inj ho
      have e0 : a'.eval (.tmp 30) = .slice lo n lc := is_tq (hin 5 30 (by kernel_rfl) (by kernel_rfl)) rfl
      exact o_len43 30 rfl _ _ _ e0 ⟨_, rfl, tq_is _ _ _ _ rfl, Kept.refl _ _, fun _ _ _ _ _ => trivial⟩
    | 7, ho, hsk =>
      obtain rfl := Option.some.inj ho
      have e0 : a'.eval (.tmp 26) = .int .i64 n := is_tq (hin 1 26 (by kernel_rfl) (by kernel_rfl)) rfl
      have e1 : a'.eval (.tmp 31) = .int .i64 n := is_tq (hin 6 31 (by kernel_rfl) (by kernel_rfl)) rfl
      exact o_neqI3 (.tmp 26) (.tmp 31) rfl _ _ true (by simp) e0 e1 ⟨_, rfl, tq_is _ _ _ _ rfl, Kept.refl _ _, fun _ _ _ _ _ => trivial⟩
    | 8, ho, hsk =>
      obtain rfl := Option.some.inj ho
      have e0 : a'.eval (.tmp 32) = .bool false := is_tq (hin 7 32 (by kernel_rfl) (by kernel_rfl)) rfl
      exact wp_move (.tmp 32) rfl _ e0 ⟨_, rfl, tq_is _ _ _ _ rfl, Kept.refl _ _, fun _ _ _ _ _ => trivial⟩
    | 9, ho, hsk =>
      obtain rfl := Option.some.inj ho
      exact wp_move (.tmp 0) rfl _ ((hout 0 (by kernel_rfl)).trans rfl) ⟨_, rfl, tq_is _ _ _ _ rfl, Kept.refl _ _, fun _ _ _ _ _ => trivial⟩
    | 10, ho, hsk =>
      obtain rfl := Option.some.inj ho
      have e0 : a'.eval (.tmp 34) = P0 b := is_tq (hin 9 34 (by kernel_rfl) (by kernel_rfl)) rfl
      refine wp_callF 26 _ _ rfl #[P0 b] (by simp [e0]) (cg26 _ _) ((unhide P26 _ ((unhide G).k.trans hk2)).mono ?_)
      rintro e w3 ⟨rfl, rfl⟩
      exact ⟨_, rfl, _, rfl, tq_is _ _ _ _ rfl, Kept.refl _ _, fun _ _ _ _ _ => trivial⟩
    | 11, ho, hsk =>
      obtain rfl := Option.some.inj ho
      exact o_load27 (.tmp 4) rfl ⟨b4, 0, none⟩ _ ((hout 4 (by kernel_rfl)).trans rfl) (fits_cell ((unhide G).r4.kept hk2 (by simp)) 0 _ rfl) ⟨_, rfl, tq_is _ _ _ _ rfl, Kept.refl _ _, fun _ _ _ _ _ => trivial⟩
    | 12, ho, hsk =>
      obtain rfl := Option.some.inj ho
      have e0 : a'.eval (.tmp 36) = P0 r := is_tq (hin 11 36 (by kernel_rfl) (by kernel_rfl)) rfl
      exact o_nil (.tmp 36) rfl _ e0 ⟨_, rfl, tq_is _ _ _ _ rfl, Kept.refl _ _, fun _ _ _ _ _ => trivial⟩
    | 13, ho, hsk =>
      obtain rfl := Option.some.inj ho
      have e0 : a'.eval (.tmp 37) = P0 r := is_tq (hin 12 37 (by kernel_rfl) (by kernel_rfl)) rfl
      exact o_fld60_2 (.tmp 37) rfl r e0 ⟨_, rfl, tq_is _ _ _ _ rfl, Kept.refl _ _, fun _ _ _ _ _ => trivial⟩
    | 14, ho, hsk =>
      obtain rfl := Option.some.inj ho
      have e0 : a'.eval (.tmp 38) = .pointer (some ⟨r, 2, none⟩) := is_tq (hin 13 38 (by kernel_rfl) (by kernel_rfl)) rfl
      exact o_load2 (.tmp 38) rfl ⟨r, 2, none⟩ _ e0 (fits_cell ((unhide HRH).kept ((unhide G).k.trans hk2) (by simp)) 2 _ rfl) ⟨_, rfl, tq_is _ _ _ _ rfl, Kept.refl _ _, fun _ _ _ _ _ => trivial⟩
    | 15, ho, hsk =>
      obtain rfl := Option.some.inj ho
      have e0 : a'.eval (.tmp 35) = .int .i64 la := is_tq (hin 10 35 (by kernel_rfl) (by kernel_rfl)) rfl
      have e1 : a'.eval (.tmp 39) = .int .i64 la := is_tq (hin 14 39 (by kernel_rfl) (by kernel_rfl)) rfl
      exact o_neqI2 (.tmp 35) (.tmp 39) rfl _ _ true (by simp) e0 e1 ⟨_, rfl, tq_is _ _ _ _ rfl, Kept.refl _ _, fun _ _ _ _ _ => trivial⟩
    | 16, ho, hsk =>
      obtain rfl := Option.some.inj ho
      have e0 : a'.eval (.tmp 33) = .bool false := is_tq (hin 8 33 (by kernel_rfl) (by kernel_rfl)) rfl
      have e1 : a'.eval (.tmp 40) = .bool false := is_tq (hin 15 40 (by kernel_rfl) (by kernel_rfl)) rfl
      exact o_pickOr0 (.tmp 33) (.tmp 40) rfl _ e0 e1 ⟨_, rfl, tq_is _ _ _ _ rfl, Kept.refl _ _, fun _ _ _ _ _ => trivial⟩
  intro w9 hk9
  replace hk9 : Kept [] W3 w9 := ⟨hk9.os, hk9.tape, hk9.output, hk9.size, hk9.block⟩
  simp only [valsQ, List.map_cons, List.map_nil, Option.getD_some, List.take_succ_cons, List.take_zero, putAll, Act.put, List.setIfInBounds_toArray, List.set_cons_succ, List.set_cons_zero]
  refine wpAny_done (by kernel_rfl) ?_ _
  replace G := hide ((unhide G).step hk9)
  clear hk9
  go_wp2_with fail
  go_loopw [7] (fun i wr => ∃ x : Int, -1 ≤ x ∧ x ≤ n + 1 ∧ i = .int .i64 x ∧ Hid (Sv w wr b4 b5 b6 r leave)) (fun i _ => ((n : Int) + 1 - intOf i).toNat)
  case atStart => exact ⟨-1, by omega, by omega, rfl, G⟩
  case round =>
    clear G
    obtain ⟨x, hx1, hx2, rfl, G⟩ := hrel
    have q4 := fits_cell (unhide G).r4 0 _ rfl
    have q1 := fits_cell ((unhide HRH).kept (unhide G).k (by simp)) 1 _ rfl
    by_cases hlt : x ≤ n
    · obtain ⟨f, hf⟩ : ∃ f, (psigAt N.pl.S x).isSome = f := ⟨_, rfl⟩
      have PA := hide (fun W (hk : Kept [] w W) => pat24 b mb v N x W ((unhide HP).net.kept0 hk))
      have PB := hide (fun W (hk : Kept [] w W) => prat32 r lv R x W ((unhide HP).ref.kept0 hk))
      rw [← (unhide HP).pl] at PB
      rw [hf] at PA PB
      clear hf
      go_wp2_with (
        first
        | (go_at_call 24
           refine (unhide PA _ (unhide G).k).mono ?_
           rintro e V1 ⟨l, rfl, hsg, hB, hfr, K1⟩
           have HSG := hide hsg
           have HBl := hide hB
           have HFR : Hid (∀ k, l.v.ownBlock = some k → w.heap.size ≤ k) := fun k hk => by have h1 := hfr k hk; have h2 := (unhide G).k.size; omega
           replace G := hide ((unhide G).step K1)
           have HSM : Hid (l.bs.length ≤ 512) := small_at (unhide HP).net hsg
           clear hsg hB hfr K1 q4 q1
           refine Stp.go ?_))
      constructor
      go_wp2_with (
        first
        | (refine wpNew row47 zL rfl alloc47 8 (by rfl) (by rfl) (by rfl) (.tmp 55) (by rfl) (by rfl) (by rfl) l.C rfl (D_one (l := l) (unhide HBl).one) (by kernel_rfl) (by kernel_rfl) ?_
           intro V2 m2 e2 B2 K2
           replace G := hide ((unhide G).step K2)
           replace HBl := hide ((unhide HBl).kept K2 (by simp))
           have M1 := hide B2
           have q4 := fits_cell (unhide G).r4 0 _ rfl
           clear e2 B2 K2
           refine Stp.go ?_))
      constructor
      go_wp2_with (
        first
        | (go_at_call 32
           refine (unhide PB _ (unhide G).k).mono ?_
           rintro e V3 ⟨l2, rfl, hsg, hB, K3⟩
           have HAL : Hid (alike l l2 = true) := alike_sig.2 ((unhide HSG).trans hsg.symm)
           have HBl2 := hide hB
           replace G := hide ((unhide G).step K3)
           replace HBl := hide ((unhide HBl).kept K3 (by simp))
           replace M1 := hide ((unhide M1).kept K3 (by simp))
           clear hsg hB K3 q4
           refine Stp.go ?_))
      constructor
      go_wp2_with (
        first
        | (refine wpNew row47 zL rfl alloc47 10 (by rfl) (by rfl) (by rfl) (.tmp 61) (by rfl) (by rfl) (by rfl) l2.C rfl (D_one (l := l2) (unhide HBl2).one) (by kernel_rfl) (by kernel_rfl) ?_
           intro V4 m4 e4 B4 K4
           replace G := hide ((unhide G).step K4)
           replace HBl := hide ((unhide HBl).kept K4 (by simp))
           replace HBl2 := hide ((unhide HBl2).kept K4 (by simp))
           replace M1 := hide ((unhide M1).kept K4 (by simp))
           have M2 := hide B4
           have q4 := fits_cell (unhide G).r4 0 _ rfl
           clear e4 B4 K4
           refine Stp.go ?_))
      constructor
      go_wp2_with (
        first
        | (refine wpLoadA row47 (by rfl) (.tmp 8) (by rfl) m2 0 (by kernel_rfl) l.C rfl (unhide M1).range ?_
           refine Stp.go ?_))
      constructor
      go_wp2_with (
        first
        | (refine wpLoadA row47 (by rfl) (.tmp 10) (by rfl) m4 0 (by kernel_rfl) l2.C rfl (unhide M2).range ?_
           refine Stp.go ?_))
      constructor
      go_wp2_with (
        first
        | (go_at_call 19
           refine (same19x l l2 _ (unhide HBl).row (unhide HBl2).row (unhide HBl).byte (unhide HBl2).byte).mono ?_
           rintro e V6 ⟨rfl, K6⟩
           rw [unhide HAL]
           replace G := hide ((unhide G).step K6)
           replace HBl := hide ((unhide HBl).kept K6 (by simp))
           replace M1 := hide ((unhide M1).kept K6 (by simp))
           clear K6 q4
           refine Stp.go ?_))
      constructor
      go_wp2_with (
        first
        | (refine wpNeq4G (.tmp 68) (.tmp 69) (by rfl) (by kernel_rfl) f (by kernel_rfl) (by kernel_rfl) ?_
           refine Stp.go ?_))
      constructor
      go_wp2_with (
        first
        | (refine wpLoadA row47 (by rfl) (.tmp 8) (by rfl) m2 0 (by kernel_rfl) l.C rfl (unhide M1).range ?_
           refine Stp.go ?_))
      constructor
      go_wp2_with (
        first
        | (go_at_call 33
           refine (spoil33 l _ (unhide HBl) (unhide HSM)).mono ?_
           rintro e V7 ⟨⟨ev, rfl⟩, K7⟩
           replace G := hide ((unhide G).spoil (unhide HBl) (unhide HFR) K7)
           clear K7))
      go_roundw
      case rel => exact ⟨x + 1, by omega, by omega, rfl, G⟩
      case measure => simp [intOf]; omega
    · have q2 := fits_cell ((unhide HRH).kept (unhide G).k (by simp)) 2 _ rfl
      go_wp2_with fail
      clear q4 q1 q2
      go_loopw [12] (fun i wr => ∃ y : Int, la - 3 ≤ y ∧ y ≤ la + 2 ∧ i = .int .i64 y ∧ Hid (Sv w wr b4 b5 b6 r leave)) (fun i _ => (la + 2 - intOf i).toNat)
      case atStart => exact ⟨la - 3, by omega, by omega, rfl, G⟩
      case round =>
        clear G
        obtain ⟨y, hy1, hy2, rfl, G⟩ := hrel
        have q4 := fits_cell (unhide G).r4 0 _ rfl
        have q1 := fits_cell ((unhide HRH).kept (unhide G).k (by simp)) 2 _ rfl
        by_cases hly : y ≤ la + 1
        · obtain ⟨f, hf⟩ : ∃ f, (pidx y N.pl.S 0).isSome = f := ⟨_, rfl⟩
          have PA := hide (fun W (hk : Kept [] w W) => plk34 b mb v N y W ((unhide HP).net.kept0 hk))
          have PB := hide (fun W (hk : Kept [] w W) => prlk35 r lv R y W ((unhide HP).ref.kept0 hk) (unhide HP).many)
          rw [← (unhide HP).pl] at PB
          rw [hf] at PA PB
          clear hf
          go_wp2_with (
            first
            | (go_at_call 34
               refine (unhide PA _ (unhide G).k).mono ?_
               rintro e V1 ⟨l, rfl, hsg, hB, hfr, K1⟩
               have HSG := hide hsg
               have HBl := hide hB
               have HFR : Hid (∀ k, l.v.ownBlock = some k → w.heap.size ≤ k) := fun k hk => by have h1 := hfr k hk; have h2 := (unhide G).k.size; omega
               replace G := hide ((unhide G).step K1)
               have HSM : Hid (l.bs.length ≤ 512) := small_look (unhide HP).net hsg
               clear hsg hB hfr K1 q4 q1
               refine Stp.go ?_))
          constructor
          go_wp2_with (
            first
            | (refine wpNew row47 zL rfl alloc47 13 (by rfl) (by rfl) (by rfl) (.tmp 92) (by rfl) (by rfl) (by rfl) l.C rfl (D_one (l := l) (unhide HBl).one) (by kernel_rfl) (by kernel_rfl) ?_
               intro V2 m2 e2 B2 K2
               replace G := hide ((unhide G).step K2)
               replace HBl := hide ((unhide HBl).kept K2 (by simp))
               have M1 := hide B2
               have q4 := fits_cell (unhide G).r4 0 _ rfl
               clear e2 B2 K2
               refine Stp.go ?_))
          constructor
          go_wp2_with (
            first
            | (go_at_call 35
               refine (unhide PB _ (unhide G).k).mono ?_
               rintro e V3 ⟨l2, rfl, hsg, hB, K3⟩
               have HAL : Hid (alike l l2 = true) := alike_sig.2 ((unhide HSG).trans hsg.symm)
               have HBl2 := hide hB
               replace G := hide ((unhide G).step K3)
               replace HBl := hide ((unhide HBl).kept K3 (by simp))
               replace M1 := hide ((unhide M1).kept K3 (by simp))
               clear hsg hB K3 q4
               refine Stp.go ?_))
          constructor
          go_wp2_with (
            first
            | (refine wpNew row47 zL rfl alloc47 15 (by rfl) (by rfl) (by rfl) (.tmp 98) (by rfl) (by rfl) (by rfl) l2.C rfl (D_one (l := l2) (unhide HBl2).one) (by kernel_rfl) (by kernel_rfl) ?_
               intro V4 m4 e4 B4 K4
               replace G := hide ((unhide G).step K4)
               replace HBl := hide ((unhide HBl).kept K4 (by simp))
               replace HBl2 := hide ((unhide HBl2).kept K4 (by simp))
               replace M1 := hide ((unhide M1).kept K4 (by simp))
               have M2 := hide B4
               have q4 := fits_cell (unhide G).r4 0 _ rfl
               clear e4 B4 K4
               refine Stp.go ?_))
          constructor
          go_wp2_with (
            first
            | (refine wpLoadA row47 (by rfl) (.tmp 13) (by rfl) m2 0 (by kernel_rfl) l.C rfl (unhide M1).range ?_
               refine Stp.go ?_))
          constructor
          go_wp2_with (
            first
            | (refine wpLoadA row47 (by rfl) (.tmp 15) (by rfl) m4 0 (by kernel_rfl) l2.C rfl (unhide M2).range ?_
               refine Stp.go ?_))
          constructor
          go_wp2_with (
            first
            | (go_at_call 19
               refine (same19x l l2 _ (unhide HBl).row (unhide HBl2).row (unhide HBl).byte (unhide HBl2).byte).mono ?_
               rintro e V6 ⟨rfl, K6⟩
               rw [unhide HAL]
               replace G := hide ((unhide G).step K6)
               replace HBl := hide ((unhide HBl).kept K6 (by simp))
               replace M1 := hide ((unhide M1).kept K6 (by simp))
               clear K6 q4
               refine Stp.go ?_))
          constructor
          go_wp2_with (
            first
            | (refine wpNeq4G (.tmp 105) (.tmp 106) (by rfl) (by kernel_rfl) f (by kernel_rfl) (by kernel_rfl) ?_
               refine Stp.go ?_))
          constructor
          go_wp2_with (
            first
            | (refine wpLoadA row47 (by rfl) (.tmp 13) (by rfl) m2 0 (by kernel_rfl) l.C rfl (unhide M1).range ?_
               refine Stp.go ?_))
          constructor
          go_wp2_with (
            first
            | (go_at_call 33
               refine (spoil33 l _ (unhide HBl) (unhide HSM)).mono ?_
               rintro e V7 ⟨⟨ev, rfl⟩, K7⟩
               replace G := hide ((unhide G).spoil (unhide HBl) (unhide HFR) K7)
               clear K7))
          go_roundw
          case rel => exact ⟨y + 1, by omega, by omega, rfl, G⟩
          case measure => simp [intOf]; omega
        · go_wp2_with fail
          clear q4 q1
          go_loopw [17] (fun i wr => ∃ t : Int, -1 ≤ t ∧ t ≤ 9 ∧ i = .int .i64 t ∧ Hid (Sv w wr b4 b5 b6 r leave)) (fun i _ => ((9 : Int) - intOf i).toNat)
          case atStart => exact ⟨-1, by omega, by omega, rfl, G⟩
          case round =>
            clear G
            obtain ⟨t, ht1, ht2, rfl, G⟩ := hrel
            by_cases hl8 : t ≤ 8
            · obtain ⟨NN, hNN⟩ : ∃ NN, nums (filT t N.L) = NN := ⟨_, rfl⟩
              have HNUM : Hid (∀ (k : Nat) (u : Value), NN[k]? = some u → ∃ z, u = .int .i64 z) := fun k u hu => by
                rw [← hNN] at hu
                unfold nums at hu
                rw [List.getElem?_map] at hu
                cases hq : (filT t N.L)[k]? with
                | none => rw [hq] at hu; cases hu
                | some q => rw [hq] at hu; cases hu; exact ⟨_, rfl⟩
              have PA : Hid (∀ W, Kept [] w W → Calls Try.prog 23 #[P0 b, .int .i64 t] W fun e w' => ∃ u, e = .returned u ∧ w'.ownsRow 0 2 1 u NN.length NN ∧ Kept [] W w') := fun W hk => by
                refine (to23 b mb v N t W ((unhide HP).net.kept0 hk)).mono ?_
                rintro e w' ⟨u, rfl, h1, h2⟩
                exact ⟨u, rfl, by rw [← hNN, nums_len]; exact owns_base h1 (Nat.zero_le _), h2⟩
              have PB : Hid (∀ W, Kept [] w W → Calls Try.prog 36 #[P0 r, .int .i64 t] W fun e w' => ∃ u, e = .returned u ∧ w'.ownsRow 0 2 1 u NN.length NN ∧ Kept [] W w') := fun W hk => by
                refine (rto36 r lv R t W ((unhide HP).ref.kept0 hk) (unhide HP).many).mono ?_
                rintro e w' ⟨u, rfl, h1, h2⟩
                rw [← nums_sigs (unhide HP).sig t, hNN] at h1
                exact ⟨u, rfl, owns_base h1 (Nat.zero_le _), h2⟩
              have HM4 : Hid (NN.length ≤ 4096) := by have h1 := List.length_filter_le (fun l => decide (l.to = t)) N.L; have h2 := unhide HNN; rw [← hNN, nums_len]; show (List.filter _ _).length ≤ 4096; omega
              clear hNN
              go_wp2_with fail
              refine wp_region_any mixed (wpAny_gx 8 rfl (by kernel_rfl) [some (P0 b), some (.int .i64 t), none, some (P0 r), some (.int .i64 t), none, none, none] rfl (by kernel_rfl) (fun l vs W => (S22 wr NN) (fun i => l.getD i false) vs W) (⟨⟨rfl, rfl, rfl, Nat.le_refl _, fun _ _ _ => rfl⟩, (fun h => by cases h), (fun h => by cases h), (fun h => by cases h), fun h => by cases h⟩) ?_ ?_)
              · intro ix o' hi ho a' w2 l vs hls hlf hJ hout hin hdep hnot
                match ix, ho with
                | 0, ho =>
                  obtain rfl := Option.some.inj ho
                  have e0 := hout 0 (by kernel_rfl)
                  replace e0 : a'.eval (.tmp 0) = _ := e0.trans rfl
                  exact wp_move (.tmp 0) rfl _ e0 ⟨_, rfl, told_of rfl, keepG (St := (S22 wr NN)) [2, 5, 6, 7] S22.loc (by omega) (by decide) hJ⟩
                | 1, ho =>
                  obtain rfl := Option.some.inj ho
                  have e0 := hout 17 (by kernel_rfl)
                  replace e0 : a'.eval (.tmp 17) = _ := e0.trans rfl
                  exact wp_move (.tmp 17) rfl _ e0 ⟨_, rfl, told_of rfl, keepG (St := (S22 wr NN)) [2, 5, 6, 7] S22.loc (by omega) (by decide) hJ⟩
                | 2, ho =>
                  obtain rfl := Option.some.inj ho
                  have e0 : a'.eval (.tmp 115) = P0 b := by have h9 := hin 0 115 (by kernel_rfl) (by kernel_rfl); exact h9.1.trans (told_is _ h9.2 rfl)
                  have e1 : a'.eval (.tmp 116) = .int .i64 t := by have h9 := hin 1 116 (by kernel_rfl) (by kernel_rfl); exact h9.1.trans (told_is _ h9.2 rfl)
                  refine wp_callF 23 _ _ rfl #[P0 b, .int .i64 t] (by simp [e0, e1]) (cg23 _ _) ((unhide PA w2 ((unhide G).k.trans hJ.1)).mono ?_)
                  rintro e w3 ⟨u, rfl, hO, hk3⟩
                  exact ⟨_, rfl, _, rfl, told_no rfl, nextG (St := (S22 wr NN)) (by omega) ⟨hJ.1.trans hk3, fun _ => hO, fun h5 => owns_keptX (hJ.2.2.1 h5) hk3 (by simp), (fun h => by have h9 : l.getD 6 false = true := h; rw [hnot 6 (by kernel_rfl)] at h9; cases h9), hJ.2.2.2.2⟩⟩
                | 3, ho =>
                  obtain rfl := Option.some.inj ho
                  have e0 := hout 4 (by kernel_rfl)
                  replace e0 : a'.eval (.tmp 4) = _ := e0.trans rfl
                  exact o_load27 (.tmp 4) rfl _ _ e0 (fits_cell ((unhide G).r4.kept hJ.1 (by simp)) 0 _ rfl) ⟨_, rfl, told_of rfl, keepG (St := (S22 wr NN)) [2, 5, 6, 7] S22.loc (by omega) (by decide) hJ⟩
                | 4, ho =>
                  obtain rfl := Option.some.inj ho
                  have e0 := hout 17 (by kernel_rfl)
                  replace e0 : a'.eval (.tmp 17) = _ := e0.trans rfl
                  exact wp_move (.tmp 17) rfl _ e0 ⟨_, rfl, told_of rfl, keepG (St := (S22 wr NN)) [2, 5, 6, 7] S22.loc (by omega) (by decide) hJ⟩
                | 5, ho =>
                  obtain rfl := Option.some.inj ho
                  have e0 : a'.eval (.tmp 118) = P0 r := by have h9 := hin 3 118 (by kernel_rfl) (by kernel_rfl); exact h9.1.trans (told_is _ h9.2 rfl)
                  have e1 : a'.eval (.tmp 119) = .int .i64 t := by have h9 := hin 4 119 (by kernel_rfl) (by kernel_rfl); exact h9.1.trans (told_is _ h9.2 rfl)
                  refine wp_callF 36 _ _ rfl #[P0 r, .int .i64 t] (by simp [e0, e1]) (cg36 _ _) ((unhide PB w2 ((unhide G).k.trans hJ.1)).mono ?_)
                  rintro e w3 ⟨u, rfl, hO, hk3⟩
                  exact ⟨_, rfl, _, rfl, told_no rfl, nextG (St := (S22 wr NN)) (by omega) ⟨hJ.1.trans hk3, fun h2 => owns_keptX (hJ.2.1 h2) hk3 (by simp), fun _ => hO, hJ.2.2.2.1, (fun h => by have h9 : l.getD 7 false = true := h; rw [hnot 7 (by kernel_rfl)] at h9; cases h9)⟩⟩
                | 6, ho =>
                  obtain rfl := Option.some.inj ho
                  have e0 : a'.eval (.tmp 117) = vs 2 := (hin 2 117 (by kernel_rfl) (by kernel_rfl)).1
                  exact wp_assignV (.tmp 117) rfl _ e0 ⟨_, rfl, told_no rfl, nextG (St := (S22 wr NN)) (by omega) ⟨hJ.1, hJ.2.1, hJ.2.2.1, fun _ => ⟨hdep 2 (by kernel_rfl), rfl⟩, hJ.2.2.2.2⟩⟩
                | 7, ho =>
                  obtain rfl := Option.some.inj ho
                  have e0 : a'.eval (.tmp 120) = vs 5 := (hin 5 120 (by kernel_rfl) (by kernel_rfl)).1
                  exact wp_assignV (.tmp 120) rfl _ e0 ⟨_, rfl, told_no rfl, nextG (St := (S22 wr NN)) (by omega) ⟨hJ.1, hJ.2.1, hJ.2.2.1, hJ.2.2.2.1, fun _ => ⟨hdep 5 (by kernel_rfl), rfl⟩⟩⟩
              intro l vs w9 hl hJ htold
              have t0 : vs 0 = P0 b := told_is _ (htold 0 (by decide)) rfl
              have t1 : vs 1 = .int .i64 t := told_is _ (htold 1 (by decide)) rfl
              have t3 : vs 3 = P0 r := told_is _ (htold 3 (by decide)) rfl
              have t4 : vs 4 = .int .i64 t := told_is _ (htold 4 (by decide)) rfl
              rw [show (List.range 8).map vs = [vs 0, vs 1, vs 2, vs 3, vs 4, vs 5, vs 6, vs 7] from rfl]
              simp only [t0, t1, t3, t4, putAll, Act.put, List.setIfInBounds_toArray, List.set_cons_succ, List.set_cons_zero]
              clear t0 t1 t3 t4 htold
              obtain ⟨hk9, h2, h5, h6, h7⟩ := hJ
              replace h2 := h2 (hl 2 (by decide))
              replace h5 := h5 (hl 5 (by decide))
              replace h6 := (h6 (hl 6 (by decide))).2
              replace h7 := (h7 (hl 7 (by decide))).2
              rw [h6, h7]
              obtain ⟨a1, c1, e1, hV1, _⟩ := owns_vals h2
              obtain ⟨a2, c2, e2, hV2, _⟩ := owns_vals h5
              rw [e1, e2]
              replace G := hide ((unhide G).step hk9)
              have HV1 := hide hV1
              have HV2 := hide hV2
              clear hk9 h2 h5 h6 h7 hl e1 e2 hV1 hV2 PA PB
              obtain ⟨M, hM⟩ : ∃ M, NN.length = M := ⟨_, rfl⟩
              rw [hM] at HV1 HV2 HM4 ⊢
              have HMM := hide hM
              have hM4 : M ≤ 4096 := unhide HM4
              clear hM
              go_wp2_with fail
              go_loopw [20] (fun i wr => ∃ k : Nat, k ≤ M ∧ i = .int .i64 k ∧ Hid (Kept [] w9 wr) ∧ Hid (Sv w wr b4 b5 b6 r leave)) (fun i _ => M - (intOf i).toNat)
              case atStart => exact ⟨0, by omega, rfl, hide (Kept.refl _ _), G⟩
              case round =>
                clear G
                obtain ⟨k, hk, rfl, HK9, G⟩ := hrel
                by_cases hltk : k < M
                · obtain ⟨u, hu⟩ : ∃ u, NN[k]? = some u := ⟨_, List.getElem?_eq_getElem (by rw [unhide HMM]; exact hltk)⟩
                  obtain ⟨z, rfl⟩ := unhide HNUM k u hu
                  have hne : NN ≠ [] := by intro e; have h8 := unhide HMM; rw [e] at h8; simp at h8; omega
                  obtain ⟨g1, off1, rfl, hr1⟩ := (unhide HV1).lies hne
                  obtain ⟨g2, off2, rfl, hr2⟩ := (unhide HV2).lies hne
                  have HC1 := hide ((unhide HK9).cell (hr1 k _ hu) (by simp))
                  have HC2 := hide ((unhide HK9).cell (hr2 k _ hu) (by simp))
                  have hltI : (k : Int) < M := by omega
                  clear hr1 hr2 hne hu
                  go_wp2_with fail
                  refine wp_region_any mixed (wpAny_tq 9 rfl (by kernel_rfl) [some (.slice (some ⟨g1, off1, none⟩) M c1), some (.int .i64 k), some (.pointer (some ⟨g1, off1 + k, none⟩)), some (.int .i64 z), some (.slice (some ⟨g2, off2, none⟩) M c2), some (.int .i64 k), some (.pointer (some ⟨g2, off2 + k, none⟩)), some (.int .i64 z), some (.bool false)] rfl (by kernel_rfl) (by kernel_rfl) ?_ ?_)
                  · intro i o' hi hsk ho a' w2 hout hin hk2
                    replace hk2 : Kept [] wr w2 := ⟨hk2.os, hk2.tape, hk2.output, hk2.size, hk2.block⟩
                    match i, ho, hsk with
                    | 0, ho, hsk =>
                      obtain rfl := Option.some.inj ho
                      exact wp_move (.tmp 18) rfl _ ((hout 18 (by kernel_rfl)).trans rfl) ⟨_, rfl, tq_is _ _ _ _ rfl, Kept.refl _ _, fun _ _ _ _ _ => trivial⟩
                    | 1, ho, hsk =>
                      obtain rfl := Option.some.inj ho
                      exact wp_move (.tmp 20) rfl _ ((hout 20 (by kernel_rfl)).trans rfl) ⟨_, rfl, tq_is _ _ _ _ rfl, Kept.refl _ _, fun _ _ _ _ _ => trivial⟩
                    | 2, ho, hsk =>
                      obtain rfl := Option.some.inj ho
                      have e0 : a'.eval (.tmp 132) = .slice (some ⟨g1, off1, none⟩) M c1 := is_tq (hin 0 132 (by kernel_rfl) (by kernel_rfl)) rfl
                      have e1 : a'.eval (.tmp 133) = .int .i64 k := is_tq (hin 1 133 (by kernel_rfl) (by kernel_rfl)) rfl
                      exact o_idx56 (.tmp 132) (.tmp 133) rfl g1 off1 M c1 k hltk e0 e1 ⟨_, rfl, tq_is _ _ _ _ rfl, Kept.refl _ _, fun _ _ _ _ _ => trivial⟩
                    | 3, ho, hsk =>
                      obtain rfl := Option.some.inj ho
                      have e0 : a'.eval (.tmp 134) = .pointer (some ⟨g1, off1 + k, none⟩) := is_tq (hin 2 134 (by kernel_rfl) (by kernel_rfl)) rfl
                      exact o_load2 (.tmp 134) rfl ⟨g1, off1 + k, none⟩ _ e0 (hk2.cell (unhide HC1) (by simp)) ⟨_, rfl, tq_is _ _ _ _ rfl, Kept.refl _ _, fun _ _ _ _ _ => trivial⟩
                    | 4, ho, hsk =>
                      obtain rfl := Option.some.inj ho
                      exact wp_move (.tmp 19) rfl _ ((hout 19 (by kernel_rfl)).trans rfl) ⟨_, rfl, tq_is _ _ _ _ rfl, Kept.refl _ _, fun _ _ _ _ _ => trivial⟩
                    | 5, ho, hsk =>
                      obtain rfl := Option.some.inj ho
                      exact wp_move (.tmp 20) rfl _ ((hout 20 (by kernel_rfl)).trans rfl) ⟨_, rfl, tq_is _ _ _ _ rfl, Kept.refl _ _, fun _ _ _ _ _ => trivial⟩
                    | 6, ho, hsk =>
                      obtain rfl := Option.some.inj ho
                      have e0 : a'.eval (.tmp 136) = .slice (some ⟨g2, off2, none⟩) M c2 := is_tq (hin 4 136 (by kernel_rfl) (by kernel_rfl)) rfl
                      have e1 : a'.eval (.tmp 137) = .int .i64 k := is_tq (hin 5 137 (by kernel_rfl) (by kernel_rfl)) rfl
                      exact o_idx56 (.tmp 136) (.tmp 137) rfl g2 off2 M c2 k hltk e0 e1 ⟨_, rfl, tq_is _ _ _ _ rfl, Kept.refl _ _, fun _ _ _ _ _ => trivial⟩
                    | 7, ho, hsk =>
                      obtain rfl := Option.some.inj ho
                      have e0 : a'.eval (.tmp 138) = .pointer (some ⟨g2, off2 + k, none⟩) := is_tq (hin 6 138 (by kernel_rfl) (by kernel_rfl)) rfl
                      exact o_load2 (.tmp 138) rfl ⟨g2, off2 + k, none⟩ _ e0 (hk2.cell (unhide HC2) (by simp)) ⟨_, rfl, tq_is _ _ _ _ rfl, Kept.refl _ _, fun _ _ _ _ _ => trivial⟩
                    | 8, ho, hsk =>
                      obtain rfl := Option.some.inj ho
                      have e0 : a'.eval (.tmp 135) = .int .i64 z := is_tq (hin 3 135 (by kernel_rfl) (by kernel_rfl)) rfl
                      have e1 : a'.eval (.tmp 139) = .int .i64 z := is_tq (hin 7 139 (by kernel_rfl) (by kernel_rfl)) rfl
                      exact o_neqI2 (.tmp 135) (.tmp 139) rfl _ _ true (by simp) e0 e1 ⟨_, rfl, tq_is _ _ _ _ rfl, Kept.refl _ _, fun _ _ _ _ _ => trivial⟩
                  intro w9 hk9
                  replace hk9 : Kept [] wr w9 := ⟨hk9.os, hk9.tape, hk9.output, hk9.size, hk9.block⟩
                  simp only [valsQ, List.map_cons, List.map_nil, Option.getD_some, List.take_succ_cons, List.take_zero, putAll, Act.put, List.setIfInBounds_toArray, List.set_cons_succ, List.set_cons_zero]
                  refine wpAny_done (by kernel_rfl) ?_ _
                  have HK8 := hide ((unhide HK9).trans hk9)
                  replace G := hide ((unhide G).step hk9)
                  clear hk9
                  go_wp2_with fail
                  go_roundw
                  case rel => exact ⟨k + 1, by omega, by go_num, HK8, G⟩
                  case measure => simp [intOf]; omega
                · have hnI : ¬ (k : Int) < M := by omega
                  go_wp2_with fail
                  go_roundw
                  case rel => exact ⟨t + 1, by omega, by omega, rfl, G⟩
                  case measure => simp [intOf]; omega
            · go_wp2_with (
                first
                | (go_at_call 37
                   refine (all37 (some ⟨b, 0, none⟩) _).mono ?_
                   rintro e V5 ⟨p1, p2, rfl, hp1, hp2, K5⟩
                   have HJ1 := hide hp1
                   have HJ2 := hide hp2
                   have hq74 := eq74 p1 p2
                   replace G := hide ((unhide G).step K5)
                   clear hp1 hp2 K5
                   refine Stp.go ?_))
              constructor
              go_wp2_with (
                first
                | (refine wpVar (.int .i64 0) (.int .i64 0) zero3 (fun w b u h => st3 w b u _ h) 22 (by rfl) (by rfl) (by rfl) (.const (.int .i64 0)) (by rfl) (by rfl) (by rfl) (by kernel_rfl) (by rfl) ?_
                   intro V6 bt et B6 K6
                   have HT := hide B6
                   replace HJ1 := hide ((unhide HJ1).kept K6 (by simp))
                   replace HJ2 := hide ((unhide HJ2).kept K6 (by simp))
                   replace G := hide ((unhide G).step K6)
                   clear et B6 K6 hq74))
              have HAS : Hid (AS w leave b b4 b5 b6 r p1 p2 [] V6) := ⟨unhide G, unhide HJ1, unhide HJ2, fun D hD => by cases hD⟩
              clear G HJ1 HJ2
              have hFw := wideF
              refine (wpIn_wide (n := 3)).1 ?_
              refine wpIn_loop_rounds 3 ?_
              rw [roundsIn_succ]
              have c19 := fits_cell (unhide HT) 0 _ rfl
              gi_wp2_with (
                first
                | (refine inVar (.int .i64 0) (.int .i64 0) zero3 (fun w b u h => st3 w b u _ h) 23 (by rfl) wideF (by rfl) (by rfl) (by rfl) (.const (.int .i64 0)) (by rfl) (by rfl) (fun _ => by rfl) (by rfl) (by rfl) (by rfl) ?_
                   intro W8 bn en B8 K8
                   have HN := hide B8
                   have nbt : Hid (bt < bn) := by have := (unhide HT).lt; show _ < _; omega
                   have HLT := hide (unhide HAS).lts
                   have HGE := hide (unhide HAS).sv.k.size
                   have HASb := hide ((unhide HAS).kept K8)
                   have HTb := hide ((unhide HT).kept K8 (by simp))
                   have nn : Hid (V6.heap.size = bn) := by show _ = _; omega
                   clear en B8 K8 c19 HAS HT))
              have HNE : Hid (bn ≠ b4 ∧ bn ≠ b5 ∧ bn ≠ b6 ∧ bn ≠ p1 ∧ bn ≠ p2 ∧ bn ≠ bt ∧ w.heap.size ≤ bn) := by
                have h1 := unhide HLT
                have h2 := unhide nn
                have h3 := unhide nbt
                have h4 := unhide HGE
                exact ⟨by omega, by omega, by omega, by omega, by omega, by omega, by omega⟩
              refine range_turn 10 w b mb v N leave b4 b5 b6 r p1 p2 [] bn bt 0 rfl rfl ((unhide HP).net.kept0 (unhide HASb).sv.k) (unhide HASb) (by simp) ⟨unhide HN, unhide HTb, fun _ h => by simp at h⟩ ?assign ?body ?done ?exit
              case assign =>
                intro l x y W K hK
                simp only [List.setIfInBounds_toArray, List.set_cons_succ, List.set_cons_zero]
                gi_wp2_with (
                  first
                  | (refine inNew row47 zL rfl alloc47 24 (by rfl) (fun _ => trivial) (by rfl) (by rfl) (by rfl) (.tmp 150) (by rfl) (by rfl) (fun _ => by rfl) (by rfl) (y.D x.v) rfl (D_one rfl) (by rfl) (by rfl) ?_
                     intro W9 bx ex BX KX
                     have HBX := hide BX
                     have HKX := hide KX
                     clear ex BX KX)
                  | fail)
                refine hK _ _ bx (unhide HKX) (unhide HBX) ?_
                simp only [ax, List.setIfInBounds_toArray, List.set_cons_succ, List.set_cons_zero]
              case body =>
                intro l pre x y bx W hS hV hR
                simp only [ax, List.setIfInBounds_toArray, List.set_cons_succ, List.set_cons_zero]
                have hlt : pre.length < n := by rw [← unhide HNN]; exact (List.getElem?_eq_some_iff.1 hR.at_).1
                obtain ⟨l2, hl2⟩ : ∃ l2, R.L[pre.length]? = some l2 := ⟨_, List.getElem?_eq_getElem (by rw [unhide HNR]; exact hlt)⟩
                have hRW := (unhide HP).ref.kept0 hS.sv.k
                have hrow := hRW.row
                rw [unhide HLV] at hrow
                obtain ⟨g, hlo, hRG⟩ := cellsL_at hrow hl2
                subst hlo
                have HRG := hide hRG
                have hb2 := hRW.body l2 (List.mem_of_getElem? hl2)
                have hal : alike ⟨y.num, y.fr, y.to, x.v, y.bs⟩ l2 = true := alike_sig.2 (by
                  have e1 : (sigs N.L)[pre.length]? = some y.sig := by simp [sigs, hR.at_]
                  have e2 : (sigs R.L)[pre.length]? = some l2.sig := by simp [sigs, hl2]
                  rw [(unhide HP).sig, e2] at e1
                  exact (Option.some.inj e1).symm)
                have P19 : Hid (∀ W', Kept [] W W' → Calls Try.prog 19 #[aggV (y.D x.v), aggV l2.C] W' fun e w' => e = .returned (.bool true) ∧ Kept [] W' w') := fun W' hk => by
                  have h9 := same19x ⟨y.num, y.fr, y.to, x.v, y.bs⟩ l2 W' (hR.bod.row.kept hk) (hb2.row.kept hk) hR.bod.byte hb2.byte
                  rw [hal] at h9
                  exact h9
                have HSM : Hid (y.bs.length ≤ 512) := (unhide HP).net.small y (List.mem_of_getElem? hR.at_)
                clear hRG hRW hrow hb2 hal hl2
                gi_wp2
                refine wpIn_region_any (by kernel_rfl) (anyIn_of_any (by rintro ⟨a, w, h⟩; exact h) (noDeferA (by kernel_rfl)) _ _ _ _ (wpAny_tq 19 rfl (by kernel_rfl) [some (.int .i64 pre.length), some (P0 r), some (P0 r), some (.pointer (some ⟨r, 1, none⟩)), some (.slice (some ⟨g, 0, none⟩) n lc), some (.int .i64 n), some (.bool false), some (.bool false), some (aggV (y.D x.v)), some (P0 r), some (P0 r), some (.pointer (some ⟨r, 1, none⟩)), some (.slice (some ⟨g, 0, none⟩) n lc), some (.int .i64 pre.length), some (.pointer (some ⟨g, pre.length * 4, none⟩)), some (aggV l2.C), some (.bool true), some (.bool false), some (.bool false)] rfl (by kernel_rfl) (by kernel_rfl) ?_ ?_))
                · intro i o' hi hsk ho a' w2 hout hin hk2
                  replace hk2 : Kept [] W w2 := ⟨hk2.os, hk2.tape, hk2.output, hk2.size, hk2.block⟩
                  match i, ho, hsk with
                  | 0, ho, hsk =>
                    obtain rfl := Option.some.inj ho
                    exact o_load3 (.tmp 23) rfl ⟨bn, 0, none⟩ _ ((hout 23 (by kernel_rfl)).trans rfl) (fits_cell (hV.n.kept hk2 (by simp)) 0 _ rfl) ⟨_, rfl, tq_is _ _ _ _ rfl, Kept.refl _ _, fun _ _ _ _ _ => trivial⟩
                  | 1, ho, hsk =>
                    obtain rfl := Option.some.inj ho
                    exact o_load27 (.tmp 4) rfl ⟨b4, 0, none⟩ _ ((hout 4 (by kernel_rfl)).trans rfl) (fits_cell (hS.sv.r4.kept hk2 (by simp)) 0 _ rfl) ⟨_, rfl, tq_is _ _ _ _ rfl, Kept.refl _ _, fun _ _ _ _ _ => trivial⟩
                  | 2, ho, hsk =>
                    obtain rfl := Option.some.inj ho
                    have e0 : a'.eval (.tmp 152) = P0 r := is_tq (hin 1 152 (by kernel_rfl) (by kernel_rfl)) rfl
                    exact o_nil (.tmp 152) rfl _ e0 ⟨_, rfl, tq_is _ _ _ _ rfl, Kept.refl _ _, fun _ _ _ _ _ => trivial⟩
                  | 3, ho, hsk =>
                    obtain rfl := Option.some.inj ho
                    have e0 : a'.eval (.tmp 153) = P0 r := is_tq (hin 2 153 (by kernel_rfl) (by kernel_rfl)) rfl
                    exact o_fld60_1 (.tmp 153) rfl r e0 ⟨_, rfl, tq_is _ _ _ _ rfl, Kept.refl _ _, fun _ _ _ _ _ => trivial⟩
                  | 4, ho, hsk =>
                    obtain rfl := Option.some.inj ho
                    have e0 : a'.eval (.tmp 154) = .pointer (some ⟨r, 1, none⟩) := is_tq (hin 3 154 (by kernel_rfl) (by kernel_rfl)) rfl
                    exact o_load43 (.tmp 154) rfl ⟨r, 1, none⟩ _ e0 (fits_cell ((unhide HRH).kept (hS.sv.k.trans hk2) (by simp)) 1 _ rfl) ⟨_, rfl, tq_is _ _ _ _ rfl, Kept.refl _ _, fun _ _ _ _ _ => trivial⟩
                  | 5, ho, hsk =>
                    obtain rfl := Option.some.inj ho
                    have e0 : a'.eval (.tmp 155) = .slice (some ⟨g, 0, none⟩) n lc := is_tq (hin 4 155 (by kernel_rfl) (by kernel_rfl)) rfl
                    exact o_len43 155 rfl _ _ _ e0 ⟨_, rfl, tq_is _ _ _ _ rfl, Kept.refl _ _, fun _ _ _ _ _ => trivial⟩
                  | 6, ho, hsk =>
                    obtain rfl := Option.some.inj ho
                    have e0 : a'.eval (.tmp 151) = .int .i64 pre.length := is_tq (hin 0 151 (by kernel_rfl) (by kernel_rfl)) rfl
                    have e1 : a'.eval (.tmp 156) = .int .i64 n := is_tq (hin 5 156 (by kernel_rfl) (by kernel_rfl)) rfl
                    exact o_geq3v (.tmp 151) (.tmp 156) rfl _ _ false (decide_eq_false (by omega)) e0 e1 ⟨_, rfl, tq_is _ _ _ _ rfl, Kept.refl _ _, fun _ _ _ _ _ => trivial⟩
                  | 7, ho, hsk =>
                    obtain rfl := Option.some.inj ho
                    have e0 : a'.eval (.tmp 157) = .bool false := is_tq (hin 6 157 (by kernel_rfl) (by kernel_rfl)) rfl
                    exact wp_move (.tmp 157) rfl _ e0 ⟨_, rfl, tq_is _ _ _ _ rfl, Kept.refl _ _, fun _ _ _ _ _ => trivial⟩
                  | 8, ho, hsk =>
                    obtain rfl := Option.some.inj ho
                    exact wp_loadA row47 (.tmp 24) rfl bx 0 ((hout 24 (by kernel_rfl)).trans rfl) ((y.D x.v)) rfl (hR.blk.kept hk2 (by simp)).range ⟨_, rfl, tq_is _ _ _ _ rfl, Kept.refl _ _, fun _ _ _ _ _ => trivial⟩
                  | 9, ho, hsk =>
                    obtain rfl := Option.some.inj ho
                    exact o_load27 (.tmp 4) rfl ⟨b4, 0, none⟩ _ ((hout 4 (by kernel_rfl)).trans rfl) (fits_cell (hS.sv.r4.kept hk2 (by simp)) 0 _ rfl) ⟨_, rfl, tq_is _ _ _ _ rfl, Kept.refl _ _, fun _ _ _ _ _ => trivial⟩
                  | 10, ho, hsk =>
                    obtain rfl := Option.some.inj ho
                    have e0 : a'.eval (.tmp 160) = P0 r := is_tq (hin 9 160 (by kernel_rfl) (by kernel_rfl)) rfl
                    exact o_nil (.tmp 160) rfl _ e0 ⟨_, rfl, tq_is _ _ _ _ rfl, Kept.refl _ _, fun _ _ _ _ _ => trivial⟩
                  | 11, ho, hsk =>
                    obtain rfl := Option.some.inj ho
                    have e0 : a'.eval (.tmp 161) = P0 r := is_tq (hin 10 161 (by kernel_rfl) (by kernel_rfl)) rfl
                    exact o_fld60_1 (.tmp 161) rfl r e0 ⟨_, rfl, tq_is _ _ _ _ rfl, Kept.refl _ _, fun _ _ _ _ _ => trivial⟩
                  | 12, ho, hsk =>
                    obtain rfl := Option.some.inj ho
                    have e0 : a'.eval (.tmp 162) = .pointer (some ⟨r, 1, none⟩) := is_tq (hin 11 162 (by kernel_rfl) (by kernel_rfl)) rfl
                    exact o_load43 (.tmp 162) rfl ⟨r, 1, none⟩ _ e0 (fits_cell ((unhide HRH).kept (hS.sv.k.trans hk2) (by simp)) 1 _ rfl) ⟨_, rfl, tq_is _ _ _ _ rfl, Kept.refl _ _, fun _ _ _ _ _ => trivial⟩
                  | 13, ho, hsk =>
                    obtain rfl := Option.some.inj ho
                    exact o_load3 (.tmp 23) rfl ⟨bn, 0, none⟩ _ ((hout 23 (by kernel_rfl)).trans rfl) (fits_cell (hV.n.kept hk2 (by simp)) 0 _ rfl) ⟨_, rfl, tq_is _ _ _ _ rfl, Kept.refl _ _, fun _ _ _ _ _ => trivial⟩
                  | 14, ho, hsk =>
                    obtain rfl := Option.some.inj ho
                    have e0 : a'.eval (.tmp 163) = .slice (some ⟨g, 0, none⟩) n lc := is_tq (hin 12 163 (by kernel_rfl) (by kernel_rfl)) rfl
                    have e1 : a'.eval (.tmp 164) = .int .i64 pre.length := is_tq (hin 13 164 (by kernel_rfl) (by kernel_rfl)) rfl
                    exact o_ix43 (.tmp 163) (.tmp 164) rfl g n lc pre.length hlt e0 e1 ⟨_, rfl, tq_is _ _ _ _ rfl, Kept.refl _ _, fun _ _ _ _ _ => trivial⟩
                  | 15, ho, hsk =>
                    obtain rfl := Option.some.inj ho
                    have e0 : a'.eval (.tmp 165) = .pointer (some ⟨g, pre.length * 4, none⟩) := is_tq (hin 14 165 (by kernel_rfl) (by kernel_rfl)) rfl
                    exact wp_loadA row47 (.tmp 165) rfl g (pre.length * 4) e0 (l2.C) rfl (fun j u hj => hk2.cell (unhide HRG j u hj) (by simp)) ⟨_, rfl, tq_is _ _ _ _ rfl, Kept.refl _ _, fun _ _ _ _ _ => trivial⟩
                  | 16, ho, hsk =>
                    obtain rfl := Option.some.inj ho
                    have e0 : a'.eval (.tmp 159) = aggV (y.D x.v) := is_tq (hin 8 159 (by kernel_rfl) (by kernel_rfl)) rfl
                    have e1 : a'.eval (.tmp 166) = aggV l2.C := is_tq (hin 15 166 (by kernel_rfl) (by kernel_rfl)) rfl
                    refine wp_callF 19 _ _ rfl #[aggV (y.D x.v), aggV l2.C] (by simp [e0, e1]) (cg19r _ _) ((unhide P19 w2 hk2).mono ?_)
                    rintro e w3 ⟨rfl, hk3⟩
                    exact ⟨_, rfl, _, rfl, tq_is _ _ _ _ rfl, hk3, fun _ _ _ _ _ => trivial⟩
                  | 17, ho, hsk =>
                    obtain rfl := Option.some.inj ho
                    have e0 : a'.eval (.tmp 167) = .bool true := is_tq (hin 16 167 (by kernel_rfl) (by kernel_rfl)) rfl
                    exact o_not (.tmp 167) rfl true e0 ⟨_, rfl, tq_is _ _ _ _ rfl, Kept.refl _ _, fun _ _ _ _ _ => trivial⟩
                  | 18, ho, hsk =>
                    obtain rfl := Option.some.inj ho
                    have e0 : a'.eval (.tmp 158) = .bool false := is_tq (hin 7 158 (by kernel_rfl) (by kernel_rfl)) rfl
                    have e1 : a'.eval (.tmp 168) = .bool false := is_tq (hin 17 168 (by kernel_rfl) (by kernel_rfl)) rfl
                    exact o_pickOr0 (.tmp 158) (.tmp 168) rfl _ e0 e1 ⟨_, rfl, tq_is _ _ _ _ rfl, Kept.refl _ _, fun _ _ _ _ _ => trivial⟩
                intro w9 hk9
                replace hk9 : Kept [] W w9 := ⟨hk9.os, hk9.tape, hk9.output, hk9.size, hk9.block⟩
                simp only [valsQ, List.map_cons, List.map_nil, Option.getD_some, List.take_succ_cons, List.take_zero, putAll, Act.put, List.setIfInBounds_toArray, List.set_cons_succ, List.set_cons_zero]
                refine wpAny_done (by kernel_rfl) ?_ _
                have hS3 := hide (hS.kept hk9)
                have hV3 := hide (hV.kept hk9)
                have hK3 := hide hk9
                have HRL : Hid (Bod w9 x.v y.bs ∧ Blk w9 bx 47 (y.D x.v)) := ⟨hR.bod.kept hk9 (by simp), hR.blk.kept hk9 (by simp)⟩
                have HGE2 := hide hR.ge
                clear hS hV hR hk9 P19 HRG
                gi_wp2_with (
                  first
                  | (refine listIn_of_list (by rintro ⟨a, w, h⟩; exact h) _ _ _ (noDefer_spec (by kernel_rfl)) ?_
                     refine Stp.go ?_))
                constructor
                go_wp2_with (
                  first
                  | (refine wpLoadA row47 (by rfl) (.tmp 24) (by rfl) bx 0 (by kernel_rfl) (y.D x.v) rfl (unhide HRL).2.range ?_
                     refine Stp.go ?_))
                constructor
                go_wp2_with (
                  first
                  | (go_at_call 33
                     refine (spoil33 ⟨y.num, y.fr, y.to, x.v, y.bs⟩ _ (unhide HRL).1 (unhide HSM)).mono ?_
                     rintro e V7 ⟨⟨ev, rfl⟩, K7⟩
                     have hS4 := hide ((unhide hS3).spoil (unhide HRL).1 (unhide HGE2) K7)
                     have hV4 := hide ((unhide hV3).spoil (unhide HRL).1 K7)
                     have HK7 := hide (KeptS.of_own (x := x) K7)
                     have HKF := hide (keepsFrom_own (B := W8.heap.size) (v := x.v) (unhide hK3) (unhide HRL).1 K7)
                     have c23 := fits_cell (unhide hV4).n 0 _ rfl
                     have c22 := fits_cell (unhide hV4).t 0 _ rfl
                     have c5 := fits_cell (unhide hS4).sv.l5 0 _ rfl
                     clear K7))
                by_cases hlv2 : (pre.length : Int) + 1 = leave
                · have d1 : ((pre.length : Int) + 1 == leave) = true := by simp [hlv2]
                  have d2 : decide ((pre.length : Int) + 1 = leave) = true := by simp [hlv2]
                  have HLV2 := hide hlv2
                  clear hlv2
                  gi_wp2_with (
                    first
                    | (refine inStore1 (.int .i64 pre.length) (.int .i64 ((pre.length : Int) + 1)) (fun w b u h => st3 w b u _ h) (fun _ => trivial) (by rfl) (.tmp 23) (.tmp 173) (by rfl) (by rfl) (by rfl) bn (by rfl) (by rfl) (unhide hV4).n ?_
                       intro W9 B9 e9
                       clear c22 c23 c5
                       have c23 := fits_cell B9 0 _ rfl
                       have c22 : W9.cell? ⟨bt, 0, none⟩ = some (.int .i64 0) := by rw [e9]; exact fits_cell ((unhide hV4).t.set_other (by have := unhide HNE; omega) _) 0 _ rfl
                       have c5 : W9.cell? ⟨b5, 0, none⟩ = some (.int .i64 leave) := by rw [e9]; exact fits_cell ((unhide hS4).sv.l5.set_other (by have := unhide HNE; omega) _) 0 _ rfl
                       have HE := hide e9
                       clear e9 B9)
                    | fail)
                  have e9 := unhide HE
                  have ne := unhide HNE
                  have hS9 : AS w leave b b4 b5 b6 r p1 p2 [] W9 := by rw [e9]; exact (unhide hS4).set _ (unhide hV4).n ne.2.2.2.2.2.2 ⟨ne.1, ne.2.1, ne.2.2.1, ne.2.2.2.1, ne.2.2.2.2.1⟩
                  have hn9 : Blk W9 bn 3 [.int .i64 ((pre ++ [x]).length : Nat)] := by
                    rw [e9, List.length_append]
                    exact (unhide hV4).n.one _
                  have ht9 : Blk W9 bt 3 [.int .i64 0] := by rw [e9]; exact (unhide hV4).t.set_other (by omega) _
                  have hl9 : ((pre ++ [x]).length : Int) = (pre.length : Int) + 1 := by simp
                  have hkf : KeepsFrom W8.heap.size W W9 := by rw [e9]; exact (unhide HKF).trans (keepsFrom_set (Kept.refl [] _) (unhide hV4).n _)
                  exact ⟨hkf, rfl, trivial, hS9, hn9, ht9, by have := unhide HLV2; omega⟩
                · have d1 : ((pre.length : Int) + 1 == leave) = false := by simp [hlv2]
                  have d2 : decide ((pre.length : Int) + 1 = leave) = false := by simp [hlv2]
                  gi_wp2_with (
                    first
                    | (refine inStore1 (.int .i64 pre.length) (.int .i64 ((pre.length : Int) + 1)) (fun w b u h => st3 w b u _ h) (fun _ => trivial) (by rfl) (.tmp 23) (.tmp 173) (by rfl) (by rfl) (by rfl) bn (by rfl) (by rfl) (unhide hV4).n ?_
                       intro W9 B9 e9
                       clear c22 c23 c5
                       have c23 := fits_cell B9 0 _ rfl
                       have c22 : W9.cell? ⟨bt, 0, none⟩ = some (.int .i64 0) := by rw [e9]; exact fits_cell ((unhide hV4).t.set_other (by have := unhide HNE; omega) _) 0 _ rfl
                       have c5 : W9.cell? ⟨b5, 0, none⟩ = some (.int .i64 leave) := by rw [e9]; exact fits_cell ((unhide hS4).sv.l5.set_other (by have := unhide HNE; omega) _) 0 _ rfl
                       have HE := hide e9
                       clear e9 B9)
                    | fail)
                  have e9 := unhide HE
                  have ne := unhide HNE
                  have hS9 : AS w leave b b4 b5 b6 r p1 p2 [] W9 := by rw [e9]; exact (unhide hS4).set _ (unhide hV4).n ne.2.2.2.2.2.2 ⟨ne.1, ne.2.1, ne.2.2.1, ne.2.2.2.1, ne.2.2.2.2.1⟩
                  have hn9 : Blk W9 bn 3 [.int .i64 ((pre ++ [x]).length : Nat)] := by
                    rw [e9, List.length_append]
                    exact (unhide hV4).n.one _
                  have ht9 : Blk W9 bt 3 [.int .i64 0] := by rw [e9]; exact (unhide hV4).t.set_other (by omega) _
                  have hl9 : ((pre ++ [x]).length : Int) = (pre.length : Int) + 1 := by simp
                  have hkf : KeepsFrom W8.heap.size W W9 := by rw [e9]; exact (unhide HKF).trans (keepsFrom_set (Kept.refl [] _) (unhide hV4).n _)
                  exact ⟨hkf, by rw [e9]; exact ((KeptS.of_kept (unhide hK3)).trans (unhide HK7)).setCell (unhide hV4).n (by decide) (by decide) _, hS9, ⟨hn9, ht9, fun _ h => hlv2 (by omega)⟩⟩
              case done =>
                intro E n2 W hE hS hnn ht hnN hor hK
                have hDw : w.heap.size ≤ E := by have := (unhide HASb).sv.k.size; omega
                have hNN2 := unhide HNN
                clear HASb HN HTb nn nbt HNE HLT HGE hE
                by_cases hnN2 : n2 = n
                · rw [hnN2] at hnn
                  clear hor hnN hNN2 hnN2
                  gi_wp2
                  refine wpIn_wide.2 ?_
                  refine wp_region_any mixed (wpAny_tq 29 rfl (by kernel_rfl) [some (.int .i64 0), some (.bool false), some (.bool false), none, none, none, none, none, none, none, some (.bool false), some (.bool false), some (.int .i64 0), some (.bool true), some (.bool true), some (.int .i64 n), some (P0 r), some (P0 r), some (.pointer (some ⟨r, 1, none⟩)), some (.slice lo n lc), some (.int .i64 n), some (.bool false), some (.bool false), some (.bool false), none, none, none, some (.bool false), some (.bool false)] rfl (by kernel_rfl) (by kernel_rfl) ?_ ?_)
                  · intro i o' hi hsk ho a' w2 hout hin hk2
                    replace hk2 : Kept [] W w2 := ⟨hk2.os, hk2.tape, hk2.output, hk2.size, hk2.block⟩
                    match i, ho, hsk with
                    | 0, ho, hsk =>
                      obtain rfl := Option.some.inj ho
                      exact o_load3 (.tmp 22) rfl ⟨bt, 0, none⟩ _ ((hout 22 (by kernel_rfl)).trans rfl) (fits_cell (ht.kept hk2 (by simp)) 0 _ rfl) ⟨_, rfl, tq_is _ _ _ _ rfl, Kept.refl _ _, fun _ _ _ _ _ => trivial⟩
                    | 1, ho, hsk =>
                      obtain rfl := Option.some.inj ho
                      have e0 : a'.eval (.tmp 181) = .int .i64 0 := is_tq (hin 0 181 (by kernel_rfl) (by kernel_rfl)) rfl
                      exact o_eql3 (.tmp 181) 1 rfl _ false (by simp) e0 ⟨_, rfl, tq_is _ _ _ _ rfl, Kept.refl _ _, fun _ _ _ _ _ => trivial⟩
                    | 2, ho, hsk =>
                      obtain rfl := Option.some.inj ho
                      have e0 : a'.eval (.tmp 182) = .bool false := is_tq (hin 1 182 (by kernel_rfl) (by kernel_rfl)) rfl
                      exact wp_move (.tmp 182) rfl _ e0 ⟨_, rfl, tq_is _ _ _ _ rfl, Kept.refl _ _, fun _ _ _ _ _ => trivial⟩
                    | 3, ho, hsk =>
                      cases hsk
                    | 4, ho, hsk =>
                      cases hsk
                    | 5, ho, hsk =>
                      cases hsk
                    | 6, ho, hsk =>
                      cases hsk
                    | 7, ho, hsk =>
                      cases hsk
                    | 8, ho, hsk =>
                      cases hsk
                    | 9, ho, hsk =>
                      cases hsk
                    | 10, ho, hsk =>
                      obtain rfl := Option.some.inj ho
                      have e0 : a'.eval (.tmp 183) = .bool false := is_tq (hin 2 183 (by kernel_rfl) (by kernel_rfl)) rfl
                      exact o_pickN (.tmp 183) (.tmp 190) rfl e0 ⟨_, rfl, tq_is _ _ _ _ rfl, Kept.refl _ _, fun _ _ _ _ _ => trivial⟩
                    | 11, ho, hsk =>
                      obtain rfl := Option.some.inj ho
                      have e0 : a'.eval (.tmp 191) = .bool false := is_tq (hin 10 191 (by kernel_rfl) (by kernel_rfl)) rfl
                      exact wp_move (.tmp 191) rfl _ e0 ⟨_, rfl, tq_is _ _ _ _ rfl, Kept.refl _ _, fun _ _ _ _ _ => trivial⟩
                    | 12, ho, hsk =>
                      obtain rfl := Option.some.inj ho
                      exact o_load3 (.tmp 22) rfl ⟨bt, 0, none⟩ _ ((hout 22 (by kernel_rfl)).trans rfl) (fits_cell (ht.kept hk2 (by simp)) 0 _ rfl) ⟨_, rfl, tq_is _ _ _ _ rfl, Kept.refl _ _, fun _ _ _ _ _ => trivial⟩
                    | 13, ho, hsk =>
                      obtain rfl := Option.some.inj ho
                      have e0 : a'.eval (.tmp 193) = .int .i64 0 := is_tq (hin 12 193 (by kernel_rfl) (by kernel_rfl)) rfl
                      exact o_eql3 (.tmp 193) 0 rfl _ true (by simp) e0 ⟨_, rfl, tq_is _ _ _ _ rfl, Kept.refl _ _, fun _ _ _ _ _ => trivial⟩
                    | 14, ho, hsk =>
                      obtain rfl := Option.some.inj ho
                      have e0 : a'.eval (.tmp 194) = .bool true := is_tq (hin 13 194 (by kernel_rfl) (by kernel_rfl)) rfl
                      exact wp_move (.tmp 194) rfl _ e0 ⟨_, rfl, tq_is _ _ _ _ rfl, Kept.refl _ _, fun _ _ _ _ _ => trivial⟩
                    | 15, ho, hsk =>
                      obtain rfl := Option.some.inj ho
                      exact o_load3 (.tmp 23) rfl ⟨bn, 0, none⟩ _ ((hout 23 (by kernel_rfl)).trans rfl) (fits_cell (hnn.kept hk2 (by simp)) 0 _ rfl) ⟨_, rfl, tq_is _ _ _ _ rfl, Kept.refl _ _, fun _ _ _ _ _ => trivial⟩
                    | 16, ho, hsk =>
                      obtain rfl := Option.some.inj ho
                      exact o_load27 (.tmp 4) rfl ⟨b4, 0, none⟩ _ ((hout 4 (by kernel_rfl)).trans rfl) (fits_cell (hS.sv.r4.kept hk2 (by simp)) 0 _ rfl) ⟨_, rfl, tq_is _ _ _ _ rfl, Kept.refl _ _, fun _ _ _ _ _ => trivial⟩
                    | 17, ho, hsk =>
                      obtain rfl := Option.some.inj ho
                      have e0 : a'.eval (.tmp 197) = P0 r := is_tq (hin 16 197 (by kernel_rfl) (by kernel_rfl)) rfl
                      exact o_nil (.tmp 197) rfl _ e0 ⟨_, rfl, tq_is _ _ _ _ rfl, Kept.refl _ _, fun _ _ _ _ _ => trivial⟩
                    | 18, ho, hsk =>
                      obtain rfl := Option.some.inj ho
                      have e0 : a'.eval (.tmp 198) = P0 r := is_tq (hin 17 198 (by kernel_rfl) (by kernel_rfl)) rfl
                      exact o_fld60_1 (.tmp 198) rfl r e0 ⟨_, rfl, tq_is _ _ _ _ rfl, Kept.refl _ _, fun _ _ _ _ _ => trivial⟩
                    | 19, ho, hsk =>
                      obtain rfl := Option.some.inj ho
                      have e0 : a'.eval (.tmp 199) = .pointer (some ⟨r, 1, none⟩) := is_tq (hin 18 199 (by kernel_rfl) (by kernel_rfl)) rfl
                      exact o_load43 (.tmp 199) rfl ⟨r, 1, none⟩ _ e0 (fits_cell ((unhide HRH).kept (hS.sv.k.trans hk2) (by simp)) 1 _ rfl) ⟨_, rfl, tq_is _ _ _ _ rfl, Kept.refl _ _, fun _ _ _ _ _ => trivial⟩
                    | 20, ho, hsk =>
                      obtain rfl := Option.some.inj ho
                      have e0 : a'.eval (.tmp 200) = .slice lo n lc := is_tq (hin 19 200 (by kernel_rfl) (by kernel_rfl)) rfl
                      exact o_len43 200 rfl _ _ _ e0 ⟨_, rfl, tq_is _ _ _ _ rfl, Kept.refl _ _, fun _ _ _ _ _ => trivial⟩
                    | 21, ho, hsk =>
                      obtain rfl := Option.some.inj ho
                      have e0 : a'.eval (.tmp 196) = .int .i64 n := is_tq (hin 15 196 (by kernel_rfl) (by kernel_rfl)) rfl
                      have e1 : a'.eval (.tmp 201) = .int .i64 n := is_tq (hin 20 201 (by kernel_rfl) (by kernel_rfl)) rfl
                      exact o_neqI3 (.tmp 196) (.tmp 201) rfl _ _ true (by simp) e0 e1 ⟨_, rfl, tq_is _ _ _ _ rfl, Kept.refl _ _, fun _ _ _ _ _ => trivial⟩
                    | 22, ho, hsk =>
                      obtain rfl := Option.some.inj ho
                      have e0 : a'.eval (.tmp 195) = .bool true := is_tq (hin 14 195 (by kernel_rfl) (by kernel_rfl)) rfl
                      have e1 : a'.eval (.tmp 202) = .bool false := is_tq (hin 21 202 (by kernel_rfl) (by kernel_rfl)) rfl
                      exact o_pick (.tmp 195) (.tmp 202) rfl _ e0 e1 ⟨_, rfl, tq_is _ _ _ _ rfl, Kept.refl _ _, fun _ _ _ _ _ => trivial⟩
                    | 23, ho, hsk =>
                      obtain rfl := Option.some.inj ho
                      have e0 : a'.eval (.tmp 203) = .bool false := is_tq (hin 22 203 (by kernel_rfl) (by kernel_rfl)) rfl
                      exact wp_move (.tmp 203) rfl _ e0 ⟨_, rfl, tq_is _ _ _ _ rfl, Kept.refl _ _, fun _ _ _ _ _ => trivial⟩
                    | 24, ho, hsk =>
                      cases hsk
                    | 25, ho, hsk =>
                      cases hsk
                    | 26, ho, hsk =>
                      cases hsk
                    | 27, ho, hsk =>
                      obtain rfl := Option.some.inj ho
                      have e0 : a'.eval (.tmp 204) = .bool false := is_tq (hin 23 204 (by kernel_rfl) (by kernel_rfl)) rfl
                      exact o_pickN (.tmp 204) (.tmp 207) rfl e0 ⟨_, rfl, tq_is _ _ _ _ rfl, Kept.refl _ _, fun _ _ _ _ _ => trivial⟩
                    | 28, ho, hsk =>
                      obtain rfl := Option.some.inj ho
                      have e0 : a'.eval (.tmp 192) = .bool false := is_tq (hin 11 192 (by kernel_rfl) (by kernel_rfl)) rfl
                      have e1 : a'.eval (.tmp 208) = .bool false := is_tq (hin 27 208 (by kernel_rfl) (by kernel_rfl)) rfl
                      exact o_pickOr0 (.tmp 192) (.tmp 208) rfl _ e0 e1 ⟨_, rfl, tq_is _ _ _ _ rfl, Kept.refl _ _, fun _ _ _ _ _ => trivial⟩
                  intro w9 hk9
                  replace hk9 : Kept [] W w9 := ⟨hk9.os, hk9.tape, hk9.output, hk9.size, hk9.block⟩
                  simp only [valsQ, List.map_cons, List.map_nil, Option.getD_some, Option.getD_none, List.take_succ_cons, List.take_zero, putAll, Act.put, List.setIfInBounds_toArray, List.set_cons_succ, List.set_cons_zero]
                  refine wpAny_done (by kernel_rfl) ?_ _
                  have HAS0 := hide ((hS.kept hk9).mark hDw (hk9.heap hK (by simp)))
                  have c19 := fits_cell (ht.kept hk9 (by simp)) 0 _ rfl
                  clear hK hS hnn ht hk9
                  gi_wp2_with (
                    first
                    | (refine inVar (.int .i64 0) (.int .i64 0) zero3 (fun w b u h => st3 w b u _ h) 22 (by rfl) wideF (by rfl) (by rfl) (by rfl) (.tmp 210) (by rfl) (by rfl) (fun _ => by rfl) (by rfl) (by rfl) (by rfl) ?_
                       intro W10 bt1 et B10 K10
                       have HT1 := hide B10
                       have HAS1 := hide ((unhide HAS0).kept K10)
                       have nt1 : Hid (w9.heap.size = bt1) := by show _ = _; omega
                       clear et K10 c19
                       have c19 := fits_cell B10 0 _ rfl
                       clear B10
                       refine Stp.go ?_))
                  constructor
                  gi_wp2_with (
                    first
                    | (refine inStore1 (.int .i64 0) (.int .i64 1) (fun w b u h => st3 w b u _ h) wideF (by rfl) (.tmp 22) (.tmp 148) (by rfl) (by rfl) (by rfl) bt1 (by rfl) (by rfl) (unhide HT1) ?_
                       intro W11 B11 e11
                       have HT2 := hide B11
                       have hlt1 := (unhide HAS0).lts
                       have hge1 := (unhide HAS0).sv.k.size
                       have nt2 := unhide nt1
                       have HAS2 : Hid (AS w leave b b4 b5 b6 r p1 p2 [E] W11) := by rw [e11]; exact (unhide HAS1).set _ (unhide HT1) (by omega) ⟨by omega, by omega, by omega, by omega, by omega⟩
                       clear HAS1 HT1 e11 B11 c19 hlt1 hge1 nt2))
                  rw [roundsIn_succ]
                  have c19 := fits_cell (unhide HT2) 0 _ rfl
                  gi_wp2_with (
                    first
                    | (refine inVar (.int .i64 0) (.int .i64 0) zero3 (fun w b u h => st3 w b u _ h) 23 (by rfl) wideF (by rfl) (by rfl) (by rfl) (.const (.int .i64 0)) (by rfl) (by rfl) (fun _ => by rfl) (by rfl) (by rfl) (by rfl) ?_
                       intro W8 bn1 en B8 K8
                       have HN1 := hide B8
                       have nbt1 : Hid (bt1 < bn1) := by have := (unhide HT2).lt; show _ < _; omega
                       have HLT := hide (unhide HAS2).lts
                       have HGE := hide (unhide HAS2).sv.k.size
                       have HAS3 := hide ((unhide HAS2).kept K8)
                       have HT3 := hide ((unhide HT2).kept K8 (by simp))
                       have nn1 : Hid (W11.heap.size = bn1) := by show _ = _; omega
                       clear en B8 K8 c19 HAS2 HT2))
                  have HNE : Hid (bn1 ≠ b4 ∧ bn1 ≠ b5 ∧ bn1 ≠ b6 ∧ bn1 ≠ p1 ∧ bn1 ≠ p2 ∧ bn1 ≠ bt1 ∧ w.heap.size ≤ bn1) := by
                    have h1 := unhide HLT
                    have h2 := unhide nn1
                    have h3 := unhide nbt1
                    have h4 := unhide HGE
                    exact ⟨by omega, by omega, by omega, by omega, by omega, by omega, by omega⟩
                  have HD1 := hide (unhide HAS3).lts.2.2.2.2.2
                  refine range_turn 10 w b mb v N leave b4 b5 b6 r p1 p2 [E] bn1 bt1 1 rfl rfl ((unhide HP).net.kept0 (unhide HAS3).sv.k) (unhide HAS3) (unhide HAS3).lts.2.2.2.2.2 ⟨unhide HN1, unhide HT3, fun _ h => by simp at h⟩ ?assign1 ?body1 ?done1 ?exit1
                  case assign1 =>
                    intro l x y W K hK
                    simp only [List.setIfInBounds_toArray, List.set_cons_succ, List.set_cons_zero]
                    gi_wp2_with (
                      first
                      | (refine inNew row47 zL rfl alloc47 24 (by rfl) (fun _ => trivial) (by rfl) (by rfl) (by rfl) (.tmp 150) (by rfl) (by rfl) (fun _ => by rfl) (by rfl) (y.D x.v) rfl (D_one rfl) (by rfl) (by rfl) ?_
                         intro W9 bx ex BX KX
                         have HBX := hide BX
                         have HKX := hide KX
                         clear ex BX KX)
                      | fail)
                    refine hK _ _ bx (unhide HKX) (unhide HBX) ?_
                    simp only [ax, List.setIfInBounds_toArray, List.set_cons_succ, List.set_cons_zero]
                  case body1 =>
                    intro l pre x y bx W hS hV hR
                    simp only [ax, List.setIfInBounds_toArray, List.set_cons_succ, List.set_cons_zero]
                    have hlt : pre.length < n := by rw [← unhide HNN]; exact (List.getElem?_eq_some_iff.1 hR.at_).1
                    obtain ⟨l2, hl2⟩ : ∃ l2, R.L[pre.length]? = some l2 := ⟨_, List.getElem?_eq_getElem (by rw [unhide HNR]; exact hlt)⟩
                    have hRW := (unhide HP).ref.kept0 hS.sv.k
                    have hrow := hRW.row
                    rw [unhide HLV] at hrow
                    obtain ⟨g, hlo, hRG⟩ := cellsL_at hrow hl2
                    subst hlo
                    have HRG := hide hRG
                    have hb2 := hRW.body l2 (List.mem_of_getElem? hl2)
                    have hal : alike ⟨y.num, y.fr, y.to, x.v, y.bs⟩ l2 = true := alike_sig.2 (by
                      have e1 : (sigs N.L)[pre.length]? = some y.sig := by simp [sigs, hR.at_]
                      have e2 : (sigs R.L)[pre.length]? = some l2.sig := by simp [sigs, hl2]
                      rw [(unhide HP).sig, e2] at e1
                      exact (Option.some.inj e1).symm)
                    have P19 : Hid (∀ W', Kept [] W W' → Calls Try.prog 19 #[aggV (y.D x.v), aggV l2.C] W' fun e w' => e = .returned (.bool true) ∧ Kept [] W' w') := fun W' hk => by
                      have h9 := same19x ⟨y.num, y.fr, y.to, x.v, y.bs⟩ l2 W' (hR.bod.row.kept hk) (hb2.row.kept hk) hR.bod.byte hb2.byte
                      rw [hal] at h9
                      exact h9
                    have HSM : Hid (y.bs.length ≤ 512) := (unhide HP).net.small y (List.mem_of_getElem? hR.at_)
                    clear hRG hRW hrow hb2 hal hl2
                    gi_wp2
                    refine wpIn_region_any (by kernel_rfl) (anyIn_of_any (by rintro ⟨a, w, h⟩; exact h) (noDeferA (by kernel_rfl)) _ _ _ _ (wpAny_tq 19 rfl (by kernel_rfl) [some (.int .i64 pre.length), some (P0 r), some (P0 r), some (.pointer (some ⟨r, 1, none⟩)), some (.slice (some ⟨g, 0, none⟩) n lc), some (.int .i64 n), some (.bool false), some (.bool false), some (aggV (y.D x.v)), some (P0 r), some (P0 r), some (.pointer (some ⟨r, 1, none⟩)), some (.slice (some ⟨g, 0, none⟩) n lc), some (.int .i64 pre.length), some (.pointer (some ⟨g, pre.length * 4, none⟩)), some (aggV l2.C), some (.bool true), some (.bool false), some (.bool false)] rfl (by kernel_rfl) (by kernel_rfl) ?_ ?_))
                    · intro i o' hi hsk ho a' w2 hout hin hk2
                      replace hk2 : Kept [] W w2 := ⟨hk2.os, hk2.tape, hk2.output, hk2.size, hk2.block⟩
                      match i, ho, hsk with
                      | 0, ho, hsk =>
                        obtain rfl := Option.some.inj ho
                        exact o_load3 (.tmp 23) rfl ⟨bn1, 0, none⟩ _ ((hout 23 (by kernel_rfl)).trans rfl) (fits_cell (hV.n.kept hk2 (by simp)) 0 _ rfl) ⟨_, rfl, tq_is _ _ _ _ rfl, Kept.refl _ _, fun _ _ _ _ _ => trivial⟩
                      | 1, ho, hsk =>
                        obtain rfl := Option.some.inj ho
                        exact o_load27 (.tmp 4) rfl ⟨b4, 0, none⟩ _ ((hout 4 (by kernel_rfl)).trans rfl) (fits_cell (hS.sv.r4.kept hk2 (by simp)) 0 _ rfl) ⟨_, rfl, tq_is _ _ _ _ rfl, Kept.refl _ _, fun _ _ _ _ _ => trivial⟩
                      | 2, ho, hsk =>
                        obtain rfl := Option.some.inj ho
                        have e0 : a'.eval (.tmp 152) = P0 r := is_tq (hin 1 152 (by kernel_rfl) (by kernel_rfl)) rfl
                        exact o_nil (.tmp 152) rfl _ e0 ⟨_, rfl, tq_is _ _ _ _ rfl, Kept.refl _ _, fun _ _ _ _ _ => trivial⟩
                      | 3, ho, hsk =>
                        obtain rfl := Option.some.inj ho
                        have e0 : a'.eval (.tmp 153) = P0 r := is_tq (hin 2 153 (by kernel_rfl) (by kernel_rfl)) rfl
                        exact o_fld60_1 (.tmp 153) rfl r e0 ⟨_, rfl, tq_is _ _ _ _ rfl, Kept.refl _ _, fun _ _ _ _ _ => trivial⟩
                      | 4, ho, hsk =>
                        obtain rfl := Option.some.inj ho
                        have e0 : a'.eval (.tmp 154) = .pointer (some ⟨r, 1, none⟩) := is_tq (hin 3 154 (by kernel_rfl) (by kernel_rfl)) rfl
                        exact o_load43 (.tmp 154) rfl ⟨r, 1, none⟩ _ e0 (fits_cell ((unhide HRH).kept (hS.sv.k.trans hk2) (by simp)) 1 _ rfl) ⟨_, rfl, tq_is _ _ _ _ rfl, Kept.refl _ _, fun _ _ _ _ _ => trivial⟩
                      | 5, ho, hsk =>
                        obtain rfl := Option.some.inj ho
                        have e0 : a'.eval (.tmp 155) = .slice (some ⟨g, 0, none⟩) n lc := is_tq (hin 4 155 (by kernel_rfl) (by kernel_rfl)) rfl
                        exact o_len43 155 rfl _ _ _ e0 ⟨_, rfl, tq_is _ _ _ _ rfl, Kept.refl _ _, fun _ _ _ _ _ => trivial⟩
                      | 6, ho, hsk =>
                        obtain rfl := Option.some.inj ho
                        have e0 : a'.eval (.tmp 151) = .int .i64 pre.length := is_tq (hin 0 151 (by kernel_rfl) (by kernel_rfl)) rfl
                        have e1 : a'.eval (.tmp 156) = .int .i64 n := is_tq (hin 5 156 (by kernel_rfl) (by kernel_rfl)) rfl
                        exact o_geq3v (.tmp 151) (.tmp 156) rfl _ _ false (decide_eq_false (by omega)) e0 e1 ⟨_, rfl, tq_is _ _ _ _ rfl, Kept.refl _ _, fun _ _ _ _ _ => trivial⟩
                      | 7, ho, hsk =>
                        obtain rfl := Option.some.inj ho
                        have e0 : a'.eval (.tmp 157) = .bool false := is_tq (hin 6 157 (by kernel_rfl) (by kernel_rfl)) rfl
                        exact wp_move (.tmp 157) rfl _ e0 ⟨_, rfl, tq_is _ _ _ _ rfl, Kept.refl _ _, fun _ _ _ _ _ => trivial⟩
                      | 8, ho, hsk =>
                        obtain rfl := Option.some.inj ho
                        exact wp_loadA row47 (.tmp 24) rfl bx 0 ((hout 24 (by kernel_rfl)).trans rfl) ((y.D x.v)) rfl (hR.blk.kept hk2 (by simp)).range ⟨_, rfl, tq_is _ _ _ _ rfl, Kept.refl _ _, fun _ _ _ _ _ => trivial⟩
                      | 9, ho, hsk =>
                        obtain rfl := Option.some.inj ho
                        exact o_load27 (.tmp 4) rfl ⟨b4, 0, none⟩ _ ((hout 4 (by kernel_rfl)).trans rfl) (fits_cell (hS.sv.r4.kept hk2 (by simp)) 0 _ rfl) ⟨_, rfl, tq_is _ _ _ _ rfl, Kept.refl _ _, fun _ _ _ _ _ => trivial⟩
                      | 10, ho, hsk =>
                        obtain rfl := Option.some.inj ho
                        have e0 : a'.eval (.tmp 160) = P0 r := is_tq (hin 9 160 (by kernel_rfl) (by kernel_rfl)) rfl
                        exact o_nil (.tmp 160) rfl _ e0 ⟨_, rfl, tq_is _ _ _ _ rfl, Kept.refl _ _, fun _ _ _ _ _ => trivial⟩
                      | 11, ho, hsk =>
                        obtain rfl := Option.some.inj ho
                        have e0 : a'.eval (.tmp 161) = P0 r := is_tq (hin 10 161 (by kernel_rfl) (by kernel_rfl)) rfl
                        exact o_fld60_1 (.tmp 161) rfl r e0 ⟨_, rfl, tq_is _ _ _ _ rfl, Kept.refl _ _, fun _ _ _ _ _ => trivial⟩
                      | 12, ho, hsk =>
                        obtain rfl := Option.some.inj ho
                        have e0 : a'.eval (.tmp 162) = .pointer (some ⟨r, 1, none⟩) := is_tq (hin 11 162 (by kernel_rfl) (by kernel_rfl)) rfl
                        exact o_load43 (.tmp 162) rfl ⟨r, 1, none⟩ _ e0 (fits_cell ((unhide HRH).kept (hS.sv.k.trans hk2) (by simp)) 1 _ rfl) ⟨_, rfl, tq_is _ _ _ _ rfl, Kept.refl _ _, fun _ _ _ _ _ => trivial⟩
                      | 13, ho, hsk =>
                        obtain rfl := Option.some.inj ho
                        exact o_load3 (.tmp 23) rfl ⟨bn1, 0, none⟩ _ ((hout 23 (by kernel_rfl)).trans rfl) (fits_cell (hV.n.kept hk2 (by simp)) 0 _ rfl) ⟨_, rfl, tq_is _ _ _ _ rfl, Kept.refl _ _, fun _ _ _ _ _ => trivial⟩
                      | 14, ho, hsk =>
                        obtain rfl := Option.some.inj ho
                        have e0 : a'.eval (.tmp 163) = .slice (some ⟨g, 0, none⟩) n lc := is_tq (hin 12 163 (by kernel_rfl) (by kernel_rfl)) rfl
                        have e1 : a'.eval (.tmp 164) = .int .i64 pre.length := is_tq (hin 13 164 (by kernel_rfl) (by kernel_rfl)) rfl
                        exact o_ix43 (.tmp 163) (.tmp 164) rfl g n lc pre.length hlt e0 e1 ⟨_, rfl, tq_is _ _ _ _ rfl, Kept.refl _ _, fun _ _ _ _ _ => trivial⟩
                      | 15, ho, hsk =>
                        obtain rfl := Option.some.inj ho
                        have e0 : a'.eval (.tmp 165) = .pointer (some ⟨g, pre.length * 4, none⟩) := is_tq (hin 14 165 (by kernel_rfl) (by kernel_rfl)) rfl
                        exact wp_loadA row47 (.tmp 165) rfl g (pre.length * 4) e0 (l2.C) rfl (fun j u hj => hk2.cell (unhide HRG j u hj) (by simp)) ⟨_, rfl, tq_is _ _ _ _ rfl, Kept.refl _ _, fun _ _ _ _ _ => trivial⟩
                      | 16, ho, hsk =>
                        obtain rfl := Option.some.inj ho
                        have e0 : a'.eval (.tmp 159) = aggV (y.D x.v) := is_tq (hin 8 159 (by kernel_rfl) (by kernel_rfl)) rfl
                        have e1 : a'.eval (.tmp 166) = aggV l2.C := is_tq (hin 15 166 (by kernel_rfl) (by kernel_rfl)) rfl
                        refine wp_callF 19 _ _ rfl #[aggV (y.D x.v), aggV l2.C] (by simp [e0, e1]) (cg19r _ _) ((unhide P19 w2 hk2).mono ?_)
                        rintro e w3 ⟨rfl, hk3⟩
                        exact ⟨_, rfl, _, rfl, tq_is _ _ _ _ rfl, hk3, fun _ _ _ _ _ => trivial⟩
                      | 17, ho, hsk =>
                        obtain rfl := Option.some.inj ho
                        have e0 : a'.eval (.tmp 167) = .bool true := is_tq (hin 16 167 (by kernel_rfl) (by kernel_rfl)) rfl
                        exact o_not (.tmp 167) rfl true e0 ⟨_, rfl, tq_is _ _ _ _ rfl, Kept.refl _ _, fun _ _ _ _ _ => trivial⟩
                      | 18, ho, hsk =>
                        obtain rfl := Option.some.inj ho
                        have e0 : a'.eval (.tmp 158) = .bool false := is_tq (hin 7 158 (by kernel_rfl) (by kernel_rfl)) rfl
                        have e1 : a'.eval (.tmp 168) = .bool false := is_tq (hin 17 168 (by kernel_rfl) (by kernel_rfl)) rfl
                        exact o_pickOr0 (.tmp 158) (.tmp 168) rfl _ e0 e1 ⟨_, rfl, tq_is _ _ _ _ rfl, Kept.refl _ _, fun _ _ _ _ _ => trivial⟩
                    intro w9 hk9
                    replace hk9 : Kept [] W w9 := ⟨hk9.os, hk9.tape, hk9.output, hk9.size, hk9.block⟩
                    simp only [valsQ, List.map_cons, List.map_nil, Option.getD_some, List.take_succ_cons, List.take_zero, putAll, Act.put, List.setIfInBounds_toArray, List.set_cons_succ, List.set_cons_zero]
                    refine wpAny_done (by kernel_rfl) ?_ _
                    have hS3 := hide (hS.kept hk9)
                    have hV3 := hide (hV.kept hk9)
                    have hK3 := hide hk9
                    have HRL : Hid (Bod w9 x.v y.bs ∧ Blk w9 bx 47 (y.D x.v)) := ⟨hR.bod.kept hk9 (by simp), hR.blk.kept hk9 (by simp)⟩
                    have HGE2 := hide hR.ge
                    clear hS hV hR hk9 P19 HRG
                    gi_wp2_with (
                      first
                      | (refine listIn_of_list (by rintro ⟨a, w, h⟩; exact h) _ _ _ (noDefer_spec (by kernel_rfl)) ?_
                         refine Stp.go ?_))
                    constructor
                    go_wp2_with (
                      first
                      | (refine wpLoadA row47 (by rfl) (.tmp 24) (by rfl) bx 0 (by kernel_rfl) (y.D x.v) rfl (unhide HRL).2.range ?_
                         refine Stp.go ?_))
                    constructor
                    go_wp2_with (
                      first
                      | (go_at_call 33
                         refine (spoil33 ⟨y.num, y.fr, y.to, x.v, y.bs⟩ _ (unhide HRL).1 (unhide HSM)).mono ?_
                         rintro e V7 ⟨⟨ev, rfl⟩, K7⟩
                         have hS4 := hide ((unhide hS3).spoil (unhide HRL).1 (unhide HGE2) K7)
                         have hV4 := hide ((unhide hV3).spoil (unhide HRL).1 K7)
                         have HK7 := hide (KeptS.of_own (x := x) K7)
                         have HKF := hide (keepsFrom_own (B := W8.heap.size) (v := x.v) (unhide hK3) (unhide HRL).1 K7)
                         have c23 := fits_cell (unhide hV4).n 0 _ rfl
                         have c22 := fits_cell (unhide hV4).t 0 _ rfl
                         have c5 := fits_cell (unhide hS4).sv.l5 0 _ rfl
                         clear K7))
                    gi_wp2_with (
                      first
                      | (refine inStore1 (.int .i64 pre.length) (.int .i64 ((pre.length : Int) + 1)) (fun w b u h => st3 w b u _ h) (fun _ => trivial) (by rfl) (.tmp 23) (.tmp 173) (by rfl) (by rfl) (by rfl) bn1 (by rfl) (by rfl) (unhide hV4).n ?_
                         intro W9 B9 e9
                         clear c22 c23 c5
                         have c23 := fits_cell B9 0 _ rfl
                         have c22 : W9.cell? ⟨bt1, 0, none⟩ = some (.int .i64 1) := by rw [e9]; exact fits_cell ((unhide hV4).t.set_other (by have := unhide HNE; omega) _) 0 _ rfl
                         have c5 : W9.cell? ⟨b5, 0, none⟩ = some (.int .i64 leave) := by rw [e9]; exact fits_cell ((unhide hS4).sv.l5.set_other (by have := unhide HNE; omega) _) 0 _ rfl
                         have HE := hide e9
                         clear e9 B9)
                      | fail)
                    have e9 := unhide HE
                    have ne := unhide HNE
                    have hS9 : AS w leave b b4 b5 b6 r p1 p2 [E] W9 := by rw [e9]; exact (unhide hS4).set _ (unhide hV4).n ne.2.2.2.2.2.2 ⟨ne.1, ne.2.1, ne.2.2.1, ne.2.2.2.1, ne.2.2.2.2.1⟩
                    have hn9 : Blk W9 bn1 3 [.int .i64 ((pre ++ [x]).length : Nat)] := by
                      rw [e9, List.length_append]
                      exact (unhide hV4).n.one _
                    have ht9 : Blk W9 bt1 3 [.int .i64 1] := by rw [e9]; exact (unhide hV4).t.set_other (by omega) _
                    have hl9 : ((pre ++ [x]).length : Int) = (pre.length : Int) + 1 := by simp
                    have hkf : KeepsFrom W8.heap.size W W9 := by rw [e9]; exact (unhide HKF).trans (keepsFrom_set (Kept.refl [] _) (unhide hV4).n _)
                    exact ⟨hkf, by rw [e9]; exact ((KeptS.of_kept (unhide hK3)).trans (unhide HK7)).setCell (unhide hV4).n (by decide) (by decide) _, hS9, ⟨hn9, ht9, fun h => by cases h⟩⟩
                  case done1 =>
                    intro E2 n3 W hE2 hS hnn ht hnN3 hor3 hK
                    have hn3 : n3 = n := by have h8 := unhide HNN; omega
                    rw [hn3] at hnn
                    have hDw2 : w.heap.size ≤ E2 := by have := (unhide HAS3).sv.k.size; omega
                    have hDD : Hid (E ≠ E2) := by have := unhide HD1 E (by simp); show _ ≠ _; omega
                    clear hn3 hor3 hnN3
                    gi_wp2
                    refine wpIn_wide.2 ?_
                    refine wp_region_any mixed (wpAny_tq 29 rfl (by kernel_rfl) [some (.int .i64 1), some (.bool true), some (.bool true), some (.int .i64 n), some (P0 r), some (P0 r), some (.pointer (some ⟨r, 1, none⟩)), some (.slice lo n lc), some (.int .i64 n), some (.bool false), some (.bool false), some (.bool false), some (.int .i64 1), some (.bool false), some (.bool false), none, none, none, none, none, none, none, some (.bool false), some (.bool false), none, none, none, some (.bool false), some (.bool false)] rfl (by kernel_rfl) (by kernel_rfl) ?_ ?_)
                    · intro i o' hi hsk ho a' w2 hout hin hk2
                      replace hk2 : Kept [] W w2 := ⟨hk2.os, hk2.tape, hk2.output, hk2.size, hk2.block⟩
                      match i, ho, hsk with
                      | 0, ho, hsk =>
                        obtain rfl := Option.some.inj ho
                        exact o_load3 (.tmp 22) rfl ⟨bt1, 0, none⟩ _ ((hout 22 (by kernel_rfl)).trans rfl) (fits_cell (ht.kept hk2 (by simp)) 0 _ rfl) ⟨_, rfl, tq_is _ _ _ _ rfl, Kept.refl _ _, fun _ _ _ _ _ => trivial⟩
                      | 1, ho, hsk =>
                        obtain rfl := Option.some.inj ho
                        have e0 : a'.eval (.tmp 181) = .int .i64 1 := is_tq (hin 0 181 (by kernel_rfl) (by kernel_rfl)) rfl
                        exact o_eql3 (.tmp 181) 1 rfl _ true (by simp) e0 ⟨_, rfl, tq_is _ _ _ _ rfl, Kept.refl _ _, fun _ _ _ _ _ => trivial⟩
                      | 2, ho, hsk =>
                        obtain rfl := Option.some.inj ho
                        have e0 : a'.eval (.tmp 182) = .bool true := is_tq (hin 1 182 (by kernel_rfl) (by kernel_rfl)) rfl
                        exact wp_move (.tmp 182) rfl _ e0 ⟨_, rfl, tq_is _ _ _ _ rfl, Kept.refl _ _, fun _ _ _ _ _ => trivial⟩
                      | 3, ho, hsk =>
                        obtain rfl := Option.some.inj ho
                        exact o_load3 (.tmp 23) rfl ⟨bn1, 0, none⟩ _ ((hout 23 (by kernel_rfl)).trans rfl) (fits_cell (hnn.kept hk2 (by simp)) 0 _ rfl) ⟨_, rfl, tq_is _ _ _ _ rfl, Kept.refl _ _, fun _ _ _ _ _ => trivial⟩
                      | 4, ho, hsk =>
                        obtain rfl := Option.some.inj ho
                        exact o_load27 (.tmp 4) rfl ⟨b4, 0, none⟩ _ ((hout 4 (by kernel_rfl)).trans rfl) (fits_cell (hS.sv.r4.kept hk2 (by simp)) 0 _ rfl) ⟨_, rfl, tq_is _ _ _ _ rfl, Kept.refl _ _, fun _ _ _ _ _ => trivial⟩
                      | 5, ho, hsk =>
                        obtain rfl := Option.some.inj ho
                        have e0 : a'.eval (.tmp 185) = P0 r := is_tq (hin 4 185 (by kernel_rfl) (by kernel_rfl)) rfl
                        exact o_nil (.tmp 185) rfl _ e0 ⟨_, rfl, tq_is _ _ _ _ rfl, Kept.refl _ _, fun _ _ _ _ _ => trivial⟩
                      | 6, ho, hsk =>
                        obtain rfl := Option.some.inj ho
                        have e0 : a'.eval (.tmp 186) = P0 r := is_tq (hin 5 186 (by kernel_rfl) (by kernel_rfl)) rfl
                        exact o_fld60_1 (.tmp 186) rfl r e0 ⟨_, rfl, tq_is _ _ _ _ rfl, Kept.refl _ _, fun _ _ _ _ _ => trivial⟩
                      | 7, ho, hsk =>
                        obtain rfl := Option.some.inj ho
                        have e0 : a'.eval (.tmp 187) = .pointer (some ⟨r, 1, none⟩) := is_tq (hin 6 187 (by kernel_rfl) (by kernel_rfl)) rfl
                        exact o_load43 (.tmp 187) rfl ⟨r, 1, none⟩ _ e0 (fits_cell ((unhide HRH).kept (hS.sv.k.trans hk2) (by simp)) 1 _ rfl) ⟨_, rfl, tq_is _ _ _ _ rfl, Kept.refl _ _, fun _ _ _ _ _ => trivial⟩
                      | 8, ho, hsk =>
                        obtain rfl := Option.some.inj ho
                        have e0 : a'.eval (.tmp 188) = .slice lo n lc := is_tq (hin 7 188 (by kernel_rfl) (by kernel_rfl)) rfl
                        exact o_len43 188 rfl _ _ _ e0 ⟨_, rfl, tq_is _ _ _ _ rfl, Kept.refl _ _, fun _ _ _ _ _ => trivial⟩
                      | 9, ho, hsk =>
                        obtain rfl := Option.some.inj ho
                        have e0 : a'.eval (.tmp 184) = .int .i64 n := is_tq (hin 3 184 (by kernel_rfl) (by kernel_rfl)) rfl
                        have e1 : a'.eval (.tmp 189) = .int .i64 n := is_tq (hin 8 189 (by kernel_rfl) (by kernel_rfl)) rfl
                        exact o_neqI3 (.tmp 184) (.tmp 189) rfl _ _ true (by simp) e0 e1 ⟨_, rfl, tq_is _ _ _ _ rfl, Kept.refl _ _, fun _ _ _ _ _ => trivial⟩
                      | 10, ho, hsk =>
                        obtain rfl := Option.some.inj ho
                        have e0 : a'.eval (.tmp 183) = .bool true := is_tq (hin 2 183 (by kernel_rfl) (by kernel_rfl)) rfl
                        have e1 : a'.eval (.tmp 190) = .bool false := is_tq (hin 9 190 (by kernel_rfl) (by kernel_rfl)) rfl
                        exact o_pick (.tmp 183) (.tmp 190) rfl _ e0 e1 ⟨_, rfl, tq_is _ _ _ _ rfl, Kept.refl _ _, fun _ _ _ _ _ => trivial⟩
                      | 11, ho, hsk =>
                        obtain rfl := Option.some.inj ho
                        have e0 : a'.eval (.tmp 191) = .bool false := is_tq (hin 10 191 (by kernel_rfl) (by kernel_rfl)) rfl
                        exact wp_move (.tmp 191) rfl _ e0 ⟨_, rfl, tq_is _ _ _ _ rfl, Kept.refl _ _, fun _ _ _ _ _ => trivial⟩
                      | 12, ho, hsk =>
                        obtain rfl := Option.some.inj ho
                        exact o_load3 (.tmp 22) rfl ⟨bt1, 0, none⟩ _ ((hout 22 (by kernel_rfl)).trans rfl) (fits_cell (ht.kept hk2 (by simp)) 0 _ rfl) ⟨_, rfl, tq_is _ _ _ _ rfl, Kept.refl _ _, fun _ _ _ _ _ => trivial⟩
                      | 13, ho, hsk =>
                        obtain rfl := Option.some.inj ho
                        have e0 : a'.eval (.tmp 193) = .int .i64 1 := is_tq (hin 12 193 (by kernel_rfl) (by kernel_rfl)) rfl
                        exact o_eql3 (.tmp 193) 0 rfl _ false (by simp) e0 ⟨_, rfl, tq_is _ _ _ _ rfl, Kept.refl _ _, fun _ _ _ _ _ => trivial⟩
                      | 14, ho, hsk =>
                        obtain rfl := Option.some.inj ho
                        have e0 : a'.eval (.tmp 194) = .bool false := is_tq (hin 13 194 (by kernel_rfl) (by kernel_rfl)) rfl
                        exact wp_move (.tmp 194) rfl _ e0 ⟨_, rfl, tq_is _ _ _ _ rfl, Kept.refl _ _, fun _ _ _ _ _ => trivial⟩
                      | 15, ho, hsk =>
                        cases hsk
                      | 16, ho, hsk =>
                        cases hsk
                      | 17, ho, hsk =>
                        cases hsk
                      | 18, ho, hsk =>
                        cases hsk
                      | 19, ho, hsk =>
                        cases hsk
                      | 20, ho, hsk =>
                        cases hsk
                      | 21, ho, hsk =>
                        cases hsk
                      | 22, ho, hsk =>
                        obtain rfl := Option.some.inj ho
                        have e0 : a'.eval (.tmp 195) = .bool false := is_tq (hin 14 195 (by kernel_rfl) (by kernel_rfl)) rfl
                        exact o_pickN (.tmp 195) (.tmp 202) rfl e0 ⟨_, rfl, tq_is _ _ _ _ rfl, Kept.refl _ _, fun _ _ _ _ _ => trivial⟩
                      | 23, ho, hsk =>
                        obtain rfl := Option.some.inj ho
                        have e0 : a'.eval (.tmp 203) = .bool false := is_tq (hin 22 203 (by kernel_rfl) (by kernel_rfl)) rfl
                        exact wp_move (.tmp 203) rfl _ e0 ⟨_, rfl, tq_is _ _ _ _ rfl, Kept.refl _ _, fun _ _ _ _ _ => trivial⟩
                      | 24, ho, hsk =>
                        cases hsk
                      | 25, ho, hsk =>
                        cases hsk
                      | 26, ho, hsk =>
                        cases hsk
                      | 27, ho, hsk =>
                        obtain rfl := Option.some.inj ho
                        have e0 : a'.eval (.tmp 204) = .bool false := is_tq (hin 23 204 (by kernel_rfl) (by kernel_rfl)) rfl
                        exact o_pickN (.tmp 204) (.tmp 207) rfl e0 ⟨_, rfl, tq_is _ _ _ _ rfl, Kept.refl _ _, fun _ _ _ _ _ => trivial⟩
                      | 28, ho, hsk =>
                        obtain rfl := Option.some.inj ho
                        have e0 : a'.eval (.tmp 192) = .bool false := is_tq (hin 11 192 (by kernel_rfl) (by kernel_rfl)) rfl
                        have e1 : a'.eval (.tmp 208) = .bool false := is_tq (hin 27 208 (by kernel_rfl) (by kernel_rfl)) rfl
                        exact o_pickOr0 (.tmp 192) (.tmp 208) rfl _ e0 e1 ⟨_, rfl, tq_is _ _ _ _ rfl, Kept.refl _ _, fun _ _ _ _ _ => trivial⟩
                    intro w9 hk9
                    replace hk9 : Kept [] W w9 := ⟨hk9.os, hk9.tape, hk9.output, hk9.size, hk9.block⟩
                    simp only [valsQ, List.map_cons, List.map_nil, Option.getD_some, Option.getD_none, List.take_succ_cons, List.take_zero, putAll, Act.put, List.setIfInBounds_toArray, List.set_cons_succ, List.set_cons_zero]
                    refine wpAny_done (by kernel_rfl) ?_ _
                    have HAS0 := hide ((hS.kept hk9).mark hDw2 (hk9.heap hK (by simp)))
                    have c19 := fits_cell (ht.kept hk9 (by simp)) 0 _ rfl
                    clear hK hS hnn ht hk9 HAS3 HT3 HN1 HNE HLT HGE nt1 nn1 nbt1 hE2 HD1
                    gi_wp2_with (
                      first
                      | (refine inVar (.int .i64 0) (.int .i64 1) zero3 (fun w b u h => st3 w b u _ h) 22 (by rfl) wideF (by rfl) (by rfl) (by rfl) (.tmp 210) (by rfl) (by rfl) (fun _ => by rfl) (by rfl) (by rfl) (by rfl) ?_
                         intro W10 bt2 et B10 K10
                         have HT1 := hide B10
                         have HAS1 := hide ((unhide HAS0).kept K10)
                         have nt1 : Hid (w9.heap.size = bt2) := by show _ = _; omega
                         clear et K10 c19
                         have c19 := fits_cell B10 0 _ rfl
                         clear B10
                         refine Stp.go ?_))
                    constructor
                    gi_wp2_with (
                      first
                      | (refine inStore1 (.int .i64 1) (.int .i64 2) (fun w b u h => st3 w b u _ h) wideF (by rfl) (.tmp 22) (.tmp 148) (by rfl) (by rfl) (by rfl) bt2 (by rfl) (by rfl) (unhide HT1) ?_
                         intro W11 B11 e11
                         have HT2 := hide B11
                         have hlt1 := (unhide HAS0).lts
                         have hge1 := (unhide HAS0).sv.k.size
                         have nt2 := unhide nt1
                         have HAS2 : Hid (AS w leave b b4 b5 b6 r p1 p2 [E2, E] W11) := by rw [e11]; exact (unhide HAS1).set _ (unhide HT1) (by omega) ⟨by omega, by omega, by omega, by omega, by omega⟩
                         clear HAS1 HT1 e11 B11 c19 hlt1 hge1 nt2))
                    rw [roundsIn_succ]
                    have c19 := fits_cell (unhide HT2) 0 _ rfl
                    gi_wp2
                    refine (wpIn_wide (n := 3)).1 ?_
                    gi_wp2_with (
                      first
                      | (refine inStore1 (.bool false) (.bool true) (fun w b u h => st4 w b u _ h) wideF (by rfl) (.tmp 6) (.const (.bool true)) (by rfl) (by rfl) (by rfl) b6 (by rfl) (by rfl) (unhide HAS2).sv.o6 ?_
                         intro W14 B14 e14
                         have HB14 := hide B14
                         have HE14 := hide e14
                         clear B14 e14)
                      | fail)
                    have hA := unhide HAS2
                    have hEE := unhide HE14
                    have hD1 := hA.d E (by simp)
                    have hD2 := hA.d E2 (by simp)
                    have s1 : ∀ X : Nat, W11.heap[X]? = some (Obj.deferred (some [])) → W14.heap[X]? = some (Obj.deferred (some [])) := by
                      intro X h
                      have hne2 : X ≠ b6 := by intro e; subst e; rw [hA.sv.o6] at h; cases h
                      rw [hEE, Below.heap_setCell _ _ _ _ (by simpa using hne2)]; exact h
                    exact all_leaves rfl (unhide HB14) (by rw [hEE]; exact hA.sv.k.setCell (p := ⟨b6, 0, none⟩) (by have := hA.sv.ge; simp; omega) _) (s1 _ hD2.2) (s1 _ hD1.2) (unhide hDD) hD2.1 hD1.1
                  case exit1 =>
                    intro a W h
                    exact wpIn_exit h
                · have hlv3 : (n2 : Int) = leave := by omega
                  clear hor hnN hNN2
                  gi_wp2
                  refine wpIn_wide.2 ?_
                  refine wp_region_any mixed (wpAny_tq 29 rfl (by kernel_rfl) [some (.int .i64 0), some (.bool false), some (.bool false), none, none, none, none, none, none, none, some (.bool false), some (.bool false), some (.int .i64 0), some (.bool true), some (.bool true), some (.int .i64 n2), some (P0 r), some (P0 r), some (.pointer (some ⟨r, 1, none⟩)), some (.slice lo n lc), some (.int .i64 n), some (.bool true), some (.bool true), some (.bool true), some (.int .i64 n2), some (.int .i64 leave), some (.bool false), some (.bool false), some (.bool false)] rfl (by kernel_rfl) (by kernel_rfl) ?_ ?_)
                  · intro i o' hi hsk ho a' w2 hout hin hk2
                    replace hk2 : Kept [] W w2 := ⟨hk2.os, hk2.tape, hk2.output, hk2.size, hk2.block⟩
                    match i, ho, hsk with
                    | 0, ho, hsk =>
                      obtain rfl := Option.some.inj ho
                      exact o_load3 (.tmp 22) rfl ⟨bt, 0, none⟩ _ ((hout 22 (by kernel_rfl)).trans rfl) (fits_cell (ht.kept hk2 (by simp)) 0 _ rfl) ⟨_, rfl, tq_is _ _ _ _ rfl, Kept.refl _ _, fun _ _ _ _ _ => trivial⟩
                    | 1, ho, hsk =>
                      obtain rfl := Option.some.inj ho
                      have e0 : a'.eval (.tmp 181) = .int .i64 0 := is_tq (hin 0 181 (by kernel_rfl) (by kernel_rfl)) rfl
                      exact o_eql3 (.tmp 181) 1 rfl _ false (by simp) e0 ⟨_, rfl, tq_is _ _ _ _ rfl, Kept.refl _ _, fun _ _ _ _ _ => trivial⟩
                    | 2, ho, hsk =>
                      obtain rfl := Option.some.inj ho
                      have e0 : a'.eval (.tmp 182) = .bool false := is_tq (hin 1 182 (by kernel_rfl) (by kernel_rfl)) rfl
                      exact wp_move (.tmp 182) rfl _ e0 ⟨_, rfl, tq_is _ _ _ _ rfl, Kept.refl _ _, fun _ _ _ _ _ => trivial⟩
                    | 3, ho, hsk =>
                      cases hsk
                    | 4, ho, hsk =>
                      cases hsk
                    | 5, ho, hsk =>
                      cases hsk
                    | 6, ho, hsk =>
                      cases hsk
                    | 7, ho, hsk =>
                      cases hsk
                    | 8, ho, hsk =>
                      cases hsk
                    | 9, ho, hsk =>
                      cases hsk
                    | 10, ho, hsk =>
                      obtain rfl := Option.some.inj ho
                      have e0 : a'.eval (.tmp 183) = .bool false := is_tq (hin 2 183 (by kernel_rfl) (by kernel_rfl)) rfl
                      exact o_pickN (.tmp 183) (.tmp 190) rfl e0 ⟨_, rfl, tq_is _ _ _ _ rfl, Kept.refl _ _, fun _ _ _ _ _ => trivial⟩
                    | 11, ho, hsk =>
                      obtain rfl := Option.some.inj ho
                      have e0 : a'.eval (.tmp 191) = .bool false := is_tq (hin 10 191 (by kernel_rfl) (by kernel_rfl)) rfl
                      exact wp_move (.tmp 191) rfl _ e0 ⟨_, rfl, tq_is _ _ _ _ rfl, Kept.refl _ _, fun _ _ _ _ _ => trivial⟩
                    | 12, ho, hsk =>
                      obtain rfl := Option.some.inj ho
                      exact o_load3 (.tmp 22) rfl ⟨bt, 0, none⟩ _ ((hout 22 (by kernel_rfl)).trans rfl) (fits_cell (ht.kept hk2 (by simp)) 0 _ rfl) ⟨_, rfl, tq_is _ _ _ _ rfl, Kept.refl _ _, fun _ _ _ _ _ => trivial⟩
                    | 13, ho, hsk =>
                      obtain rfl := Option.some.inj ho
                      have e0 : a'.eval (.tmp 193) = .int .i64 0 := is_tq (hin 12 193 (by kernel_rfl) (by kernel_rfl)) rfl
                      exact o_eql3 (.tmp 193) 0 rfl _ true (by simp) e0 ⟨_, rfl, tq_is _ _ _ _ rfl, Kept.refl _ _, fun _ _ _ _ _ => trivial⟩
                    | 14, ho, hsk =>
                      obtain rfl := Option.some.inj ho
                      have e0 : a'.eval (.tmp 194) = .bool true := is_tq (hin 13 194 (by kernel_rfl) (by kernel_rfl)) rfl
                      exact wp_move (.tmp 194) rfl _ e0 ⟨_, rfl, tq_is _ _ _ _ rfl, Kept.refl _ _, fun _ _ _ _ _ => trivial⟩
                    | 15, ho, hsk =>
                      obtain rfl := Option.some.inj ho
                      exact o_load3 (.tmp 23) rfl ⟨bn, 0, none⟩ _ ((hout 23 (by kernel_rfl)).trans rfl) (fits_cell (hnn.kept hk2 (by simp)) 0 _ rfl) ⟨_, rfl, tq_is _ _ _ _ rfl, Kept.refl _ _, fun _ _ _ _ _ => trivial⟩
                    | 16, ho, hsk =>
                      obtain rfl := Option.some.inj ho
                      exact o_load27 (.tmp 4) rfl ⟨b4, 0, none⟩ _ ((hout 4 (by kernel_rfl)).trans rfl) (fits_cell (hS.sv.r4.kept hk2 (by simp)) 0 _ rfl) ⟨_, rfl, tq_is _ _ _ _ rfl, Kept.refl _ _, fun _ _ _ _ _ => trivial⟩
                    | 17, ho, hsk =>
                      obtain rfl := Option.some.inj ho
                      have e0 : a'.eval (.tmp 197) = P0 r := is_tq (hin 16 197 (by kernel_rfl) (by kernel_rfl)) rfl
                      exact o_nil (.tmp 197) rfl _ e0 ⟨_, rfl, tq_is _ _ _ _ rfl, Kept.refl _ _, fun _ _ _ _ _ => trivial⟩
                    | 18, ho, hsk =>
                      obtain rfl := Option.some.inj ho
                      have e0 : a'.eval (.tmp 198) = P0 r := is_tq (hin 17 198 (by kernel_rfl) (by kernel_rfl)) rfl
                      exact o_fld60_1 (.tmp 198) rfl r e0 ⟨_, rfl, tq_is _ _ _ _ rfl, Kept.refl _ _, fun _ _ _ _ _ => trivial⟩
                    | 19, ho, hsk =>
                      obtain rfl := Option.some.inj ho
                      have e0 : a'.eval (.tmp 199) = .pointer (some ⟨r, 1, none⟩) := is_tq (hin 18 199 (by kernel_rfl) (by kernel_rfl)) rfl
                      exact o_load43 (.tmp 199) rfl ⟨r, 1, none⟩ _ e0 (fits_cell ((unhide HRH).kept (hS.sv.k.trans hk2) (by simp)) 1 _ rfl) ⟨_, rfl, tq_is _ _ _ _ rfl, Kept.refl _ _, fun _ _ _ _ _ => trivial⟩
                    | 20, ho, hsk =>
                      obtain rfl := Option.some.inj ho
                      have e0 : a'.eval (.tmp 200) = .slice lo n lc := is_tq (hin 19 200 (by kernel_rfl) (by kernel_rfl)) rfl
                      exact o_len43 200 rfl _ _ _ e0 ⟨_, rfl, tq_is _ _ _ _ rfl, Kept.refl _ _, fun _ _ _ _ _ => trivial⟩
                    | 21, ho, hsk =>
                      obtain rfl := Option.some.inj ho
                      have e0 : a'.eval (.tmp 196) = .int .i64 n2 := is_tq (hin 15 196 (by kernel_rfl) (by kernel_rfl)) rfl
                      have e1 : a'.eval (.tmp 201) = .int .i64 n := is_tq (hin 20 201 (by kernel_rfl) (by kernel_rfl)) rfl
                      exact o_neqI3 (.tmp 196) (.tmp 201) rfl _ _ false (decide_eq_false (by omega)) e0 e1 ⟨_, rfl, tq_is _ _ _ _ rfl, Kept.refl _ _, fun _ _ _ _ _ => trivial⟩
                    | 22, ho, hsk =>
                      obtain rfl := Option.some.inj ho
                      have e0 : a'.eval (.tmp 195) = .bool true := is_tq (hin 14 195 (by kernel_rfl) (by kernel_rfl)) rfl
                      have e1 : a'.eval (.tmp 202) = .bool true := is_tq (hin 21 202 (by kernel_rfl) (by kernel_rfl)) rfl
                      exact o_pick (.tmp 195) (.tmp 202) rfl _ e0 e1 ⟨_, rfl, tq_is _ _ _ _ rfl, Kept.refl _ _, fun _ _ _ _ _ => trivial⟩
                    | 23, ho, hsk =>
                      obtain rfl := Option.some.inj ho
                      have e0 : a'.eval (.tmp 203) = .bool true := is_tq (hin 22 203 (by kernel_rfl) (by kernel_rfl)) rfl
                      exact wp_move (.tmp 203) rfl _ e0 ⟨_, rfl, tq_is _ _ _ _ rfl, Kept.refl _ _, fun _ _ _ _ _ => trivial⟩
                    | 24, ho, hsk =>
                      obtain rfl := Option.some.inj ho
                      exact o_load3 (.tmp 23) rfl ⟨bn, 0, none⟩ _ ((hout 23 (by kernel_rfl)).trans rfl) (fits_cell (hnn.kept hk2 (by simp)) 0 _ rfl) ⟨_, rfl, tq_is _ _ _ _ rfl, Kept.refl _ _, fun _ _ _ _ _ => trivial⟩
                    | 25, ho, hsk =>
                      obtain rfl := Option.some.inj ho
                      exact o_load3 (.tmp 5) rfl ⟨b5, 0, none⟩ _ ((hout 5 (by kernel_rfl)).trans rfl) (fits_cell (hS.sv.l5.kept hk2 (by simp)) 0 _ rfl) ⟨_, rfl, tq_is _ _ _ _ rfl, Kept.refl _ _, fun _ _ _ _ _ => trivial⟩
                    | 26, ho, hsk =>
                      obtain rfl := Option.some.inj ho
                      have e0 : a'.eval (.tmp 205) = .int .i64 n2 := is_tq (hin 24 205 (by kernel_rfl) (by kernel_rfl)) rfl
                      have e1 : a'.eval (.tmp 206) = .int .i64 leave := is_tq (hin 25 206 (by kernel_rfl) (by kernel_rfl)) rfl
                      exact o_neqI3 (.tmp 205) (.tmp 206) rfl _ _ true (decide_eq_true (by omega)) e0 e1 ⟨_, rfl, tq_is _ _ _ _ rfl, Kept.refl _ _, fun _ _ _ _ _ => trivial⟩
                    | 27, ho, hsk =>
                      obtain rfl := Option.some.inj ho
                      have e0 : a'.eval (.tmp 204) = .bool true := is_tq (hin 23 204 (by kernel_rfl) (by kernel_rfl)) rfl
                      have e1 : a'.eval (.tmp 207) = .bool false := is_tq (hin 26 207 (by kernel_rfl) (by kernel_rfl)) rfl
                      exact o_pick (.tmp 204) (.tmp 207) rfl _ e0 e1 ⟨_, rfl, tq_is _ _ _ _ rfl, Kept.refl _ _, fun _ _ _ _ _ => trivial⟩
                    | 28, ho, hsk =>
                      obtain rfl := Option.some.inj ho
                      have e0 : a'.eval (.tmp 192) = .bool false := is_tq (hin 11 192 (by kernel_rfl) (by kernel_rfl)) rfl
                      have e1 : a'.eval (.tmp 208) = .bool false := is_tq (hin 27 208 (by kernel_rfl) (by kernel_rfl)) rfl
                      exact o_pickOr0 (.tmp 192) (.tmp 208) rfl _ e0 e1 ⟨_, rfl, tq_is _ _ _ _ rfl, Kept.refl _ _, fun _ _ _ _ _ => trivial⟩
                  intro w9 hk9
                  replace hk9 : Kept [] W w9 := ⟨hk9.os, hk9.tape, hk9.output, hk9.size, hk9.block⟩
                  simp only [valsQ, List.map_cons, List.map_nil, Option.getD_some, Option.getD_none, List.take_succ_cons, List.take_zero, putAll, Act.put, List.setIfInBounds_toArray, List.set_cons_succ, List.set_cons_zero]
                  refine wpAny_done (by kernel_rfl) ?_ _
                  have HAS0 := hide ((hS.kept hk9).mark hDw (hk9.heap hK (by simp)))
                  have c19 := fits_cell (ht.kept hk9 (by simp)) 0 _ rfl
                  clear hK hS hnn ht hk9
                  gi_wp2_with (
                    first
                    | (refine inVar (.int .i64 0) (.int .i64 0) zero3 (fun w b u h => st3 w b u _ h) 22 (by rfl) wideF (by rfl) (by rfl) (by rfl) (.tmp 210) (by rfl) (by rfl) (fun _ => by rfl) (by rfl) (by rfl) (by rfl) ?_
                       intro W10 bt1 et B10 K10
                       have HT1 := hide B10
                       have HAS1 := hide ((unhide HAS0).kept K10)
                       have nt1 : Hid (w9.heap.size = bt1) := by show _ = _; omega
                       clear et K10 c19
                       have c19 := fits_cell B10 0 _ rfl
                       clear B10
                       refine Stp.go ?_))
                  constructor
                  gi_wp2_with (
                    first
                    | (refine inStore1 (.int .i64 0) (.int .i64 1) (fun w b u h => st3 w b u _ h) wideF (by rfl) (.tmp 22) (.tmp 148) (by rfl) (by rfl) (by rfl) bt1 (by rfl) (by rfl) (unhide HT1) ?_
                       intro W11 B11 e11
                       have HT2 := hide B11
                       have hlt1 := (unhide HAS0).lts
                       have hge1 := (unhide HAS0).sv.k.size
                       have nt2 := unhide nt1
                       have HAS2 : Hid (AS w leave b b4 b5 b6 r p1 p2 [E] W11) := by rw [e11]; exact (unhide HAS1).set _ (unhide HT1) (by omega) ⟨by omega, by omega, by omega, by omega, by omega⟩
                       clear HAS1 HT1 e11 B11 c19 hlt1 hge1 nt2))
                  rw [roundsIn_succ]
                  have c19 := fits_cell (unhide HT2) 0 _ rfl
                  gi_wp2_with (
                    first
                    | (refine inVar (.int .i64 0) (.int .i64 0) zero3 (fun w b u h => st3 w b u _ h) 23 (by rfl) wideF (by rfl) (by rfl) (by rfl) (.const (.int .i64 0)) (by rfl) (by rfl) (fun _ => by rfl) (by rfl) (by rfl) (by rfl) ?_
                       intro W8 bn1 en B8 K8
                       have HN1 := hide B8
                       have nbt1 : Hid (bt1 < bn1) := by have := (unhide HT2).lt; show _ < _; omega
                       have HLT := hide (unhide HAS2).lts
                       have HGE := hide (unhide HAS2).sv.k.size
                       have HAS3 := hide ((unhide HAS2).kept K8)
                       have HT3 := hide ((unhide HT2).kept K8 (by simp))
                       have nn1 : Hid (W11.heap.size = bn1) := by show _ = _; omega
                       clear en B8 K8 c19 HAS2 HT2))
                  have HNE : Hid (bn1 ≠ b4 ∧ bn1 ≠ b5 ∧ bn1 ≠ b6 ∧ bn1 ≠ p1 ∧ bn1 ≠ p2 ∧ bn1 ≠ bt1 ∧ w.heap.size ≤ bn1) := by
                    have h1 := unhide HLT
                    have h2 := unhide nn1
                    have h3 := unhide nbt1
                    have h4 := unhide HGE
                    exact ⟨by omega, by omega, by omega, by omega, by omega, by omega, by omega⟩
                  have HD1 := hide (unhide HAS3).lts.2.2.2.2.2
                  refine range_turn 10 w b mb v N leave b4 b5 b6 r p1 p2 [E] bn1 bt1 1 rfl rfl ((unhide HP).net.kept0 (unhide HAS3).sv.k) (unhide HAS3) (unhide HAS3).lts.2.2.2.2.2 ⟨unhide HN1, unhide HT3, fun _ h => by simp at h⟩ ?assign1 ?body1 ?done1 ?exit1
                  case assign1 =>
                    intro l x y W K hK
                    simp only [List.setIfInBounds_toArray, List.set_cons_succ, List.set_cons_zero]
                    gi_wp2_with (
                      first
                      | (refine inNew row47 zL rfl alloc47 24 (by rfl) (fun _ => trivial) (by rfl) (by rfl) (by rfl) (.tmp 150) (by rfl) (by rfl) (fun _ => by rfl) (by rfl) (y.D x.v) rfl (D_one rfl) (by rfl) (by rfl) ?_
                         intro W9 bx ex BX KX
                         have HBX := hide BX
                         have HKX := hide KX
                         clear ex BX KX)
                      | fail)
                    refine hK _ _ bx (unhide HKX) (unhide HBX) ?_
                    simp only [ax, List.setIfInBounds_toArray, List.set_cons_succ, List.set_cons_zero]
                  case body1 =>
                    intro l pre x y bx W hS hV hR
                    simp only [ax, List.setIfInBounds_toArray, List.set_cons_succ, List.set_cons_zero]
                    have hlt : pre.length < n := by rw [← unhide HNN]; exact (List.getElem?_eq_some_iff.1 hR.at_).1
                    obtain ⟨l2, hl2⟩ : ∃ l2, R.L[pre.length]? = some l2 := ⟨_, List.getElem?_eq_getElem (by rw [unhide HNR]; exact hlt)⟩
                    have hRW := (unhide HP).ref.kept0 hS.sv.k
                    have hrow := hRW.row
                    rw [unhide HLV] at hrow
                    obtain ⟨g, hlo, hRG⟩ := cellsL_at hrow hl2
                    subst hlo
                    have HRG := hide hRG
                    have hb2 := hRW.body l2 (List.mem_of_getElem? hl2)
                    have hal : alike ⟨y.num, y.fr, y.to, x.v, y.bs⟩ l2 = true := alike_sig.2 (by
                      have e1 : (sigs N.L)[pre.length]? = some y.sig := by simp [sigs, hR.at_]
                      have e2 : (sigs R.L)[pre.length]? = some l2.sig := by simp [sigs, hl2]
                      rw [(unhide HP).sig, e2] at e1
                      exact (Option.some.inj e1).symm)
                    have P19 : Hid (∀ W', Kept [] W W' → Calls Try.prog 19 #[aggV (y.D x.v), aggV l2.C] W' fun e w' => e = .returned (.bool true) ∧ Kept [] W' w') := fun W' hk => by
                      have h9 := same19x ⟨y.num, y.fr, y.to, x.v, y.bs⟩ l2 W' (hR.bod.row.kept hk) (hb2.row.kept hk) hR.bod.byte hb2.byte
                      rw [hal] at h9
                      exact h9
                    have HSM : Hid (y.bs.length ≤ 512) := (unhide HP).net.small y (List.mem_of_getElem? hR.at_)
                    clear hRG hRW hrow hb2 hal hl2
                    gi_wp2
                    refine wpIn_region_any (by kernel_rfl) (anyIn_of_any (by rintro ⟨a, w, h⟩; exact h) (noDeferA (by kernel_rfl)) _ _ _ _ (wpAny_tq 19 rfl (by kernel_rfl) [some (.int .i64 pre.length), some (P0 r), some (P0 r), some (.pointer (some ⟨r, 1, none⟩)), some (.slice (some ⟨g, 0, none⟩) n lc), some (.int .i64 n), some (.bool false), some (.bool false), some (aggV (y.D x.v)), some (P0 r), some (P0 r), some (.pointer (some ⟨r, 1, none⟩)), some (.slice (some ⟨g, 0, none⟩) n lc), some (.int .i64 pre.length), some (.pointer (some ⟨g, pre.length * 4, none⟩)), some (aggV l2.C), some (.bool true), some (.bool false), some (.bool false)] rfl (by kernel_rfl) (by kernel_rfl) ?_ ?_))
                    · intro i o' hi hsk ho a' w2 hout hin hk2
                      replace hk2 : Kept [] W w2 := ⟨hk2.os, hk2.tape, hk2.output, hk2.size, hk2.block⟩
                      match i, ho, hsk with
                      | 0, ho, hsk =>
                        obtain rfl := Option.some.inj ho
                        exact o_load3 (.tmp 23) rfl ⟨bn1, 0, none⟩ _ ((hout 23 (by kernel_rfl)).trans rfl) (fits_cell (hV.n.kept hk2 (by simp)) 0 _ rfl) ⟨_, rfl, tq_is _ _ _ _ rfl, Kept.refl _ _, fun _ _ _ _ _ => trivial⟩
                      | 1, ho, hsk =>
                        obtain rfl := Option.some.inj ho
                        exact o_load27 (.tmp 4) rfl ⟨b4, 0, none⟩ _ ((hout 4 (by kernel_rfl)).trans rfl) (fits_cell (hS.sv.r4.kept hk2 (by simp)) 0 _ rfl) ⟨_, rfl, tq_is _ _ _ _ rfl, Kept.refl _ _, fun _ _ _ _ _ => trivial⟩
                      | 2, ho, hsk =>
                        obtain rfl := Option.some.inj ho
                        have e0 : a'.eval (.tmp 152) = P0 r := is_tq (hin 1 152 (by kernel_rfl) (by kernel_rfl)) rfl
                        exact o_nil (.tmp 152) rfl _ e0 ⟨_, rfl, tq_is _ _ _ _ rfl, Kept.refl _ _, fun _ _ _ _ _ => trivial⟩
                      | 3, ho, hsk =>
                        obtain rfl := Option.some.inj ho
                        have e0 : a'.eval (.tmp 153) = P0 r := is_tq (hin 2 153 (by kernel_rfl) (by kernel_rfl)) rfl
                        exact o_fld60_1 (.tmp 153) rfl r e0 ⟨_, rfl, tq_is _ _ _ _ rfl, Kept.refl _ _, fun _ _ _ _ _ => trivial⟩
                      | 4, ho, hsk =>
                        obtain rfl := Option.some.inj ho
                        have e0 : a'.eval (.tmp 154) = .pointer (some ⟨r, 1, none⟩) := is_tq (hin 3 154 (by kernel_rfl) (by kernel_rfl)) rfl
                        exact o_load43 (.tmp 154) rfl ⟨r, 1, none⟩ _ e0 (fits_cell ((unhide HRH).kept (hS.sv.k.trans hk2) (by simp)) 1 _ rfl) ⟨_, rfl, tq_is _ _ _ _ rfl, Kept.refl _ _, fun _ _ _ _ _ => trivial⟩
                      | 5, ho, hsk =>
                        obtain rfl := Option.some.inj ho
                        have e0 : a'.eval (.tmp 155) = .slice (some ⟨g, 0, none⟩) n lc := is_tq (hin 4 155 (by kernel_rfl) (by kernel_rfl)) rfl
                        exact o_len43 155 rfl _ _ _ e0 ⟨_, rfl, tq_is _ _ _ _ rfl, Kept.refl _ _, fun _ _ _ _ _ => trivial⟩
                      | 6, ho, hsk =>
                        obtain rfl := Option.some.inj ho
                        have e0 : a'.eval (.tmp 151) = .int .i64 pre.length := is_tq (hin 0 151 (by kernel_rfl) (by kernel_rfl)) rfl
                        have e1 : a'.eval (.tmp 156) = .int .i64 n := is_tq (hin 5 156 (by kernel_rfl) (by kernel_rfl)) rfl
                        exact o_geq3v (.tmp 151) (.tmp 156) rfl _ _ false (decide_eq_false (by omega)) e0 e1 ⟨_, rfl, tq_is _ _ _ _ rfl, Kept.refl _ _, fun _ _ _ _ _ => trivial⟩
                      | 7, ho, hsk =>
                        obtain rfl := Option.some.inj ho
                        have e0 : a'.eval (.tmp 157) = .bool false := is_tq (hin 6 157 (by kernel_rfl) (by kernel_rfl)) rfl
                        exact wp_move (.tmp 157) rfl _ e0 ⟨_, rfl, tq_is _ _ _ _ rfl, Kept.refl _ _, fun _ _ _ _ _ => trivial⟩
                      | 8, ho, hsk =>
                        obtain rfl := Option.some.inj ho
                        exact wp_loadA row47 (.tmp 24) rfl bx 0 ((hout 24 (by kernel_rfl)).trans rfl) ((y.D x.v)) rfl (hR.blk.kept hk2 (by simp)).range ⟨_, rfl, tq_is _ _ _ _ rfl, Kept.refl _ _, fun _ _ _ _ _ => trivial⟩
                      | 9, ho, hsk =>
                        obtain rfl := Option.some.inj ho
                        exact o_load27 (.tmp 4) rfl ⟨b4, 0, none⟩ _ ((hout 4 (by kernel_rfl)).trans rfl) (fits_cell (hS.sv.r4.kept hk2 (by simp)) 0 _ rfl) ⟨_, rfl, tq_is _ _ _ _ rfl, Kept.refl _ _, fun _ _ _ _ _ => trivial⟩
                      | 10, ho, hsk =>
                        obtain rfl := Option.some.inj ho
                        have e0 : a'.eval (.tmp 160) = P0 r := is_tq (hin 9 160 (by kernel_rfl) (by kernel_rfl)) rfl
                        exact o_nil (.tmp 160) rfl _ e0 ⟨_, rfl, tq_is _ _ _ _ rfl, Kept.refl _ _, fun _ _ _ _ _ => trivial⟩
                      | 11, ho, hsk =>
                        obtain rfl := Option.some.inj ho
                        have e0 : a'.eval (.tmp 161) = P0 r := is_tq (hin 10 161 (by kernel_rfl) (by kernel_rfl)) rfl
                        exact o_fld60_1 (.tmp 161) rfl r e0 ⟨_, rfl, tq_is _ _ _ _ rfl, Kept.refl _ _, fun _ _ _ _ _ => trivial⟩
                      | 12, ho, hsk =>
                        obtain rfl := Option.some.inj ho
                        have e0 : a'.eval (.tmp 162) = .pointer (some ⟨r, 1, none⟩) := is_tq (hin 11 162 (by kernel_rfl) (by kernel_rfl)) rfl
                        exact o_load43 (.tmp 162) rfl ⟨r, 1, none⟩ _ e0 (fits_cell ((unhide HRH).kept (hS.sv.k.trans hk2) (by simp)) 1 _ rfl) ⟨_, rfl, tq_is _ _ _ _ rfl, Kept.refl _ _, fun _ _ _ _ _ => trivial⟩
                      | 13, ho, hsk =>
                        obtain rfl := Option.some.inj ho
                        exact o_load3 (.tmp 23) rfl ⟨bn1, 0, none⟩ _ ((hout 23 (by kernel_rfl)).trans rfl) (fits_cell (hV.n.kept hk2 (by simp)) 0 _ rfl) ⟨_, rfl, tq_is _ _ _ _ rfl, Kept.refl _ _, fun _ _ _ _ _ => trivial⟩
                      | 14, ho, hsk =>
                        obtain rfl := Option.some.inj ho
                        have e0 : a'.eval (.tmp 163) = .slice (some ⟨g, 0, none⟩) n lc := is_tq (hin 12 163 (by kernel_rfl) (by kernel_rfl)) rfl
                        have e1 : a'.eval (.tmp 164) = .int .i64 pre.length := is_tq (hin 13 164 (by kernel_rfl) (by kernel_rfl)) rfl
                        exact o_ix43 (.tmp 163) (.tmp 164) rfl g n lc pre.length hlt e0 e1 ⟨_, rfl, tq_is _ _ _ _ rfl, Kept.refl _ _, fun _ _ _ _ _ => trivial⟩
                      | 15, ho, hsk =>
                        obtain rfl := Option.some.inj ho
                        have e0 : a'.eval (.tmp 165) = .pointer (some ⟨g, pre.length * 4, none⟩) := is_tq (hin 14 165 (by kernel_rfl) (by kernel_rfl)) rfl
                        exact wp_loadA row47 (.tmp 165) rfl g (pre.length * 4) e0 (l2.C) rfl (fun j u hj => hk2.cell (unhide HRG j u hj) (by simp)) ⟨_, rfl, tq_is _ _ _ _ rfl, Kept.refl _ _, fun _ _ _ _ _ => trivial⟩
                      | 16, ho, hsk =>
                        obtain rfl := Option.some.inj ho
                        have e0 : a'.eval (.tmp 159) = aggV (y.D x.v) := is_tq (hin 8 159 (by kernel_rfl) (by kernel_rfl)) rfl
                        have e1 : a'.eval (.tmp 166) = aggV l2.C := is_tq (hin 15 166 (by kernel_rfl) (by kernel_rfl)) rfl
                        refine wp_callF 19 _ _ rfl #[aggV (y.D x.v), aggV l2.C] (by simp [e0, e1]) (cg19r _ _) ((unhide P19 w2 hk2).mono ?_)
                        rintro e w3 ⟨rfl, hk3⟩
                        exact ⟨_, rfl, _, rfl, tq_is _ _ _ _ rfl, hk3, fun _ _ _ _ _ => trivial⟩
                      | 17, ho, hsk =>
                        obtain rfl := Option.some.inj ho
                        have e0 : a'.eval (.tmp 167) = .bool true := is_tq (hin 16 167 (by kernel_rfl) (by kernel_rfl)) rfl
                        exact o_not (.tmp 167) rfl true e0 ⟨_, rfl, tq_is _ _ _ _ rfl, Kept.refl _ _, fun _ _ _ _ _ => trivial⟩
                      | 18, ho, hsk =>
                        obtain rfl := Option.some.inj ho
                        have e0 : a'.eval (.tmp 158) = .bool false := is_tq (hin 7 158 (by kernel_rfl) (by kernel_rfl)) rfl
                        have e1 : a'.eval (.tmp 168) = .bool false := is_tq (hin 17 168 (by kernel_rfl) (by kernel_rfl)) rfl
                        exact o_pickOr0 (.tmp 158) (.tmp 168) rfl _ e0 e1 ⟨_, rfl, tq_is _ _ _ _ rfl, Kept.refl _ _, fun _ _ _ _ _ => trivial⟩
                    intro w9 hk9
                    replace hk9 : Kept [] W w9 := ⟨hk9.os, hk9.tape, hk9.output, hk9.size, hk9.block⟩
                    simp only [valsQ, List.map_cons, List.map_nil, Option.getD_some, List.take_succ_cons, List.take_zero, putAll, Act.put, List.setIfInBounds_toArray, List.set_cons_succ, List.set_cons_zero]
                    refine wpAny_done (by kernel_rfl) ?_ _
                    have hS3 := hide (hS.kept hk9)
                    have hV3 := hide (hV.kept hk9)
                    have hK3 := hide hk9
                    have HRL : Hid (Bod w9 x.v y.bs ∧ Blk w9 bx 47 (y.D x.v)) := ⟨hR.bod.kept hk9 (by simp), hR.blk.kept hk9 (by simp)⟩
                    have HGE2 := hide hR.ge
                    clear hS hV hR hk9 P19 HRG
                    gi_wp2_with (
                      first
                      | (refine listIn_of_list (by rintro ⟨a, w, h⟩; exact h) _ _ _ (noDefer_spec (by kernel_rfl)) ?_
                         refine Stp.go ?_))
                    constructor
                    go_wp2_with (
                      first
                      | (refine wpLoadA row47 (by rfl) (.tmp 24) (by rfl) bx 0 (by kernel_rfl) (y.D x.v) rfl (unhide HRL).2.range ?_
                         refine Stp.go ?_))
                    constructor
                    go_wp2_with (
                      first
                      | (go_at_call 33
                         refine (spoil33 ⟨y.num, y.fr, y.to, x.v, y.bs⟩ _ (unhide HRL).1 (unhide HSM)).mono ?_
                         rintro e V7 ⟨⟨ev, rfl⟩, K7⟩
                         have hS4 := hide ((unhide hS3).spoil (unhide HRL).1 (unhide HGE2) K7)
                         have hV4 := hide ((unhide hV3).spoil (unhide HRL).1 K7)
                         have HK7 := hide (KeptS.of_own (x := x) K7)
                         have HKF := hide (keepsFrom_own (B := W8.heap.size) (v := x.v) (unhide hK3) (unhide HRL).1 K7)
                         have c23 := fits_cell (unhide hV4).n 0 _ rfl
                         have c22 := fits_cell (unhide hV4).t 0 _ rfl
                         have c5 := fits_cell (unhide hS4).sv.l5 0 _ rfl
                         clear K7))
                    gi_wp2_with (
                      first
                      | (refine inStore1 (.int .i64 pre.length) (.int .i64 ((pre.length : Int) + 1)) (fun w b u h => st3 w b u _ h) (fun _ => trivial) (by rfl) (.tmp 23) (.tmp 173) (by rfl) (by rfl) (by rfl) bn1 (by rfl) (by rfl) (unhide hV4).n ?_
                         intro W9 B9 e9
                         clear c22 c23 c5
                         have c23 := fits_cell B9 0 _ rfl
                         have c22 : W9.cell? ⟨bt1, 0, none⟩ = some (.int .i64 1) := by rw [e9]; exact fits_cell ((unhide hV4).t.set_other (by have := unhide HNE; omega) _) 0 _ rfl
                         have c5 : W9.cell? ⟨b5, 0, none⟩ = some (.int .i64 leave) := by rw [e9]; exact fits_cell ((unhide hS4).sv.l5.set_other (by have := unhide HNE; omega) _) 0 _ rfl
                         have HE := hide e9
                         clear e9 B9)
                      | fail)
                    have e9 := unhide HE
                    have ne := unhide HNE
                    have hS9 : AS w leave b b4 b5 b6 r p1 p2 [E] W9 := by rw [e9]; exact (unhide hS4).set _ (unhide hV4).n ne.2.2.2.2.2.2 ⟨ne.1, ne.2.1, ne.2.2.1, ne.2.2.2.1, ne.2.2.2.2.1⟩
                    have hn9 : Blk W9 bn1 3 [.int .i64 ((pre ++ [x]).length : Nat)] := by
                      rw [e9, List.length_append]
                      exact (unhide hV4).n.one _
                    have ht9 : Blk W9 bt1 3 [.int .i64 1] := by rw [e9]; exact (unhide hV4).t.set_other (by omega) _
                    have hl9 : ((pre ++ [x]).length : Int) = (pre.length : Int) + 1 := by simp
                    have hkf : KeepsFrom W8.heap.size W W9 := by rw [e9]; exact (unhide HKF).trans (keepsFrom_set (Kept.refl [] _) (unhide hV4).n _)
                    exact ⟨hkf, by rw [e9]; exact ((KeptS.of_kept (unhide hK3)).trans (unhide HK7)).setCell (unhide hV4).n (by decide) (by decide) _, hS9, ⟨hn9, ht9, fun h => by cases h⟩⟩
                  case done1 =>
                    intro E2 n3 W hE2 hS hnn ht hnN3 hor3 hK
                    have hn3 : n3 = n := by have h8 := unhide HNN; omega
                    rw [hn3] at hnn
                    have hDw2 : w.heap.size ≤ E2 := by have := (unhide HAS3).sv.k.size; omega
                    have hDD : Hid (E ≠ E2) := by have := unhide HD1 E (by simp); show _ ≠ _; omega
                    clear hn3 hor3 hnN3
                    gi_wp2
                    refine wpIn_wide.2 ?_
                    refine wp_region_any mixed (wpAny_tq 29 rfl (by kernel_rfl) [some (.int .i64 1), some (.bool true), some (.bool true), some (.int .i64 n), some (P0 r), some (P0 r), some (.pointer (some ⟨r, 1, none⟩)), some (.slice lo n lc), some (.int .i64 n), some (.bool false), some (.bool false), some (.bool false), some (.int .i64 1), some (.bool false), some (.bool false), none, none, none, none, none, none, none, some (.bool false), some (.bool false), none, none, none, some (.bool false), some (.bool false)] rfl (by kernel_rfl) (by kernel_rfl) ?_ ?_)
                    · intro i o' hi hsk ho a' w2 hout hin hk2
                      replace hk2 : Kept [] W w2 := ⟨hk2.os, hk2.tape, hk2.output, hk2.size, hk2.block⟩
                      match i, ho, hsk with
                      | 0, ho, hsk =>
                        obtain rfl := Option.some.inj ho
                        exact o_load3 (.tmp 22) rfl ⟨bt1, 0, none⟩ _ ((hout 22 (by kernel_rfl)).trans rfl) (fits_cell (ht.kept hk2 (by simp)) 0 _ rfl) ⟨_, rfl, tq_is _ _ _ _ rfl, Kept.refl _ _, fun _ _ _ _ _ => trivial⟩
                      | 1, ho, hsk =>
                        obtain rfl := Option.some.inj ho
                        have e0 : a'.eval (.tmp 181) = .int .i64 1 := is_tq (hin 0 181 (by kernel_rfl) (by kernel_rfl)) rfl
                        exact o_eql3 (.tmp 181) 1 rfl _ true (by simp) e0 ⟨_, rfl, tq_is _ _ _ _ rfl, Kept.refl _ _, fun _ _ _ _ _ => trivial⟩
                      | 2, ho, hsk =>
                        obtain rfl := Option.some.inj ho
                        have e0 : a'.eval (.tmp 182) = .bool true := is_tq (hin 1 182 (by kernel_rfl) (by kernel_rfl)) rfl
                        exact wp_move (.tmp 182) rfl _ e0 ⟨_, rfl, tq_is _ _ _ _ rfl, Kept.refl _ _, fun _ _ _ _ _ => trivial⟩
                      | 3, ho, hsk =>
                        obtain rfl := Option.some.inj ho
                        exact o_load3 (.tmp 23) rfl ⟨bn1, 0, none⟩ _ ((hout 23 (by kernel_rfl)).trans rfl) (fits_cell (hnn.kept hk2 (by simp)) 0 _ rfl) ⟨_, rfl, tq_is _ _ _ _ rfl, Kept.refl _ _, fun _ _ _ _ _ => trivial⟩
                      | 4, ho, hsk =>
                        obtain rfl := Option.some.inj ho
                        exact o_load27 (.tmp 4) rfl ⟨b4, 0, none⟩ _ ((hout 4 (by kernel_rfl)).trans rfl) (fits_cell (hS.sv.r4.kept hk2 (by simp)) 0 _ rfl) ⟨_, rfl, tq_is _ _ _ _ rfl, Kept.refl _ _, fun _ _ _ _ _ => trivial⟩
                      | 5, ho, hsk =>
                        obtain rfl := Option.some.inj ho
                        have e0 : a'.eval (.tmp 185) = P0 r := is_tq (hin 4 185 (by kernel_rfl) (by kernel_rfl)) rfl
                        exact o_nil (.tmp 185) rfl _ e0 ⟨_, rfl, tq_is _ _ _ _ rfl, Kept.refl _ _, fun _ _ _ _ _ => trivial⟩
                      | 6, ho, hsk =>
                        obtain rfl := Option.some.inj ho
                        have e0 : a'.eval (.tmp 186) = P0 r := is_tq (hin 5 186 (by kernel_rfl) (by kernel_rfl)) rfl
                        exact o_fld60_1 (.tmp 186) rfl r e0 ⟨_, rfl, tq_is _ _ _ _ rfl, Kept.refl _ _, fun _ _ _ _ _ => trivial⟩
                      | 7, ho, hsk =>
                        obtain rfl := Option.some.inj ho
                        have e0 : a'.eval (.tmp 187) = .pointer (some ⟨r, 1, none⟩) := is_tq (hin 6 187 (by kernel_rfl) (by kernel_rfl)) rfl
                        exact o_load43 (.tmp 187) rfl ⟨r, 1, none⟩ _ e0 (fits_cell ((unhide HRH).kept (hS.sv.k.trans hk2) (by simp)) 1 _ rfl) ⟨_, rfl, tq_is _ _ _ _ rfl, Kept.refl _ _, fun _ _ _ _ _ => trivial⟩
                      | 8, ho, hsk =>
                        obtain rfl := Option.some.inj ho
                        have e0 : a'.eval (.tmp 188) = .slice lo n lc := is_tq (hin 7 188 (by kernel_rfl) (by kernel_rfl)) rfl
                        exact o_len43 188 rfl _ _ _ e0 ⟨_, rfl, tq_is _ _ _ _ rfl, Kept.refl _ _, fun _ _ _ _ _ => trivial⟩
                      | 9, ho, hsk =>
                        obtain rfl := Option.some.inj ho
                        have e0 : a'.eval (.tmp 184) = .int .i64 n := is_tq (hin 3 184 (by kernel_rfl) (by kernel_rfl)) rfl
                        have e1 : a'.eval (.tmp 189) = .int .i64 n := is_tq (hin 8 189 (by kernel_rfl) (by kernel_rfl)) rfl
                        exact o_neqI3 (.tmp 184) (.tmp 189) rfl _ _ true (by simp) e0 e1 ⟨_, rfl, tq_is _ _ _ _ rfl, Kept.refl _ _, fun _ _ _ _ _ => trivial⟩
                      | 10, ho, hsk =>
                        obtain rfl := Option.some.inj ho
                        have e0 : a'.eval (.tmp 183) = .bool true := is_tq (hin 2 183 (by kernel_rfl) (by kernel_rfl)) rfl
                        have e1 : a'.eval (.tmp 190) = .bool false := is_tq (hin 9 190 (by kernel_rfl) (by kernel_rfl)) rfl
                        exact o_pick (.tmp 183) (.tmp 190) rfl _ e0 e1 ⟨_, rfl, tq_is _ _ _ _ rfl, Kept.refl _ _, fun _ _ _ _ _ => trivial⟩
                      | 11, ho, hsk =>
                        obtain rfl := Option.some.inj ho
                        have e0 : a'.eval (.tmp 191) = .bool false := is_tq (hin 10 191 (by kernel_rfl) (by kernel_rfl)) rfl
                        exact wp_move (.tmp 191) rfl _ e0 ⟨_, rfl, tq_is _ _ _ _ rfl, Kept.refl _ _, fun _ _ _ _ _ => trivial⟩
                      | 12, ho, hsk =>
                        obtain rfl := Option.some.inj ho
                        exact o_load3 (.tmp 22) rfl ⟨bt1, 0, none⟩ _ ((hout 22 (by kernel_rfl)).trans rfl) (fits_cell (ht.kept hk2 (by simp)) 0 _ rfl) ⟨_, rfl, tq_is _ _ _ _ rfl, Kept.refl _ _, fun _ _ _ _ _ => trivial⟩
                      | 13, ho, hsk =>
                        obtain rfl := Option.some.inj ho
                        have e0 : a'.eval (.tmp 193) = .int .i64 1 := is_tq (hin 12 193 (by kernel_rfl) (by kernel_rfl)) rfl
                        exact o_eql3 (.tmp 193) 0 rfl _ false (by simp) e0 ⟨_, rfl, tq_is _ _ _ _ rfl, Kept.refl _ _, fun _ _ _ _ _ => trivial⟩
                      | 14, ho, hsk =>
                        obtain rfl := Option.some.inj ho
                        have e0 : a'.eval (.tmp 194) = .bool false := is_tq (hin 13 194 (by kernel_rfl) (by kernel_rfl)) rfl
                        exact wp_move (.tmp 194) rfl _ e0 ⟨_, rfl, tq_is _ _ _ _ rfl, Kept.refl _ _, fun _ _ _ _ _ => trivial⟩
                      | 15, ho, hsk =>
                        cases hsk
                      | 16, ho, hsk =>
                        cases hsk
                      | 17, ho, hsk =>
                        cases hsk
                      | 18, ho, hsk =>
                        cases hsk
                      | 19, ho, hsk =>
                        cases hsk
                      | 20, ho, hsk =>
                        cases hsk
                      | 21, ho, hsk =>
                        cases hsk
                      | 22, ho, hsk =>
                        obtain rfl := Option.some.inj ho
                        have e0 : a'.eval (.tmp 195) = .bool false := is_tq (hin 14 195 (by kernel_rfl) (by kernel_rfl)) rfl
                        exact o_pickN (.tmp 195) (.tmp 202) rfl e0 ⟨_, rfl, tq_is _ _ _ _ rfl, Kept.refl _ _, fun _ _ _ _ _ => trivial⟩
                      | 23, ho, hsk =>
                        obtain rfl := Option.some.inj ho
                        have e0 : a'.eval (.tmp 203) = .bool false := is_tq (hin 22 203 (by kernel_rfl) (by kernel_rfl)) rfl
                        exact wp_move (.tmp 203) rfl _ e0 ⟨_, rfl, tq_is _ _ _ _ rfl, Kept.refl _ _, fun _ _ _ _ _ => trivial⟩
                      | 24, ho, hsk =>
                        cases hsk
                      | 25, ho, hsk =>
                        cases hsk
                      | 26, ho, hsk =>
                        cases hsk
                      | 27, ho, hsk =>
                        obtain rfl := Option.some.inj ho
                        have e0 : a'.eval (.tmp 204) = .bool false := is_tq (hin 23 204 (by kernel_rfl) (by kernel_rfl)) rfl
                        exact o_pickN (.tmp 204) (.tmp 207) rfl e0 ⟨_, rfl, tq_is _ _ _ _ rfl, Kept.refl _ _, fun _ _ _ _ _ => trivial⟩
                      | 28, ho, hsk =>
                        obtain rfl := Option.some.inj ho
                        have e0 : a'.eval (.tmp 192) = .bool false := is_tq (hin 11 192 (by kernel_rfl) (by kernel_rfl)) rfl
                        have e1 : a'.eval (.tmp 208) = .bool false := is_tq (hin 27 208 (by kernel_rfl) (by kernel_rfl)) rfl
                        exact o_pickOr0 (.tmp 192) (.tmp 208) rfl _ e0 e1 ⟨_, rfl, tq_is _ _ _ _ rfl, Kept.refl _ _, fun _ _ _ _ _ => trivial⟩
                    intro w9 hk9
                    replace hk9 : Kept [] W w9 := ⟨hk9.os, hk9.tape, hk9.output, hk9.size, hk9.block⟩
                    simp only [valsQ, List.map_cons, List.map_nil, Option.getD_some, Option.getD_none, List.take_succ_cons, List.take_zero, putAll, Act.put, List.setIfInBounds_toArray, List.set_cons_succ, List.set_cons_zero]
                    refine wpAny_done (by kernel_rfl) ?_ _
                    have HAS0 := hide ((hS.kept hk9).mark hDw2 (hk9.heap hK (by simp)))
                    have c19 := fits_cell (ht.kept hk9 (by simp)) 0 _ rfl
                    clear hK hS hnn ht hk9 HAS3 HT3 HN1 HNE HLT HGE nt1 nn1 nbt1 hE2 HD1
                    gi_wp2_with (
                      first
                      | (refine inVar (.int .i64 0) (.int .i64 1) zero3 (fun w b u h => st3 w b u _ h) 22 (by rfl) wideF (by rfl) (by rfl) (by rfl) (.tmp 210) (by rfl) (by rfl) (fun _ => by rfl) (by rfl) (by rfl) (by rfl) ?_
                         intro W10 bt2 et B10 K10
                         have HT1 := hide B10
                         have HAS1 := hide ((unhide HAS0).kept K10)
                         have nt1 : Hid (w9.heap.size = bt2) := by show _ = _; omega
                         clear et K10 c19
                         have c19 := fits_cell B10 0 _ rfl
                         clear B10
                         refine Stp.go ?_))
                    constructor
                    gi_wp2_with (
                      first
                      | (refine inStore1 (.int .i64 1) (.int .i64 2) (fun w b u h => st3 w b u _ h) wideF (by rfl) (.tmp 22) (.tmp 148) (by rfl) (by rfl) (by rfl) bt2 (by rfl) (by rfl) (unhide HT1) ?_
                         intro W11 B11 e11
                         have HT2 := hide B11
                         have hlt1 := (unhide HAS0).lts
                         have hge1 := (unhide HAS0).sv.k.size
                         have nt2 := unhide nt1
                         have HAS2 : Hid (AS w leave b b4 b5 b6 r p1 p2 [E2, E] W11) := by rw [e11]; exact (unhide HAS1).set _ (unhide HT1) (by omega) ⟨by omega, by omega, by omega, by omega, by omega⟩
                         clear HAS1 HT1 e11 B11 c19 hlt1 hge1 nt2))
                    rw [roundsIn_succ]
                    have c19 := fits_cell (unhide HT2) 0 _ rfl
                    gi_wp2
                    refine (wpIn_wide (n := 3)).1 ?_
                    gi_wp2_with (
                      first
                      | (refine inStore1 (.bool false) (.bool true) (fun w b u h => st4 w b u _ h) wideF (by rfl) (.tmp 6) (.const (.bool true)) (by rfl) (by rfl) (by rfl) b6 (by rfl) (by rfl) (unhide HAS2).sv.o6 ?_
                         intro W14 B14 e14
                         have HB14 := hide B14
                         have HE14 := hide e14
                         clear B14 e14)
                      | fail)
                    have hA := unhide HAS2
                    have hEE := unhide HE14
                    have hD1 := hA.d E (by simp)
                    have hD2 := hA.d E2 (by simp)
                    have s1 : ∀ X : Nat, W11.heap[X]? = some (Obj.deferred (some [])) → W14.heap[X]? = some (Obj.deferred (some [])) := by
                      intro X h
                      have hne2 : X ≠ b6 := by intro e; subst e; rw [hA.sv.o6] at h; cases h
                      rw [hEE, Below.heap_setCell _ _ _ _ (by simpa using hne2)]; exact h
                    exact all_leaves rfl (unhide HB14) (by rw [hEE]; exact hA.sv.k.setCell (p := ⟨b6, 0, none⟩) (by have := hA.sv.ge; simp; omega) _) (s1 _ hD2.2) (s1 _ hD1.2) (unhide hDD) hD2.1 hD1.1
                  case exit1 =>
                    intro a W h
                    exact wpIn_exit h
              case exit =>
                intro a W h
                exact wpIn_exit h
theorem stands13 (b mb : Nat) (v : Value) (N : Nn) (r : Nat) (lv : Value) (R : Nn) (leave : Int) (w : World) (h : Pw w b mb v N r lv R) (hla : N.last ≤ 1000000000000) : Calls Try.prog 13 #[P0 b, P0 r, .int .i64 leave] w fun e w' => e = .returned (.bool true) ∧ Kept [] w w' :=
  callsIn_wide.1 (stands_in b mb v N r lv R leave w h hla)

end Go.Proofs.Ytpcggcicpojdoaa
