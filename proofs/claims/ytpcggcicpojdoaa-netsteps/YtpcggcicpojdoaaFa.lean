/-
  All's letters, each with its own bytes; the law of a range in which what is handed on is told.
-/
import Derived.Test.YtpcggcicpojdoaaEa
import Derived.Test.YtpcggcicpojdoaaKna
import Derived.Test.YtpcggcicpojdoaaTt
namespace Go.Proofs.Ytpcggcicpojdoaa
open Go.RowKit Go.Shelf
attribute [local go_sem] Oper.semAt_some

/-- The bytes of what is handed on. -/
def Lx.v (x : Lx) : Value := .slice x.ao x.m x.c
/-- What is kept by who may write over the bytes of what was handed on. -/
structure KeptS (x : Lx) (A B : World) : Prop where
  size : A.heap.size ≤ B.heap.size
  block : ∀ (i : Nat) (cs : Array Value) (T : TypeId) (p : Nat × Nat), T = 47 ∨ T = 5 → A.heap[i]? = some (.cells cs T p) → x.v.ownBlock ≠ some i → B.heap[i]? = some (.cells cs T p)
theorem KeptS.trans {x : Lx} {A B C : World} (h : KeptS x A B) (k : KeptS x B C) : KeptS x A C := ⟨Nat.le_trans h.size k.size, fun i cs T p hT hi hn => k.block i cs T p hT (h.block i cs T p hT hi hn) hn⟩
theorem KeptS.of_kept {x : Lx} {A B : World} (h : Kept [] A B) : KeptS x A B := ⟨h.size, fun _ _ _ _ _ hi _ => h.heap hi (by simp)⟩
theorem KeptS.putObj {x : Lx} {W : World} {l : Nat} {o : Obj} (o' : Obj) (hl : W.heap[l]? = some o) (ho : o.isCells = false) : KeptS x W (W.putObj l o') := by
  have hg := grownBy_putObj' W l o'
  refine ⟨hg.size, fun i cs T p _ hi _ => ?_⟩
  rw [hg.block i (lt_of_block hi) (fun e => by cases e; rw [hi] at hl; cases hl; simp [Obj.isCells] at ho)]
  exact hi
theorem KeptJ.spare {x : Lx} {A B C : World} (h : KeptJ A B) (k : KeptS x B C) (hx : ∀ i, x.v.ownBlock = some i → A.heap.size ≤ i) : KeptJ A C :=
  ⟨Nat.le_trans h.size k.size, fun i cs T p hT hi => k.block i cs T p hT (h.block i cs T p hT hi) (fun e => by have h1 := hx i e; have h2 := lt_of_block hi; omega)⟩
/-- What is known of a letter that is handed on. -/
structure Ey (F : List Ltr) (B : Nat) (pre : List Lx) (x : Lx) (W : World) : Prop where
  i : x.i = pre.length
  pre : pre.map (·.i) = List.range pre.length
  l : ∃ l, F[x.i]? = some l ∧ Bod W x.v l.bs ∧ x.m = l.bs.length ∧ ∀ j, x.v.ownBlock = some j → B ≤ j
set_option maxHeartbeats 4000000 in
set_option maxRecDepth 100000 in
theorem thoseA_in (n : Nat) (hn : 1 ≤ n) (lp p1 p2 b mb : Nat) (v : Value) (N : Nn) (J Jx : List Lx → World → Prop) (W : World) (hN : Nt W b mb v N) (h1 : Blk W p1 23 [P0 b]) (h2 : Blk W p2 82 [.func (.func 53) #[] #[]])
    (hJ : ∀ s A B, J s A → A.grownBy B none → J s B)
    (hY : ∀ pre (x : Lx) W1, J pre W1 → Ey N.L W.heap.size pre x W1 → YieldAt Fence.wide (n - 1) Try.prog lp (Lx.vals N.L x) W1 fun e W' => (e = .returned (.bool true) ∧ J (pre ++ [x]) W' ∧ KeptS x W1 W') ∨ (e = .returned (.bool false) ∧ Jx (pre ++ [x]) W'))
    (h0 : J [] W) :
    CallsIn Fence.wide n Try.prog 56 #[.func (.yield lp) #[] #[], P0 p1, P0 p2] W fun e W' => (∃ v, e = .returned v) ∧
      ((∃ ys, Lx.done N.L ys ∧ J ys W') ∨ (∃ pre, Lx.part N.L pre ∧ Jx pre W')) := by
  have hFw := wideF
  obtain ⟨oo, oc, rfl, hVo, _⟩ := owns_vals hN.ord
  have PL := hide (fun W' (hk : Kept [] W W') => len21 b mb _ N W' (hN.kept0 hk))
  have H1 := hide h1
  have H2 := hide h2
  have HN := hide hN
  have HVO := hide hVo
  have HK := hide (Kept.refl [] W)
  have hc1 := fits_cell h1 0 _ rfl
  rw [callsIn_wide]
  clear h1 h2 hN hVo
  go_enter Try.func56, Try.ntmps56
  go_wp2_with (
    first
    | (go_at_call 21
       refine (unhide PL _ (Kept.refl _ _)).mono ?_
       rintro e V1 ⟨rfl, hw1⟩
       obtain rfl := hw1.symm
       clear hw1 hc1))
  go_loopw [4, 11] (fun sv i wr => ∃ k : Nat, k ≤ N.L.length ∧ i = .int .i64 k ∧ Hid (wr.ownsRow W.heap.size 47 4 sv (N.L.take k).length (cellsL (N.L.take k))) ∧ Hid (Kept [] W wr)) (fun _ i _ => N.L.length - (intOf i).toNat)
  case atStart => exact ⟨0, by omega, rfl, World.ownsRow_nil _ _ _ _, HK⟩
  case round =>
    clear HK
    obtain ⟨k, hk, rfl, HO, HK⟩ := hrel
    by_cases hlt : k < N.L.length
    · obtain ⟨l0, hl0⟩ : ∃ l, N.L[k]? = some l := ⟨_, List.getElem?_eq_getElem hlt⟩
      have hne : nums N.L ≠ [] := by intro e; have := congrArg List.length e; rw [nums_len] at this; simp at this; rw [this] at hlt; simp at hlt
      obtain ⟨g, off, rfl, hr⟩ := (unhide HVO).lies hne
      have HCE : Hid (wr.cell? ⟨g, off + k, none⟩ = some (.int .i64 l0.num)) := (unhide HK).cell (hr k (.int .i64 l0.num) (by simp [nums, hl0])) (by simp)
      have hNw := (unhide HN).kept0 (unhide HK)
      have hbl := hNw.body l0 (List.mem_of_getElem? hl0)
      have HLK : Hid (lookL l0.num N.L = l0) := lookL_some (place_self hNw.rise hl0)
      have HC : Hid (∀ u ∈ l0.C, u.oneCell' = true) := D_one (l := l0) hbl.one
      have HM := hide hNw.map
      have HH := hide hNw.head
      have H1w := hide ((unhide H1).kept (unhide HK) (by simp))
      have H2w := hide ((unhide H2).kept (unhide HK) (by simp))
      have hst : N.L.take (k + 1) = N.L.take k ++ [l0] := by rw [List.take_add_one, hl0]; rfl
      have hltI : (k : Int) < N.L.length := by omega
      have hmany := hNw.many
      have HLN : Hid ((N.L.take k).length ≤ 4096) := by have h2 := List.length_take_le k N.L; show _ ≤ _; omega
      skip
      clear hr hNw hbl hne hl0
      go_wp2_with fail
      refine wp_region_any mixed (wpAny_gx 14 rfl (by kernel_rfl) [some (P0 b), some (P0 b), some (.pointer (some ⟨b, 2, none⟩)), some (.map (some mb)), some (P0 b), some (P0 b), some (.pointer (some ⟨b, 3, none⟩)), some (.slice (some ⟨g, off, none⟩) N.L.length oc), some (.int .i64 k), some (.pointer (some ⟨g, off + k, none⟩)), some (.int .i64 l0.num), some (aggV l0.C), none, none] rfl (by kernel_rfl) (fun l vs W => (T4s wr l0) (l.getD 12 false) (vs 12) (l.getD 13 false) (vs 13) W) (⟨⟨rfl, rfl, rfl, Nat.le_refl _, fun _ _ _ => rfl⟩, fun h => by cases h⟩) ?_ ?_)
      · intro ix o' hi ho a' w2 l vs hls hlf hJ hout hin hdep hnot
        match ix, ho with
        | 0, ho =>
          obtain rfl := Option.some.inj ho
          have e0 := hout 1 (by kernel_rfl)
          replace e0 : a'.eval (.tmp 1) = _ := e0.trans rfl
          exact o_load23 (.tmp 1) rfl _ _ e0 (fits_cell ((unhide H1w).kept hJ.1 (by simp)) 0 _ rfl) ⟨_, rfl, told_of rfl, keep2 (St := (T4s wr l0)) (by omega) (by decide) (by decide) hJ⟩
        | 1, ho =>
          obtain rfl := Option.some.inj ho
          have e0 : a'.eval (.tmp 14) = P0 b := by have h9 := hin 0 14 (by kernel_rfl) (by kernel_rfl); exact h9.1.trans (told_is _ h9.2 rfl)
          exact o_nil (.tmp 14) rfl _ e0 ⟨_, rfl, told_of rfl, keep2 (St := (T4s wr l0)) (by omega) (by decide) (by decide) hJ⟩
        | 2, ho =>
          obtain rfl := Option.some.inj ho
          have e0 : a'.eval (.tmp 15) = P0 b := by have h9 := hin 1 15 (by kernel_rfl) (by kernel_rfl); exact h9.1.trans (told_is _ h9.2 rfl)
          exact o_fld58_2 (.tmp 15) rfl _ e0 ⟨_, rfl, told_of rfl, keep2 (St := (T4s wr l0)) (by omega) (by decide) (by decide) hJ⟩
        | 3, ho =>
          obtain rfl := Option.some.inj ho
          have e0 : a'.eval (.tmp 16) = .pointer (some ⟨b, 2, none⟩) := by have h9 := hin 2 16 (by kernel_rfl) (by kernel_rfl); exact h9.1.trans (told_is _ h9.2 rfl)
          exact o_load55 (.tmp 16) rfl _ _ e0 (fits_cell ((unhide HH).kept hJ.1 (by simp)) 2 _ rfl) ⟨_, rfl, told_of rfl, keep2 (St := (T4s wr l0)) (by omega) (by decide) (by decide) hJ⟩
        | 4, ho =>
          obtain rfl := Option.some.inj ho
          have e0 := hout 1 (by kernel_rfl)
          replace e0 : a'.eval (.tmp 1) = _ := e0.trans rfl
          exact o_load23 (.tmp 1) rfl _ _ e0 (fits_cell ((unhide H1w).kept hJ.1 (by simp)) 0 _ rfl) ⟨_, rfl, told_of rfl, keep2 (St := (T4s wr l0)) (by omega) (by decide) (by decide) hJ⟩
        | 5, ho =>
          obtain rfl := Option.some.inj ho
          have e0 : a'.eval (.tmp 18) = P0 b := by have h9 := hin 4 18 (by kernel_rfl) (by kernel_rfl); exact h9.1.trans (told_is _ h9.2 rfl)
          exact o_nil (.tmp 18) rfl _ e0 ⟨_, rfl, told_of rfl, keep2 (St := (T4s wr l0)) (by omega) (by decide) (by decide) hJ⟩
        | 6, ho =>
          obtain rfl := Option.some.inj ho
          have e0 : a'.eval (.tmp 19) = P0 b := by have h9 := hin 5 19 (by kernel_rfl) (by kernel_rfl); exact h9.1.trans (told_is _ h9.2 rfl)
          exact o_fld58_3 (.tmp 19) rfl _ e0 ⟨_, rfl, told_of rfl, keep2 (St := (T4s wr l0)) (by omega) (by decide) (by decide) hJ⟩
        | 7, ho =>
          obtain rfl := Option.some.inj ho
          have e0 : a'.eval (.tmp 20) = .pointer (some ⟨b, 3, none⟩) := by have h9 := hin 6 20 (by kernel_rfl) (by kernel_rfl); exact h9.1.trans (told_is _ h9.2 rfl)
          exact o_load56 (.tmp 20) rfl _ _ e0 (fits_cell ((unhide HH).kept hJ.1 (by simp)) 3 _ rfl) ⟨_, rfl, told_of rfl, keep2 (St := (T4s wr l0)) (by omega) (by decide) (by decide) hJ⟩
        | 8, ho =>
          obtain rfl := Option.some.inj ho
          have e0 := hout 5 (by kernel_rfl)
          replace e0 : a'.eval (.tmp 5) = _ := e0.trans rfl
          exact wp_move (.tmp 5) rfl _ e0 ⟨_, rfl, told_of rfl, keep2 (St := (T4s wr l0)) (by omega) (by decide) (by decide) hJ⟩
        | 9, ho =>
          obtain rfl := Option.some.inj ho
          have e0 : a'.eval (.tmp 21) = .slice (some ⟨g, off, none⟩) N.L.length oc := by have h9 := hin 7 21 (by kernel_rfl) (by kernel_rfl); exact h9.1.trans (told_is _ h9.2 rfl)
          have e1 : a'.eval (.tmp 22) = .int .i64 k := by have h9 := hin 8 22 (by kernel_rfl) (by kernel_rfl); exact h9.1.trans (told_is _ h9.2 rfl)
          exact o_idx56 (.tmp 21) (.tmp 22) rfl g off N.L.length oc k hlt e0 e1 ⟨_, rfl, told_of rfl, keep2 (St := (T4s wr l0)) (by omega) (by decide) (by decide) hJ⟩
        | 10, ho =>
          obtain rfl := Option.some.inj ho
          have e0 : a'.eval (.tmp 23) = .pointer (some ⟨g, off + k, none⟩) := by have h9 := hin 9 23 (by kernel_rfl) (by kernel_rfl); exact h9.1.trans (told_is _ h9.2 rfl)
          exact o_load2 (.tmp 23) rfl _ _ e0 (hJ.1.cell (unhide HCE) (by simp)) ⟨_, rfl, told_of rfl, keep2 (St := (T4s wr l0)) (by omega) (by decide) (by decide) hJ⟩
        | 11, ho =>
          obtain rfl := Option.some.inj ho
          have e0 : a'.eval (.tmp 17) = .map (some mb) := by have h9 := hin 3 17 (by kernel_rfl) (by kernel_rfl); exact h9.1.trans (told_is _ h9.2 rfl)
          have e1 : a'.eval (.tmp 24) = .int .i64 l0.num := by have h9 := hin 10 24 (by kernel_rfl) (by kernel_rfl); exact h9.1.trans (told_is _ h9.2 rfl)
          exact o_look1 (.tmp 17) (.tmp 24) rfl mb N.L l0.num l0 (unhide HLK) e0 e1 ((unhide HM).kept hJ.1 (by simp)) ⟨_, rfl, told_of rfl, keep2 (St := (T4s wr l0)) (by omega) (by decide) (by decide) hJ⟩
        | 12, ho =>
          obtain rfl := Option.some.inj ho
          exact o_all47 rfl ⟨_, rfl, told_no rfl, next2a (St := (T4s wr l0)) (by omega) (by decide) ⟨hJ.1.alloc _, fun _ => ⟨w2.heap.size, rfl, hJ.1.size, fun _ => Blk.new w2 47 zL, fun h13 => by rw [hnot 13 (by kernel_rfl)] at h13; cases h13⟩⟩⟩
        | 13, ho =>
          obtain rfl := Option.some.inj ho
          have e0 : a'.eval (.tmp 6) = vs 12 := (hin 12 6 (by kernel_rfl) (by kernel_rfl)).1
          have e1 : a'.eval (.tmp 25) = aggV l0.C := by have h9 := hin 11 25 (by kernel_rfl) (by kernel_rfl); exact h9.1.trans (told_is _ h9.2 rfl)
          obtain ⟨p, hp, hge, hz, _⟩ := hJ.2 (hdep 12 (by kernel_rfl))
          exact wp_storeN row47 (.tmp 6) (.tmp 25) rfl rfl p 0 l0.C (e0.trans hp) e1 rfl (unhide HC) ((hz hlf).there (by decide)) ⟨undef, rfl, told_no rfl, next2b (St := (T4s wr l0)) (v := undef) (by omega) (by decide) ⟨hJ.1.setCells _ _ (by omega), fun _ => ⟨p, hp, hge, fun h => (by cases h), fun _ => (hz hlf).put rfl⟩⟩⟩
      intro l vs w9 hl hJ htold
      have t0 : vs 0 = P0 b := told_is _ (htold 0 (by decide)) rfl
      have t1 : vs 1 = P0 b := told_is _ (htold 1 (by decide)) rfl
      have t2 : vs 2 = .pointer (some ⟨b, 2, none⟩) := told_is _ (htold 2 (by decide)) rfl
      have t3 : vs 3 = .map (some mb) := told_is _ (htold 3 (by decide)) rfl
      have t4 : vs 4 = P0 b := told_is _ (htold 4 (by decide)) rfl
      have t5 : vs 5 = P0 b := told_is _ (htold 5 (by decide)) rfl
      have t6 : vs 6 = .pointer (some ⟨b, 3, none⟩) := told_is _ (htold 6 (by decide)) rfl
      have t7 : vs 7 = .slice (some ⟨g, off, none⟩) N.L.length oc := told_is _ (htold 7 (by decide)) rfl
      have t8 : vs 8 = .int .i64 k := told_is _ (htold 8 (by decide)) rfl
      have t9 : vs 9 = .pointer (some ⟨g, off + k, none⟩) := told_is _ (htold 9 (by decide)) rfl
      have t10 : vs 10 = .int .i64 l0.num := told_is _ (htold 10 (by decide)) rfl
      have t11 : vs 11 = aggV l0.C := told_is _ (htold 11 (by decide)) rfl
      have hl12 := hl 12 (by decide)
      have hl13 := hl 13 (by decide)
      rw [hl12, hl13] at hJ
      rw [show (List.range 14).map vs = [vs 0, vs 1, vs 2, vs 3, vs 4, vs 5, vs 6, vs 7, vs 8, vs 9, vs 10, vs 11, vs 12, vs 13] from rfl]
      simp only [t0, t1, t2, t3, t4, t5, t6, t7, t8, t9, t10, t11, putAll, Act.put, List.setIfInBounds_toArray, List.set_cons_succ, List.set_cons_zero]
      clear t0 t1 t2 t3 t4 t5 t6 t7 t8 t9 t10 t11 htold hl hl12 hl13
      obtain ⟨pv, hpv, hge, _, hBp⟩ := hJ.2 rfl
      replace HK := hide ((unhide HK).trans hJ.1)
      rw [hpv]
      have HB := hide (hBp rfl)
      replace HO := hide (owns_keptX (unhide HO) hJ.1 (by simp))
      replace H2w := hide ((unhide H2w).kept hJ.1 (by simp))
      have hc2 := fits_cell (unhide H2w) 0 _ rfl
      have PW := hide (fun W' (_ : Kept [] w9 W') => is53 l0 W')
      clear hJ hBp hge hpv HH HM HLK HCE
      go_wp2_with (
        first
        | (refine wpLoadA row47 (by rfl) (.tmp 6) (by rfl) pv 0 (by kernel_rfl) l0.C rfl (unhide HB).range ?_
           refine Stp.go ?_))
      constructor
      go_wp2_with (
        first
        | (go_at_call 53
           refine (unhide PW _ (Kept.refl _ _)).mono ?_
           rintro e W6 ⟨rfl, K6⟩
           replace HB := hide ((unhide HB).kept K6 (by simp))
           replace HO := hide (owns_keptX (unhide HO) K6 (by simp))
           replace HK := hide ((unhide HK).trans K6)
           clear K6 hc2
           refine Stp.go ?_))
      constructor
      go_wp2_with (
        first
        | (refine wpLoadA row47 (by rfl) (.tmp 6) (by rfl) pv 0 (by kernel_rfl) l0.C rfl (unhide HB).range ?_
           refine Stp.go ?_))
      constructor
      go_wp2_with (
        first
        | (refine wpBSliceL (by rfl) (.tmp 30) (by rfl) (.int .i64 l0.num) (.int .i64 l0.fr) (.int .i64 l0.to) l0.v (by kernel_rfl) ?_
           intro W7 g7 e7 B7 K7
           have HB7 : Hid (Blk W7 g7 47 l0.C) := B7
           replace HO := hide (owns_keptX (unhide HO) K7 (by simp))
           replace HK := hide ((unhide HK).trans K7)
           clear e7 B7 K7
           refine Stp.go ?_))
      constructor
      go_wp2_with (
        first
        | (at_builtin; refine wpAppL (by rfl) (.tmp 29) (.tmp 31) (by rfl) W.heap.size u4 _ _ (by kernel_rfl) g7 (by kernel_rfl) l0.C rfl (unhide HB7) (unhide HC) (unhide HO) (by have := unhide HLN; omega) (unhide HK).size ?_
           intro v8 W8 hO8 g8
           have HO8 := hide hO8
           replace HK := hide (kept_grown (unhide HK) g8 (fun k hk => ((unhide HO).lt k hk).1))
           clear hO8 g8))
      go_roundw
      case rel => exact ⟨k + 1, by omega, by go_num, by rw [hst, List.length_append, cellsL_app, cellsL_one]; exact unhide HO8, HK⟩
      case measure => simp [intOf]; omega
    · obtain rfl : k = N.L.length := by omega
      rw [List.take_length] at HO
      obtain ⟨so, sc, rfl⟩ := owns_slN (unhide HO)
      go_wp2_with fail
      have HJ0 := hide (hJ [] W wr h0 (grown_of_kept (unhide HK)))
      have HBD : Hid (∀ l ∈ N.L, Bod wr l.v l.bs ∧ l.bs.length ≤ 512) := fun l h9 => ⟨((unhide HN).body l h9).kept (unhide HK) (by simp), (unhide HN).small l h9⟩
      have hF4 : N.L.length ≤ 4096 := (unhide HN).many
      have HWS := hide (unhide HK).size
      clear HK PL H1 H2 HVO
      obtain ⟨F, hF⟩ : ∃ F, N.L = F := ⟨_, rfl⟩
      rw [hF] at HO HBD hY hF4
      rw [hF]
      rw [← wpIn_wide (n := n)]
      gi_loopw [36] (fun i w1 => ∃ (k : Nat) (ys : List Lx), k ≤ F.length ∧ i = .int .i64 k ∧ Hid (ys.map (·.i) = List.range k) ∧ Hid (J ys w1) ∧ Hid (KeptJ wr w1)) (fun i _ => F.length - (intOf i).toNat)
      case atStart => exact ⟨0, [], by omega, rfl, rfl, HJ0, KeptJ.refl _⟩
      case round =>
        clear HJ0
        obtain ⟨k, ys, hk, rfl, hys, HJ, HKJ⟩ := hrel
        by_cases hlt : k < F.length
        · obtain ⟨l1, hl1⟩ : ∃ l, F[k]? = some l := ⟨_, List.getElem?_eq_getElem hlt⟩
          have hOw := (unhide HKJ).owns (.inl rfl) (unhide HO)
          obtain ⟨g, hso, hrg⟩ := cellsL_at hOw hl1
          subst hso
          have HR := hide hrg
          have hbl := unhide HBD l1 (List.mem_of_getElem? hl1)
          have HB1 : Hid (Bod wr l1.v l1.bs) := ⟨(unhide HKJ).owns (.inr rfl) hbl.1.own, hbl.1.byte⟩
          have HS1 := hide hbl.2
          have HC1 : Hid (∀ u ∈ l1.C, u.oneCell' = true) := D_one (l := l1) hbl.1.one
          have hltI : (k : Int) < F.length := by omega
          clear hOw hrg hbl
          gi_wp2_with (
            first
            | (refine inLoadA row47 wideF (by rfl) (.tmp 38) (by rfl) (by rfl) g (k * 4) (by kernel_rfl) l1.C rfl (unhide HR) ?_)
            | (refine inNew row47 zL rfl alloc47 8 (by rfl) wideF (by rfl) (by rfl) (by rfl) (.tmp 39) (by rfl) (by rfl) (fun _ => by rfl) (by rfl) l1.C rfl (unhide HC1) (by rfl) (by rfl) ?_
               intro W3 b8 e8 B8 K8
               have HB8 := hide B8
               replace HB1 := hide ((unhide HB1).kept K8 (by simp))
               replace HJ := hide (hJ _ _ W3 (unhide HJ) (grown_of_kept K8))
               replace HKJ := hide ((unhide HKJ).trans (KeptJ.of_kept K8))
               clear e8 B8 K8 HR)
            | (refine inLoadA row47 wideF (by rfl) (.tmp 8) (by rfl) (by rfl) b8 0 (by rfl) l1.C rfl (unhide HB8).range ?_)
            | (gi_at_call 52; refine (callsIn_wide.2 (own52 l1 _ (unhide HB1) (unhide HS1))).mono ?_; rintro e' W4 ⟨u, rfl, hBu, hFu, K4⟩
               obtain ⟨ua, uc, hu, _, _⟩ := hBu.sl
               subst hu
               have HJ4 := hJ _ _ W4 (unhide HJ) (grown_of_kept K4)
               have hsz := (unhide HKJ).size
               have hsz2 := unhide HWS
               have hfr := hide (fun k (hk : (Value.slice ua l1.bs.length uc).ownBlock = some k) => Nat.le_trans hsz (hFu k hk))
               replace HKJ := hide ((unhide HKJ).trans (KeptJ.of_kept K4))
               obtain ⟨fn, tmps, assign, body, hy, hR⟩ := hY ys ⟨k, ua, l1.bs.length, uc⟩ W4 HJ4 ⟨by have := congrArg List.length (unhide hys); rw [List.length_map, List.length_range] at this; exact this.symm, by have := congrArg List.length (unhide hys); rw [List.length_map, List.length_range] at this; rw [this]; exact unhide hys, l1, hl1, hBu, rfl, fun j hj => Nat.le_trans (unhide HWS) (unhide hfr j hj)⟩
               simp only [Lx.vals, hl1, Option.getD_some] at hy
               have hR' := hide hR
               clear HJ hR HJ4 K4 hBu hFu hsz hsz2))
          refine (unhide hR').mono ?_
          rintro e W5 (⟨rfl, hJ5, hk5⟩ | ⟨rfl, hJx5⟩)
          · have HJ5 := hide hJ5
            replace HKJ := hide ((unhide HKJ).spare hk5 (unhide hfr))
            clear hJ5 hk5 hR'
            gi_wp2
            go_roundw
            case rel => exact ⟨k + 1, ys ++ [⟨k, ua, l1.bs.length, uc⟩], by omega, by go_num, by rw [List.map_append, unhide hys, List.range_succ]; rfl, HJ5, HKJ⟩
            case measure => simp [intOf]; omega
          · have HX5 := hide hJx5
            clear hJx5 hR'
            gi_wp2
            refine bodyPost_ret (results_none rfl _ _ _) rfl ?_
            exact ⟨⟨_, rfl⟩, .inr ⟨_, ⟨k + 1, by rw [hF]; omega, by omega, by rw [List.map_append, unhide hys, List.range_succ]; rfl⟩, unhide HX5⟩⟩
        · obtain rfl : k = F.length := by omega
          gi_wp2
          go_end0
          exact ⟨⟨_, rfl⟩, .inl ⟨ys, by unfold Lx.done; rw [hF]; exact unhide hys, unhide HJ⟩⟩


end Go.Proofs.Ytpcggcicpojdoaa
