/-
  The walk of AreaAll.
-/
import Derived.Test.YtcfoebpbbmnleaaAllb
namespace Go.Proofs.Ytcfoebpbbmnleaa
open Go.RowKit Go.Shelf
attribute [local go_sem] Oper.semAt_some

set_option maxRecDepth 100000 in
set_option maxHeartbeats 8000000 in
theorem all4_in (j : Job) (leave : Int) (w : World) : CallsIn Fence.wide 3 Try.prog 4 #[aggV (jobC j), .int .i64 leave] w fun e w' => e = .returned (.bool true) ∧ Kept [] w w' := by
  have hFw := wideF
  have hNl := Job.N_le j
  refine callsIn_of_wp_marks Try.func4 rfl trivial ?_ rfl
  simp only [Try.ntmps4, List.size_toArray, List.length_cons, List.length_nil, Nat.reduceAdd, Nat.reduceSub, Array.replicate_succ, Array.replicate_zero, List.push_toArray, List.append_toArray, List.nil_append, List.cons_append]
  gi_wp2_with (
    first
    | (refine inBoxA wideF (by rfl) (.tmp 0) (by rfl) (by rfl) (jobC j) (by rfl) ?_
       intro W1 b1 e1 B1 K1
       have HB := hide B1
       have KK := hide K1
       clear e1 B1 K1)
    | (refine inBox3 wideF (by rfl) (.tmp 1) (by rfl) (by rfl) leave (by rfl) ?_
       intro W2 bl el B2 K2
       have HL := hide B2
       have gl : Hid (w.heap.size ≤ bl) := by have := (unhide KK).size; show _ ≤ _; omega
       replace HB := hide ((unhide HB).kept K2 (by simp))
       replace KK := hide ((unhide KK).trans K2)
       clear el B2 K2)
    | (refine inAlloc1 (.bool false) zero4 wideF (by rfl) (by rfl) (by rfl) ?_
       intro W3 br er B3 K3
       have HR := hide B3
       have gr : Hid (w.heap.size ≤ br) := by have := (unhide KK).size; show _ ≤ _; omega
       replace HB := hide ((unhide HB).kept K3 (by simp))
       replace HL := hide ((unhide HL).kept K3 (by simp))
       replace KK := hide ((unhide KK).trans K3)
       clear er B3 K3)
    | (refine inLoadA row23 wideF (by rfl) (.tmp 2) (by rfl) (by rfl) b1 0 (by rfl) (jobC j) rfl (unhide HB).range ?_)
    | (gi_at_call 15; refine (callsIn_wide.2 (all15 j _)).mono ?_; rintro e W4 ⟨q, rfl, hq1, hq2, K4⟩
       have HQ := hide hq2
       have gq : Hid (w.heap.size ≤ q) := by have := (unhide KK).size; show _ ≤ _; omega
       have hq42 := eq42 (P0 q)
       replace HB := hide ((unhide HB).kept K4 (by simp))
       replace HL := hide ((unhide HL).kept K4 (by simp))
       replace HR := hide ((unhide HR).kept K4 (by simp))
       replace KK := hide ((unhide KK).trans K4)
       clear hq1 hq2 K4)
    | (gi_at_call 7; refine (callsIn_wide.2 (list7 j _)).mono ?_; rintro e W5 ⟨v, rfl, hO, K5⟩
       obtain ⟨ao, c, rfl, hlst⟩ := own_lst hO
       have HS := hide hlst
       have gao : Hid (∀ g, ao = some ⟨g, 0, none⟩ → 0 < j.N → g < W5.heap.size) := own_lt hO rfl
       replace HQ := hide ((unhide HQ).kept K5 (by simp))
       replace HL := hide ((unhide HL).kept K5 (by simp))
       replace HR := hide ((unhide HR).kept K5 (by simp))
       replace KK := hide ((unhide KK).trans K5)
       clear hO hlst K5 HB)
    | (refine inVar (.slice none 0 0) (.slice ao j.N c) zero25 (fun w b u h => st25 w b u _ _ _ h) 6 (by rfl) wideF (by rfl) (by rfl) (by rfl) (.tmp 14) (by rfl) (by rfl) (fun _ => by rfl) (by rfl) (by rfl) (by rfl) ?_
       intro W6 bw ew B6 K6
       have HAS : Hid (AS w j leave bl bw br q ao c [] W6) := ⟨(unhide HL).kept K6 (by simp), B6, (unhide HR).kept K6 (by simp), (unhide HQ).kept K6 (by simp), (unhide HS).kept K6, (unhide KK).trans K6, ⟨unhide gl, by have := (unhide KK).size; omega, unhide gr, unhide gq⟩, fun D hD => by cases hD⟩
       have HG : Hid (bl < W6.heap.size ∧ bw < W6.heap.size ∧ br < W6.heap.size ∧ q < W6.heap.size ∧ ∀ g, ao = some ⟨g, 0, none⟩ → 0 < j.N → g < W6.heap.size) := ⟨(unhide HAS).l.lt, (unhide HAS).v.lt, (unhide HAS).r.lt, (unhide HAS).jq.lt, fun g e h => by have := unhide gao g e h; have := K6.size; omega⟩
       clear ew B6 K6 HL HR HQ HS KK gl gr gq gao)
    | (refine inVar (.int .i64 0) (.int .i64 0) zero3 (fun w b u h => st3 w b u _ h) 7 (by rfl) wideF (by rfl) (by rfl) (by rfl) (.const (.int .i64 0)) (by rfl) (by rfl) (fun _ => by rfl) (by rfl) (by rfl) (by rfl) ?_
       intro W7 bt et B7 K7
       have HT := hide B7
       replace HAS := hide ((unhide HAS).kept K7)
       have nt : Hid (W6.heap.size = bt) := by show _ = _; omega
       clear et B7 K7))
  refine wpIn_loop_rounds 3 ?_
  rw [roundsIn_succ]
  have ct := fits_cell (unhide HT) 0 _ rfl
  gi_wp2_with (
    first
    | (refine inVar (.int .i64 0) (.int .i64 0) zero3 (fun w b u h => st3 w b u _ h) 8 (by rfl) wideF (by rfl) (by rfl) (by rfl) (.const (.int .i64 0)) (by rfl) (by rfl) (fun _ => by rfl) (by rfl) (by rfl) (by rfl) ?_
       intro W8 bn en B8 K8
       have HN := hide B8
       have nbt : Hid (bt < bn) := by have := (unhide HT).lt; show _ < _; omega
       replace HAS := hide ((unhide HAS).kept K8)
       replace HT := hide ((unhide HT).kept K8 (by simp))
       have nn : Hid (W7.heap.size = bn) := by show _ = _; omega
       clear en B8 K8 ct))
  have HNE : Hid (bn ≠ bl ∧ bn ≠ bw ∧ bn ≠ br ∧ bn ≠ q ∧ bn ≠ bt ∧ w.heap.size ≤ bn ∧ ∀ g, ao = some ⟨g, 0, none⟩ → 0 < j.N → bn ≠ g) := by
    have h1 := unhide HG
    have h2 := unhide nt
    have h3 := unhide nbt
    have h4 := (unhide HAS).ge
    exact ⟨by omega, by omega, by omega, by omega, by omega, by omega, fun g e h => by have := h1.2.2.2.2 g e h; omega⟩
  refine range_turn w j leave bl bw br q ao c [] bn bt 0 rfl rfl (unhide HAS) (by simp) ⟨rfl, unhide HN, unhide HT, fun _ h => by simp at h⟩ (fun x a' W => ∃ bx, Blk W bx 37 (j.pl x).C ∧ a' = { tmps := #[aggV (jobC j), .int .i64 leave, P0 b1, P0 bl, P0 br, .func (.func 27) #[] #[P0 q], P0 bw, P0 bt, P0 bn, .int .i64 x, P0 bx, aggV (jobC j), .func (.func 27) #[] #[P0 q], aggV (jobC j), .slice ao j.N c, .func (.func 27) #[] #[P0 q], .bool false, .int .i64 0, .bool true, undef, undef, .func (.func 27) #[] #[P0 q], .int .i64 x, aggV (j.pl x).C, undef, undef, undef, undef, undef, undef, undef, undef, undef, undef, undef, undef, undef, undef, undef, undef, undef, undef, undef, undef, undef, undef, undef, undef, undef, undef, undef, undef, undef, undef, undef, undef, undef, undef, undef, undef, undef, undef, undef, undef, undef, undef, undef, undef, undef, undef, undef, undef, undef, undef, undef], defers := [] }) (fun x a' s A B row hs hg hr => by obtain ⟨bx, h1, h2⟩ := hs; exact ⟨bx, blk_grown h1 hg (fun r e => (hr r e).2), h2⟩) ?assign ?body ?done ?exit
  case assign =>
    intro l x W K hK
    simp only [Job.vals, List.zip_toArray, List.zip_cons_cons, List.zip_nil_right, List.foldl_toArray, List.foldl_cons, List.foldl_nil, List.setIfInBounds_toArray, List.set_cons_succ, List.set_cons_zero]
    gi_wp2_with (
      first
      | (refine inNew row37 (fourC 0 0 0 0) rfl zero37 10 (by rfl) (fun _ => trivial) (by rfl) (by rfl) (by rfl) (.tmp 23) (by rfl) (by rfl) (fun _ => by rfl) (by rfl) (j.pl x).C rfl (fourC_one _ _ _ _) (by rfl) (by rfl) ?_
         intro W9 bx ex BX KX
         have HBX := hide BX
         have HKX := hide KX
         clear ex BX KX)
      | fail)
    exact hK _ _ (unhide HKX) ⟨bx, unhide HBX, rfl⟩
  case body =>
    rintro l pre x a' W hS hV ⟨bx, hbx, rfl⟩ hlt
    by_cases hx : x = pre.length
    · have hxN : x < j.N := by omega
      obtain ⟨g, hao, hrg⟩ := hS.lst x hxN
      have HX := hide hx
      have HAO := hide hao
      clear hx hao
      gi_wp2
      refine wpIn_region_any (by kernel_rfl) (anyIn_of_any (by rintro ⟨a, w, h⟩; exact h) (noDeferA (by kernel_rfl)) _ _ _ _ (wpAny_tq 17 rfl (by kernel_rfl) [some (.int .i64 pre.length), some (.slice ao j.N c), some (.int .i64 j.N), some (.bool false), some (.bool false), some (.int .i64 x), some (.int .i64 pre.length), some (.bool false), some (.bool false), some (.bool false), some (aggV (j.pl x).C), some (.slice ao j.N c), some (.int .i64 pre.length), some (.pointer (some ⟨g, x * 4, none⟩)), some (aggV (j.pl x).C), some (.bool false), some (.bool false)] rfl (by kernel_rfl) (by kernel_rfl) ?_ ?_))
      · intro i o hi hsk ho a' w2 hout hin hk2
        replace hk2 : Kept [] W w2 := ⟨hk2.os, hk2.tape, hk2.output, hk2.size, hk2.block⟩
        match i, ho, hsk with
        | 0, ho, hsk =>
          obtain rfl := Option.some.inj ho
          exact o_load3 (.tmp 8) rfl ⟨bn, 0, none⟩ _ ((hout 8 (by kernel_rfl)).trans rfl) (fits_cell (hV.n.kept hk2 (by simp)) 0 _ rfl) ⟨_, rfl, tq_is _ _ _ _ rfl, Kept.refl _ _, fun _ _ _ _ _ => trivial⟩
        | 1, ho, hsk =>
          obtain rfl := Option.some.inj ho
          exact o_load25 (.tmp 6) rfl ⟨bw, 0, none⟩ _ ((hout 6 (by kernel_rfl)).trans rfl) (fits_cell (hS.v.kept hk2 (by simp)) 0 _ rfl) ⟨_, rfl, tq_is _ _ _ _ rfl, Kept.refl _ _, fun _ _ _ _ _ => trivial⟩
        | 2, ho, hsk =>
          obtain rfl := Option.some.inj ho
          have e0 : a'.eval (.tmp 25) = .slice ao j.N c := is_tq (hin 1 25 (by kernel_rfl) (by kernel_rfl)) rfl
          exact o_len25 25 rfl _ _ _ e0 ⟨_, rfl, tq_is _ _ _ _ rfl, Kept.refl _ _, fun _ _ _ _ _ => trivial⟩
        | 3, ho, hsk =>
          obtain rfl := Option.some.inj ho
          have e0 : a'.eval (.tmp 24) = .int .i64 pre.length := is_tq (hin 0 24 (by kernel_rfl) (by kernel_rfl)) rfl
          have e1 : a'.eval (.tmp 26) = .int .i64 j.N := is_tq (hin 2 26 (by kernel_rfl) (by kernel_rfl)) rfl
          exact o_geq3 (.tmp 24) (.tmp 26) rfl _ _ (by omega) e0 e1 ⟨_, rfl, tq_is _ _ _ _ rfl, Kept.refl _ _, fun _ _ _ _ _ => trivial⟩
        | 4, ho, hsk =>
          obtain rfl := Option.some.inj ho
          have e0 : a'.eval (.tmp 27) = .bool false := is_tq (hin 3 27 (by kernel_rfl) (by kernel_rfl)) rfl
          exact o_moveV (.tmp 27) _ rfl e0 ⟨_, rfl, tq_is _ _ _ _ rfl, Kept.refl _ _, fun _ _ _ _ _ => trivial⟩
        | 5, ho, hsk =>
          obtain rfl := Option.some.inj ho
          exact o_moveV (.tmp 9) _ rfl ((hout 9 (by kernel_rfl)).trans rfl) ⟨_, rfl, tq_is _ _ _ _ rfl, Kept.refl _ _, fun _ _ _ _ _ => trivial⟩
        | 6, ho, hsk =>
          obtain rfl := Option.some.inj ho
          exact o_load3 (.tmp 8) rfl ⟨bn, 0, none⟩ _ ((hout 8 (by kernel_rfl)).trans rfl) (fits_cell (hV.n.kept hk2 (by simp)) 0 _ rfl) ⟨_, rfl, tq_is _ _ _ _ rfl, Kept.refl _ _, fun _ _ _ _ _ => trivial⟩
        | 7, ho, hsk =>
          obtain rfl := Option.some.inj ho
          have e0 : a'.eval (.tmp 29) = .int .i64 x := is_tq (hin 5 29 (by kernel_rfl) (by kernel_rfl)) rfl
          have e1 : a'.eval (.tmp 30) = .int .i64 pre.length := is_tq (hin 6 30 (by kernel_rfl) (by kernel_rfl)) rfl
          exact o_neq3 (.tmp 29) (.tmp 30) rfl _ e0 (e1.trans (by rw [unhide HX])) ⟨_, rfl, tq_is _ _ _ _ rfl, Kept.refl _ _, fun _ _ _ _ _ => trivial⟩
        | 8, ho, hsk =>
          obtain rfl := Option.some.inj ho
          have e0 : a'.eval (.tmp 28) = .bool false := is_tq (hin 4 28 (by kernel_rfl) (by kernel_rfl)) rfl
          have e1 : a'.eval (.tmp 31) = .bool false := is_tq (hin 7 31 (by kernel_rfl) (by kernel_rfl)) rfl
          exact o_pickOr (.tmp 28) (.tmp 31) rfl false e0 e1 ⟨_, rfl, tq_is _ _ _ _ rfl, Kept.refl _ _, fun _ _ _ _ _ => trivial⟩
        | 9, ho, hsk =>
          obtain rfl := Option.some.inj ho
          have e0 : a'.eval (.tmp 32) = .bool false := is_tq (hin 8 32 (by kernel_rfl) (by kernel_rfl)) rfl
          exact o_moveV (.tmp 32) _ rfl e0 ⟨_, rfl, tq_is _ _ _ _ rfl, Kept.refl _ _, fun _ _ _ _ _ => trivial⟩
        | 10, ho, hsk =>
          obtain rfl := Option.some.inj ho
          exact wp_loadA row37 (.tmp 10) rfl bx 0 ((hout 10 (by kernel_rfl)).trans rfl) (j.pl x).C rfl (hbx.kept hk2 (by simp)).range ⟨_, rfl, tq_is _ _ _ _ rfl, Kept.refl _ _, fun _ _ _ _ _ => trivial⟩
        | 11, ho, hsk =>
          obtain rfl := Option.some.inj ho
          exact o_load25 (.tmp 6) rfl ⟨bw, 0, none⟩ _ ((hout 6 (by kernel_rfl)).trans rfl) (fits_cell (hS.v.kept hk2 (by simp)) 0 _ rfl) ⟨_, rfl, tq_is _ _ _ _ rfl, Kept.refl _ _, fun _ _ _ _ _ => trivial⟩
        | 12, ho, hsk =>
          obtain rfl := Option.some.inj ho
          exact o_load3 (.tmp 8) rfl ⟨bn, 0, none⟩ _ ((hout 8 (by kernel_rfl)).trans rfl) (fits_cell (hV.n.kept hk2 (by simp)) 0 _ rfl) ⟨_, rfl, tq_is _ _ _ _ rfl, Kept.refl _ _, fun _ _ _ _ _ => trivial⟩
        | 13, ho, hsk =>
          obtain rfl := Option.some.inj ho
          have e0 : a'.eval (.tmp 35) = .slice ao j.N c := is_tq (hin 11 35 (by kernel_rfl) (by kernel_rfl)) rfl
          have e1 : a'.eval (.tmp 36) = .int .i64 pre.length := is_tq (hin 12 36 (by kernel_rfl) (by kernel_rfl)) rfl
          exact o_idx25 (.tmp 35) (.tmp 36) rfl g j.N c x hxN (e0.trans (by rw [unhide HAO])) (e1.trans (by rw [unhide HX])) ⟨_, rfl, tq_is _ _ _ _ rfl, Kept.refl _ _, fun _ _ _ _ _ => trivial⟩
        | 14, ho, hsk =>
          obtain rfl := Option.some.inj ho
          have e0 : a'.eval (.tmp 37) = .pointer (some ⟨g, x * 4, none⟩) := is_tq (hin 13 37 (by kernel_rfl) (by kernel_rfl)) rfl
          exact wp_loadA row37 (.tmp 37) rfl g (x * 4) e0 (j.pl x).C rfl (fun i u hu => hk2.cell (hrg i u hu) (by simp)) ⟨_, rfl, tq_is _ _ _ _ rfl, Kept.refl _ _, fun _ _ _ _ _ => trivial⟩
        | 15, ho, hsk =>
          obtain rfl := Option.some.inj ho
          have e0 : a'.eval (.tmp 34) = aggV (j.pl x).C := is_tq (hin 10 34 (by kernel_rfl) (by kernel_rfl)) rfl
          have e1 : a'.eval (.tmp 38) = aggV (j.pl x).C := is_tq (hin 14 38 (by kernel_rfl) (by kernel_rfl)) rfl
          exact o_neq37 (.tmp 34) (.tmp 38) rfl (j.pl x) e0 e1 ⟨_, rfl, tq_is _ _ _ _ rfl, Kept.refl _ _, fun _ _ _ _ _ => trivial⟩
        | 16, ho, hsk =>
          obtain rfl := Option.some.inj ho
          have e0 : a'.eval (.tmp 33) = .bool false := is_tq (hin 9 33 (by kernel_rfl) (by kernel_rfl)) rfl
          have e1 : a'.eval (.tmp 39) = .bool false := is_tq (hin 15 39 (by kernel_rfl) (by kernel_rfl)) rfl
          exact o_pickOr (.tmp 33) (.tmp 39) rfl false e0 e1 ⟨_, rfl, tq_is _ _ _ _ rfl, Kept.refl _ _, fun _ _ _ _ _ => trivial⟩
      · intro w3 hk3
        replace hk3 : Kept [] W w3 := ⟨hk3.os, hk3.tape, hk3.output, hk3.size, hk3.block⟩
        simp only [valsQ, List.map_cons, List.map_nil, Option.getD_some, List.take_succ_cons, List.take_zero, putAll, Act.put, List.setIfInBounds_toArray, List.set_cons_succ, List.set_cons_zero]
        refine wpAny_done (by kernel_rfl) ?_ _
        have hS3 := hide (hS.kept hk3)
        have hV3 := hide (hV.kept hk3)
        have hK3 := hide hk3
        have c8 := fits_cell (unhide hV3).n 0 _ rfl
        have c7 := fits_cell (unhide hV3).t 0 _ rfl
        have c3 := fits_cell (unhide hS3).l 0 _ rfl
        clear hS hV hk3 hbx hrg
        by_cases hlv2 : (pre.length : Int) + 1 = leave
        · have d1 : ((pre.length : Int) + 1 == leave) = true := by simp [hlv2]
          have d2 : decide ((pre.length : Int) + 1 = leave) = true := by simp [hlv2]
          have HLV := hide hlv2
          clear hlv2
          gi_wp2_with (
            first
            | (refine inStore1 (.int .i64 pre.length) (.int .i64 ((pre.length : Int) + 1)) (fun w b u h => st3 w b u _ h) (fun _ => trivial) (by rfl) (.tmp 8) (.tmp 42) (by rfl) (by rfl) (by rfl) bn (by rfl) (by rfl) (unhide hV3).n ?_
               intro W9 B9 e9
               clear c7 c8 c3
               have c8 := fits_cell B9 0 _ rfl
               have c7 : W9.cell? ⟨bt, 0, none⟩ = some (.int .i64 0) := by rw [e9]; exact fits_cell ((unhide hV3).t.set_other (by have := unhide HNE; omega) _) 0 _ rfl
               have c3 : W9.cell? ⟨bl, 0, none⟩ = some (.int .i64 leave) := by rw [e9]; exact fits_cell ((unhide hS3).l.set_other (by have := unhide HNE; omega) _) 0 _ rfl
               have HE := hide e9
               clear e9 B9)
            | fail)
          have e9 := unhide HE
          have ne := unhide HNE
          have hS9 : AS w j leave bl bw br q ao c [] W9 := by rw [e9]; exact (unhide hS3).set _ (unhide hV3).n ne.2.2.2.2.2.1 ⟨ne.1, ne.2.1, ne.2.2.1, ne.2.2.2.1⟩ ne.2.2.2.2.2.2
          have hn9 : Blk W9 bn 3 [.int .i64 ((pre ++ [x]).length : Nat)] := by
            rw [e9, List.length_append]
            exact (unhide hV3).n.one _
          have ht9 : Blk W9 bt 3 [.int .i64 0] := by rw [e9]; exact (unhide hV3).t.set_other (by omega) _
          have hl9 : ((pre ++ [x]).length : Int) = (pre.length : Int) + 1 := by simp
          have hkf : ∀ B, KeepsFrom B W W9 := fun B => by rw [e9]; exact keepsFrom_set (unhide hK3) (unhide hV3).n _
          exact ⟨hkf _, .inl ⟨rfl, hS9, hn9, ht9, by have := unhide HLV; omega⟩⟩
        · have d1 : ((pre.length : Int) + 1 == leave) = false := by simp [hlv2]
          have d2 : decide ((pre.length : Int) + 1 = leave) = false := by simp [hlv2]
          gi_wp2_with (
            first
            | (refine inStore1 (.int .i64 pre.length) (.int .i64 ((pre.length : Int) + 1)) (fun w b u h => st3 w b u _ h) (fun _ => trivial) (by rfl) (.tmp 8) (.tmp 42) (by rfl) (by rfl) (by rfl) bn (by rfl) (by rfl) (unhide hV3).n ?_
               intro W9 B9 e9
               clear c7 c8 c3
               have c8 := fits_cell B9 0 _ rfl
               have c7 : W9.cell? ⟨bt, 0, none⟩ = some (.int .i64 0) := by rw [e9]; exact fits_cell ((unhide hV3).t.set_other (by have := unhide HNE; omega) _) 0 _ rfl
               have c3 : W9.cell? ⟨bl, 0, none⟩ = some (.int .i64 leave) := by rw [e9]; exact fits_cell ((unhide hS3).l.set_other (by have := unhide HNE; omega) _) 0 _ rfl
               have HE := hide e9
               clear e9 B9)
            | fail)
          have e9 := unhide HE
          have ne := unhide HNE
          have hS9 : AS w j leave bl bw br q ao c [] W9 := by rw [e9]; exact (unhide hS3).set _ (unhide hV3).n ne.2.2.2.2.2.1 ⟨ne.1, ne.2.1, ne.2.2.1, ne.2.2.2.1⟩ ne.2.2.2.2.2.2
          have hn9 : Blk W9 bn 3 [.int .i64 ((pre ++ [x]).length : Nat)] := by
            rw [e9, List.length_append]
            exact (unhide hV3).n.one _
          have ht9 : Blk W9 bt 3 [.int .i64 0] := by rw [e9]; exact (unhide hV3).t.set_other (by omega) _
          have hl9 : ((pre ++ [x]).length : Int) = (pre.length : Int) + 1 := by simp
          have hkf : ∀ B, KeepsFrom B W W9 := fun B => by rw [e9]; exact keepsFrom_set (unhide hK3) (unhide hV3).n _
          have hr9 : pre ++ [x] = List.range (pre ++ [x]).length := by rw [List.length_append, List.length_singleton, range_succ', ← (unhide hV3).rng, unhide HX]
          exact ⟨hkf _, by rw [e9]; exact (KeptJ.of_kept (unhide hK3)).setCell (unhide hV3).n (by decide) _, hS9, ⟨hr9, hn9, ht9, fun _ h => hlv2 (by omega)⟩⟩
    · gi_wp2
      refine wpIn_region_any (by kernel_rfl) (anyIn_of_any (by rintro ⟨a, w, h⟩; exact h) (noDeferA (by kernel_rfl)) _ _ _ _ (wpAny_tq 17 rfl (by kernel_rfl) [some (.int .i64 pre.length), some (.slice ao j.N c), some (.int .i64 j.N), some (.bool false), some (.bool false), some (.int .i64 x), some (.int .i64 pre.length), some (.bool true), some (.bool true), some (.bool true), none, none, none, none, none, none, some (.bool true)] rfl (by kernel_rfl) (by kernel_rfl) ?_ ?_))
      · intro i o hi hsk ho a' w2 hout hin hk2
        replace hk2 : Kept [] W w2 := ⟨hk2.os, hk2.tape, hk2.output, hk2.size, hk2.block⟩
        match i, ho, hsk with
        | 0, ho, hsk =>
          obtain rfl := Option.some.inj ho
          exact o_load3 (.tmp 8) rfl ⟨bn, 0, none⟩ _ ((hout 8 (by kernel_rfl)).trans rfl) (fits_cell (hV.n.kept hk2 (by simp)) 0 _ rfl) ⟨_, rfl, tq_is _ _ _ _ rfl, Kept.refl _ _, fun _ _ _ _ _ => trivial⟩
        | 1, ho, hsk =>
          obtain rfl := Option.some.inj ho
          exact o_load25 (.tmp 6) rfl ⟨bw, 0, none⟩ _ ((hout 6 (by kernel_rfl)).trans rfl) (fits_cell (hS.v.kept hk2 (by simp)) 0 _ rfl) ⟨_, rfl, tq_is _ _ _ _ rfl, Kept.refl _ _, fun _ _ _ _ _ => trivial⟩
        | 2, ho, hsk =>
          obtain rfl := Option.some.inj ho
          have e0 : a'.eval (.tmp 25) = .slice ao j.N c := is_tq (hin 1 25 (by kernel_rfl) (by kernel_rfl)) rfl
          exact o_len25 25 rfl _ _ _ e0 ⟨_, rfl, tq_is _ _ _ _ rfl, Kept.refl _ _, fun _ _ _ _ _ => trivial⟩
        | 3, ho, hsk =>
          obtain rfl := Option.some.inj ho
          have e0 : a'.eval (.tmp 24) = .int .i64 pre.length := is_tq (hin 0 24 (by kernel_rfl) (by kernel_rfl)) rfl
          have e1 : a'.eval (.tmp 26) = .int .i64 j.N := is_tq (hin 2 26 (by kernel_rfl) (by kernel_rfl)) rfl
          exact o_geq3 (.tmp 24) (.tmp 26) rfl _ _ (by omega) e0 e1 ⟨_, rfl, tq_is _ _ _ _ rfl, Kept.refl _ _, fun _ _ _ _ _ => trivial⟩
        | 4, ho, hsk =>
          obtain rfl := Option.some.inj ho
          have e0 : a'.eval (.tmp 27) = .bool false := is_tq (hin 3 27 (by kernel_rfl) (by kernel_rfl)) rfl
          exact o_moveV (.tmp 27) _ rfl e0 ⟨_, rfl, tq_is _ _ _ _ rfl, Kept.refl _ _, fun _ _ _ _ _ => trivial⟩
        | 5, ho, hsk =>
          obtain rfl := Option.some.inj ho
          exact o_moveV (.tmp 9) _ rfl ((hout 9 (by kernel_rfl)).trans rfl) ⟨_, rfl, tq_is _ _ _ _ rfl, Kept.refl _ _, fun _ _ _ _ _ => trivial⟩
        | 6, ho, hsk =>
          obtain rfl := Option.some.inj ho
          exact o_load3 (.tmp 8) rfl ⟨bn, 0, none⟩ _ ((hout 8 (by kernel_rfl)).trans rfl) (fits_cell (hV.n.kept hk2 (by simp)) 0 _ rfl) ⟨_, rfl, tq_is _ _ _ _ rfl, Kept.refl _ _, fun _ _ _ _ _ => trivial⟩
        | 7, ho, hsk =>
          obtain rfl := Option.some.inj ho
          have e0 : a'.eval (.tmp 29) = .int .i64 x := is_tq (hin 5 29 (by kernel_rfl) (by kernel_rfl)) rfl
          have e1 : a'.eval (.tmp 30) = .int .i64 pre.length := is_tq (hin 6 30 (by kernel_rfl) (by kernel_rfl)) rfl
          exact o_neqT (.tmp 29) (.tmp 30) rfl _ _ (by omega) e0 e1 ⟨_, rfl, tq_is _ _ _ _ rfl, Kept.refl _ _, fun _ _ _ _ _ => trivial⟩
        | 8, ho, hsk =>
          obtain rfl := Option.some.inj ho
          have e0 : a'.eval (.tmp 28) = .bool false := is_tq (hin 4 28 (by kernel_rfl) (by kernel_rfl)) rfl
          have e1 : a'.eval (.tmp 31) = .bool true := is_tq (hin 7 31 (by kernel_rfl) (by kernel_rfl)) rfl
          exact o_pickOr (.tmp 28) (.tmp 31) rfl true e0 e1 ⟨_, rfl, tq_is _ _ _ _ rfl, Kept.refl _ _, fun _ _ _ _ _ => trivial⟩
        | 9, ho, hsk =>
          obtain rfl := Option.some.inj ho
          have e0 : a'.eval (.tmp 32) = .bool true := is_tq (hin 8 32 (by kernel_rfl) (by kernel_rfl)) rfl
          exact o_moveV (.tmp 32) _ rfl e0 ⟨_, rfl, tq_is _ _ _ _ rfl, Kept.refl _ _, fun _ _ _ _ _ => trivial⟩
        | 10, ho, hsk =>
          cases hsk
        | 11, ho, hsk =>
          cases hsk
        | 12, ho, hsk =>
          cases hsk
        | 13, ho, hsk =>
          cases hsk
        | 14, ho, hsk =>
          cases hsk
        | 15, ho, hsk =>
          cases hsk
        | 16, ho, hsk =>
          obtain rfl := Option.some.inj ho
          have e0 : a'.eval (.tmp 33) = .bool true := is_tq (hin 9 33 (by kernel_rfl) (by kernel_rfl)) rfl
          exact o_pickTrue (.tmp 33) (.tmp 39) rfl e0 ⟨_, rfl, tq_is _ _ _ _ rfl, Kept.refl _ _, fun _ _ _ _ _ => trivial⟩
      · intro w3 hk3
        replace hk3 : Kept [] W w3 := ⟨hk3.os, hk3.tape, hk3.output, hk3.size, hk3.block⟩
        simp only [valsQ, List.map_cons, List.map_nil, Option.getD_some, Option.getD_none, List.take_succ_cons, List.take_zero, putAll, Act.put, List.setIfInBounds_toArray, List.set_cons_succ, List.set_cons_zero]
        refine wpAny_done (by kernel_rfl) ?_ _
        have hS3 := hide (hS.kept hk3)
        have hK3 := hide hk3
        have hng : Hid (¬ pre ++ [x] = List.range (pre ++ [x]).length) := by
          intro e
          rw [List.length_append, List.length_singleton, range_succ'] at e
          have := List.append_inj_right' e rfl
          exact hx (by simpa using this)
        clear hS hV hk3 hbx
        gi_wp2_with (
          first
          | (refine inStore1 (.bool false) (.bool false) (fun w b u h => st4 w b u _ h) (fun _ => trivial) (by rfl) (.tmp 4) (.const (.bool false)) (by rfl) (by rfl) (by rfl) br (by rfl) (by rfl) (unhide hS3).r ?_
             intro W9 B9 e9
             have HE := hide e9
             clear e9 B9)
          | fail)
        exact ⟨by rw [unhide HE]; exact keepsFrom_set (unhide hK3) (unhide hS3).r _, .inr ⟨rfl, unhide hng⟩⟩
  case done =>
    intro D n W hD hS hn ht hnN hor hK
    have c7 := fits_cell ht 0 _ rfl
    have c8 := fits_cell hn 0 _ rfl
    have c3 := fits_cell hS.l 0 _ rfl
    have c6 := fits_cell hS.v 0 _ rfl
    have hDw : w.heap.size ≤ D := by have := (unhide HAS).k.size; omega
    have HAS0 := hide (hS.mark hDw hK)
    clear hK hS hn ht HAS HT HN HG HNE nt nn nbt hD
    by_cases hnN2 : n = j.N
    · subst hnN2
      gi_wp2_with (
        first
        | (refine inVar (.int .i64 0) (.int .i64 0) zero3 (fun w b u h => st3 w b u _ h) 7 (by rfl) wideF (by rfl) (by rfl) (by rfl) (.tmp 73) (by rfl) (by rfl) (fun _ => by rfl) (by rfl) (by rfl) (by rfl) ?_
           intro W10 bt1 et B10 K10
           have HT1 := hide B10
           have HAS1 := hide ((unhide HAS0).kept K10)
           have nt1 : Hid (W.heap.size = bt1) := by show _ = _; omega
           clear et K10 c3 c6 c7 c8
           have c7 := fits_cell B10 0 _ rfl
           clear B10)
        | (refine inStore1 (.int .i64 0) (.int .i64 1) (fun w b u h => st3 w b u _ h) wideF (by rfl) (.tmp 7) (.tmp 20) (by rfl) (by rfl) (by rfl) bt1 (by rfl) (by rfl) (unhide HT1) ?_
           intro W11 B11 e11
           have HT2 := hide B11
           have hlt1 := (unhide HAS0).lts
           have hge1 := (unhide HAS0).k.size
           have nt2 := unhide nt1
           have HAS2 : Hid (AS w j leave bl bw br q ao c [D] W11) := by rw [e11]; exact (unhide HAS1).set _ (unhide HT1) (by omega) ⟨by omega, by omega, by omega, by omega⟩ (fun g e h => by have := hlt1.2.2.2.2.2 g e h; omega)
           clear HAS1 HT1 e11 B11 c7 hlt1 hge1 nt2))
      rw [roundsIn_succ]
      have c7 := fits_cell (unhide HT2) 0 _ rfl
      gi_wp2_with (
        first
        | (refine inVar (.int .i64 0) (.int .i64 0) zero3 (fun w b u h => st3 w b u _ h) 8 (by rfl) wideF (by rfl) (by rfl) (by rfl) (.const (.int .i64 0)) (by rfl) (by rfl) (fun _ => by rfl) (by rfl) (by rfl) (by rfl) ?_
           intro W12 bn1 en B8 K8
           have HN1 := hide B8
           have nbt1 : Hid (bt1 < bn1) := by have := (unhide HT2).lt; show _ < _; omega
           have HAS3 := hide ((unhide HAS2).kept K8)
           have HT3 := hide ((unhide HT2).kept K8 (by simp))
           have nn1 : Hid (W11.heap.size = bn1) := by show _ = _; omega
           have HLT := hide (unhide HAS2).lts
           have HGE := hide (unhide HAS2).k.size
           clear en B8 K8 c7 HT2 HAS2))
      have HNE : Hid (bn1 ≠ bl ∧ bn1 ≠ bw ∧ bn1 ≠ br ∧ bn1 ≠ q ∧ bn1 ≠ bt1 ∧ w.heap.size ≤ bn1 ∧ ∀ g, ao = some ⟨g, 0, none⟩ → 0 < j.N → bn1 ≠ g) := by
        have h1 := unhide HLT
        have h2 := unhide nn1
        have h3 := unhide nbt1
        have h4 := unhide HGE
        exact ⟨by omega, by omega, by omega, by omega, by omega, by omega, fun g e h => by have := h1.2.2.2.2.2 g e h; omega⟩
      have HD1 := hide (unhide HAS3).lts.2.2.2.2.1
      refine range_turn w j leave bl bw br q ao c [D] bn1 bt1 1 rfl rfl (unhide HAS3) (unhide HAS3).lts.2.2.2.2.1 ⟨rfl, unhide HN1, unhide HT3, fun _ h => by simp at h⟩ (fun x a' W => ∃ bx, Blk W bx 37 (j.pl x).C ∧ a' = { tmps := #[aggV (jobC j), .int .i64 leave, P0 b1, P0 bl, P0 br, .func (.func 27) #[] #[P0 q], P0 bw, P0 bt1, P0 bn1, .int .i64 x, P0 bx, aggV (jobC j), .func (.func 27) #[] #[P0 q], aggV (jobC j), .slice ao j.N c, .func (.func 27) #[] #[P0 q], .bool false, .int .i64 1, .bool true, .int .i64 0, .int .i64 1, .func (.func 27) #[] #[P0 q], .int .i64 x, aggV (j.pl x).C, undef, undef, undef, undef, undef, undef, undef, undef, undef, undef, undef, undef, undef, undef, undef, undef, undef, undef, undef, undef, undef, undef, undef, undef, undef, undef, .int .i64 0, .bool false, .bool false, undef, undef, undef, undef, .bool false, .bool false, .int .i64 0, .bool true, .bool true, .int .i64 j.N, .slice ao j.N c, .int .i64 j.N, .bool false, .bool false, .bool false, undef, undef, undef, .bool false, .bool false, .int .i64 0, undef], defers := [] }) (fun x a' s A B row hs hg hr => by obtain ⟨bx, h1, h2⟩ := hs; exact ⟨bx, blk_grown h1 hg (fun r e => (hr r e).2), h2⟩) ?assign1 ?body1 ?done1 ?exit1
      case assign1 =>
        intro l x W K hK
        simp only [Job.vals, List.zip_toArray, List.zip_cons_cons, List.zip_nil_right, List.foldl_toArray, List.foldl_cons, List.foldl_nil, List.setIfInBounds_toArray, List.set_cons_succ, List.set_cons_zero]
        gi_wp2_with (
          first
          | (refine inNew row37 (fourC 0 0 0 0) rfl zero37 10 (by rfl) (fun _ => trivial) (by rfl) (by rfl) (by rfl) (.tmp 23) (by rfl) (by rfl) (fun _ => by rfl) (by rfl) (j.pl x).C rfl (fourC_one _ _ _ _) (by rfl) (by rfl) ?_
             intro W9 bx ex BX KX
             have HBX := hide BX
             have HKX := hide KX
             clear ex BX KX)
          | fail)
        exact hK _ _ (unhide HKX) ⟨bx, unhide HBX, rfl⟩
      case body1 =>
        rintro l pre x a' W hS hV ⟨bx, hbx, rfl⟩ hlt
        by_cases hx : x = pre.length
        · have hxN : x < j.N := by omega
          obtain ⟨g, hao, hrg⟩ := hS.lst x hxN
          have HX := hide hx
          have HAO := hide hao
          clear hx hao
          gi_wp2
          refine wpIn_region_any (by kernel_rfl) (anyIn_of_any (by rintro ⟨a, w, h⟩; exact h) (noDeferA (by kernel_rfl)) _ _ _ _ (wpAny_tq 17 rfl (by kernel_rfl) [some (.int .i64 pre.length), some (.slice ao j.N c), some (.int .i64 j.N), some (.bool false), some (.bool false), some (.int .i64 x), some (.int .i64 pre.length), some (.bool false), some (.bool false), some (.bool false), some (aggV (j.pl x).C), some (.slice ao j.N c), some (.int .i64 pre.length), some (.pointer (some ⟨g, x * 4, none⟩)), some (aggV (j.pl x).C), some (.bool false), some (.bool false)] rfl (by kernel_rfl) (by kernel_rfl) ?_ ?_))
          · intro i o hi hsk ho a' w2 hout hin hk2
            replace hk2 : Kept [] W w2 := ⟨hk2.os, hk2.tape, hk2.output, hk2.size, hk2.block⟩
            match i, ho, hsk with
            | 0, ho, hsk =>
              obtain rfl := Option.some.inj ho
              exact o_load3 (.tmp 8) rfl ⟨bn1, 0, none⟩ _ ((hout 8 (by kernel_rfl)).trans rfl) (fits_cell (hV.n.kept hk2 (by simp)) 0 _ rfl) ⟨_, rfl, tq_is _ _ _ _ rfl, Kept.refl _ _, fun _ _ _ _ _ => trivial⟩
            | 1, ho, hsk =>
              obtain rfl := Option.some.inj ho
              exact o_load25 (.tmp 6) rfl ⟨bw, 0, none⟩ _ ((hout 6 (by kernel_rfl)).trans rfl) (fits_cell (hS.v.kept hk2 (by simp)) 0 _ rfl) ⟨_, rfl, tq_is _ _ _ _ rfl, Kept.refl _ _, fun _ _ _ _ _ => trivial⟩
            | 2, ho, hsk =>
              obtain rfl := Option.some.inj ho
              have e0 : a'.eval (.tmp 25) = .slice ao j.N c := is_tq (hin 1 25 (by kernel_rfl) (by kernel_rfl)) rfl
              exact o_len25 25 rfl _ _ _ e0 ⟨_, rfl, tq_is _ _ _ _ rfl, Kept.refl _ _, fun _ _ _ _ _ => trivial⟩
            | 3, ho, hsk =>
              obtain rfl := Option.some.inj ho
              have e0 : a'.eval (.tmp 24) = .int .i64 pre.length := is_tq (hin 0 24 (by kernel_rfl) (by kernel_rfl)) rfl
              have e1 : a'.eval (.tmp 26) = .int .i64 j.N := is_tq (hin 2 26 (by kernel_rfl) (by kernel_rfl)) rfl
              exact o_geq3 (.tmp 24) (.tmp 26) rfl _ _ (by omega) e0 e1 ⟨_, rfl, tq_is _ _ _ _ rfl, Kept.refl _ _, fun _ _ _ _ _ => trivial⟩
            | 4, ho, hsk =>
              obtain rfl := Option.some.inj ho
              have e0 : a'.eval (.tmp 27) = .bool false := is_tq (hin 3 27 (by kernel_rfl) (by kernel_rfl)) rfl
              exact o_moveV (.tmp 27) _ rfl e0 ⟨_, rfl, tq_is _ _ _ _ rfl, Kept.refl _ _, fun _ _ _ _ _ => trivial⟩
            | 5, ho, hsk =>
              obtain rfl := Option.some.inj ho
              exact o_moveV (.tmp 9) _ rfl ((hout 9 (by kernel_rfl)).trans rfl) ⟨_, rfl, tq_is _ _ _ _ rfl, Kept.refl _ _, fun _ _ _ _ _ => trivial⟩
            | 6, ho, hsk =>
              obtain rfl := Option.some.inj ho
              exact o_load3 (.tmp 8) rfl ⟨bn1, 0, none⟩ _ ((hout 8 (by kernel_rfl)).trans rfl) (fits_cell (hV.n.kept hk2 (by simp)) 0 _ rfl) ⟨_, rfl, tq_is _ _ _ _ rfl, Kept.refl _ _, fun _ _ _ _ _ => trivial⟩
            | 7, ho, hsk =>
              obtain rfl := Option.some.inj ho
              have e0 : a'.eval (.tmp 29) = .int .i64 x := is_tq (hin 5 29 (by kernel_rfl) (by kernel_rfl)) rfl
              have e1 : a'.eval (.tmp 30) = .int .i64 pre.length := is_tq (hin 6 30 (by kernel_rfl) (by kernel_rfl)) rfl
              exact o_neq3 (.tmp 29) (.tmp 30) rfl _ e0 (e1.trans (by rw [unhide HX])) ⟨_, rfl, tq_is _ _ _ _ rfl, Kept.refl _ _, fun _ _ _ _ _ => trivial⟩
            | 8, ho, hsk =>
              obtain rfl := Option.some.inj ho
              have e0 : a'.eval (.tmp 28) = .bool false := is_tq (hin 4 28 (by kernel_rfl) (by kernel_rfl)) rfl
              have e1 : a'.eval (.tmp 31) = .bool false := is_tq (hin 7 31 (by kernel_rfl) (by kernel_rfl)) rfl
              exact o_pickOr (.tmp 28) (.tmp 31) rfl false e0 e1 ⟨_, rfl, tq_is _ _ _ _ rfl, Kept.refl _ _, fun _ _ _ _ _ => trivial⟩
            | 9, ho, hsk =>
              obtain rfl := Option.some.inj ho
              have e0 : a'.eval (.tmp 32) = .bool false := is_tq (hin 8 32 (by kernel_rfl) (by kernel_rfl)) rfl
              exact o_moveV (.tmp 32) _ rfl e0 ⟨_, rfl, tq_is _ _ _ _ rfl, Kept.refl _ _, fun _ _ _ _ _ => trivial⟩
            | 10, ho, hsk =>
              obtain rfl := Option.some.inj ho
              exact wp_loadA row37 (.tmp 10) rfl bx 0 ((hout 10 (by kernel_rfl)).trans rfl) (j.pl x).C rfl (hbx.kept hk2 (by simp)).range ⟨_, rfl, tq_is _ _ _ _ rfl, Kept.refl _ _, fun _ _ _ _ _ => trivial⟩
            | 11, ho, hsk =>
              obtain rfl := Option.some.inj ho
              exact o_load25 (.tmp 6) rfl ⟨bw, 0, none⟩ _ ((hout 6 (by kernel_rfl)).trans rfl) (fits_cell (hS.v.kept hk2 (by simp)) 0 _ rfl) ⟨_, rfl, tq_is _ _ _ _ rfl, Kept.refl _ _, fun _ _ _ _ _ => trivial⟩
            | 12, ho, hsk =>
              obtain rfl := Option.some.inj ho
              exact o_load3 (.tmp 8) rfl ⟨bn1, 0, none⟩ _ ((hout 8 (by kernel_rfl)).trans rfl) (fits_cell (hV.n.kept hk2 (by simp)) 0 _ rfl) ⟨_, rfl, tq_is _ _ _ _ rfl, Kept.refl _ _, fun _ _ _ _ _ => trivial⟩
            | 13, ho, hsk =>
              obtain rfl := Option.some.inj ho
              have e0 : a'.eval (.tmp 35) = .slice ao j.N c := is_tq (hin 11 35 (by kernel_rfl) (by kernel_rfl)) rfl
              have e1 : a'.eval (.tmp 36) = .int .i64 pre.length := is_tq (hin 12 36 (by kernel_rfl) (by kernel_rfl)) rfl
              exact o_idx25 (.tmp 35) (.tmp 36) rfl g j.N c x hxN (e0.trans (by rw [unhide HAO])) (e1.trans (by rw [unhide HX])) ⟨_, rfl, tq_is _ _ _ _ rfl, Kept.refl _ _, fun _ _ _ _ _ => trivial⟩
            | 14, ho, hsk =>
              obtain rfl := Option.some.inj ho
              have e0 : a'.eval (.tmp 37) = .pointer (some ⟨g, x * 4, none⟩) := is_tq (hin 13 37 (by kernel_rfl) (by kernel_rfl)) rfl
              exact wp_loadA row37 (.tmp 37) rfl g (x * 4) e0 (j.pl x).C rfl (fun i u hu => hk2.cell (hrg i u hu) (by simp)) ⟨_, rfl, tq_is _ _ _ _ rfl, Kept.refl _ _, fun _ _ _ _ _ => trivial⟩
            | 15, ho, hsk =>
              obtain rfl := Option.some.inj ho
              have e0 : a'.eval (.tmp 34) = aggV (j.pl x).C := is_tq (hin 10 34 (by kernel_rfl) (by kernel_rfl)) rfl
              have e1 : a'.eval (.tmp 38) = aggV (j.pl x).C := is_tq (hin 14 38 (by kernel_rfl) (by kernel_rfl)) rfl
              exact o_neq37 (.tmp 34) (.tmp 38) rfl (j.pl x) e0 e1 ⟨_, rfl, tq_is _ _ _ _ rfl, Kept.refl _ _, fun _ _ _ _ _ => trivial⟩
            | 16, ho, hsk =>
              obtain rfl := Option.some.inj ho
              have e0 : a'.eval (.tmp 33) = .bool false := is_tq (hin 9 33 (by kernel_rfl) (by kernel_rfl)) rfl
              have e1 : a'.eval (.tmp 39) = .bool false := is_tq (hin 15 39 (by kernel_rfl) (by kernel_rfl)) rfl
              exact o_pickOr (.tmp 33) (.tmp 39) rfl false e0 e1 ⟨_, rfl, tq_is _ _ _ _ rfl, Kept.refl _ _, fun _ _ _ _ _ => trivial⟩
          · intro w3 hk3
            replace hk3 : Kept [] W w3 := ⟨hk3.os, hk3.tape, hk3.output, hk3.size, hk3.block⟩
            simp only [valsQ, List.map_cons, List.map_nil, Option.getD_some, List.take_succ_cons, List.take_zero, putAll, Act.put, List.setIfInBounds_toArray, List.set_cons_succ, List.set_cons_zero]
            refine wpAny_done (by kernel_rfl) ?_ _
            have hS3 := hide (hS.kept hk3)
            have hV3 := hide (hV.kept hk3)
            have hK3 := hide hk3
            have c8 := fits_cell (unhide hV3).n 0 _ rfl
            have c7 := fits_cell (unhide hV3).t 0 _ rfl
            have c3 := fits_cell (unhide hS3).l 0 _ rfl
            clear hS hV hk3 hbx hrg
            gi_wp2_with (
              first
              | (refine inStore1 (.int .i64 pre.length) (.int .i64 ((pre.length : Int) + 1)) (fun w b u h => st3 w b u _ h) (fun _ => trivial) (by rfl) (.tmp 8) (.tmp 42) (by rfl) (by rfl) (by rfl) bn1 (by rfl) (by rfl) (unhide hV3).n ?_
                 intro W9 B9 e9
                 clear c7 c8 c3
                 have c8 := fits_cell B9 0 _ rfl
                 have c7 : W9.cell? ⟨bt1, 0, none⟩ = some (.int .i64 1) := by rw [e9]; exact fits_cell ((unhide hV3).t.set_other (by have := unhide HNE; omega) _) 0 _ rfl
                 have c3 : W9.cell? ⟨bl, 0, none⟩ = some (.int .i64 leave) := by rw [e9]; exact fits_cell ((unhide hS3).l.set_other (by have := unhide HNE; omega) _) 0 _ rfl
                 have HE := hide e9
                 clear e9 B9)
              | fail)
            have e9 := unhide HE
            have ne := unhide HNE
            have hS9 : AS w j leave bl bw br q ao c [D] W9 := by rw [e9]; exact (unhide hS3).set _ (unhide hV3).n ne.2.2.2.2.2.1 ⟨ne.1, ne.2.1, ne.2.2.1, ne.2.2.2.1⟩ ne.2.2.2.2.2.2
            have hn9 : Blk W9 bn1 3 [.int .i64 ((pre ++ [x]).length : Nat)] := by
              rw [e9, List.length_append]
              exact (unhide hV3).n.one _
            have ht9 : Blk W9 bt1 3 [.int .i64 1] := by rw [e9]; exact (unhide hV3).t.set_other (by omega) _
            have hl9 : ((pre ++ [x]).length : Int) = (pre.length : Int) + 1 := by simp
            have hkf : ∀ B, KeepsFrom B W W9 := fun B => by rw [e9]; exact keepsFrom_set (unhide hK3) (unhide hV3).n _
            have hr9 : pre ++ [x] = List.range (pre ++ [x]).length := by rw [List.length_append, List.length_singleton, range_succ', ← (unhide hV3).rng, unhide HX]
            exact ⟨hkf _, by rw [e9]; exact (KeptJ.of_kept (unhide hK3)).setCell (unhide hV3).n (by decide) _, hS9, ⟨hr9, hn9, ht9, fun h => by cases h⟩⟩
        · gi_wp2
          refine wpIn_region_any (by kernel_rfl) (anyIn_of_any (by rintro ⟨a, w, h⟩; exact h) (noDeferA (by kernel_rfl)) _ _ _ _ (wpAny_tq 17 rfl (by kernel_rfl) [some (.int .i64 pre.length), some (.slice ao j.N c), some (.int .i64 j.N), some (.bool false), some (.bool false), some (.int .i64 x), some (.int .i64 pre.length), some (.bool true), some (.bool true), some (.bool true), none, none, none, none, none, none, some (.bool true)] rfl (by kernel_rfl) (by kernel_rfl) ?_ ?_))
          · intro i o hi hsk ho a' w2 hout hin hk2
            replace hk2 : Kept [] W w2 := ⟨hk2.os, hk2.tape, hk2.output, hk2.size, hk2.block⟩
            match i, ho, hsk with
            | 0, ho, hsk =>
              obtain rfl := Option.some.inj ho
              exact o_load3 (.tmp 8) rfl ⟨bn1, 0, none⟩ _ ((hout 8 (by kernel_rfl)).trans rfl) (fits_cell (hV.n.kept hk2 (by simp)) 0 _ rfl) ⟨_, rfl, tq_is _ _ _ _ rfl, Kept.refl _ _, fun _ _ _ _ _ => trivial⟩
            | 1, ho, hsk =>
              obtain rfl := Option.some.inj ho
              exact o_load25 (.tmp 6) rfl ⟨bw, 0, none⟩ _ ((hout 6 (by kernel_rfl)).trans rfl) (fits_cell (hS.v.kept hk2 (by simp)) 0 _ rfl) ⟨_, rfl, tq_is _ _ _ _ rfl, Kept.refl _ _, fun _ _ _ _ _ => trivial⟩
            | 2, ho, hsk =>
              obtain rfl := Option.some.inj ho
              have e0 : a'.eval (.tmp 25) = .slice ao j.N c := is_tq (hin 1 25 (by kernel_rfl) (by kernel_rfl)) rfl
              exact o_len25 25 rfl _ _ _ e0 ⟨_, rfl, tq_is _ _ _ _ rfl, Kept.refl _ _, fun _ _ _ _ _ => trivial⟩
            | 3, ho, hsk =>
              obtain rfl := Option.some.inj ho
              have e0 : a'.eval (.tmp 24) = .int .i64 pre.length := is_tq (hin 0 24 (by kernel_rfl) (by kernel_rfl)) rfl
              have e1 : a'.eval (.tmp 26) = .int .i64 j.N := is_tq (hin 2 26 (by kernel_rfl) (by kernel_rfl)) rfl
              exact o_geq3 (.tmp 24) (.tmp 26) rfl _ _ (by omega) e0 e1 ⟨_, rfl, tq_is _ _ _ _ rfl, Kept.refl _ _, fun _ _ _ _ _ => trivial⟩
            | 4, ho, hsk =>
              obtain rfl := Option.some.inj ho
              have e0 : a'.eval (.tmp 27) = .bool false := is_tq (hin 3 27 (by kernel_rfl) (by kernel_rfl)) rfl
              exact o_moveV (.tmp 27) _ rfl e0 ⟨_, rfl, tq_is _ _ _ _ rfl, Kept.refl _ _, fun _ _ _ _ _ => trivial⟩
            | 5, ho, hsk =>
              obtain rfl := Option.some.inj ho
              exact o_moveV (.tmp 9) _ rfl ((hout 9 (by kernel_rfl)).trans rfl) ⟨_, rfl, tq_is _ _ _ _ rfl, Kept.refl _ _, fun _ _ _ _ _ => trivial⟩
            | 6, ho, hsk =>
              obtain rfl := Option.some.inj ho
              exact o_load3 (.tmp 8) rfl ⟨bn1, 0, none⟩ _ ((hout 8 (by kernel_rfl)).trans rfl) (fits_cell (hV.n.kept hk2 (by simp)) 0 _ rfl) ⟨_, rfl, tq_is _ _ _ _ rfl, Kept.refl _ _, fun _ _ _ _ _ => trivial⟩
            | 7, ho, hsk =>
              obtain rfl := Option.some.inj ho
              have e0 : a'.eval (.tmp 29) = .int .i64 x := is_tq (hin 5 29 (by kernel_rfl) (by kernel_rfl)) rfl
              have e1 : a'.eval (.tmp 30) = .int .i64 pre.length := is_tq (hin 6 30 (by kernel_rfl) (by kernel_rfl)) rfl
              exact o_neqT (.tmp 29) (.tmp 30) rfl _ _ (by omega) e0 e1 ⟨_, rfl, tq_is _ _ _ _ rfl, Kept.refl _ _, fun _ _ _ _ _ => trivial⟩
            | 8, ho, hsk =>
              obtain rfl := Option.some.inj ho
              have e0 : a'.eval (.tmp 28) = .bool false := is_tq (hin 4 28 (by kernel_rfl) (by kernel_rfl)) rfl
              have e1 : a'.eval (.tmp 31) = .bool true := is_tq (hin 7 31 (by kernel_rfl) (by kernel_rfl)) rfl
              exact o_pickOr (.tmp 28) (.tmp 31) rfl true e0 e1 ⟨_, rfl, tq_is _ _ _ _ rfl, Kept.refl _ _, fun _ _ _ _ _ => trivial⟩
            | 9, ho, hsk =>
              obtain rfl := Option.some.inj ho
              have e0 : a'.eval (.tmp 32) = .bool true := is_tq (hin 8 32 (by kernel_rfl) (by kernel_rfl)) rfl
              exact o_moveV (.tmp 32) _ rfl e0 ⟨_, rfl, tq_is _ _ _ _ rfl, Kept.refl _ _, fun _ _ _ _ _ => trivial⟩
            | 10, ho, hsk =>
              cases hsk
            | 11, ho, hsk =>
              cases hsk
            | 12, ho, hsk =>
              cases hsk
            | 13, ho, hsk =>
              cases hsk
            | 14, ho, hsk =>
              cases hsk
            | 15, ho, hsk =>
              cases hsk
            | 16, ho, hsk =>
              obtain rfl := Option.some.inj ho
              have e0 : a'.eval (.tmp 33) = .bool true := is_tq (hin 9 33 (by kernel_rfl) (by kernel_rfl)) rfl
              exact o_pickTrue (.tmp 33) (.tmp 39) rfl e0 ⟨_, rfl, tq_is _ _ _ _ rfl, Kept.refl _ _, fun _ _ _ _ _ => trivial⟩
          · intro w3 hk3
            replace hk3 : Kept [] W w3 := ⟨hk3.os, hk3.tape, hk3.output, hk3.size, hk3.block⟩
            simp only [valsQ, List.map_cons, List.map_nil, Option.getD_some, Option.getD_none, List.take_succ_cons, List.take_zero, putAll, Act.put, List.setIfInBounds_toArray, List.set_cons_succ, List.set_cons_zero]
            refine wpAny_done (by kernel_rfl) ?_ _
            have hS3 := hide (hS.kept hk3)
            have hK3 := hide hk3
            have hng : Hid (¬ pre ++ [x] = List.range (pre ++ [x]).length) := by
              intro e
              rw [List.length_append, List.length_singleton, range_succ'] at e
              have := List.append_inj_right' e rfl
              exact hx (by simpa using this)
            clear hS hV hk3 hbx
            gi_wp2_with (
              first
              | (refine inStore1 (.bool false) (.bool false) (fun w b u h => st4 w b u _ h) (fun _ => trivial) (by rfl) (.tmp 4) (.const (.bool false)) (by rfl) (by rfl) (by rfl) br (by rfl) (by rfl) (unhide hS3).r ?_
                 intro W9 B9 e9
                 have HE := hide e9
                 clear e9 B9)
              | fail)
            exact ⟨by rw [unhide HE]; exact keepsFrom_set (unhide hK3) (unhide hS3).r _, .inr ⟨rfl, unhide hng⟩⟩
      case done1 =>
        intro D2 n2 W hD2 hS hn ht hnN2 hor2 hK
        obtain rfl : n2 = j.N := by omega
        have c7 := fits_cell ht 0 _ rfl
        have c8 := fits_cell hn 0 _ rfl
        have c3 := fits_cell hS.l 0 _ rfl
        have c6 := fits_cell hS.v 0 _ rfl
        have hDw2 : w.heap.size ≤ D2 := by have := (unhide HAS3).k.size; omega
        have hDD : Hid (D ≠ D2) := by have := unhide HD1 D (by simp); show _ ≠ _; omega
        have HDw2 := hide hDw2
        have HAS0 := hide (hS.mark hDw2 hK)
        clear hK hS hn ht HAS3 HT3 HN1 HNE HLT HGE nt1 nn1 nbt1 hD2 HD1 hDw2
        gi_wp2_with (
          first
          | (refine inVar (.int .i64 0) (.int .i64 1) zero3 (fun w b u h => st3 w b u _ h) 7 (by rfl) wideF (by rfl) (by rfl) (by rfl) (.tmp 73) (by rfl) (by rfl) (fun _ => by rfl) (by rfl) (by rfl) (by rfl) ?_
             intro W10 bt2 et B10 K10
             have HT1 := hide B10
             have HAS1 := hide ((unhide HAS0).kept K10)
             have nt1 : Hid (W.heap.size = bt2) := by show _ = _; omega
             clear et K10 c3 c6 c7 c8
             have c7 := fits_cell B10 0 _ rfl
             clear B10)
          | (refine inStore1 (.int .i64 1) (.int .i64 2) (fun w b u h => st3 w b u _ h) wideF (by rfl) (.tmp 7) (.tmp 20) (by rfl) (by rfl) (by rfl) bt2 (by rfl) (by rfl) (unhide HT1) ?_
             intro W11 B11 e11
             have HT2 := hide B11
             have hlt1 := (unhide HAS0).lts
             have hge1 := (unhide HAS0).k.size
             have nt2 := unhide nt1
             have HAS2 : Hid (AS w j leave bl bw br q ao c [D2, D] W11) := by rw [e11]; exact (unhide HAS1).set _ (unhide HT1) (by omega) ⟨by omega, by omega, by omega, by omega⟩ (fun g e h => by have := hlt1.2.2.2.2.2 g e h; omega)
             clear HAS1 HT1 e11 B11 c7 hlt1 hge1 nt2))
        rw [roundsIn_succ]
        have c7 := fits_cell (unhide HT2) 0 _ rfl
        gi_wp2_with (
          first
          | (gi_at_call 14; refine (callsIn_wide.2 (known14 _)).mono ?_; rintro e W13 ⟨rfl, K13⟩
             have HAS4 := hide ((unhide HAS2).kept K13)
             clear K13)
          | (refine inStore1 (.bool false) (.bool true) (fun w b u h => st4 w b u _ h) wideF (by rfl) (.tmp 4) (.tmp 74) (by rfl) (by rfl) (by rfl) br (by rfl) (by rfl) (unhide HAS4).r ?_
             intro W14 B14 e14
             have HB14 := hide B14
             have HE14 := hide e14
             clear B14 e14))
        have hA := unhide HAS4
        have hE := unhide HE14
        have hD1 := hA.d D (by simp)
        have hD2 := hA.d D2 (by simp)
        have s1 : ∀ E : Nat, W13.heap[E]? = some (Obj.deferred (some [])) → W14.heap[E]? = some (Obj.deferred (some [])) := by
          intro E h
          have hne2 : E ≠ br := by intro e; subst e; rw [hA.r] at h; cases h
          rw [hE, Below.heap_setCell _ _ _ _ (by simpa using hne2)]; exact h
        exact all_leaves rfl (unhide HB14) (by rw [hE]; exact hA.k.setCell (p := ⟨br, 0, none⟩) (by have := hA.ge; simp; omega) _) (s1 _ hD2.2) (s1 _ hD1.2) (unhide hDD) hD2.1 hD1.1
      case exit1 =>
        intro a W h
        exact wpIn_exit h
    · have hlv3 : (n : Int) = leave := by omega
      have d1 : ((n : Int) == (j.N : Int)) = false := by simp; omega
      have d2 : decide ((n : Int) = (j.N : Int)) = false := by simp; omega
      have d3 : ((n : Int) == leave) = true := by simp [hlv3]
      have d4 : decide ((n : Int) = leave) = true := by simp [hlv3]
      have d5 : ((n : Int) != (j.N : Int)) = true := by simp; omega
      have d6 : ((n : Int) != leave) = false := by simp [hlv3]
      clear hor hlv3 hnN2
      gi_wp2_with (
        first
        | (refine inVar (.int .i64 0) (.int .i64 0) zero3 (fun w b u h => st3 w b u _ h) 7 (by rfl) wideF (by rfl) (by rfl) (by rfl) (.tmp 73) (by rfl) (by rfl) (fun _ => by rfl) (by rfl) (by rfl) (by rfl) ?_
           intro W10 bt1 et B10 K10
           have HT1 := hide B10
           have HAS1 := hide ((unhide HAS0).kept K10)
           have nt1 : Hid (W.heap.size = bt1) := by show _ = _; omega
           clear et K10 c3 c6 c7 c8
           have c7 := fits_cell B10 0 _ rfl
           clear B10)
        | (refine inStore1 (.int .i64 0) (.int .i64 1) (fun w b u h => st3 w b u _ h) wideF (by rfl) (.tmp 7) (.tmp 20) (by rfl) (by rfl) (by rfl) bt1 (by rfl) (by rfl) (unhide HT1) ?_
           intro W11 B11 e11
           have HT2 := hide B11
           have hlt1 := (unhide HAS0).lts
           have hge1 := (unhide HAS0).k.size
           have nt2 := unhide nt1
           have HAS2 : Hid (AS w j leave bl bw br q ao c [D] W11) := by rw [e11]; exact (unhide HAS1).set _ (unhide HT1) (by omega) ⟨by omega, by omega, by omega, by omega⟩ (fun g e h => by have := hlt1.2.2.2.2.2 g e h; omega)
           clear HAS1 HT1 e11 B11 c7 hlt1 hge1 nt2))
      rw [roundsIn_succ]
      have c7 := fits_cell (unhide HT2) 0 _ rfl
      gi_wp2_with (
        first
        | (refine inVar (.int .i64 0) (.int .i64 0) zero3 (fun w b u h => st3 w b u _ h) 8 (by rfl) wideF (by rfl) (by rfl) (by rfl) (.const (.int .i64 0)) (by rfl) (by rfl) (fun _ => by rfl) (by rfl) (by rfl) (by rfl) ?_
           intro W12 bn1 en B8 K8
           have HN1 := hide B8
           have nbt1 : Hid (bt1 < bn1) := by have := (unhide HT2).lt; show _ < _; omega
           have HAS3 := hide ((unhide HAS2).kept K8)
           have HT3 := hide ((unhide HT2).kept K8 (by simp))
           have nn1 : Hid (W11.heap.size = bn1) := by show _ = _; omega
           have HLT := hide (unhide HAS2).lts
           have HGE := hide (unhide HAS2).k.size
           clear en B8 K8 c7 HT2 HAS2))
      have HNE : Hid (bn1 ≠ bl ∧ bn1 ≠ bw ∧ bn1 ≠ br ∧ bn1 ≠ q ∧ bn1 ≠ bt1 ∧ w.heap.size ≤ bn1 ∧ ∀ g, ao = some ⟨g, 0, none⟩ → 0 < j.N → bn1 ≠ g) := by
        have h1 := unhide HLT
        have h2 := unhide nn1
        have h3 := unhide nbt1
        have h4 := unhide HGE
        exact ⟨by omega, by omega, by omega, by omega, by omega, by omega, fun g e h => by have := h1.2.2.2.2.2 g e h; omega⟩
      have HD1 := hide (unhide HAS3).lts.2.2.2.2.1
      refine range_turn w j leave bl bw br q ao c [D] bn1 bt1 1 rfl rfl (unhide HAS3) (unhide HAS3).lts.2.2.2.2.1 ⟨rfl, unhide HN1, unhide HT3, fun _ h => by simp at h⟩ (fun x a' W => ∃ bx, Blk W bx 37 (j.pl x).C ∧ a' = { tmps := #[aggV (jobC j), .int .i64 leave, P0 b1, P0 bl, P0 br, .func (.func 27) #[] #[P0 q], P0 bw, P0 bt1, P0 bn1, .int .i64 x, P0 bx, aggV (jobC j), .func (.func 27) #[] #[P0 q], aggV (jobC j), .slice ao j.N c, .func (.func 27) #[] #[P0 q], .bool false, .int .i64 1, .bool true, .int .i64 0, .int .i64 1, .func (.func 27) #[] #[P0 q], .int .i64 x, aggV (j.pl x).C, undef, undef, undef, undef, undef, undef, undef, undef, undef, undef, undef, undef, undef, undef, undef, undef, undef, undef, undef, undef, undef, undef, undef, undef, undef, undef, .int .i64 0, .bool false, .bool false, undef, undef, undef, undef, .bool false, .bool false, .int .i64 0, .bool true, .bool true, .int .i64 n, .slice ao j.N c, .int .i64 j.N, .bool true, .bool true, .bool true, .int .i64 n, .int .i64 leave, .bool false, .bool false, .bool false, .int .i64 0, undef], defers := [] }) (fun x a' s A B row hs hg hr => by obtain ⟨bx, h1, h2⟩ := hs; exact ⟨bx, blk_grown h1 hg (fun r e => (hr r e).2), h2⟩) ?assign1 ?body1 ?done1 ?exit1
      case assign1 =>
        intro l x W K hK
        simp only [Job.vals, List.zip_toArray, List.zip_cons_cons, List.zip_nil_right, List.foldl_toArray, List.foldl_cons, List.foldl_nil, List.setIfInBounds_toArray, List.set_cons_succ, List.set_cons_zero]
        gi_wp2_with (
          first
          | (refine inNew row37 (fourC 0 0 0 0) rfl zero37 10 (by rfl) (fun _ => trivial) (by rfl) (by rfl) (by rfl) (.tmp 23) (by rfl) (by rfl) (fun _ => by rfl) (by rfl) (j.pl x).C rfl (fourC_one _ _ _ _) (by rfl) (by rfl) ?_
             intro W9 bx ex BX KX
             have HBX := hide BX
             have HKX := hide KX
             clear ex BX KX)
          | fail)
        exact hK _ _ (unhide HKX) ⟨bx, unhide HBX, rfl⟩
      case body1 =>
        rintro l pre x a' W hS hV ⟨bx, hbx, rfl⟩ hlt
        by_cases hx : x = pre.length
        · have hxN : x < j.N := by omega
          obtain ⟨g, hao, hrg⟩ := hS.lst x hxN
          have HX := hide hx
          have HAO := hide hao
          clear hx hao
          gi_wp2
          refine wpIn_region_any (by kernel_rfl) (anyIn_of_any (by rintro ⟨a, w, h⟩; exact h) (noDeferA (by kernel_rfl)) _ _ _ _ (wpAny_tq 17 rfl (by kernel_rfl) [some (.int .i64 pre.length), some (.slice ao j.N c), some (.int .i64 j.N), some (.bool false), some (.bool false), some (.int .i64 x), some (.int .i64 pre.length), some (.bool false), some (.bool false), some (.bool false), some (aggV (j.pl x).C), some (.slice ao j.N c), some (.int .i64 pre.length), some (.pointer (some ⟨g, x * 4, none⟩)), some (aggV (j.pl x).C), some (.bool false), some (.bool false)] rfl (by kernel_rfl) (by kernel_rfl) ?_ ?_))
          · intro i o hi hsk ho a' w2 hout hin hk2
            replace hk2 : Kept [] W w2 := ⟨hk2.os, hk2.tape, hk2.output, hk2.size, hk2.block⟩
            match i, ho, hsk with
            | 0, ho, hsk =>
              obtain rfl := Option.some.inj ho
              exact o_load3 (.tmp 8) rfl ⟨bn1, 0, none⟩ _ ((hout 8 (by kernel_rfl)).trans rfl) (fits_cell (hV.n.kept hk2 (by simp)) 0 _ rfl) ⟨_, rfl, tq_is _ _ _ _ rfl, Kept.refl _ _, fun _ _ _ _ _ => trivial⟩
            | 1, ho, hsk =>
              obtain rfl := Option.some.inj ho
              exact o_load25 (.tmp 6) rfl ⟨bw, 0, none⟩ _ ((hout 6 (by kernel_rfl)).trans rfl) (fits_cell (hS.v.kept hk2 (by simp)) 0 _ rfl) ⟨_, rfl, tq_is _ _ _ _ rfl, Kept.refl _ _, fun _ _ _ _ _ => trivial⟩
            | 2, ho, hsk =>
              obtain rfl := Option.some.inj ho
              have e0 : a'.eval (.tmp 25) = .slice ao j.N c := is_tq (hin 1 25 (by kernel_rfl) (by kernel_rfl)) rfl
              exact o_len25 25 rfl _ _ _ e0 ⟨_, rfl, tq_is _ _ _ _ rfl, Kept.refl _ _, fun _ _ _ _ _ => trivial⟩
            | 3, ho, hsk =>
              obtain rfl := Option.some.inj ho
              have e0 : a'.eval (.tmp 24) = .int .i64 pre.length := is_tq (hin 0 24 (by kernel_rfl) (by kernel_rfl)) rfl
              have e1 : a'.eval (.tmp 26) = .int .i64 j.N := is_tq (hin 2 26 (by kernel_rfl) (by kernel_rfl)) rfl
              exact o_geq3 (.tmp 24) (.tmp 26) rfl _ _ (by omega) e0 e1 ⟨_, rfl, tq_is _ _ _ _ rfl, Kept.refl _ _, fun _ _ _ _ _ => trivial⟩
            | 4, ho, hsk =>
              obtain rfl := Option.some.inj ho
              have e0 : a'.eval (.tmp 27) = .bool false := is_tq (hin 3 27 (by kernel_rfl) (by kernel_rfl)) rfl
              exact o_moveV (.tmp 27) _ rfl e0 ⟨_, rfl, tq_is _ _ _ _ rfl, Kept.refl _ _, fun _ _ _ _ _ => trivial⟩
            | 5, ho, hsk =>
              obtain rfl := Option.some.inj ho
              exact o_moveV (.tmp 9) _ rfl ((hout 9 (by kernel_rfl)).trans rfl) ⟨_, rfl, tq_is _ _ _ _ rfl, Kept.refl _ _, fun _ _ _ _ _ => trivial⟩
            | 6, ho, hsk =>
              obtain rfl := Option.some.inj ho
              exact o_load3 (.tmp 8) rfl ⟨bn1, 0, none⟩ _ ((hout 8 (by kernel_rfl)).trans rfl) (fits_cell (hV.n.kept hk2 (by simp)) 0 _ rfl) ⟨_, rfl, tq_is _ _ _ _ rfl, Kept.refl _ _, fun _ _ _ _ _ => trivial⟩
            | 7, ho, hsk =>
              obtain rfl := Option.some.inj ho
              have e0 : a'.eval (.tmp 29) = .int .i64 x := is_tq (hin 5 29 (by kernel_rfl) (by kernel_rfl)) rfl
              have e1 : a'.eval (.tmp 30) = .int .i64 pre.length := is_tq (hin 6 30 (by kernel_rfl) (by kernel_rfl)) rfl
              exact o_neq3 (.tmp 29) (.tmp 30) rfl _ e0 (e1.trans (by rw [unhide HX])) ⟨_, rfl, tq_is _ _ _ _ rfl, Kept.refl _ _, fun _ _ _ _ _ => trivial⟩
            | 8, ho, hsk =>
              obtain rfl := Option.some.inj ho
              have e0 : a'.eval (.tmp 28) = .bool false := is_tq (hin 4 28 (by kernel_rfl) (by kernel_rfl)) rfl
              have e1 : a'.eval (.tmp 31) = .bool false := is_tq (hin 7 31 (by kernel_rfl) (by kernel_rfl)) rfl
              exact o_pickOr (.tmp 28) (.tmp 31) rfl false e0 e1 ⟨_, rfl, tq_is _ _ _ _ rfl, Kept.refl _ _, fun _ _ _ _ _ => trivial⟩
            | 9, ho, hsk =>
              obtain rfl := Option.some.inj ho
              have e0 : a'.eval (.tmp 32) = .bool false := is_tq (hin 8 32 (by kernel_rfl) (by kernel_rfl)) rfl
              exact o_moveV (.tmp 32) _ rfl e0 ⟨_, rfl, tq_is _ _ _ _ rfl, Kept.refl _ _, fun _ _ _ _ _ => trivial⟩
            | 10, ho, hsk =>
              obtain rfl := Option.some.inj ho
              exact wp_loadA row37 (.tmp 10) rfl bx 0 ((hout 10 (by kernel_rfl)).trans rfl) (j.pl x).C rfl (hbx.kept hk2 (by simp)).range ⟨_, rfl, tq_is _ _ _ _ rfl, Kept.refl _ _, fun _ _ _ _ _ => trivial⟩
            | 11, ho, hsk =>
              obtain rfl := Option.some.inj ho
              exact o_load25 (.tmp 6) rfl ⟨bw, 0, none⟩ _ ((hout 6 (by kernel_rfl)).trans rfl) (fits_cell (hS.v.kept hk2 (by simp)) 0 _ rfl) ⟨_, rfl, tq_is _ _ _ _ rfl, Kept.refl _ _, fun _ _ _ _ _ => trivial⟩
            | 12, ho, hsk =>
              obtain rfl := Option.some.inj ho
              exact o_load3 (.tmp 8) rfl ⟨bn1, 0, none⟩ _ ((hout 8 (by kernel_rfl)).trans rfl) (fits_cell (hV.n.kept hk2 (by simp)) 0 _ rfl) ⟨_, rfl, tq_is _ _ _ _ rfl, Kept.refl _ _, fun _ _ _ _ _ => trivial⟩
            | 13, ho, hsk =>
              obtain rfl := Option.some.inj ho
              have e0 : a'.eval (.tmp 35) = .slice ao j.N c := is_tq (hin 11 35 (by kernel_rfl) (by kernel_rfl)) rfl
              have e1 : a'.eval (.tmp 36) = .int .i64 pre.length := is_tq (hin 12 36 (by kernel_rfl) (by kernel_rfl)) rfl
              exact o_idx25 (.tmp 35) (.tmp 36) rfl g j.N c x hxN (e0.trans (by rw [unhide HAO])) (e1.trans (by rw [unhide HX])) ⟨_, rfl, tq_is _ _ _ _ rfl, Kept.refl _ _, fun _ _ _ _ _ => trivial⟩
            | 14, ho, hsk =>
              obtain rfl := Option.some.inj ho
              have e0 : a'.eval (.tmp 37) = .pointer (some ⟨g, x * 4, none⟩) := is_tq (hin 13 37 (by kernel_rfl) (by kernel_rfl)) rfl
              exact wp_loadA row37 (.tmp 37) rfl g (x * 4) e0 (j.pl x).C rfl (fun i u hu => hk2.cell (hrg i u hu) (by simp)) ⟨_, rfl, tq_is _ _ _ _ rfl, Kept.refl _ _, fun _ _ _ _ _ => trivial⟩
            | 15, ho, hsk =>
              obtain rfl := Option.some.inj ho
              have e0 : a'.eval (.tmp 34) = aggV (j.pl x).C := is_tq (hin 10 34 (by kernel_rfl) (by kernel_rfl)) rfl
              have e1 : a'.eval (.tmp 38) = aggV (j.pl x).C := is_tq (hin 14 38 (by kernel_rfl) (by kernel_rfl)) rfl
              exact o_neq37 (.tmp 34) (.tmp 38) rfl (j.pl x) e0 e1 ⟨_, rfl, tq_is _ _ _ _ rfl, Kept.refl _ _, fun _ _ _ _ _ => trivial⟩
            | 16, ho, hsk =>
              obtain rfl := Option.some.inj ho
              have e0 : a'.eval (.tmp 33) = .bool false := is_tq (hin 9 33 (by kernel_rfl) (by kernel_rfl)) rfl
              have e1 : a'.eval (.tmp 39) = .bool false := is_tq (hin 15 39 (by kernel_rfl) (by kernel_rfl)) rfl
              exact o_pickOr (.tmp 33) (.tmp 39) rfl false e0 e1 ⟨_, rfl, tq_is _ _ _ _ rfl, Kept.refl _ _, fun _ _ _ _ _ => trivial⟩
          · intro w3 hk3
            replace hk3 : Kept [] W w3 := ⟨hk3.os, hk3.tape, hk3.output, hk3.size, hk3.block⟩
            simp only [valsQ, List.map_cons, List.map_nil, Option.getD_some, List.take_succ_cons, List.take_zero, putAll, Act.put, List.setIfInBounds_toArray, List.set_cons_succ, List.set_cons_zero]
            refine wpAny_done (by kernel_rfl) ?_ _
            have hS3 := hide (hS.kept hk3)
            have hV3 := hide (hV.kept hk3)
            have hK3 := hide hk3
            have c8 := fits_cell (unhide hV3).n 0 _ rfl
            have c7 := fits_cell (unhide hV3).t 0 _ rfl
            have c3 := fits_cell (unhide hS3).l 0 _ rfl
            clear hS hV hk3 hbx hrg
            gi_wp2_with (
              first
              | (refine inStore1 (.int .i64 pre.length) (.int .i64 ((pre.length : Int) + 1)) (fun w b u h => st3 w b u _ h) (fun _ => trivial) (by rfl) (.tmp 8) (.tmp 42) (by rfl) (by rfl) (by rfl) bn1 (by rfl) (by rfl) (unhide hV3).n ?_
                 intro W9 B9 e9
                 clear c7 c8 c3
                 have c8 := fits_cell B9 0 _ rfl
                 have c7 : W9.cell? ⟨bt1, 0, none⟩ = some (.int .i64 1) := by rw [e9]; exact fits_cell ((unhide hV3).t.set_other (by have := unhide HNE; omega) _) 0 _ rfl
                 have c3 : W9.cell? ⟨bl, 0, none⟩ = some (.int .i64 leave) := by rw [e9]; exact fits_cell ((unhide hS3).l.set_other (by have := unhide HNE; omega) _) 0 _ rfl
                 have HE := hide e9
                 clear e9 B9)
              | fail)
            have e9 := unhide HE
            have ne := unhide HNE
            have hS9 : AS w j leave bl bw br q ao c [D] W9 := by rw [e9]; exact (unhide hS3).set _ (unhide hV3).n ne.2.2.2.2.2.1 ⟨ne.1, ne.2.1, ne.2.2.1, ne.2.2.2.1⟩ ne.2.2.2.2.2.2
            have hn9 : Blk W9 bn1 3 [.int .i64 ((pre ++ [x]).length : Nat)] := by
              rw [e9, List.length_append]
              exact (unhide hV3).n.one _
            have ht9 : Blk W9 bt1 3 [.int .i64 1] := by rw [e9]; exact (unhide hV3).t.set_other (by omega) _
            have hl9 : ((pre ++ [x]).length : Int) = (pre.length : Int) + 1 := by simp
            have hkf : ∀ B, KeepsFrom B W W9 := fun B => by rw [e9]; exact keepsFrom_set (unhide hK3) (unhide hV3).n _
            have hr9 : pre ++ [x] = List.range (pre ++ [x]).length := by rw [List.length_append, List.length_singleton, range_succ', ← (unhide hV3).rng, unhide HX]
            exact ⟨hkf _, by rw [e9]; exact (KeptJ.of_kept (unhide hK3)).setCell (unhide hV3).n (by decide) _, hS9, ⟨hr9, hn9, ht9, fun h => by cases h⟩⟩
        · gi_wp2
          refine wpIn_region_any (by kernel_rfl) (anyIn_of_any (by rintro ⟨a, w, h⟩; exact h) (noDeferA (by kernel_rfl)) _ _ _ _ (wpAny_tq 17 rfl (by kernel_rfl) [some (.int .i64 pre.length), some (.slice ao j.N c), some (.int .i64 j.N), some (.bool false), some (.bool false), some (.int .i64 x), some (.int .i64 pre.length), some (.bool true), some (.bool true), some (.bool true), none, none, none, none, none, none, some (.bool true)] rfl (by kernel_rfl) (by kernel_rfl) ?_ ?_))
          · intro i o hi hsk ho a' w2 hout hin hk2
            replace hk2 : Kept [] W w2 := ⟨hk2.os, hk2.tape, hk2.output, hk2.size, hk2.block⟩
            match i, ho, hsk with
            | 0, ho, hsk =>
              obtain rfl := Option.some.inj ho
              exact o_load3 (.tmp 8) rfl ⟨bn1, 0, none⟩ _ ((hout 8 (by kernel_rfl)).trans rfl) (fits_cell (hV.n.kept hk2 (by simp)) 0 _ rfl) ⟨_, rfl, tq_is _ _ _ _ rfl, Kept.refl _ _, fun _ _ _ _ _ => trivial⟩
            | 1, ho, hsk =>
              obtain rfl := Option.some.inj ho
              exact o_load25 (.tmp 6) rfl ⟨bw, 0, none⟩ _ ((hout 6 (by kernel_rfl)).trans rfl) (fits_cell (hS.v.kept hk2 (by simp)) 0 _ rfl) ⟨_, rfl, tq_is _ _ _ _ rfl, Kept.refl _ _, fun _ _ _ _ _ => trivial⟩
            | 2, ho, hsk =>
              obtain rfl := Option.some.inj ho
              have e0 : a'.eval (.tmp 25) = .slice ao j.N c := is_tq (hin 1 25 (by kernel_rfl) (by kernel_rfl)) rfl
              exact o_len25 25 rfl _ _ _ e0 ⟨_, rfl, tq_is _ _ _ _ rfl, Kept.refl _ _, fun _ _ _ _ _ => trivial⟩
            | 3, ho, hsk =>
              obtain rfl := Option.some.inj ho
              have e0 : a'.eval (.tmp 24) = .int .i64 pre.length := is_tq (hin 0 24 (by kernel_rfl) (by kernel_rfl)) rfl
              have e1 : a'.eval (.tmp 26) = .int .i64 j.N := is_tq (hin 2 26 (by kernel_rfl) (by kernel_rfl)) rfl
              exact o_geq3 (.tmp 24) (.tmp 26) rfl _ _ (by omega) e0 e1 ⟨_, rfl, tq_is _ _ _ _ rfl, Kept.refl _ _, fun _ _ _ _ _ => trivial⟩
            | 4, ho, hsk =>
              obtain rfl := Option.some.inj ho
              have e0 : a'.eval (.tmp 27) = .bool false := is_tq (hin 3 27 (by kernel_rfl) (by kernel_rfl)) rfl
              exact o_moveV (.tmp 27) _ rfl e0 ⟨_, rfl, tq_is _ _ _ _ rfl, Kept.refl _ _, fun _ _ _ _ _ => trivial⟩
            | 5, ho, hsk =>
              obtain rfl := Option.some.inj ho
              exact o_moveV (.tmp 9) _ rfl ((hout 9 (by kernel_rfl)).trans rfl) ⟨_, rfl, tq_is _ _ _ _ rfl, Kept.refl _ _, fun _ _ _ _ _ => trivial⟩
            | 6, ho, hsk =>
              obtain rfl := Option.some.inj ho
              exact o_load3 (.tmp 8) rfl ⟨bn1, 0, none⟩ _ ((hout 8 (by kernel_rfl)).trans rfl) (fits_cell (hV.n.kept hk2 (by simp)) 0 _ rfl) ⟨_, rfl, tq_is _ _ _ _ rfl, Kept.refl _ _, fun _ _ _ _ _ => trivial⟩
            | 7, ho, hsk =>
              obtain rfl := Option.some.inj ho
              have e0 : a'.eval (.tmp 29) = .int .i64 x := is_tq (hin 5 29 (by kernel_rfl) (by kernel_rfl)) rfl
              have e1 : a'.eval (.tmp 30) = .int .i64 pre.length := is_tq (hin 6 30 (by kernel_rfl) (by kernel_rfl)) rfl
              exact o_neqT (.tmp 29) (.tmp 30) rfl _ _ (by omega) e0 e1 ⟨_, rfl, tq_is _ _ _ _ rfl, Kept.refl _ _, fun _ _ _ _ _ => trivial⟩
            | 8, ho, hsk =>
              obtain rfl := Option.some.inj ho
              have e0 : a'.eval (.tmp 28) = .bool false := is_tq (hin 4 28 (by kernel_rfl) (by kernel_rfl)) rfl
              have e1 : a'.eval (.tmp 31) = .bool true := is_tq (hin 7 31 (by kernel_rfl) (by kernel_rfl)) rfl
              exact o_pickOr (.tmp 28) (.tmp 31) rfl true e0 e1 ⟨_, rfl, tq_is _ _ _ _ rfl, Kept.refl _ _, fun _ _ _ _ _ => trivial⟩
            | 9, ho, hsk =>
              obtain rfl := Option.some.inj ho
              have e0 : a'.eval (.tmp 32) = .bool true := is_tq (hin 8 32 (by kernel_rfl) (by kernel_rfl)) rfl
              exact o_moveV (.tmp 32) _ rfl e0 ⟨_, rfl, tq_is _ _ _ _ rfl, Kept.refl _ _, fun _ _ _ _ _ => trivial⟩
            | 10, ho, hsk =>
              cases hsk
            | 11, ho, hsk =>
              cases hsk
            | 12, ho, hsk =>
              cases hsk
            | 13, ho, hsk =>
              cases hsk
            | 14, ho, hsk =>
              cases hsk
            | 15, ho, hsk =>
              cases hsk
            | 16, ho, hsk =>
              obtain rfl := Option.some.inj ho
              have e0 : a'.eval (.tmp 33) = .bool true := is_tq (hin 9 33 (by kernel_rfl) (by kernel_rfl)) rfl
              exact o_pickTrue (.tmp 33) (.tmp 39) rfl e0 ⟨_, rfl, tq_is _ _ _ _ rfl, Kept.refl _ _, fun _ _ _ _ _ => trivial⟩
          · intro w3 hk3
            replace hk3 : Kept [] W w3 := ⟨hk3.os, hk3.tape, hk3.output, hk3.size, hk3.block⟩
            simp only [valsQ, List.map_cons, List.map_nil, Option.getD_some, Option.getD_none, List.take_succ_cons, List.take_zero, putAll, Act.put, List.setIfInBounds_toArray, List.set_cons_succ, List.set_cons_zero]
            refine wpAny_done (by kernel_rfl) ?_ _
            have hS3 := hide (hS.kept hk3)
            have hK3 := hide hk3
            have hng : Hid (¬ pre ++ [x] = List.range (pre ++ [x]).length) := by
              intro e
              rw [List.length_append, List.length_singleton, range_succ'] at e
              have := List.append_inj_right' e rfl
              exact hx (by simpa using this)
            clear hS hV hk3 hbx
            gi_wp2_with (
              first
              | (refine inStore1 (.bool false) (.bool false) (fun w b u h => st4 w b u _ h) (fun _ => trivial) (by rfl) (.tmp 4) (.const (.bool false)) (by rfl) (by rfl) (by rfl) br (by rfl) (by rfl) (unhide hS3).r ?_
                 intro W9 B9 e9
                 have HE := hide e9
                 clear e9 B9)
              | fail)
            exact ⟨by rw [unhide HE]; exact keepsFrom_set (unhide hK3) (unhide hS3).r _, .inr ⟨rfl, unhide hng⟩⟩
      case done1 =>
        intro D2 n2 W hD2 hS hn ht hnN2 hor2 hK
        obtain rfl : n2 = j.N := by omega
        have c7 := fits_cell ht 0 _ rfl
        have c8 := fits_cell hn 0 _ rfl
        have c3 := fits_cell hS.l 0 _ rfl
        have c6 := fits_cell hS.v 0 _ rfl
        have hDw2 : w.heap.size ≤ D2 := by have := (unhide HAS3).k.size; omega
        have hDD : Hid (D ≠ D2) := by have := unhide HD1 D (by simp); show _ ≠ _; omega
        have HDw2 := hide hDw2
        have HAS0 := hide (hS.mark hDw2 hK)
        clear hK hS hn ht HAS3 HT3 HN1 HNE HLT HGE nt1 nn1 nbt1 hD2 HD1 hDw2
        gi_wp2_with (
          first
          | (refine inVar (.int .i64 0) (.int .i64 1) zero3 (fun w b u h => st3 w b u _ h) 7 (by rfl) wideF (by rfl) (by rfl) (by rfl) (.tmp 73) (by rfl) (by rfl) (fun _ => by rfl) (by rfl) (by rfl) (by rfl) ?_
             intro W10 bt2 et B10 K10
             have HT1 := hide B10
             have HAS1 := hide ((unhide HAS0).kept K10)
             have nt1 : Hid (W.heap.size = bt2) := by show _ = _; omega
             clear et K10 c3 c6 c7 c8
             have c7 := fits_cell B10 0 _ rfl
             clear B10)
          | (refine inStore1 (.int .i64 1) (.int .i64 2) (fun w b u h => st3 w b u _ h) wideF (by rfl) (.tmp 7) (.tmp 20) (by rfl) (by rfl) (by rfl) bt2 (by rfl) (by rfl) (unhide HT1) ?_
             intro W11 B11 e11
             have HT2 := hide B11
             have hlt1 := (unhide HAS0).lts
             have hge1 := (unhide HAS0).k.size
             have nt2 := unhide nt1
             have HAS2 : Hid (AS w j leave bl bw br q ao c [D2, D] W11) := by rw [e11]; exact (unhide HAS1).set _ (unhide HT1) (by omega) ⟨by omega, by omega, by omega, by omega⟩ (fun g e h => by have := hlt1.2.2.2.2.2 g e h; omega)
             clear HAS1 HT1 e11 B11 c7 hlt1 hge1 nt2))
        rw [roundsIn_succ]
        have c7 := fits_cell (unhide HT2) 0 _ rfl
        gi_wp2_with (
          first
          | (gi_at_call 14; refine (callsIn_wide.2 (known14 _)).mono ?_; rintro e W13 ⟨rfl, K13⟩
             have HAS4 := hide ((unhide HAS2).kept K13)
             clear K13)
          | (refine inStore1 (.bool false) (.bool true) (fun w b u h => st4 w b u _ h) wideF (by rfl) (.tmp 4) (.tmp 74) (by rfl) (by rfl) (by rfl) br (by rfl) (by rfl) (unhide HAS4).r ?_
             intro W14 B14 e14
             have HB14 := hide B14
             have HE14 := hide e14
             clear B14 e14))
        have hA := unhide HAS4
        have hE := unhide HE14
        have hD1 := hA.d D (by simp)
        have hD2 := hA.d D2 (by simp)
        have s1 : ∀ E : Nat, W13.heap[E]? = some (Obj.deferred (some [])) → W14.heap[E]? = some (Obj.deferred (some [])) := by
          intro E h
          have hne2 : E ≠ br := by intro e; subst e; rw [hA.r] at h; cases h
          rw [hE, Below.heap_setCell _ _ _ _ (by simpa using hne2)]; exact h
        exact all_leaves rfl (unhide HB14) (by rw [hE]; exact hA.k.setCell (p := ⟨br, 0, none⟩) (by have := hA.ge; simp; omega) _) (s1 _ hD2.2) (s1 _ hD1.2) (unhide hDD) hD2.1 hD1.1
      case exit1 =>
        intro a W h
        exact wpIn_exit h
  case exit =>
    intro a W h
    exact wpIn_exit h

end Go.Proofs.Ytcfoebpbbmnleaa
