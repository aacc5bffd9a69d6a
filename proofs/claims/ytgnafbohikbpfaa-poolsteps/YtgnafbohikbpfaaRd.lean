/-
  The document's pool: set.
-/
import Derived.Test.YtgnafbohikbpfaaRb
import Derived.Test.YtgnafbohikbpfaaRc
namespace Go.Proofs.Ytgnafbohikbpfaa
set_option maxRecDepth 100000
set_option linter.unusedSimpArgs false
open Go.RowKit


variable {w0 w W W' : World} {b g c mb : Nat} {P Q : Po} {L : List En} {pg : Int} {q k i : Nat}
theorem list96 (l : List Int) (h : l.length = 96) : ∃ f : Nat → Int, l = (List.range 96).map f := ⟨fun i => l.getD i 0, by
  apply List.ext_getElem
  · rw [List.length_map, List.length_range, h]
  · intro i h1 h2
    rw [List.getElem_map, List.getElem_range, List.getD_eq_getElem?_getD, List.getElem?_eq_getElem h1]
    rfl⟩
theorem build84f (w : World) (pg md op fi ps : Int) (f : Nat → Int) (hb : ((List.range 96).map f).length = 96) (wr : Bool) : (Instr.build 84 #[(0, .bool true), (1, aggV (Fr.C ⟨pg, md, op, fi, ps, (List.range 96).map f, hb, wr⟩)), (3, .bool true)]).run Try.prog w = .ok (aggV (.bool true :: Pl.C ⟨⟨pg, md, op, fi, ps, (List.range 96).map f, hb, wr⟩, 0, true⟩)) w := by kernel_rfl
theorem build84x (w : World) (x : Fr) : (Instr.build 84 #[(0, .bool true), (1, aggV x.C), (3, .bool true)]).run Try.prog w = .ok (aggV (.bool true :: Pl.C ⟨x, 0, true⟩)) w := by
  obtain ⟨f, hf⟩ := list96 x.bd x.hb
  cases x with
  | mk pg md op fi ps bd hb wr =>
    have hf2 : bd = (List.range 96).map f := hf
    subst hf2
    exact build84f w pg md op fi ps f hb wr
theorem assocV (A : List Value) (v : Value) (X : List Value) : A ++ v :: X = (A ++ [v]) ++ X := by simp
theorem plsD_fr {w : World} {b T : Nat} {S : Nat → Pl} {n : Nat} {post : List Value} {i : Nat} (h : Blk w b T (plsD S n ++ post)) (hi : i < n) (f : Fr) (hb : Pl.bz ⟨f, (S i).pn, (S i).us⟩ = (S i).bz) : Blk (w.setCells b (i * 105 + 1) f.C) b T (plsD (upd S i ⟨f, (S i).pn, (S i).us⟩) n ++ post) := by
  obtain ⟨p2, hp⟩ := plsD_split S i n hi
  have e := hp (S i)
  rw [upd_self] at e
  rw [e] at h
  rw [hp _]
  unfold Pl.D Pl.C at h ⊢
  rw [hb]
  simp only [List.append_assoc, List.cons_append] at h ⊢
  rw [assocV, ← List.append_assoc] at h ⊢
  exact h.part (by rw [List.length_append, plsD_len]; rfl) (by rw [Fr.len, Fr.len])
theorem bz_yes {x : Fr} (h : ¬ x.md = 0) (n : Nat) (u : Bool) : Pl.bz ⟨x, n, u⟩ = true := by unfold Pl.bz; rw [decide_eq_false h]; rfl
theorem Pl.D_yes {x : Fr} (h : ¬ x.md = 0) : Pl.D ⟨x, 0, true⟩ = .bool true :: Pl.C ⟨x, 0, true⟩ := by unfold Pl.D; rw [bz_yes h]
theorem rset_z (w : World) (x : Fr) : Calls Try.prog 28 #[.pointer none, aggV x.C] w fun e w' => e = .returned (.int .i64 1) ∧ Kept [] w w' := by
  obtain ⟨fc, hfc⟩ : ∃ c, c = x.C := ⟨_, rfl⟩
  rw [← hfc]
  clear hfc
  go_enter Try.func28, Try.ntmps28
  go_wp2_with (
    first
    | (refine wpBoxV rfl (.tmp 1) rfl fc rfl ?_
       intro W1 y e1 B1 K1
       have HK := hide K1
       clear e1 B1 K1
       refine Stp.go ?_))
  constructor
  go_wp2_with fail
  go_ret
  exact ⟨rfl, unhide HK⟩
theorem rset_bad (x : Fr) (h : Rg w b g c P) (hm : mayF x = false) : Calls Try.prog 28 #[P0 b, aggV x.C] w fun e w' => e = .returned (.int .i64 2) ∧ Kept [] w w' := by
  obtain ⟨post, hpo⟩ := h.row
  obtain ⟨fc, hfc⟩ : ∃ c, c = x.C := ⟨_, rfl⟩
  obtain ⟨c0, hc0⟩ : ∃ c, c = plsD P.S P.m ++ post := ⟨_, rfl⟩
  obtain ⟨bc, hbc⟩ : ∃ x, x = [Value.slice (some ⟨g, 0, none⟩) P.m c, .int .i64 (P.h : Int)] := ⟨_, rfl⟩
  have hm16 := h.ok.m
  have hcm := h.cm
  have HLF : Hid (fc.length = 102) := by show _ = _; rw [hfc, Fr.len]
  have HOF : Hid (∀ v ∈ fc, v.oneCell' = true) := by rw [hfc]; exact Fr.one _
  have HF0 : Hid (fc[0]? = some (.int .i64 x.pg)) := by rw [hfc]; rfl
  have HB0 : Hid (bc[0]? = some (.slice (some ⟨g, 0, none⟩) P.m c)) := by rw [hbc]; rfl
  have HL0 : Hid (P.m * 105 ≤ c0.length) := by show _ ≤ _; rw [hc0, List.length_append, plsD_len]; omega
  have P47 : Hid (∀ W, Calls Try.prog 47 #[aggV fc] W fun e w' => e = .returned (.bool false) ∧ Kept [] W w') := fun W => by have h9 := may47 x W; rw [hm] at h9; rw [hfc]; exact h9
  have M : Hid (Mm [b, g] w w [(b, 73, bc), (g, 84, c0)]) := Mm.two (by rw [hbc]; exact h.bk) (by rw [hc0]; exact hpo) h.ne
  have HK := hide (Kept.refl [] w)
  have P48 : Hid (∀ W, Kept [] w W → Calls Try.prog 48 #[P0 b, .int .i64 x.pg] W fun e w' => e = .returned (.int .i64 (P.rfnd x.pg)) ∧ w' = W) := fun W hk => by
    have h9 := find48 W (h.step hk (by simp) (by simp)) x.pg
    exact h9
  rw [← hfc]
  clear hfc hc0 hbc hpo h hm P48
  go_enter Try.func28, Try.ntmps28
  go_wp2_with (
    first
    | (refine wpBoxV rfl (.tmp 1) rfl fc rfl ?_
       intro W1 y e1 B1 K1
       have HYE : Hid (w.heap.size ≤ y) := by show _ ≤ _; omega
       replace M : Hid (Mm [b, g] w W1 [(b, 73, bc), (g, 84, c0), (y, 39, fc)]) := hide ((unhide M).new e1 B1 K1)
       replace HK := hide K1
       clear e1 B1 K1
       refine Stp.go ?_))
  constructor
  go_wp2_with (
    first
    | (refine wpLoadA row39 rfl (.tmp 3) rfl y 0 rfl fc (unhide HLF) ((unhide M).at 2 _ rfl).range ?_
       refine Stp.go ?_))
  constructor
  go_wp2_with (
    first
    | (go_at_call 47
       refine (unhide P47 _).mono ?_
       rintro e W2 ⟨rfl, K2⟩
       replace HK := hide ((unhide HK).trans K2)
       replace M : Hid (Mm [b, g] w W2 [(b, 73, bc), (g, 84, c0), (y, 39, fc)]) := hide ((unhide M).step K2)
       have cy : W2.cell? ⟨y, 0, none⟩ = some (.int .i64 x.pg) := fits_cell ((unhide M).at 2 _ rfl) 0 _ (unhide HF0)
       have cs : W2.cell? ⟨b, 0, none⟩ = some (.slice (some ⟨g, 0, none⟩) P.m c) := fits_cell ((unhide M).at 0 _ rfl) 0 _ (unhide HB0)
       clear P47 K2
       refine Stp.go ?_))
  constructor
  go_wp2_with fail
  go_ret
  exact ⟨rfl, unhide HK⟩
set_option maxHeartbeats 1000000 in
theorem rset_old (x : Fr) (h : Rg w b g c P) (hm : mayF x = true) (hf : P.find x.pg = some q) : Calls Try.prog 28 #[P0 b, aggV x.C] w fun e w' => e = .returned (.int .i64 0) ∧ Rg w' b g c (P.up q ⟨x, (P.S q).pn, true⟩) ∧ Kept [b, g] w w' := by
  obtain ⟨post, hpo⟩ := h.row
  obtain ⟨fc, hfc⟩ : ∃ c, c = x.C := ⟨_, rfl⟩
  obtain ⟨c0, hc0⟩ : ∃ c, c = plsD P.S P.m ++ post := ⟨_, rfl⟩
  obtain ⟨bc, hbc⟩ : ∃ x, x = [Value.slice (some ⟨g, 0, none⟩) P.m c, .int .i64 (P.h : Int)] := ⟨_, rfl⟩
  have hm16 := h.ok.m
  have hcm := h.cm
  have HLF : Hid (fc.length = 102) := by show _ = _; rw [hfc, Fr.len]
  have HOF : Hid (∀ v ∈ fc, v.oneCell' = true) := by rw [hfc]; exact Fr.one _
  have HF0 : Hid (fc[0]? = some (.int .i64 x.pg)) := by rw [hfc]; rfl
  have HB0 : Hid (bc[0]? = some (.slice (some ⟨g, 0, none⟩) P.m c)) := by rw [hbc]; rfl
  have HL0 : Hid (P.m * 105 ≤ c0.length) := by show _ ≤ _; rw [hc0, List.length_append, plsD_len]; omega
  have P47 : Hid (∀ W, Calls Try.prog 47 #[aggV fc] W fun e w' => e = .returned (.bool true) ∧ Kept [] W w') := fun W => by have h9 := may47 x W; rw [hm] at h9; rw [hfc]; exact h9
  have M : Hid (Mm [b, g] w w [(b, 73, bc), (g, 84, c0)]) := Mm.two (by rw [hbc]; exact h.bk) (by rw [hc0]; exact hpo) h.ne
  have HK := hide (Kept.refl [] w)
  have P48 : Hid (∀ W, Kept [] w W → Calls Try.prog 48 #[P0 b, .int .i64 x.pg] W fun e w' => e = .returned (.int .i64 (q : Int)) ∧ w' = W) := fun W hk => by
    have h9 := find48 W (h.step hk (by simp) (by simp)) x.pg
    rw [rfnd_some hf] at h9
    exact h9
  rw [← hfc]
  have hi := Po.find_some hf
  have hqm := hi.1.1
  have hbz := hi.1.2
  have hqI : (q : Int) < (P.m : Int) := by omega
  have hx : ¬ x.md = 0 := by have := (mayF_pg hm).2; omega
  have hg1 : decide ((q : Int) ≥ 0) = true := decide_eq_true (by omega)
  have hg2 : decide (0 ≤ (q : Int)) = true := decide_eq_true (by omega)
  obtain ⟨cc, hcc⟩ : ∃ cc : Bool → Bool → List Value, cc = fun d1 d2 => plsD (upd P.S q ⟨cond d1 x (P.S q).f, (P.S q).pn, cond d2 true (P.S q).us⟩) P.m ++ post := ⟨_, rfl⟩
  have HLC : Hid (∀ d1 d2, P.m * 105 ≤ (cc d1 d2).length) := fun d1 d2 => by rw [hcc]; show _ ≤ (_ ++ _ : List Value).length; rw [List.length_append, plsD_len]; omega
  have HC00 : Hid (c0 = cc false false) := by
    show _ = _
    rw [hcc, hc0]
    show _ = plsD (upd P.S q (P.S q)) P.m ++ post
    rw [upd_self]
  have HS39 : Hid (∀ d2 W, Blk W g 84 (cc false d2) → Blk (W.setCells g (q * 105 + 1) fc) g 84 (cc true d2)) := fun d2 W hB => by
    rw [hcc] at hB ⊢
    have h9 := plsD_fr hB hqm x (by rw [upd_same, bz_yes hx]; exact (bz_yes (x := (P.S q).f) hbz _ _).symm)
    rw [hfc]
    have e : upd (upd P.S q ⟨cond false x (P.S q).f, (P.S q).pn, cond d2 true (P.S q).us⟩) q ⟨x, (upd P.S q ⟨cond false x (P.S q).f, (P.S q).pn, cond d2 true (P.S q).us⟩ q).pn, (upd P.S q ⟨cond false x (P.S q).f, (P.S q).pn, cond d2 true (P.S q).us⟩ q).us⟩ = upd P.S q ⟨cond true x (P.S q).f, (P.S q).pn, cond d2 true (P.S q).us⟩ := by
      rw [upd_same]
      funext j
      show (if j = q then _ else (if j = q then _ else P.S j)) = (if j = q then _ else P.S j)
      split <;> rfl
    rw [e] at h9
    exact h9
  have HS4 : Hid (∀ d1, (cc d1 false).set (q * 105 + 104) (.bool true) = cc d1 true) := fun d1 => by
    rw [hcc]
    have h9 := plsD_set (upd P.S q ⟨cond d1 x (P.S q).f, (P.S q).pn, cond false true (P.S q).us⟩) P.m post q 104 hqm (by omega) (.bool true) ⟨cond d1 x (P.S q).f, (P.S q).pn, true⟩ (by rw [upd_same]; exact Pl.setD_us _ true)
    refine h9.trans ?_
    have e : upd (upd P.S q ⟨cond d1 x (P.S q).f, (P.S q).pn, cond false true (P.S q).us⟩) q ⟨cond d1 x (P.S q).f, (P.S q).pn, true⟩ = upd P.S q ⟨cond d1 x (P.S q).f, (P.S q).pn, cond true true (P.S q).us⟩ := by
      funext j
      show (if j = q then _ else (if j = q then _ else P.S j)) = (if j = q then _ else P.S j)
      split <;> rfl
    rw [e]
  have HC0 := hide hc0
  have HBC := hide hbc
  have HFC := hide hfc
  have HP := hide h
  have HMF := hide hm
  have HCC := hide hcc
  have HI := hide hi
  clear hfc hc0 hbc hcc hpo hm hf hi h hbz hx
  go_enter Try.func28, Try.ntmps28
  go_wp2_with (
    first
    | (refine wpBoxV rfl (.tmp 1) rfl fc rfl ?_
       intro W1 y e1 B1 K1
       have HYE : Hid (w.heap.size ≤ y) := by show _ ≤ _; omega
       replace M : Hid (Mm [b, g] w W1 [(b, 73, bc), (g, 84, c0), (y, 39, fc)]) := hide ((unhide M).new e1 B1 K1)
       replace HK := hide K1
       clear e1 B1 K1
       refine Stp.go ?_))
  constructor
  go_wp2_with (
    first
    | (refine wpLoadA row39 rfl (.tmp 3) rfl y 0 rfl fc (unhide HLF) ((unhide M).at 2 _ rfl).range ?_
       refine Stp.go ?_))
  constructor
  go_wp2_with (
    first
    | (go_at_call 47
       refine (unhide P47 _).mono ?_
       rintro e W2 ⟨rfl, K2⟩
       replace HK := hide ((unhide HK).trans K2)
       replace M : Hid (Mm [b, g] w W2 [(b, 73, bc), (g, 84, c0), (y, 39, fc)]) := hide ((unhide M).step K2)
       have cy : W2.cell? ⟨y, 0, none⟩ = some (.int .i64 x.pg) := fits_cell ((unhide M).at 2 _ rfl) 0 _ (unhide HF0)
       have cs : W2.cell? ⟨b, 0, none⟩ = some (.slice (some ⟨g, 0, none⟩) P.m c) := fits_cell ((unhide M).at 0 _ rfl) 0 _ (unhide HB0)
       clear P47 K2
       refine Stp.go ?_))
  constructor
  go_wp2_with (
    first
    | (go_at_call 48
       refine (unhide P48 _ (unhide HK)).mono ?_
       rintro e W9 ⟨rfl, q9⟩
       replace q9 := q9.symm
       subst q9
       clear P48
       refine Stp.go ?_))
  constructor
  go_wp2_with fail
  refine wp_region_any mixed (wpAny_gx 17 rfl (by kernel_rfl) [some (P0 b), some (P0 b), some (P0 b), some (.slice (some ⟨g, 0, none⟩) P.m c), some (.int .i64 q), some (P0 b), some (P0 b), some (P0 b), some (.slice (some ⟨g, 0, none⟩) P.m c), some (.int .i64 q), some (aggV fc), some (.pointer (some ⟨g, q * 105, none⟩)), some (.pointer (some ⟨g, q * 105 + 1, none⟩)), none, some (.pointer (some ⟨g, q * 105, none⟩)), some (.pointer (some ⟨g, q * 105 + 104, none⟩)), none] rfl (by kernel_rfl) (fun l vs W => (SD2 [b, g] w (fun d1 d2 => [(b, 73, bc), (g, 84, cc d1 d2), (y, 39, fc)]) 13 16) (fun i => l.getD i false) vs W) ((by have h9 := (unhide M).drew; rw [unhide HC00] at h9; exact h9)) ?_ ?_)
  · intro ix o' hi ho a' w2 l vs hls hlf hJ hout hin hdep hnot
    match ix, ho with
    | 0, ho =>
      obtain rfl := Option.some.inj ho
      have e0 := hout 0 (by kernel_rfl)
      replace e0 : a'.eval (.tmp 0) = _ := e0.trans rfl
      exact wp_move (.tmp 0) rfl _ e0 ⟨_, rfl, told_of rfl, keepG (St := (SD2 [b, g] w (fun d1 d2 => [(b, 73, bc), (g, 84, cc d1 d2), (y, 39, fc)]) 13 16)) [13, 16] SD2.loc (by omega) (by decide) hJ⟩
    | 1, ho =>
      obtain rfl := Option.some.inj ho
      have e0 : a'.eval (.tmp 17) = P0 b := by have h9 := hin 0 17 (by kernel_rfl) (by kernel_rfl); exact h9.1.trans (told_is _ h9.2 rfl)
      exact o_nil (.tmp 17) rfl _ e0 ⟨_, rfl, told_of rfl, keepG (St := (SD2 [b, g] w (fun d1 d2 => [(b, 73, bc), (g, 84, cc d1 d2), (y, 39, fc)]) 13 16)) [13, 16] SD2.loc (by omega) (by decide) hJ⟩
    | 2, ho =>
      obtain rfl := Option.some.inj ho
      have e0 : a'.eval (.tmp 18) = P0 b := by have h9 := hin 1 18 (by kernel_rfl) (by kernel_rfl); exact h9.1.trans (told_is _ h9.2 rfl)
      exact o_fld73_0 (.tmp 18) rfl b (0) (0) rfl e0 ⟨_, rfl, told_of rfl, keepG (St := (SD2 [b, g] w (fun d1 d2 => [(b, 73, bc), (g, 84, cc d1 d2), (y, 39, fc)]) 13 16)) [13, 16] SD2.loc (by omega) (by decide) hJ⟩
    | 3, ho =>
      obtain rfl := Option.some.inj ho
      have e0 : a'.eval (.tmp 19) = P0 b := by have h9 := hin 2 19 (by kernel_rfl) (by kernel_rfl); exact h9.1.trans (told_is _ h9.2 rfl)
      exact o_load71 (.tmp 19) rfl _ _ e0 (fits_cell (Mm.at hJ 0 _ rfl) 0 _ (unhide HB0)) ⟨_, rfl, told_of rfl, keepG (St := (SD2 [b, g] w (fun d1 d2 => [(b, 73, bc), (g, 84, cc d1 d2), (y, 39, fc)]) 13 16)) [13, 16] SD2.loc (by omega) (by decide) hJ⟩
    | 4, ho =>
      obtain rfl := Option.some.inj ho
      have e0 := hout 5 (by kernel_rfl)
      replace e0 : a'.eval (.tmp 5) = _ := e0.trans rfl
      exact wp_move (.tmp 5) rfl _ e0 ⟨_, rfl, told_of rfl, keepG (St := (SD2 [b, g] w (fun d1 d2 => [(b, 73, bc), (g, 84, cc d1 d2), (y, 39, fc)]) 13 16)) [13, 16] SD2.loc (by omega) (by decide) hJ⟩
    | 5, ho =>
      obtain rfl := Option.some.inj ho
      have e0 := hout 0 (by kernel_rfl)
      replace e0 : a'.eval (.tmp 0) = _ := e0.trans rfl
      exact wp_move (.tmp 0) rfl _ e0 ⟨_, rfl, told_of rfl, keepG (St := (SD2 [b, g] w (fun d1 d2 => [(b, 73, bc), (g, 84, cc d1 d2), (y, 39, fc)]) 13 16)) [13, 16] SD2.loc (by omega) (by decide) hJ⟩
    | 6, ho =>
      obtain rfl := Option.some.inj ho
      have e0 : a'.eval (.tmp 22) = P0 b := by have h9 := hin 5 22 (by kernel_rfl) (by kernel_rfl); exact h9.1.trans (told_is _ h9.2 rfl)
      exact o_nil (.tmp 22) rfl _ e0 ⟨_, rfl, told_of rfl, keepG (St := (SD2 [b, g] w (fun d1 d2 => [(b, 73, bc), (g, 84, cc d1 d2), (y, 39, fc)]) 13 16)) [13, 16] SD2.loc (by omega) (by decide) hJ⟩
    | 7, ho =>
      obtain rfl := Option.some.inj ho
      have e0 : a'.eval (.tmp 23) = P0 b := by have h9 := hin 6 23 (by kernel_rfl) (by kernel_rfl); exact h9.1.trans (told_is _ h9.2 rfl)
      exact o_fld73_0 (.tmp 23) rfl b (0) (0) rfl e0 ⟨_, rfl, told_of rfl, keepG (St := (SD2 [b, g] w (fun d1 d2 => [(b, 73, bc), (g, 84, cc d1 d2), (y, 39, fc)]) 13 16)) [13, 16] SD2.loc (by omega) (by decide) hJ⟩
    | 8, ho =>
      obtain rfl := Option.some.inj ho
      have e0 : a'.eval (.tmp 24) = P0 b := by have h9 := hin 7 24 (by kernel_rfl) (by kernel_rfl); exact h9.1.trans (told_is _ h9.2 rfl)
      exact o_load71 (.tmp 24) rfl _ _ e0 (fits_cell (Mm.at hJ 0 _ rfl) 0 _ (unhide HB0)) ⟨_, rfl, told_of rfl, keepG (St := (SD2 [b, g] w (fun d1 d2 => [(b, 73, bc), (g, 84, cc d1 d2), (y, 39, fc)]) 13 16)) [13, 16] SD2.loc (by omega) (by decide) hJ⟩
    | 9, ho =>
      obtain rfl := Option.some.inj ho
      have e0 := hout 5 (by kernel_rfl)
      replace e0 : a'.eval (.tmp 5) = _ := e0.trans rfl
      exact wp_move (.tmp 5) rfl _ e0 ⟨_, rfl, told_of rfl, keepG (St := (SD2 [b, g] w (fun d1 d2 => [(b, 73, bc), (g, 84, cc d1 d2), (y, 39, fc)]) 13 16)) [13, 16] SD2.loc (by omega) (by decide) hJ⟩
    | 10, ho =>
      obtain rfl := Option.some.inj ho
      have e0 := hout 3 (by kernel_rfl)
      replace e0 : a'.eval (.tmp 3) = _ := e0.trans rfl
      exact wp_loadA row39 (.tmp 3) rfl y (0) e0 (fc) (unhide HLF) ((Mm.at hJ 2 _ rfl).range) ⟨_, rfl, told_of rfl, keepG (St := (SD2 [b, g] w (fun d1 d2 => [(b, 73, bc), (g, 84, cc d1 d2), (y, 39, fc)]) 13 16)) [13, 16] SD2.loc (by omega) (by decide) hJ⟩
    | 11, ho =>
      obtain rfl := Option.some.inj ho
      have e0 : a'.eval (.tmp 20) = .slice (some ⟨g, 0, none⟩) P.m c := by have h9 := hin 3 20 (by kernel_rfl) (by kernel_rfl); exact h9.1.trans (told_is _ h9.2 rfl)
      have e1 : a'.eval (.tmp 21) = .int .i64 q := by have h9 := hin 4 21 (by kernel_rfl) (by kernel_rfl); exact h9.1.trans (told_is _ h9.2 rfl)
      exact o_idx71 (.tmp 20) (.tmp 21) rfl g P.m c q (q * 105) (by omega) rfl e0 e1 ⟨_, rfl, told_of rfl, keepG (St := (SD2 [b, g] w (fun d1 d2 => [(b, 73, bc), (g, 84, cc d1 d2), (y, 39, fc)]) 13 16)) [13, 16] SD2.loc (by omega) (by decide) hJ⟩
    | 12, ho =>
      obtain rfl := Option.some.inj ho
      have e0 : a'.eval (.tmp 28) = .pointer (some ⟨g, q * 105, none⟩) := by have h9 := hin 11 28 (by kernel_rfl) (by kernel_rfl); exact h9.1.trans (told_is _ h9.2 rfl)
      exact o_fld84_1 (.tmp 28) rfl g (q * 105) (q * 105 + 1) rfl e0 ⟨_, rfl, told_of rfl, keepG (St := (SD2 [b, g] w (fun d1 d2 => [(b, 73, bc), (g, 84, cc d1 d2), (y, 39, fc)]) 13 16)) [13, 16] SD2.loc (by omega) (by decide) hJ⟩
    | 13, ho =>
      obtain rfl := Option.some.inj ho
      have e0 : a'.eval (.tmp 29) = .pointer (some ⟨g, q * 105 + 1, none⟩) := by have h9 := hin 12 29 (by kernel_rfl) (by kernel_rfl); exact h9.1.trans (told_is _ h9.2 rfl)
      have e1 : a'.eval (.tmp 27) = aggV fc := by have h9 := hin 10 27 (by kernel_rfl) (by kernel_rfl); exact h9.1.trans (told_is _ h9.2 rfl)
      exact o_stN row39 (.tmp 29) (.tmp 27) rfl rfl g (q * 105 + 1) 1 fc e0 e1 (unhide HLF) (unhide HOF) (SD2.no hJ hlf) rfl (by have h9 := unhide HLC false; have := h9 (l.getD 16 false); omega) (unhide HS39 _) (fun W hM => ⟨undef, rfl, told_no rfl, nextG (St := (SD2 [b, g] w (fun d1 d2 => [(b, 73, bc), (g, 84, cc d1 d2), (y, 39, fc)]) 13 16)) (by omega) hM⟩)
    | 14, ho =>
      obtain rfl := Option.some.inj ho
      have e0 : a'.eval (.tmp 25) = .slice (some ⟨g, 0, none⟩) P.m c := by have h9 := hin 8 25 (by kernel_rfl) (by kernel_rfl); exact h9.1.trans (told_is _ h9.2 rfl)
      have e1 : a'.eval (.tmp 26) = .int .i64 q := by have h9 := hin 9 26 (by kernel_rfl) (by kernel_rfl); exact h9.1.trans (told_is _ h9.2 rfl)
      exact o_idx71 (.tmp 25) (.tmp 26) rfl g P.m c q (q * 105) (by omega) rfl e0 e1 ⟨_, rfl, told_of rfl, keepG (St := (SD2 [b, g] w (fun d1 d2 => [(b, 73, bc), (g, 84, cc d1 d2), (y, 39, fc)]) 13 16)) [13, 16] SD2.loc (by omega) (by decide) hJ⟩
    | 15, ho =>
      obtain rfl := Option.some.inj ho
      have e0 : a'.eval (.tmp 30) = .pointer (some ⟨g, q * 105, none⟩) := by have h9 := hin 14 30 (by kernel_rfl) (by kernel_rfl); exact h9.1.trans (told_is _ h9.2 rfl)
      exact o_fld84_3 (.tmp 30) rfl g (q * 105) (q * 105 + 104) rfl e0 ⟨_, rfl, told_of rfl, keepG (St := (SD2 [b, g] w (fun d1 d2 => [(b, 73, bc), (g, 84, cc d1 d2), (y, 39, fc)]) 13 16)) [13, 16] SD2.loc (by omega) (by decide) hJ⟩
    | 16, ho =>
      obtain rfl := Option.some.inj ho
      have e0 : a'.eval (.tmp 31) = .pointer (some ⟨g, q * 105 + 104, none⟩) := by have h9 := hin 15 31 (by kernel_rfl) (by kernel_rfl); exact h9.1.trans (told_is _ h9.2 rfl)
      exact o_st1 size4 (.tmp 31) (.const (.bool true)) rfl rfl g (q * 105 + 104) 1 (.bool true) ⟨rfl, rfl⟩ e0 rfl (SD2.no2 hJ hlf) rfl (by have h9 := unhide HLC; have := h9 (l.getD 13 false) false; omega) (unhide HS4 _) (fun W hM => ⟨undef, rfl, told_no rfl, nextG (St := (SD2 [b, g] w (fun d1 d2 => [(b, 73, bc), (g, 84, cc d1 d2), (y, 39, fc)]) 13 16)) (by omega) hM⟩)
  intro l_ vs4 V4 hl hJ htold
  have t0 : vs4 0 = P0 b := told_is _ (htold 0 (by decide)) rfl
  have t1 : vs4 1 = P0 b := told_is _ (htold 1 (by decide)) rfl
  have t2 : vs4 2 = P0 b := told_is _ (htold 2 (by decide)) rfl
  have t3 : vs4 3 = .slice (some ⟨g, 0, none⟩) P.m c := told_is _ (htold 3 (by decide)) rfl
  have t4 : vs4 4 = .int .i64 q := told_is _ (htold 4 (by decide)) rfl
  have t5 : vs4 5 = P0 b := told_is _ (htold 5 (by decide)) rfl
  have t6 : vs4 6 = P0 b := told_is _ (htold 6 (by decide)) rfl
  have t7 : vs4 7 = P0 b := told_is _ (htold 7 (by decide)) rfl
  have t8 : vs4 8 = .slice (some ⟨g, 0, none⟩) P.m c := told_is _ (htold 8 (by decide)) rfl
  have t9 : vs4 9 = .int .i64 q := told_is _ (htold 9 (by decide)) rfl
  have t10 : vs4 10 = aggV fc := told_is _ (htold 10 (by decide)) rfl
  have t11 : vs4 11 = .pointer (some ⟨g, q * 105, none⟩) := told_is _ (htold 11 (by decide)) rfl
  have t12 : vs4 12 = .pointer (some ⟨g, q * 105 + 1, none⟩) := told_is _ (htold 12 (by decide)) rfl
  have t14 : vs4 14 = .pointer (some ⟨g, q * 105, none⟩) := told_is _ (htold 14 (by decide)) rfl
  have t15 : vs4 15 = .pointer (some ⟨g, q * 105 + 104, none⟩) := told_is _ (htold 15 (by decide)) rfl
  rw [show (List.range 17).map vs4 = [vs4 0, vs4 1, vs4 2, vs4 3, vs4 4, vs4 5, vs4 6, vs4 7, vs4 8, vs4 9, vs4 10, vs4 11, vs4 12, vs4 13, vs4 14, vs4 15, vs4 16] from rfl]
  simp only [t0, t1, t2, t3, t4, t5, t6, t7, t8, t9, t10, t11, t12, t14, t15, putAll, Act.put, List.setIfInBounds_toArray, List.set_cons_succ, List.set_cons_zero]
  clear t0 t1 t2 t3 t4 t5 t6 t7 t8 t9 t10 t11 t12 t14 t15 htold
  have hM4 : Mm [b, g] w V4 ([(b, 73, bc), (g, 84, cc true true), (y, 39, fc)]) := SD2.yes hJ (hl 13 (by decide)) (hl 16 (by decide))
  replace M : Hid (Mm [b, g] w V4 [(b, 73, bc), (g, 84, cc true true), (y, 39, fc)]) := hide hM4
  clear hM4 hJ hl
  have kk := (unhide M).kept
  have h9 : Rg V4 b g c (P.up q ⟨x, (P.S q).pn, true⟩) := (unhide HP).upx ((unhide M).at 0 _ rfl) (unhide HBC) ((unhide M).at 1 _ rfl) (by rw [unhide HCC]; rfl) (Po.up_okN (unhide HP).ok (unhide HI).1.1 (unhide HMF) (fun j hj e => (unhide HP).ok.un j q hj (unhide HI).1 (by rw [e, (unhide HI).2])))
  go_wp2_with fail
  go_ret
  exact ⟨rfl, h9, kk⟩
theorem bz_yes' {x : Pl} (h : ¬ x.f.md = 0) : x.bz = true := by unfold Pl.bz; rw [decide_eq_false h]; rfl
theorem bz_no' {x : Pl} (h : x.f.md = 0) : x.bz = false := by unfold Pl.bz; rw [decide_eq_true h]; rfl
set_option maxHeartbeats 1000000 in
theorem rset_full (x : Fr) (h : Rg w b g c P) (hm : mayF x = true) (hf : P.find x.pg = none) (hq : lowTo P.S P.m = q) (hqm : q = P.m) : Calls Try.prog 28 #[P0 b, aggV x.C] w fun e w' => e = .returned (.int .i64 5) ∧ Kept [] w w' := by
  obtain ⟨post, hpo⟩ := h.row
  obtain ⟨fc, hfc⟩ : ∃ c, c = x.C := ⟨_, rfl⟩
  obtain ⟨c0, hc0⟩ : ∃ c, c = plsD P.S P.m ++ post := ⟨_, rfl⟩
  obtain ⟨bc, hbc⟩ : ∃ x, x = [Value.slice (some ⟨g, 0, none⟩) P.m c, .int .i64 (P.h : Int)] := ⟨_, rfl⟩
  have hm16 := h.ok.m
  have hcm := h.cm
  have HLF : Hid (fc.length = 102) := by show _ = _; rw [hfc, Fr.len]
  have HOF : Hid (∀ v ∈ fc, v.oneCell' = true) := by rw [hfc]; exact Fr.one _
  have HF0 : Hid (fc[0]? = some (.int .i64 x.pg)) := by rw [hfc]; rfl
  have HB0 : Hid (bc[0]? = some (.slice (some ⟨g, 0, none⟩) P.m c)) := by rw [hbc]; rfl
  have HL0 : Hid (P.m * 105 ≤ c0.length) := by show _ ≤ _; rw [hc0, List.length_append, plsD_len]; omega
  have P47 : Hid (∀ W, Calls Try.prog 47 #[aggV fc] W fun e w' => e = .returned (.bool true) ∧ Kept [] W w') := fun W => by have h9 := may47 x W; rw [hm] at h9; rw [hfc]; exact h9
  have M : Hid (Mm [b, g] w w [(b, 73, bc), (g, 84, c0)]) := Mm.two (by rw [hbc]; exact h.bk) (by rw [hc0]; exact hpo) h.ne
  have HK := hide (Kept.refl [] w)
  have P48 : Hid (∀ W, Kept [] w W → Calls Try.prog 48 #[P0 b, .int .i64 x.pg] W fun e w' => e = .returned (.int .i64 (-1)) ∧ w' = W) := fun W hk => by
    have h9 := find48 W (h.step hk (by simp) (by simp)) x.pg
    rw [rfnd_none hf] at h9
    exact h9
  rw [← hfc]
  have hls := lowTo_spec P.S P.m
  rw [hq] at hls
  have HLT : Hid (∀ k, k < q → ¬ (P.S k).f.md = 0) := hls.2.1
  have HCI : Hid (∀ k, k < P.m → c0[k * 105]? = some (.bool (P.S k).bz)) := fun k hk => by rw [hc0]; have h9 := plsD_at P.S P.m post k 0 hk (by omega); rw [Nat.add_zero] at h9; rw [h9]; rfl
  clear hfc hc0 hbc hpo hm hf h hls hq
  go_enter Try.func28, Try.ntmps28
  go_wp2_with (
    first
    | (refine wpBoxV rfl (.tmp 1) rfl fc rfl ?_
       intro W1 y e1 B1 K1
       have HYE : Hid (w.heap.size ≤ y) := by show _ ≤ _; omega
       replace M : Hid (Mm [b, g] w W1 [(b, 73, bc), (g, 84, c0), (y, 39, fc)]) := hide ((unhide M).new e1 B1 K1)
       replace HK := hide K1
       clear e1 B1 K1
       refine Stp.go ?_))
  constructor
  go_wp2_with (
    first
    | (refine wpLoadA row39 rfl (.tmp 3) rfl y 0 rfl fc (unhide HLF) ((unhide M).at 2 _ rfl).range ?_
       refine Stp.go ?_))
  constructor
  go_wp2_with (
    first
    | (go_at_call 47
       refine (unhide P47 _).mono ?_
       rintro e W2 ⟨rfl, K2⟩
       replace HK := hide ((unhide HK).trans K2)
       replace M : Hid (Mm [b, g] w W2 [(b, 73, bc), (g, 84, c0), (y, 39, fc)]) := hide ((unhide M).step K2)
       have cy : W2.cell? ⟨y, 0, none⟩ = some (.int .i64 x.pg) := fits_cell ((unhide M).at 2 _ rfl) 0 _ (unhide HF0)
       have cs : W2.cell? ⟨b, 0, none⟩ = some (.slice (some ⟨g, 0, none⟩) P.m c) := fits_cell ((unhide M).at 0 _ rfl) 0 _ (unhide HB0)
       clear P47 K2
       refine Stp.go ?_))
  constructor
  go_wp2_with (
    first
    | (go_at_call 48
       refine (unhide P48 _ (unhide HK)).mono ?_
       rintro e W9 ⟨rfl, q9⟩
       replace q9 := q9.symm
       subst q9
       clear P48
       refine Stp.go ?_))
  constructor
  go_wp2_with fail
  go_loopw [5] (fun xi wr => ∃ k : Nat, k ≤ q ∧ xi = .int .i64 k ∧ wr = W2) (fun xi _ => q + 1 - (intOf xi).toNat)
  case atStart => exact ⟨0, by omega, rfl, rfl⟩
  case round =>
    obtain ⟨k, hk, rfl, rfl⟩ := hrel
    by_cases hlt : k < q
    · have hkm : k < P.m := by omega
      have hkI : (k : Int) < (P.m : Int) := by omega
      have hd : decide ((k : Int) < (P.m : Int)) = true := decide_eq_true hkI
      have cis := fits_cell ((unhide M).at 1 _ rfl) (k * 105) _ (unhide HCI k hkm)
      rw [bz_yes' (unhide HLT k hlt)] at cis
      clear hkm
      go_wp2_with fail
      go_roundw
      case rel => exact ⟨k + 1, by omega, by go_num, by trivial⟩
      case measure => simp [intOf]; omega
    · obtain rfl : k = q := by omega
      subst hqm
      have hd : decide ((P.m : Int) < (P.m : Int)) = false := by simp
      go_wp2_with fail
      go_ret
      exact ⟨rfl, unhide HK⟩
set_option maxHeartbeats 1000000 in
theorem rset_new (x : Fr) (h : Rg w b g c P) (hm : mayF x = true) (hf : P.find x.pg = none) (hq : lowTo P.S P.m = q) (hqm : q < P.m) : Calls Try.prog 28 #[P0 b, aggV x.C] w fun e w' => e = .returned (.int .i64 0) ∧ Rg w' b g c (P.up q ⟨x, (P.S q).pn, true⟩) ∧ Kept [b, g] w w' := by
  obtain ⟨post, hpo⟩ := h.row
  obtain ⟨fc, hfc⟩ : ∃ c, c = x.C := ⟨_, rfl⟩
  obtain ⟨c0, hc0⟩ : ∃ c, c = plsD P.S P.m ++ post := ⟨_, rfl⟩
  obtain ⟨bc, hbc⟩ : ∃ x, x = [Value.slice (some ⟨g, 0, none⟩) P.m c, .int .i64 (P.h : Int)] := ⟨_, rfl⟩
  have hm16 := h.ok.m
  have hcm := h.cm
  have HLF : Hid (fc.length = 102) := by show _ = _; rw [hfc, Fr.len]
  have HOF : Hid (∀ v ∈ fc, v.oneCell' = true) := by rw [hfc]; exact Fr.one _
  have HF0 : Hid (fc[0]? = some (.int .i64 x.pg)) := by rw [hfc]; rfl
  have HB0 : Hid (bc[0]? = some (.slice (some ⟨g, 0, none⟩) P.m c)) := by rw [hbc]; rfl
  have HL0 : Hid (P.m * 105 ≤ c0.length) := by show _ ≤ _; rw [hc0, List.length_append, plsD_len]; omega
  have P47 : Hid (∀ W, Calls Try.prog 47 #[aggV fc] W fun e w' => e = .returned (.bool true) ∧ Kept [] W w') := fun W => by have h9 := may47 x W; rw [hm] at h9; rw [hfc]; exact h9
  have M : Hid (Mm [b, g] w w [(b, 73, bc), (g, 84, c0)]) := Mm.two (by rw [hbc]; exact h.bk) (by rw [hc0]; exact hpo) h.ne
  have HK := hide (Kept.refl [] w)
  have P48 : Hid (∀ W, Kept [] w W → Calls Try.prog 48 #[P0 b, .int .i64 x.pg] W fun e w' => e = .returned (.int .i64 (-1)) ∧ w' = W) := fun W hk => by
    have h9 := find48 W (h.step hk (by simp) (by simp)) x.pg
    rw [rfnd_none hf] at h9
    exact h9
  rw [← hfc]
  have hls := lowTo_spec P.S P.m
  rw [hq] at hls
  have HLT : Hid (∀ k, k < q → ¬ (P.S k).f.md = 0) := hls.2.1
  have HCI : Hid (∀ k, k < P.m → c0[k * 105]? = some (.bool (P.S k).bz)) := fun k hk => by rw [hc0]; have h9 := plsD_at P.S P.m post k 0 hk (by omega); rw [Nat.add_zero] at h9; rw [h9]; rfl
  have hx : ¬ x.md = 0 := by have := (mayF_pg hm).2; omega
  have hz : (P.S q).f.md = 0 := hls.2.2 hqm
  have hqI : (q : Int) < (P.m : Int) := by omega
  obtain ⟨pc, hpc⟩ : ∃ p, p = Value.bool true :: Pl.C ⟨x, 0, true⟩ := ⟨_, rfl⟩
  have hpd : pc = Pl.D ⟨x, 0, true⟩ := by rw [hpc, Pl.D_yes hx]
  have HB84 : Hid (∀ w : World, (Instr.build 84 #[(0, .bool true), (1, aggV fc), (3, .bool true)]).run Try.prog w = .ok (aggV pc) w) := fun w => by rw [hfc, hpc]; exact build84x w x
  have HPL : Hid (pc.length = 105 ∧ ∀ v ∈ pc, v.oneCell' = true) := by rw [hpd]; exact ⟨Pl.lenD _, Pl.oneD _⟩
  have hpx : (⟨x, (P.S q).pn, true⟩ : Pl) = ⟨x, 0, true⟩ := by rw [h.ok.fr q hz]; rfl
  obtain ⟨c1, hc1⟩ : ∃ c, c = plsD (P.up q ⟨x, (P.S q).pn, true⟩).S P.m ++ post := ⟨_, rfl⟩
  have HSP : Hid (∀ W, Blk W g 84 (cond false c1 c0) → Blk (W.setCells g (q * 105) pc) g 84 (cond true c1 c0)) := fun W hB => by
    have hB2 : Blk W g 84 c0 := hB
    rw [hc0] at hB2
    show Blk _ g 84 c1
    rw [hc1, hpx, hpd]
    exact plsD_put hB2 hqm _
  have HZ := hide hz
  have HQM := hide hqm
  have HNF := hide hf
  have HC1 := hide hc1
  have HC0 := hide hc0
  have HBC := hide hbc
  have HFC := hide hfc
  have HP := hide h
  have HMF := hide hm
  clear hfc hc0 hbc hpo hm hf h hls hq hpc hpd hpx hc1 hx hz hqm
  go_enter Try.func28, Try.ntmps28
  go_wp2_with (
    first
    | (refine wpBoxV rfl (.tmp 1) rfl fc rfl ?_
       intro W1 y e1 B1 K1
       have HYE : Hid (w.heap.size ≤ y) := by show _ ≤ _; omega
       replace M : Hid (Mm [b, g] w W1 [(b, 73, bc), (g, 84, c0), (y, 39, fc)]) := hide ((unhide M).new e1 B1 K1)
       replace HK := hide K1
       clear e1 B1 K1
       refine Stp.go ?_))
  constructor
  go_wp2_with (
    first
    | (refine wpLoadA row39 rfl (.tmp 3) rfl y 0 rfl fc (unhide HLF) ((unhide M).at 2 _ rfl).range ?_
       refine Stp.go ?_))
  constructor
  go_wp2_with (
    first
    | (go_at_call 47
       refine (unhide P47 _).mono ?_
       rintro e W2 ⟨rfl, K2⟩
       replace HK := hide ((unhide HK).trans K2)
       replace M : Hid (Mm [b, g] w W2 [(b, 73, bc), (g, 84, c0), (y, 39, fc)]) := hide ((unhide M).step K2)
       have cy : W2.cell? ⟨y, 0, none⟩ = some (.int .i64 x.pg) := fits_cell ((unhide M).at 2 _ rfl) 0 _ (unhide HF0)
       have cs : W2.cell? ⟨b, 0, none⟩ = some (.slice (some ⟨g, 0, none⟩) P.m c) := fits_cell ((unhide M).at 0 _ rfl) 0 _ (unhide HB0)
       clear P47 K2
       refine Stp.go ?_))
  constructor
  go_wp2_with (
    first
    | (go_at_call 48
       refine (unhide P48 _ (unhide HK)).mono ?_
       rintro e W9 ⟨rfl, q9⟩
       replace q9 := q9.symm
       subst q9
       clear P48
       refine Stp.go ?_))
  constructor
  go_wp2_with fail
  go_loopw [5] (fun xi wr => ∃ k : Nat, k ≤ q ∧ xi = .int .i64 k ∧ wr = W2) (fun xi _ => q + 1 - (intOf xi).toNat)
  case atStart => exact ⟨0, by omega, rfl, rfl⟩
  case round =>
    obtain ⟨k, hk, rfl, rfl⟩ := hrel
    by_cases hlt : k < q
    · have hkm : k < P.m := by have := unhide HQM; omega
      have hkI : (k : Int) < (P.m : Int) := by omega
      have hd : decide ((k : Int) < (P.m : Int)) = true := decide_eq_true hkI
      have cis := fits_cell ((unhide M).at 1 _ rfl) (k * 105) _ (unhide HCI k hkm)
      rw [bz_yes' (unhide HLT k hlt)] at cis
      clear hkm
      go_wp2_with fail
      go_roundw
      case rel => exact ⟨k + 1, by omega, by go_num, by trivial⟩
      case measure => simp [intOf]; omega
    · obtain rfl : k = q := by omega
      have hd : decide ((k : Int) < (P.m : Int)) = true := decide_eq_true hqI
      have cis := fits_cell ((unhide M).at 1 _ rfl) (k * 105) _ (unhide HCI k (unhide HQM))
      rw [bz_no' (unhide HZ)] at cis
      go_wp2_with fail
      clear cis
      refine wp_region_any mixed (wpAny_gx 9 rfl (by kernel_rfl) [some (P0 b), some (P0 b), some (P0 b), some (.slice (some ⟨g, 0, none⟩) P.m c), some (.int .i64 k), some (aggV fc), some (aggV pc), some (.pointer (some ⟨g, k * 105, none⟩)), none] rfl (by kernel_rfl) (fun l vs W => (SD1 [b, g] w (fun d1 => [(b, 73, bc), (g, 84, cond d1 c1 c0), (y, 39, fc)]) 8) (fun i => l.getD i false) vs W) ((unhide M).drew) ?_ ?_)
      · intro ix o' hi ho a' w2 l vs hls hlf hJ hout hin hdep hnot
        match ix, ho with
        | 0, ho =>
          obtain rfl := Option.some.inj ho
          have e0 := hout 0 (by kernel_rfl)
          replace e0 : a'.eval (.tmp 0) = _ := e0.trans rfl
          exact wp_move (.tmp 0) rfl _ e0 ⟨_, rfl, told_of rfl, keepG (St := (SD1 [b, g] w (fun d1 => [(b, 73, bc), (g, 84, cond d1 c1 c0), (y, 39, fc)]) 8)) [8] SD1.loc (by omega) (by decide) hJ⟩
        | 1, ho =>
          obtain rfl := Option.some.inj ho
          have e0 : a'.eval (.tmp 50) = P0 b := by have h9 := hin 0 50 (by kernel_rfl) (by kernel_rfl); exact h9.1.trans (told_is _ h9.2 rfl)
          exact o_nil (.tmp 50) rfl _ e0 ⟨_, rfl, told_of rfl, keepG (St := (SD1 [b, g] w (fun d1 => [(b, 73, bc), (g, 84, cond d1 c1 c0), (y, 39, fc)]) 8)) [8] SD1.loc (by omega) (by decide) hJ⟩
        | 2, ho =>
          obtain rfl := Option.some.inj ho
          have e0 : a'.eval (.tmp 51) = P0 b := by have h9 := hin 1 51 (by kernel_rfl) (by kernel_rfl); exact h9.1.trans (told_is _ h9.2 rfl)
          exact o_fld73_0 (.tmp 51) rfl b (0) (0) rfl e0 ⟨_, rfl, told_of rfl, keepG (St := (SD1 [b, g] w (fun d1 => [(b, 73, bc), (g, 84, cond d1 c1 c0), (y, 39, fc)]) 8)) [8] SD1.loc (by omega) (by decide) hJ⟩
        | 3, ho =>
          obtain rfl := Option.some.inj ho
          have e0 : a'.eval (.tmp 52) = P0 b := by have h9 := hin 2 52 (by kernel_rfl) (by kernel_rfl); exact h9.1.trans (told_is _ h9.2 rfl)
          exact o_load71 (.tmp 52) rfl _ _ e0 (fits_cell (Mm.at hJ 0 _ rfl) 0 _ (unhide HB0)) ⟨_, rfl, told_of rfl, keepG (St := (SD1 [b, g] w (fun d1 => [(b, 73, bc), (g, 84, cond d1 c1 c0), (y, 39, fc)]) 8)) [8] SD1.loc (by omega) (by decide) hJ⟩
        | 4, ho =>
          obtain rfl := Option.some.inj ho
          have e0 := hout 5 (by kernel_rfl)
          replace e0 : a'.eval (.tmp 5) = _ := e0.trans rfl
          exact wp_move (.tmp 5) rfl _ e0 ⟨_, rfl, told_of rfl, keepG (St := (SD1 [b, g] w (fun d1 => [(b, 73, bc), (g, 84, cond d1 c1 c0), (y, 39, fc)]) 8)) [8] SD1.loc (by omega) (by decide) hJ⟩
        | 5, ho =>
          obtain rfl := Option.some.inj ho
          have e0 := hout 3 (by kernel_rfl)
          replace e0 : a'.eval (.tmp 3) = _ := e0.trans rfl
          exact wp_loadA row39 (.tmp 3) rfl y (0) e0 (fc) (unhide HLF) ((Mm.at hJ 2 _ rfl).range) ⟨_, rfl, told_of rfl, keepG (St := (SD1 [b, g] w (fun d1 => [(b, 73, bc), (g, 84, cond d1 c1 c0), (y, 39, fc)]) 8)) [8] SD1.loc (by omega) (by decide) hJ⟩
        | 6, ho =>
          obtain rfl := Option.some.inj ho
          have e0 : a'.eval (.tmp 55) = aggV fc := by have h9 := hin 5 55 (by kernel_rfl) (by kernel_rfl); exact h9.1.trans (told_is _ h9.2 rfl)
          exact wp_buildP #[(0, .const (.bool true)), (1, .tmp 55), (3, .const (.bool true))] rfl #[(0, .bool true), (1, aggV fc), (3, .bool true)] (by have ec : a'.eval (.const (.bool true)) = .bool true := rfl; simp [e0, ec]) pc (unhide HB84 _) ⟨_, rfl, told_of rfl, keepG (St := (SD1 [b, g] w (fun d1 => [(b, 73, bc), (g, 84, cond d1 c1 c0), (y, 39, fc)]) 8)) [8] SD1.loc (by omega) (by decide) hJ⟩
        | 7, ho =>
          obtain rfl := Option.some.inj ho
          have e0 : a'.eval (.tmp 53) = .slice (some ⟨g, 0, none⟩) P.m c := by have h9 := hin 3 53 (by kernel_rfl) (by kernel_rfl); exact h9.1.trans (told_is _ h9.2 rfl)
          have e1 : a'.eval (.tmp 54) = .int .i64 k := by have h9 := hin 4 54 (by kernel_rfl) (by kernel_rfl); exact h9.1.trans (told_is _ h9.2 rfl)
          exact o_idx71 (.tmp 53) (.tmp 54) rfl g P.m c k (k * 105) (by omega) rfl e0 e1 ⟨_, rfl, told_of rfl, keepG (St := (SD1 [b, g] w (fun d1 => [(b, 73, bc), (g, 84, cond d1 c1 c0), (y, 39, fc)]) 8)) [8] SD1.loc (by omega) (by decide) hJ⟩
        | 8, ho =>
          obtain rfl := Option.some.inj ho
          have e0 : a'.eval (.tmp 57) = .pointer (some ⟨g, k * 105, none⟩) := by have h9 := hin 7 57 (by kernel_rfl) (by kernel_rfl); exact h9.1.trans (told_is _ h9.2 rfl)
          have e1 : a'.eval (.tmp 56) = aggV pc := by have h9 := hin 6 56 (by kernel_rfl) (by kernel_rfl); exact h9.1.trans (told_is _ h9.2 rfl)
          exact o_stN row84 (.tmp 57) (.tmp 56) rfl rfl g (k * 105) 1 pc e0 e1 (unhide HPL).1 (unhide HPL).2 (SD1.no hJ hlf) rfl (by show _ ≤ c0.length; have := unhide HL0; omega) (unhide HSP) (fun W hM => ⟨undef, rfl, told_no rfl, nextG (St := (SD1 [b, g] w (fun d1 => [(b, 73, bc), (g, 84, cond d1 c1 c0), (y, 39, fc)]) 8)) (by omega) hM⟩)
      intro l_ vs4 V4 hl hJ htold
      have t0 : vs4 0 = P0 b := told_is _ (htold 0 (by decide)) rfl
      have t1 : vs4 1 = P0 b := told_is _ (htold 1 (by decide)) rfl
      have t2 : vs4 2 = P0 b := told_is _ (htold 2 (by decide)) rfl
      have t3 : vs4 3 = .slice (some ⟨g, 0, none⟩) P.m c := told_is _ (htold 3 (by decide)) rfl
      have t4 : vs4 4 = .int .i64 k := told_is _ (htold 4 (by decide)) rfl
      have t5 : vs4 5 = aggV fc := told_is _ (htold 5 (by decide)) rfl
      have t6 : vs4 6 = aggV pc := told_is _ (htold 6 (by decide)) rfl
      have t7 : vs4 7 = .pointer (some ⟨g, k * 105, none⟩) := told_is _ (htold 7 (by decide)) rfl
      rw [show (List.range 9).map vs4 = [vs4 0, vs4 1, vs4 2, vs4 3, vs4 4, vs4 5, vs4 6, vs4 7, vs4 8] from rfl]
      simp only [t0, t1, t2, t3, t4, t5, t6, t7, putAll, Act.put, List.setIfInBounds_toArray, List.set_cons_succ, List.set_cons_zero]
      clear t0 t1 t2 t3 t4 t5 t6 t7 htold
      have hM4 : Mm [b, g] w V4 ([(b, 73, bc), (g, 84, c1), (y, 39, fc)]) := SD1.yes hJ (hl 8 (by decide))
      replace M : Hid (Mm [b, g] w V4 [(b, 73, bc), (g, 84, c1), (y, 39, fc)]) := hide hM4
      clear hM4 hJ hl
      have kk := (unhide M).kept
      have h9 : Rg V4 b g c (P.up k ⟨x, (P.S k).pn, true⟩) := (unhide HP).upx ((unhide M).at 0 _ rfl) (unhide HBC) ((unhide M).at 1 _ rfl) (unhide HC1) (Po.up_okN (unhide HP).ok (unhide HQM) (unhide HMF) (fun j hj e => absurd e (Po.find_none (unhide HNF) hj)))
      go_wp2_with fail
      go_ret
      exact ⟨rfl, h9, kk⟩

end Go.Proofs.Ytgnafbohikbpfaa
