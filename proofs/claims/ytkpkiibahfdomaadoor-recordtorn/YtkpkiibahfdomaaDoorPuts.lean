/-
  The walk of RecordPuts.
-/
import Derived.Test.YtkpkiibahfdomaaDoorRhalf
import Derived.Test.YtkpkiibahfdomaaDoorRpure
import Derived.Test.YtkpkiibahfdomaaDoorRunsa
import Derived.Test.YtkpkiibahfdomaaDoorKnown
namespace Go.Proofs.YtkpkiibahfdomaaDoor
open Go.RowKit

section
variable {o : Oper} {a : Act} {w : World} {K : Act → World → Prop} {Q : Exit → Act → World → Prop}
theorem o_neq3 (x : Operand) (c : Int) (ho : o.op = .binOp .neq 3 x (.const (.int .i64 c)) 3) (m : Int) (r : Bool) (hr : decide (m = c) = r) (hx : a.eval x = .int .i64 m) (h : K (a.put o.dst (.bool (!r))) w) : o.wp Tryd.prog a w K Q := by
  have hb : (m != c) = !r := by rw [← hr]; rfl
  unfold Oper.wp execOp
  simp only [ho, hx]
  simp [go_sem, hb]
  exact h
end
theorem cf13 (vs : Array Value) (w : World) : (callFunc 13 vs).run Tryd.prog w = .ok (.enter 13 vs) w := by kernel_rfl
theorem cf17 (vs : Array Value) (w : World) : (callFunc 17 vs).run Tryd.prog w = .ok (.enter 17 vs) w := by kernel_rfl
/-- What RecordPuts keeps while it goes. -/
structure G0 (w wr : World) (b1 b2 : Nat) (r : Rec) (st ep : Int) : Prop where
  rcd : Blk wr b1 25 (recC r)
  hd : Blk wr b2 27 (hdC st ep)
  first : First wr
  kept : Kept [] w wr
theorem G0.step {w wr wn : World} {b1 b2 : Nat} {r : Rec} {st ep : Int} (h : G0 w wr b1 b2 r st ep) (hk : Kept [] wr wn) : G0 w wn b1 b2 r st ep :=
  ⟨h.rcd.kept hk (by simp), h.hd.kept hk (by simp), h.first.kept hk, h.kept.trans hk⟩
theorem build30z (w : World) : (Instr.build 30 #[]).run Tryd.prog w = .ok (aggV (u8s (zs 64 ++ zs 64))) w := by kernel_rfl

set_option maxHeartbeats 4000000 in
set_option maxRecDepth 100000 in
theorem puts_yy (r : Rec) (rok : r.Ok) (st ep : Int) (A B X : List Int) (hA : Byts 64 A) (hB : Byts 64 B) (hX : Byts 64 X) (P8 : ∀ w, Calls Tryd.prog 8 #[aggV (recC r)] w fun e w' => e = .returned (.tuple #[aggV (u8s (A ++ B)), .int .i64 0]) ∧ Kept [] w w') (P9 : ∀ w, First w → Calls Tryd.prog 9 #[aggV (hdC st ep)] w fun e w' => e = .returned (.tuple #[aggV (u8s X), .int .i64 0]) ∧ Kept [] w w') (P10 : ∀ w, Calls Tryd.prog 10 #[aggV (hdC st ep)] w fun e w' => e = .returned (.bool true) ∧ Kept [] w w') (P14 : ∀ w, Calls Tryd.prog 14 #[aggV (recC r)] w fun e w' => e = .returned (.bool true) ∧ Kept [] w w') (P12 : ∀ w, First w → Calls Tryd.prog 12 #[aggV (u8s X)] w fun e w' => e = .returned (.tuple #[aggV (hdC st ep), .int .i64 0]) ∧ Kept [] w w') (P13 : ∀ w, Calls Tryd.prog 13 #[aggV (hdC st ep)] w fun e w' => e = .returned (aggV (u8s X)) ∧ Kept [] w w') (P17 : ∀ w, Calls Tryd.prog 17 #[aggV (recC r), .int .i64 0] w fun e w' => e = .returned (aggV (u8s A)) ∧ Kept [] w w') (Q17 : ∀ w, Calls Tryd.prog 17 #[aggV (recC r), .int .i64 1] w fun e w' => e = .returned (aggV (u8s B)) ∧ Kept [] w w') (P16 : ∀ w, Calls Tryd.prog 16 #[aggV (u8s A), aggV (u8s B)] w fun e w' => e = .returned (.tuple #[aggV (recC r), .int .i64 0]) ∧ Kept [] w w') (P18 : ∀ w, Calls Tryd.prog 18 #[aggV (u8s A), aggV (u8s B)] w fun e w' => e = .returned (.bool true) ∧ Kept [] w w') (w : World) (hF : First w) : Calls Tryd.prog 3 #[aggV (recC r), aggV (hdC st ep)] w fun e w' => e = .returned (.bool true) ∧ Kept [] w w' := by
  have H8 := hide P8
  have H9 := hide P9
  have H10 := hide P10
  have H14 := hide P14
  have H12 := hide P12
  have H13 := hide P13
  have H17 := hide P17
  have H16 := hide P16
  have H18 := hide P18
  have I17 := hide Q17
  clear Q17
  clear P8 P9 P10 P14 P12 P13 P17 P16 P18
  have lr := recC_len rok.bd.len
  have lX := sec_len hX
  have lX0 := hX.len
  have lA := hA.len
  have F0 := hide hF
  clear hF
  go_enter Tryd.func3, Tryd.ntmps3
  go_wp2_with (
    first
    | (refine wpBoxV rfl (.tmp 0) rfl (recC r) rfl ?_
       intro W1 b1 e1 B1 K1
       have BR := hide B1
       have KA := hide K1
       clear e1 B1 K1)
    | (refine wpBoxV rfl (.tmp 1) rfl (hdC st ep) rfl ?_
       intro W2 b2 e2 B2 K2
       have G : Hid (G0 w W2 b1 b2 r st ep) := ⟨(unhide BR).kept K2 (by simp), B2, ((unhide F0).kept (unhide KA)).kept K2, (unhide KA).trans K2⟩
       clear e2 B2 K2 BR KA F0)
    | (refine wpLoadA row25 (by rfl) (.tmp 2) (by rfl) b1 0 (by kernel_rfl) (recC r) lr (unhide G).rcd.range ?_)
    | (go_at_call 8
       refine (unhide H8 _).mono ?_
       rintro e W3 ⟨rfl, K3⟩
       replace G := hide ((unhide G).step K3)
       clear K3)
    | (refine wpNew row30 (u8s (zs 128)) (zl 128) zero30 5 (by rfl) (by rfl) (by rfl) (.tmp 16) (by rfl) (by rfl) (by rfl) (u8s (A ++ B)) (pair_len hA hB) (u8s_one _) (by kernel_rfl) (by kernel_rfl) ?_
       intro W4 b3 e4 B4 K4
       replace G := hide ((unhide G).step K4)
       have PR := hide B4
       clear e4 B4 K4)
    | (refine wpLoadA row27 (by rfl) (.tmp 3) (by rfl) b2 0 (by kernel_rfl) (hdC st ep) rfl (unhide G).hd.range ?_)
    | (go_at_call 9
       refine (unhide H9 _ (unhide G).first).mono ?_
       rintro e W5 ⟨rfl, K5⟩
       replace G := hide ((unhide G).step K5)
       replace PR := hide ((unhide PR).kept K5 (by simp))
       clear K5)
    | (refine wpNew row29 (u8s (zs 64)) (zl 64) zero29 7 (by rfl) (by rfl) (by rfl) (.tmp 21) (by rfl) (by rfl) (by rfl) (u8s X) lX (u8s_one _) (by kernel_rfl) (by kernel_rfl) ?_
       intro W6 b4 e6 B6 K6
       replace G := hide ((unhide G).step K6)
       replace PR := hide ((unhide PR).kept K6 (by simp))
       have SC := hide B6
       clear e6 B6 K6)
    | (go_at_call 10
       refine (unhide H10 _).mono ?_
       rintro e W7 ⟨rfl, K7⟩
       replace G := hide ((unhide G).step K7)
       replace PR := hide ((unhide PR).kept K7 (by simp))
       replace SC := hide ((unhide SC).kept K7 (by simp))
       clear K7)
    | (refine wpLoadA row29 (by rfl) (.tmp 7) (by rfl) b4 0 (by kernel_rfl) (u8s X) lX (unhide SC).range ?_)
    | (go_at_call 12
       refine (unhide H12 _ (unhide G).first).mono ?_
       rintro e W8 ⟨rfl, K8⟩
       replace G := hide ((unhide G).step K8)
       replace PR := hide ((unhide PR).kept K8 (by simp))
       replace SC := hide ((unhide SC).kept K8 (by simp))
       clear K8)
    | (refine wpNew row27 (hdC 0 0) rfl zero27 9 (by rfl) (by rfl) (by rfl) (.tmp 37) (by rfl) (by rfl) (by rfl) (hdC st ep) rfl (hdC_one _ _) (by kernel_rfl) (by kernel_rfl) ?_
       intro W9 b5 e9 B9 K9
       replace G := hide ((unhide G).step K9)
       replace PR := hide ((unhide PR).kept K9 (by simp))
       replace SC := hide ((unhide SC).kept K9 (by simp))
       have TH := hide B9
       clear e9 B9 K9))
  refine wp_region_any mixed (wpAny_tq 17 rfl (by kernel_rfl) [some (aggV (u8s X)), some (aggV (hdC st ep)), some (aggV (u8s X)), some (.bool false), some (.bool false), some (.int .i64 0), some (.int .i64 0), some (.int .i64 0), some (.int .i64 0), some (.int .i64 (0 + 0)), some (.bool false), some (.bool false), some (.bool false), some (aggV (hdC st ep)), some (aggV (hdC st ep)), some (.bool false), some (.bool false)] rfl (by kernel_rfl) (by kernel_rfl) ?_ ?_)
  · intro i o' hi hsk ho a' w2 hout hin hk2
    replace hk2 : Kept [] W9 w2 := ⟨hk2.os, hk2.tape, hk2.output, hk2.size, hk2.block⟩
    match i, ho, hsk with
    | 0, ho, hsk =>
      obtain rfl := Option.some.inj ho
      exact wp_loadA row29 (.tmp 7) rfl b4 0 ((hout 7 (by kernel_rfl)).trans rfl) (u8s X) lX ((unhide SC).kept hk2 (by simp)).range ⟨_, rfl, tq_is _ _ _ _ rfl, Kept.refl _ _, fun _ _ _ _ _ => trivial⟩
    | 1, ho, hsk =>
      obtain rfl := Option.some.inj ho
      exact wp_loadA row27 (.tmp 3) rfl b2 0 ((hout 3 (by kernel_rfl)).trans rfl) (hdC st ep) rfl ((unhide G).step hk2).hd.range ⟨_, rfl, tq_is _ _ _ _ rfl, Kept.refl _ _, fun _ _ _ _ _ => trivial⟩
    | 2, ho, hsk =>
      obtain rfl := Option.some.inj ho
      have e0 : a'.eval (.tmp 40) = aggV (hdC st ep) := is_tq (hin 1 40 (by kernel_rfl) (by kernel_rfl)) rfl
      refine wp_callF 13 _ _ rfl #[aggV (hdC st ep)] (by simp [e0]) (cf13 _ _) ((unhide H13 w2).mono ?_)
      rintro e w3 ⟨rfl, hk3⟩
      exact ⟨_, rfl, _, rfl, tq_is _ _ _ _ rfl, hk3, fun _ _ _ _ _ => trivial⟩
    | 3, ho, hsk =>
      obtain rfl := Option.some.inj ho
      have e0 : a'.eval (.tmp 39) = aggV (u8s X) := is_tq (hin 0 39 (by kernel_rfl) (by kernel_rfl)) rfl
      have e1 : a'.eval (.tmp 41) = aggV (u8s X) := is_tq (hin 2 41 (by kernel_rfl) (by kernel_rfl)) rfl
      exact o_neqA 29 29 guard29 (.tmp 39) (.tmp 41) rfl (u8s X) (u8s X) e0 e1 true (by rw [equal29 _ X X lX0 lX0]; simp) ⟨_, rfl, tq_is _ _ _ _ rfl, Kept.refl _ _, fun _ _ _ _ _ => trivial⟩
    | 4, ho, hsk =>
      obtain rfl := Option.some.inj ho
      have e0 : a'.eval (.tmp 42) = .bool false := is_tq (hin 3 42 (by kernel_rfl) (by kernel_rfl)) rfl
      exact wp_move (.tmp 42) rfl _ e0 ⟨_, rfl, tq_is _ _ _ _ rfl, Kept.refl _ _, fun _ _ _ _ _ => trivial⟩
    | 5, ho, hsk =>
      obtain rfl := Option.some.inj ho
      exact wp_move (.tmp 8) rfl _ ((hout 8 (by kernel_rfl)).trans rfl) ⟨_, rfl, tq_is _ _ _ _ rfl, Kept.refl _ _, fun _ _ _ _ _ => trivial⟩
    | 6, ho, hsk =>
      obtain rfl := Option.some.inj ho
      have e0 : a'.eval (.tmp 44) = .int .i64 0 := is_tq (hin 5 44 (by kernel_rfl) (by kernel_rfl)) rfl
      refine wp_callF 11 _ _ rfl #[.int .i64 0] (by simp [e0]) (cf11 _ _) ((num11 _ _).mono ?_)
      rintro e w3 ⟨rfl, rfl⟩
      exact ⟨_, rfl, _, rfl, tq_is _ _ _ _ rfl, Kept.refl _ _, fun _ _ _ _ _ => trivial⟩
    | 7, ho, hsk =>
      obtain rfl := Option.some.inj ho
      exact wp_move (.tmp 10) rfl _ ((hout 10 (by kernel_rfl)).trans rfl) ⟨_, rfl, tq_is _ _ _ _ rfl, Kept.refl _ _, fun _ _ _ _ _ => trivial⟩
    | 8, ho, hsk =>
      obtain rfl := Option.some.inj ho
      have e0 : a'.eval (.tmp 46) = .int .i64 0 := is_tq (hin 7 46 (by kernel_rfl) (by kernel_rfl)) rfl
      refine wp_callF 11 _ _ rfl #[.int .i64 0] (by simp [e0]) (cf11 _ _) ((num11 _ _).mono ?_)
      rintro e w3 ⟨rfl, rfl⟩
      exact ⟨_, rfl, _, rfl, tq_is _ _ _ _ rfl, Kept.refl _ _, fun _ _ _ _ _ => trivial⟩
    | 9, ho, hsk =>
      obtain rfl := Option.some.inj ho
      have e0 : a'.eval (.tmp 45) = .int .i64 0 := is_tq (hin 6 45 (by kernel_rfl) (by kernel_rfl)) rfl
      have e1 : a'.eval (.tmp 47) = .int .i64 0 := is_tq (hin 8 47 (by kernel_rfl) (by kernel_rfl)) rfl
      exact o_add3 (.tmp 45) (.tmp 47) rfl 0 0 (by omega) e0 e1 ⟨_, rfl, tq_is _ _ _ _ rfl, Kept.refl _ _, fun _ _ _ _ _ => trivial⟩
    | 10, ho, hsk =>
      obtain rfl := Option.some.inj ho
      have e0 : a'.eval (.tmp 48) = .int .i64 (0 + 0) := is_tq (hin 9 48 (by kernel_rfl) (by kernel_rfl)) rfl
      exact o_neq3 (.tmp 48) 0 rfl _ true (by simp) e0 ⟨_, rfl, tq_is _ _ _ _ rfl, Kept.refl _ _, fun _ _ _ _ _ => trivial⟩
    | 11, ho, hsk =>
      obtain rfl := Option.some.inj ho
      have e0 : a'.eval (.tmp 43) = .bool false := is_tq (hin 4 43 (by kernel_rfl) (by kernel_rfl)) rfl
      have e1 : a'.eval (.tmp 49) = .bool false := is_tq (hin 10 49 (by kernel_rfl) (by kernel_rfl)) rfl
      exact o_pickOrF (.tmp 43) (.tmp 49) rfl e0 e1 ⟨_, rfl, tq_is _ _ _ _ rfl, Kept.refl _ _, fun _ _ _ _ _ => trivial⟩
    | 12, ho, hsk =>
      obtain rfl := Option.some.inj ho
      have e0 : a'.eval (.tmp 50) = .bool false := is_tq (hin 11 50 (by kernel_rfl) (by kernel_rfl)) rfl
      exact wp_move (.tmp 50) rfl _ e0 ⟨_, rfl, tq_is _ _ _ _ rfl, Kept.refl _ _, fun _ _ _ _ _ => trivial⟩
    | 13, ho, hsk =>
      obtain rfl := Option.some.inj ho
      exact wp_loadA row27 (.tmp 9) rfl b5 0 ((hout 9 (by kernel_rfl)).trans rfl) (hdC st ep) rfl ((unhide TH).kept hk2 (by simp)).range ⟨_, rfl, tq_is _ _ _ _ rfl, Kept.refl _ _, fun _ _ _ _ _ => trivial⟩
    | 14, ho, hsk =>
      obtain rfl := Option.some.inj ho
      exact wp_loadA row27 (.tmp 3) rfl b2 0 ((hout 3 (by kernel_rfl)).trans rfl) (hdC st ep) rfl ((unhide G).step hk2).hd.range ⟨_, rfl, tq_is _ _ _ _ rfl, Kept.refl _ _, fun _ _ _ _ _ => trivial⟩
    | 15, ho, hsk =>
      obtain rfl := Option.some.inj ho
      have e0 : a'.eval (.tmp 52) = aggV (hdC st ep) := is_tq (hin 13 52 (by kernel_rfl) (by kernel_rfl)) rfl
      have e1 : a'.eval (.tmp 53) = aggV (hdC st ep) := is_tq (hin 14 53 (by kernel_rfl) (by kernel_rfl)) rfl
      exact o_neqA 27 27 guard27 (.tmp 52) (.tmp 53) rfl (hdC st ep) (hdC st ep) e0 e1 true (by rw [equal27]; simp) ⟨_, rfl, tq_is _ _ _ _ rfl, Kept.refl _ _, fun _ _ _ _ _ => trivial⟩
    | 16, ho, hsk =>
      obtain rfl := Option.some.inj ho
      have e0 : a'.eval (.tmp 51) = .bool false := is_tq (hin 12 51 (by kernel_rfl) (by kernel_rfl)) rfl
      have e1 : a'.eval (.tmp 54) = .bool false := is_tq (hin 15 54 (by kernel_rfl) (by kernel_rfl)) rfl
      exact o_pickOrF (.tmp 51) (.tmp 54) rfl e0 e1 ⟨_, rfl, tq_is _ _ _ _ rfl, Kept.refl _ _, fun _ _ _ _ _ => trivial⟩
  intro w9 hk9
  replace hk9 : Kept [] W9 w9 := ⟨hk9.os, hk9.tape, hk9.output, hk9.size, hk9.block⟩
  simp only [valsQ, List.map_cons, List.map_nil, Option.getD_some, List.take_succ_cons, List.take_zero, putAll, Act.put, List.setIfInBounds_toArray, List.set_cons_succ, List.set_cons_zero]
  refine wpAny_done (by kernel_rfl) ?_ _
  replace G := hide ((unhide G).step hk9)
  replace PR := hide ((unhide PR).kept hk9 (by simp))
  clear hk9 SC TH
  go_wp2_with (
    first
    | (refine wpLoadA row25 (by rfl) (.tmp 2) (by rfl) b1 0 (by kernel_rfl) (recC r) lr (unhide G).rcd.range ?_)
    | (go_at_call 14
       refine (unhide H14 _).mono ?_
       rintro e W10 ⟨rfl, K10⟩
       replace G := hide ((unhide G).step K10)
       replace PR := hide ((unhide PR).kept K10 (by simp))
       clear K10)
    | (refine wpLoadA row29 (by rfl) (.tmp 71) (by rfl) b3 0 (by kernel_rfl) (u8s A) (sec_len hA) (pair_l (unhide PR)) ?_)
    | (refine wpLoadA row29 (by rfl) (.tmp 73) (by rfl) b3 64 (by kernel_rfl) (u8s B) (sec_len hB) (pair_r lA (unhide PR)) ?_)
    | (go_at_call 16
       refine (unhide H16 _).mono ?_
       rintro e W11 ⟨rfl, K11⟩
       replace G := hide ((unhide G).step K11)
       replace PR := hide ((unhide PR).kept K11 (by simp))
       clear K11)
    | (refine wpNew row25 (recC zrec) (recC_len zrec_ok.bd.len) zero25 11 (by rfl) (by rfl) (by rfl) (.tmp 76) (by rfl) (by rfl) (by rfl) (recC r) lr (recC_one _) (by kernel_rfl) (by kernel_rfl) ?_
       intro W12 b6 e12 B12 K12
       replace G := hide ((unhide G).step K12)
       replace PR := hide ((unhide PR).kept K12 (by simp))
       have GT := hide B12
       clear e12 B12 K12))
  refine wp_region_any mixed (wpAny_tq 36 rfl (by kernel_rfl) [some (.int .i64 0), some (.int .i64 0), some (.int .i64 0), some (.int .i64 0), some (.int .i64 (0 + 0)), some (.bool true), some (.bool true), some (.pointer (some ⟨b3, 64 * 0, none⟩)), some (aggV (u8s A)), some (aggV (recC r)), some (aggV (u8s A)), some (.bool true), some (.bool true), some (.bool true), some (.pointer (some ⟨b3, 64 * 1, none⟩)), some (aggV (u8s B)), some (aggV (recC r)), some (aggV (u8s B)), some (.bool true), some (.bool true), some (.bool true), some (aggV (recC r)), some (aggV (recC r)), some (.bool true), some (.bool true), some (.bool true), some (.pointer (some ⟨b3, 64 * 0, none⟩)), some (aggV (u8s A)), some (.pointer (some ⟨b3, 64 * 1, none⟩)), some (aggV (u8s B)), some (.bool true), some (.bool true), some (.bool true), some (.bool true), some (.bool true), some (.bool true)] rfl (by kernel_rfl) (by kernel_rfl) ?_ ?_)
  · intro i o' hi hsk ho a' w2 hout hin hk2
    replace hk2 : Kept [] W12 w2 := ⟨hk2.os, hk2.tape, hk2.output, hk2.size, hk2.block⟩
    match i, ho, hsk with
    | 0, ho, hsk =>
      obtain rfl := Option.some.inj ho
      exact wp_move (.tmp 6) rfl _ ((hout 6 (by kernel_rfl)).trans rfl) ⟨_, rfl, tq_is _ _ _ _ rfl, Kept.refl _ _, fun _ _ _ _ _ => trivial⟩
    | 1, ho, hsk =>
      obtain rfl := Option.some.inj ho
      have e0 : a'.eval (.tmp 78) = .int .i64 0 := is_tq (hin 0 78 (by kernel_rfl) (by kernel_rfl)) rfl
      refine wp_callF 11 _ _ rfl #[.int .i64 0] (by simp [e0]) (cf11 _ _) ((num11 _ _).mono ?_)
      rintro e w3 ⟨rfl, rfl⟩
      exact ⟨_, rfl, _, rfl, tq_is _ _ _ _ rfl, Kept.refl _ _, fun _ _ _ _ _ => trivial⟩
    | 2, ho, hsk =>
      obtain rfl := Option.some.inj ho
      exact wp_move (.tmp 12) rfl _ ((hout 12 (by kernel_rfl)).trans rfl) ⟨_, rfl, tq_is _ _ _ _ rfl, Kept.refl _ _, fun _ _ _ _ _ => trivial⟩
    | 3, ho, hsk =>
      obtain rfl := Option.some.inj ho
      have e0 : a'.eval (.tmp 80) = .int .i64 0 := is_tq (hin 2 80 (by kernel_rfl) (by kernel_rfl)) rfl
      refine wp_callF 11 _ _ rfl #[.int .i64 0] (by simp [e0]) (cf11 _ _) ((num11 _ _).mono ?_)
      rintro e w3 ⟨rfl, rfl⟩
      exact ⟨_, rfl, _, rfl, tq_is _ _ _ _ rfl, Kept.refl _ _, fun _ _ _ _ _ => trivial⟩
    | 4, ho, hsk =>
      obtain rfl := Option.some.inj ho
      have e0 : a'.eval (.tmp 79) = .int .i64 0 := is_tq (hin 1 79 (by kernel_rfl) (by kernel_rfl)) rfl
      have e1 : a'.eval (.tmp 81) = .int .i64 0 := is_tq (hin 3 81 (by kernel_rfl) (by kernel_rfl)) rfl
      exact o_add3 (.tmp 79) (.tmp 81) rfl 0 0 (by omega) e0 e1 ⟨_, rfl, tq_is _ _ _ _ rfl, Kept.refl _ _, fun _ _ _ _ _ => trivial⟩
    | 5, ho, hsk =>
      obtain rfl := Option.some.inj ho
      have e0 : a'.eval (.tmp 82) = .int .i64 (0 + 0) := is_tq (hin 4 82 (by kernel_rfl) (by kernel_rfl)) rfl
      exact o_eql3 (.tmp 82) 0 rfl _ true (by simp) e0 ⟨_, rfl, tq_is _ _ _ _ rfl, Kept.refl _ _, fun _ _ _ _ _ => trivial⟩
    | 6, ho, hsk =>
      obtain rfl := Option.some.inj ho
      have e0 : a'.eval (.tmp 83) = .bool true := is_tq (hin 5 83 (by kernel_rfl) (by kernel_rfl)) rfl
      exact wp_move (.tmp 83) rfl _ e0 ⟨_, rfl, tq_is _ _ _ _ rfl, Kept.refl _ _, fun _ _ _ _ _ => trivial⟩
    | 7, ho, hsk =>
      obtain rfl := Option.some.inj ho
      exact o_idx30 (.tmp 5) 0 (by omega) rfl b3 ((hout 5 (by kernel_rfl)).trans rfl) ⟨_, rfl, tq_is _ _ _ _ rfl, Kept.refl _ _, fun _ _ _ _ _ => trivial⟩
    | 8, ho, hsk =>
      obtain rfl := Option.some.inj ho
      have e0 : a'.eval (.tmp 85) = .pointer (some ⟨b3, 64 * 0, none⟩) := is_tq (hin 7 85 (by kernel_rfl) (by kernel_rfl)) rfl
      exact wp_loadA row29 (.tmp 85) rfl b3 (64 * 0) e0 (u8s A) (sec_len hA) (pair_l ((unhide PR).kept hk2 (by simp))) ⟨_, rfl, tq_is _ _ _ _ rfl, Kept.refl _ _, fun _ _ _ _ _ => trivial⟩
    | 9, ho, hsk =>
      obtain rfl := Option.some.inj ho
      exact wp_loadA row25 (.tmp 2) rfl b1 0 ((hout 2 (by kernel_rfl)).trans rfl) (recC r) lr ((unhide G).step hk2).rcd.range ⟨_, rfl, tq_is _ _ _ _ rfl, Kept.refl _ _, fun _ _ _ _ _ => trivial⟩
    | 10, ho, hsk =>
      obtain rfl := Option.some.inj ho
      have e0 : a'.eval (.tmp 87) = aggV (recC r) := is_tq (hin 9 87 (by kernel_rfl) (by kernel_rfl)) rfl
      refine wp_callF 17 _ _ rfl #[aggV (recC r), .int .i64 0] (by simp [e0]; rfl) (cf17 _ _) ((unhide H17 w2).mono ?_)
      rintro e w3 ⟨rfl, hk3⟩
      exact ⟨_, rfl, _, rfl, tq_is _ _ _ _ rfl, hk3, fun _ _ _ _ _ => trivial⟩
    | 11, ho, hsk =>
      obtain rfl := Option.some.inj ho
      have e0 : a'.eval (.tmp 86) = aggV (u8s A) := is_tq (hin 8 86 (by kernel_rfl) (by kernel_rfl)) rfl
      have e1 : a'.eval (.tmp 88) = aggV (u8s A) := is_tq (hin 10 88 (by kernel_rfl) (by kernel_rfl)) rfl
      exact o_eqlA 29 29 guard29 (.tmp 86) (.tmp 88) rfl (u8s A) (u8s A) e0 e1 true (by rw [equal29 _ A A hA.len hA.len]; simp) ⟨_, rfl, tq_is _ _ _ _ rfl, Kept.refl _ _, fun _ _ _ _ _ => trivial⟩
    | 12, ho, hsk =>
      obtain rfl := Option.some.inj ho
      have e0 : a'.eval (.tmp 84) = .bool true := is_tq (hin 6 84 (by kernel_rfl) (by kernel_rfl)) rfl
      have e1 : a'.eval (.tmp 89) = .bool true := is_tq (hin 11 89 (by kernel_rfl) (by kernel_rfl)) rfl
      exact o_pick (.tmp 84) (.tmp 89) rfl _ e0 e1 ⟨_, rfl, tq_is _ _ _ _ rfl, Kept.refl _ _, fun _ _ _ _ _ => trivial⟩
    | 13, ho, hsk =>
      obtain rfl := Option.some.inj ho
      have e0 : a'.eval (.tmp 90) = .bool true := is_tq (hin 12 90 (by kernel_rfl) (by kernel_rfl)) rfl
      exact wp_move (.tmp 90) rfl _ e0 ⟨_, rfl, tq_is _ _ _ _ rfl, Kept.refl _ _, fun _ _ _ _ _ => trivial⟩
    | 14, ho, hsk =>
      obtain rfl := Option.some.inj ho
      exact o_idx30 (.tmp 5) 1 (by omega) rfl b3 ((hout 5 (by kernel_rfl)).trans rfl) ⟨_, rfl, tq_is _ _ _ _ rfl, Kept.refl _ _, fun _ _ _ _ _ => trivial⟩
    | 15, ho, hsk =>
      obtain rfl := Option.some.inj ho
      have e0 : a'.eval (.tmp 92) = .pointer (some ⟨b3, 64 * 1, none⟩) := is_tq (hin 14 92 (by kernel_rfl) (by kernel_rfl)) rfl
      exact wp_loadA row29 (.tmp 92) rfl b3 (64 * 1) e0 (u8s B) (sec_len hB) (pair_r lA ((unhide PR).kept hk2 (by simp))) ⟨_, rfl, tq_is _ _ _ _ rfl, Kept.refl _ _, fun _ _ _ _ _ => trivial⟩
    | 16, ho, hsk =>
      obtain rfl := Option.some.inj ho
      exact wp_loadA row25 (.tmp 2) rfl b1 0 ((hout 2 (by kernel_rfl)).trans rfl) (recC r) lr ((unhide G).step hk2).rcd.range ⟨_, rfl, tq_is _ _ _ _ rfl, Kept.refl _ _, fun _ _ _ _ _ => trivial⟩
    | 17, ho, hsk =>
      obtain rfl := Option.some.inj ho
      have e0 : a'.eval (.tmp 94) = aggV (recC r) := is_tq (hin 16 94 (by kernel_rfl) (by kernel_rfl)) rfl
      refine wp_callF 17 _ _ rfl #[aggV (recC r), .int .i64 1] (by simp [e0]; rfl) (cf17 _ _) ((unhide I17 w2).mono ?_)
      rintro e w3 ⟨rfl, hk3⟩
      exact ⟨_, rfl, _, rfl, tq_is _ _ _ _ rfl, hk3, fun _ _ _ _ _ => trivial⟩
    | 18, ho, hsk =>
      obtain rfl := Option.some.inj ho
      have e0 : a'.eval (.tmp 93) = aggV (u8s B) := is_tq (hin 15 93 (by kernel_rfl) (by kernel_rfl)) rfl
      have e1 : a'.eval (.tmp 95) = aggV (u8s B) := is_tq (hin 17 95 (by kernel_rfl) (by kernel_rfl)) rfl
      exact o_eqlA 29 29 guard29 (.tmp 93) (.tmp 95) rfl (u8s B) (u8s B) e0 e1 true (by rw [equal29 _ B B hB.len hB.len]; simp) ⟨_, rfl, tq_is _ _ _ _ rfl, Kept.refl _ _, fun _ _ _ _ _ => trivial⟩
    | 19, ho, hsk =>
      obtain rfl := Option.some.inj ho
      have e0 : a'.eval (.tmp 91) = .bool true := is_tq (hin 13 91 (by kernel_rfl) (by kernel_rfl)) rfl
      have e1 : a'.eval (.tmp 96) = .bool true := is_tq (hin 18 96 (by kernel_rfl) (by kernel_rfl)) rfl
      exact o_pick (.tmp 91) (.tmp 96) rfl _ e0 e1 ⟨_, rfl, tq_is _ _ _ _ rfl, Kept.refl _ _, fun _ _ _ _ _ => trivial⟩
    | 20, ho, hsk =>
      obtain rfl := Option.some.inj ho
      have e0 : a'.eval (.tmp 97) = .bool true := is_tq (hin 19 97 (by kernel_rfl) (by kernel_rfl)) rfl
      exact wp_move (.tmp 97) rfl _ e0 ⟨_, rfl, tq_is _ _ _ _ rfl, Kept.refl _ _, fun _ _ _ _ _ => trivial⟩
    | 21, ho, hsk =>
      obtain rfl := Option.some.inj ho
      exact wp_loadA row25 (.tmp 11) rfl b6 0 ((hout 11 (by kernel_rfl)).trans rfl) (recC r) lr ((unhide GT).kept hk2 (by simp)).range ⟨_, rfl, tq_is _ _ _ _ rfl, Kept.refl _ _, fun _ _ _ _ _ => trivial⟩
    | 22, ho, hsk =>
      obtain rfl := Option.some.inj ho
      exact wp_loadA row25 (.tmp 2) rfl b1 0 ((hout 2 (by kernel_rfl)).trans rfl) (recC r) lr ((unhide G).step hk2).rcd.range ⟨_, rfl, tq_is _ _ _ _ rfl, Kept.refl _ _, fun _ _ _ _ _ => trivial⟩
    | 23, ho, hsk =>
      obtain rfl := Option.some.inj ho
      have e0 : a'.eval (.tmp 99) = aggV (recC r) := is_tq (hin 21 99 (by kernel_rfl) (by kernel_rfl)) rfl
      have e1 : a'.eval (.tmp 100) = aggV (recC r) := is_tq (hin 22 100 (by kernel_rfl) (by kernel_rfl)) rfl
      exact o_eqlA 25 25 guard25 (.tmp 99) (.tmp 100) rfl (recC r) (recC r) e0 e1 true (by rw [equal25 _ r r rok.bd.len rok.bd.len, recEq_self]) ⟨_, rfl, tq_is _ _ _ _ rfl, Kept.refl _ _, fun _ _ _ _ _ => trivial⟩
    | 24, ho, hsk =>
      obtain rfl := Option.some.inj ho
      have e0 : a'.eval (.tmp 98) = .bool true := is_tq (hin 20 98 (by kernel_rfl) (by kernel_rfl)) rfl
      have e1 : a'.eval (.tmp 101) = .bool true := is_tq (hin 23 101 (by kernel_rfl) (by kernel_rfl)) rfl
      exact o_pick (.tmp 98) (.tmp 101) rfl _ e0 e1 ⟨_, rfl, tq_is _ _ _ _ rfl, Kept.refl _ _, fun _ _ _ _ _ => trivial⟩
    | 25, ho, hsk =>
      obtain rfl := Option.some.inj ho
      have e0 : a'.eval (.tmp 102) = .bool true := is_tq (hin 24 102 (by kernel_rfl) (by kernel_rfl)) rfl
      exact wp_move (.tmp 102) rfl _ e0 ⟨_, rfl, tq_is _ _ _ _ rfl, Kept.refl _ _, fun _ _ _ _ _ => trivial⟩
    | 26, ho, hsk =>
      obtain rfl := Option.some.inj ho
      exact o_idx30 (.tmp 5) 0 (by omega) rfl b3 ((hout 5 (by kernel_rfl)).trans rfl) ⟨_, rfl, tq_is _ _ _ _ rfl, Kept.refl _ _, fun _ _ _ _ _ => trivial⟩
    | 27, ho, hsk =>
      obtain rfl := Option.some.inj ho
      have e0 : a'.eval (.tmp 104) = .pointer (some ⟨b3, 64 * 0, none⟩) := is_tq (hin 26 104 (by kernel_rfl) (by kernel_rfl)) rfl
      exact wp_loadA row29 (.tmp 104) rfl b3 (64 * 0) e0 (u8s A) (sec_len hA) (pair_l ((unhide PR).kept hk2 (by simp))) ⟨_, rfl, tq_is _ _ _ _ rfl, Kept.refl _ _, fun _ _ _ _ _ => trivial⟩
    | 28, ho, hsk =>
      obtain rfl := Option.some.inj ho
      exact o_idx30 (.tmp 5) 1 (by omega) rfl b3 ((hout 5 (by kernel_rfl)).trans rfl) ⟨_, rfl, tq_is _ _ _ _ rfl, Kept.refl _ _, fun _ _ _ _ _ => trivial⟩
    | 29, ho, hsk =>
      obtain rfl := Option.some.inj ho
      have e0 : a'.eval (.tmp 106) = .pointer (some ⟨b3, 64 * 1, none⟩) := is_tq (hin 28 106 (by kernel_rfl) (by kernel_rfl)) rfl
      exact wp_loadA row29 (.tmp 106) rfl b3 (64 * 1) e0 (u8s B) (sec_len hB) (pair_r lA ((unhide PR).kept hk2 (by simp))) ⟨_, rfl, tq_is _ _ _ _ rfl, Kept.refl _ _, fun _ _ _ _ _ => trivial⟩
    | 30, ho, hsk =>
      obtain rfl := Option.some.inj ho
      have e0 : a'.eval (.tmp 105) = aggV (u8s A) := is_tq (hin 27 105 (by kernel_rfl) (by kernel_rfl)) rfl
      have e1 : a'.eval (.tmp 107) = aggV (u8s B) := is_tq (hin 29 107 (by kernel_rfl) (by kernel_rfl)) rfl
      refine wp_callF 18 _ _ rfl #[aggV (u8s A), aggV (u8s B)] (by simp [e0, e1]) (cf18 _ _) ((unhide H18 w2).mono ?_)
      rintro e w3 ⟨rfl, hk3⟩
      exact ⟨_, rfl, _, rfl, tq_is _ _ _ _ rfl, hk3, fun _ _ _ _ _ => trivial⟩
    | 31, ho, hsk =>
      obtain rfl := Option.some.inj ho
      have e0 : a'.eval (.tmp 103) = .bool true := is_tq (hin 25 103 (by kernel_rfl) (by kernel_rfl)) rfl
      have e1 : a'.eval (.tmp 108) = .bool true := is_tq (hin 30 108 (by kernel_rfl) (by kernel_rfl)) rfl
      exact o_pick (.tmp 103) (.tmp 108) rfl _ e0 e1 ⟨_, rfl, tq_is _ _ _ _ rfl, Kept.refl _ _, fun _ _ _ _ _ => trivial⟩
    | 32, ho, hsk =>
      obtain rfl := Option.some.inj ho
      have e0 : a'.eval (.tmp 109) = .bool true := is_tq (hin 31 109 (by kernel_rfl) (by kernel_rfl)) rfl
      exact wp_move (.tmp 109) rfl _ e0 ⟨_, rfl, tq_is _ _ _ _ rfl, Kept.refl _ _, fun _ _ _ _ _ => trivial⟩
    | 33, ho, hsk =>
      obtain rfl := Option.some.inj ho
      refine wp_callF 15 _ _ rfl #[] (by simp) (cf15 _ _) ((known15 w2 ((unhide G).step hk2).first).mono ?_)
      rintro e w3 ⟨rfl, hk3⟩
      exact ⟨_, rfl, _, rfl, tq_is _ _ _ _ rfl, hk3, fun _ _ _ _ _ => trivial⟩
    | 34, ho, hsk =>
      obtain rfl := Option.some.inj ho
      have e0 : a'.eval (.tmp 110) = .bool true := is_tq (hin 32 110 (by kernel_rfl) (by kernel_rfl)) rfl
      have e1 : a'.eval (.tmp 111) = .bool true := is_tq (hin 33 111 (by kernel_rfl) (by kernel_rfl)) rfl
      exact o_pick (.tmp 110) (.tmp 111) rfl _ e0 e1 ⟨_, rfl, tq_is _ _ _ _ rfl, Kept.refl _ _, fun _ _ _ _ _ => trivial⟩
    | 35, ho, hsk =>
      obtain rfl := Option.some.inj ho
      have e0 : a'.eval (.tmp 112) = .bool true := is_tq (hin 34 112 (by kernel_rfl) (by kernel_rfl)) rfl
      exact wp_assignV (.tmp 112) rfl _ e0 ⟨_, rfl, tq_is _ _ _ _ rfl, Kept.refl _ _, fun _ _ _ _ _ => trivial⟩
  intro w8 hk8
  replace hk8 : Kept [] W12 w8 := ⟨hk8.os, hk8.tape, hk8.output, hk8.size, hk8.block⟩
  simp only [valsQ, List.map_cons, List.map_nil, Option.getD_some, List.take_succ_cons, List.take_zero, putAll, Act.put, List.setIfInBounds_toArray, List.set_cons_succ, List.set_cons_zero]
  refine wpAny_done (by kernel_rfl) ?_ _
  replace G := hide ((unhide G).step hk8)
  clear hk8
  go_wp2_with fail
  go_ret
  exact ⟨rfl, (unhide G).kept⟩

set_option maxHeartbeats 4000000 in
set_option maxRecDepth 100000 in
theorem puts_yn (r : Rec) (rok : r.Ok) (st ep : Int) (A B X : List Int) (hA : Byts 64 A) (hB : Byts 64 B) (hX : Byts 64 X) (P8 : ∀ w, Calls Tryd.prog 8 #[aggV (recC r)] w fun e w' => e = .returned (.tuple #[aggV (u8s (A ++ B)), .int .i64 2]) ∧ Kept [] w w') (P9 : ∀ w, First w → Calls Tryd.prog 9 #[aggV (hdC st ep)] w fun e w' => e = .returned (.tuple #[aggV (u8s X), .int .i64 0]) ∧ Kept [] w w') (P10 : ∀ w, Calls Tryd.prog 10 #[aggV (hdC st ep)] w fun e w' => e = .returned (.bool true) ∧ Kept [] w w') (P14 : ∀ w, Calls Tryd.prog 14 #[aggV (recC r)] w fun e w' => e = .returned (.bool false) ∧ Kept [] w w') (P12 : ∀ w, First w → Calls Tryd.prog 12 #[aggV (u8s X)] w fun e w' => e = .returned (.tuple #[aggV (hdC st ep), .int .i64 0]) ∧ Kept [] w w') (P13 : ∀ w, Calls Tryd.prog 13 #[aggV (hdC st ep)] w fun e w' => e = .returned (aggV (u8s X)) ∧ Kept [] w w') (hAz : A = zs 64) (hBz : B = zs 64) (w : World) (hF : First w) : Calls Tryd.prog 3 #[aggV (recC r), aggV (hdC st ep)] w fun e w' => e = .returned (.bool true) ∧ Kept [] w w' := by
  have H8 := hide P8
  have H9 := hide P9
  have H10 := hide P10
  have H14 := hide P14
  have H12 := hide P12
  have H13 := hide P13
  clear P8 P9 P10 P14 P12 P13
  have HAz := hide hAz
  have HBz := hide hBz
  clear hAz hBz
  have lr := recC_len rok.bd.len
  have lX := sec_len hX
  have lX0 := hX.len
  have lA := hA.len
  have F0 := hide hF
  clear hF
  go_enter Tryd.func3, Tryd.ntmps3
  go_wp2_with (
    first
    | (refine wpBoxV rfl (.tmp 0) rfl (recC r) rfl ?_
       intro W1 b1 e1 B1 K1
       have BR := hide B1
       have KA := hide K1
       clear e1 B1 K1)
    | (refine wpBoxV rfl (.tmp 1) rfl (hdC st ep) rfl ?_
       intro W2 b2 e2 B2 K2
       have G : Hid (G0 w W2 b1 b2 r st ep) := ⟨(unhide BR).kept K2 (by simp), B2, ((unhide F0).kept (unhide KA)).kept K2, (unhide KA).trans K2⟩
       clear e2 B2 K2 BR KA F0)
    | (refine wpLoadA row25 (by rfl) (.tmp 2) (by rfl) b1 0 (by kernel_rfl) (recC r) lr (unhide G).rcd.range ?_)
    | (go_at_call 8
       refine (unhide H8 _).mono ?_
       rintro e W3 ⟨rfl, K3⟩
       replace G := hide ((unhide G).step K3)
       clear K3)
    | (refine wpNew row30 (u8s (zs 128)) (zl 128) zero30 5 (by rfl) (by rfl) (by rfl) (.tmp 16) (by rfl) (by rfl) (by rfl) (u8s (A ++ B)) (pair_len hA hB) (u8s_one _) (by kernel_rfl) (by kernel_rfl) ?_
       intro W4 b3 e4 B4 K4
       replace G := hide ((unhide G).step K4)
       have PR := hide B4
       clear e4 B4 K4)
    | (refine wpLoadA row27 (by rfl) (.tmp 3) (by rfl) b2 0 (by kernel_rfl) (hdC st ep) rfl (unhide G).hd.range ?_)
    | (go_at_call 9
       refine (unhide H9 _ (unhide G).first).mono ?_
       rintro e W5 ⟨rfl, K5⟩
       replace G := hide ((unhide G).step K5)
       replace PR := hide ((unhide PR).kept K5 (by simp))
       clear K5)
    | (refine wpNew row29 (u8s (zs 64)) (zl 64) zero29 7 (by rfl) (by rfl) (by rfl) (.tmp 21) (by rfl) (by rfl) (by rfl) (u8s X) lX (u8s_one _) (by kernel_rfl) (by kernel_rfl) ?_
       intro W6 b4 e6 B6 K6
       replace G := hide ((unhide G).step K6)
       replace PR := hide ((unhide PR).kept K6 (by simp))
       have SC := hide B6
       clear e6 B6 K6)
    | (go_at_call 10
       refine (unhide H10 _).mono ?_
       rintro e W7 ⟨rfl, K7⟩
       replace G := hide ((unhide G).step K7)
       replace PR := hide ((unhide PR).kept K7 (by simp))
       replace SC := hide ((unhide SC).kept K7 (by simp))
       clear K7)
    | (refine wpLoadA row29 (by rfl) (.tmp 7) (by rfl) b4 0 (by kernel_rfl) (u8s X) lX (unhide SC).range ?_)
    | (go_at_call 12
       refine (unhide H12 _ (unhide G).first).mono ?_
       rintro e W8 ⟨rfl, K8⟩
       replace G := hide ((unhide G).step K8)
       replace PR := hide ((unhide PR).kept K8 (by simp))
       replace SC := hide ((unhide SC).kept K8 (by simp))
       clear K8)
    | (refine wpNew row27 (hdC 0 0) rfl zero27 9 (by rfl) (by rfl) (by rfl) (.tmp 37) (by rfl) (by rfl) (by rfl) (hdC st ep) rfl (hdC_one _ _) (by kernel_rfl) (by kernel_rfl) ?_
       intro W9 b5 e9 B9 K9
       replace G := hide ((unhide G).step K9)
       replace PR := hide ((unhide PR).kept K9 (by simp))
       replace SC := hide ((unhide SC).kept K9 (by simp))
       have TH := hide B9
       clear e9 B9 K9))
  refine wp_region_any mixed (wpAny_tq 17 rfl (by kernel_rfl) [some (aggV (u8s X)), some (aggV (hdC st ep)), some (aggV (u8s X)), some (.bool false), some (.bool false), some (.int .i64 0), some (.int .i64 0), some (.int .i64 0), some (.int .i64 0), some (.int .i64 (0 + 0)), some (.bool false), some (.bool false), some (.bool false), some (aggV (hdC st ep)), some (aggV (hdC st ep)), some (.bool false), some (.bool false)] rfl (by kernel_rfl) (by kernel_rfl) ?_ ?_)
  · intro i o' hi hsk ho a' w2 hout hin hk2
    replace hk2 : Kept [] W9 w2 := ⟨hk2.os, hk2.tape, hk2.output, hk2.size, hk2.block⟩
    match i, ho, hsk with
    | 0, ho, hsk =>
      obtain rfl := Option.some.inj ho
      exact wp_loadA row29 (.tmp 7) rfl b4 0 ((hout 7 (by kernel_rfl)).trans rfl) (u8s X) lX ((unhide SC).kept hk2 (by simp)).range ⟨_, rfl, tq_is _ _ _ _ rfl, Kept.refl _ _, fun _ _ _ _ _ => trivial⟩
    | 1, ho, hsk =>
      obtain rfl := Option.some.inj ho
      exact wp_loadA row27 (.tmp 3) rfl b2 0 ((hout 3 (by kernel_rfl)).trans rfl) (hdC st ep) rfl ((unhide G).step hk2).hd.range ⟨_, rfl, tq_is _ _ _ _ rfl, Kept.refl _ _, fun _ _ _ _ _ => trivial⟩
    | 2, ho, hsk =>
      obtain rfl := Option.some.inj ho
      have e0 : a'.eval (.tmp 40) = aggV (hdC st ep) := is_tq (hin 1 40 (by kernel_rfl) (by kernel_rfl)) rfl
      refine wp_callF 13 _ _ rfl #[aggV (hdC st ep)] (by simp [e0]) (cf13 _ _) ((unhide H13 w2).mono ?_)
      rintro e w3 ⟨rfl, hk3⟩
      exact ⟨_, rfl, _, rfl, tq_is _ _ _ _ rfl, hk3, fun _ _ _ _ _ => trivial⟩
    | 3, ho, hsk =>
      obtain rfl := Option.some.inj ho
      have e0 : a'.eval (.tmp 39) = aggV (u8s X) := is_tq (hin 0 39 (by kernel_rfl) (by kernel_rfl)) rfl
      have e1 : a'.eval (.tmp 41) = aggV (u8s X) := is_tq (hin 2 41 (by kernel_rfl) (by kernel_rfl)) rfl
      exact o_neqA 29 29 guard29 (.tmp 39) (.tmp 41) rfl (u8s X) (u8s X) e0 e1 true (by rw [equal29 _ X X lX0 lX0]; simp) ⟨_, rfl, tq_is _ _ _ _ rfl, Kept.refl _ _, fun _ _ _ _ _ => trivial⟩
    | 4, ho, hsk =>
      obtain rfl := Option.some.inj ho
      have e0 : a'.eval (.tmp 42) = .bool false := is_tq (hin 3 42 (by kernel_rfl) (by kernel_rfl)) rfl
      exact wp_move (.tmp 42) rfl _ e0 ⟨_, rfl, tq_is _ _ _ _ rfl, Kept.refl _ _, fun _ _ _ _ _ => trivial⟩
    | 5, ho, hsk =>
      obtain rfl := Option.some.inj ho
      exact wp_move (.tmp 8) rfl _ ((hout 8 (by kernel_rfl)).trans rfl) ⟨_, rfl, tq_is _ _ _ _ rfl, Kept.refl _ _, fun _ _ _ _ _ => trivial⟩
    | 6, ho, hsk =>
      obtain rfl := Option.some.inj ho
      have e0 : a'.eval (.tmp 44) = .int .i64 0 := is_tq (hin 5 44 (by kernel_rfl) (by kernel_rfl)) rfl
      refine wp_callF 11 _ _ rfl #[.int .i64 0] (by simp [e0]) (cf11 _ _) ((num11 _ _).mono ?_)
      rintro e w3 ⟨rfl, rfl⟩
      exact ⟨_, rfl, _, rfl, tq_is _ _ _ _ rfl, Kept.refl _ _, fun _ _ _ _ _ => trivial⟩
    | 7, ho, hsk =>
      obtain rfl := Option.some.inj ho
      exact wp_move (.tmp 10) rfl _ ((hout 10 (by kernel_rfl)).trans rfl) ⟨_, rfl, tq_is _ _ _ _ rfl, Kept.refl _ _, fun _ _ _ _ _ => trivial⟩
    | 8, ho, hsk =>
      obtain rfl := Option.some.inj ho
      have e0 : a'.eval (.tmp 46) = .int .i64 0 := is_tq (hin 7 46 (by kernel_rfl) (by kernel_rfl)) rfl
      refine wp_callF 11 _ _ rfl #[.int .i64 0] (by simp [e0]) (cf11 _ _) ((num11 _ _).mono ?_)
      rintro e w3 ⟨rfl, rfl⟩
      exact ⟨_, rfl, _, rfl, tq_is _ _ _ _ rfl, Kept.refl _ _, fun _ _ _ _ _ => trivial⟩
    | 9, ho, hsk =>
      obtain rfl := Option.some.inj ho
      have e0 : a'.eval (.tmp 45) = .int .i64 0 := is_tq (hin 6 45 (by kernel_rfl) (by kernel_rfl)) rfl
      have e1 : a'.eval (.tmp 47) = .int .i64 0 := is_tq (hin 8 47 (by kernel_rfl) (by kernel_rfl)) rfl
      exact o_add3 (.tmp 45) (.tmp 47) rfl 0 0 (by omega) e0 e1 ⟨_, rfl, tq_is _ _ _ _ rfl, Kept.refl _ _, fun _ _ _ _ _ => trivial⟩
    | 10, ho, hsk =>
      obtain rfl := Option.some.inj ho
      have e0 : a'.eval (.tmp 48) = .int .i64 (0 + 0) := is_tq (hin 9 48 (by kernel_rfl) (by kernel_rfl)) rfl
      exact o_neq3 (.tmp 48) 0 rfl _ true (by simp) e0 ⟨_, rfl, tq_is _ _ _ _ rfl, Kept.refl _ _, fun _ _ _ _ _ => trivial⟩
    | 11, ho, hsk =>
      obtain rfl := Option.some.inj ho
      have e0 : a'.eval (.tmp 43) = .bool false := is_tq (hin 4 43 (by kernel_rfl) (by kernel_rfl)) rfl
      have e1 : a'.eval (.tmp 49) = .bool false := is_tq (hin 10 49 (by kernel_rfl) (by kernel_rfl)) rfl
      exact o_pickOrF (.tmp 43) (.tmp 49) rfl e0 e1 ⟨_, rfl, tq_is _ _ _ _ rfl, Kept.refl _ _, fun _ _ _ _ _ => trivial⟩
    | 12, ho, hsk =>
      obtain rfl := Option.some.inj ho
      have e0 : a'.eval (.tmp 50) = .bool false := is_tq (hin 11 50 (by kernel_rfl) (by kernel_rfl)) rfl
      exact wp_move (.tmp 50) rfl _ e0 ⟨_, rfl, tq_is _ _ _ _ rfl, Kept.refl _ _, fun _ _ _ _ _ => trivial⟩
    | 13, ho, hsk =>
      obtain rfl := Option.some.inj ho
      exact wp_loadA row27 (.tmp 9) rfl b5 0 ((hout 9 (by kernel_rfl)).trans rfl) (hdC st ep) rfl ((unhide TH).kept hk2 (by simp)).range ⟨_, rfl, tq_is _ _ _ _ rfl, Kept.refl _ _, fun _ _ _ _ _ => trivial⟩
    | 14, ho, hsk =>
      obtain rfl := Option.some.inj ho
      exact wp_loadA row27 (.tmp 3) rfl b2 0 ((hout 3 (by kernel_rfl)).trans rfl) (hdC st ep) rfl ((unhide G).step hk2).hd.range ⟨_, rfl, tq_is _ _ _ _ rfl, Kept.refl _ _, fun _ _ _ _ _ => trivial⟩
    | 15, ho, hsk =>
      obtain rfl := Option.some.inj ho
      have e0 : a'.eval (.tmp 52) = aggV (hdC st ep) := is_tq (hin 13 52 (by kernel_rfl) (by kernel_rfl)) rfl
      have e1 : a'.eval (.tmp 53) = aggV (hdC st ep) := is_tq (hin 14 53 (by kernel_rfl) (by kernel_rfl)) rfl
      exact o_neqA 27 27 guard27 (.tmp 52) (.tmp 53) rfl (hdC st ep) (hdC st ep) e0 e1 true (by rw [equal27]; simp) ⟨_, rfl, tq_is _ _ _ _ rfl, Kept.refl _ _, fun _ _ _ _ _ => trivial⟩
    | 16, ho, hsk =>
      obtain rfl := Option.some.inj ho
      have e0 : a'.eval (.tmp 51) = .bool false := is_tq (hin 12 51 (by kernel_rfl) (by kernel_rfl)) rfl
      have e1 : a'.eval (.tmp 54) = .bool false := is_tq (hin 15 54 (by kernel_rfl) (by kernel_rfl)) rfl
      exact o_pickOrF (.tmp 51) (.tmp 54) rfl e0 e1 ⟨_, rfl, tq_is _ _ _ _ rfl, Kept.refl _ _, fun _ _ _ _ _ => trivial⟩
  intro w9 hk9
  replace hk9 : Kept [] W9 w9 := ⟨hk9.os, hk9.tape, hk9.output, hk9.size, hk9.block⟩
  simp only [valsQ, List.map_cons, List.map_nil, Option.getD_some, List.take_succ_cons, List.take_zero, putAll, Act.put, List.setIfInBounds_toArray, List.set_cons_succ, List.set_cons_zero]
  refine wpAny_done (by kernel_rfl) ?_ _
  replace G := hide ((unhide G).step hk9)
  replace PR := hide ((unhide PR).kept hk9 (by simp))
  clear hk9 SC TH
  go_wp2_with (
    first
    | (refine wpLoadA row25 (by rfl) (.tmp 2) (by rfl) b1 0 (by kernel_rfl) (recC r) lr (unhide G).rcd.range ?_)
    | (go_at_call 14
       refine (unhide H14 _).mono ?_
       rintro e W10 ⟨rfl, K10⟩
       replace G := hide ((unhide G).step K10)
       replace PR := hide ((unhide PR).kept K10 (by simp))
       clear K10)
    | (refine wpLoadA row30 (by rfl) (.tmp 5) (by rfl) b3 0 (by kernel_rfl) (u8s (A ++ B)) (pair_len hA hB) (unhide PR).range ?_)
    | (refine wpBuildZ (u8s (zs 64 ++ zs 64)) build30z (by rfl) (by rfl) ?_)
    | (refine wpEqlA 30 30 guard30 (.tmp 59) (.tmp 60) (by rfl) (by rfl) (u8s (A ++ B)) (u8s (zs 64 ++ zs 64)) (by kernel_rfl) (by kernel_rfl) true (by rw [equal30 _ A B (zs 64) (zs 64) hA.len hB.len (by simp [zs]) (by simp [zs])]; simp [unhide HAz, unhide HBz]) ?_)
    | (go_at_call 11; refine (num11 _ _).mono ?_; rintro e wn ⟨rfl, rfl⟩)
    | (go_at_call 15
       refine (known15 _ (unhide G).first).mono ?_
       rintro e W11 ⟨rfl, K11⟩
       replace G := hide ((unhide G).step K11)
       replace PR := hide ((unhide PR).kept K11 (by simp))
       clear K11))
  go_ret
  exact ⟨rfl, (unhide G).kept⟩

set_option maxHeartbeats 4000000 in
set_option maxRecDepth 100000 in
theorem puts_ny (r : Rec) (rok : r.Ok) (st ep : Int) (A B X : List Int) (hA : Byts 64 A) (hB : Byts 64 B) (hX : Byts 64 X) (P8 : ∀ w, Calls Tryd.prog 8 #[aggV (recC r)] w fun e w' => e = .returned (.tuple #[aggV (u8s (A ++ B)), .int .i64 0]) ∧ Kept [] w w') (P9 : ∀ w, First w → Calls Tryd.prog 9 #[aggV (hdC st ep)] w fun e w' => e = .returned (.tuple #[aggV (u8s X), .int .i64 2]) ∧ Kept [] w w') (P10 : ∀ w, Calls Tryd.prog 10 #[aggV (hdC st ep)] w fun e w' => e = .returned (.bool false) ∧ Kept [] w w') (P14 : ∀ w, Calls Tryd.prog 14 #[aggV (recC r)] w fun e w' => e = .returned (.bool true) ∧ Kept [] w w') (hXz : X = zs 64) (P17 : ∀ w, Calls Tryd.prog 17 #[aggV (recC r), .int .i64 0] w fun e w' => e = .returned (aggV (u8s A)) ∧ Kept [] w w') (Q17 : ∀ w, Calls Tryd.prog 17 #[aggV (recC r), .int .i64 1] w fun e w' => e = .returned (aggV (u8s B)) ∧ Kept [] w w') (P16 : ∀ w, Calls Tryd.prog 16 #[aggV (u8s A), aggV (u8s B)] w fun e w' => e = .returned (.tuple #[aggV (recC r), .int .i64 0]) ∧ Kept [] w w') (P18 : ∀ w, Calls Tryd.prog 18 #[aggV (u8s A), aggV (u8s B)] w fun e w' => e = .returned (.bool true) ∧ Kept [] w w') (w : World) (hF : First w) : Calls Tryd.prog 3 #[aggV (recC r), aggV (hdC st ep)] w fun e w' => e = .returned (.bool true) ∧ Kept [] w w' := by
  have H8 := hide P8
  have H9 := hide P9
  have H10 := hide P10
  have H14 := hide P14
  have H17 := hide P17
  have H16 := hide P16
  have H18 := hide P18
  have I17 := hide Q17
  clear Q17
  clear P8 P9 P10 P14 P17 P16 P18
  have HXz := hide hXz
  clear hXz
  have lr := recC_len rok.bd.len
  have lX := sec_len hX
  have lX0 := hX.len
  have lA := hA.len
  have F0 := hide hF
  clear hF
  go_enter Tryd.func3, Tryd.ntmps3
  go_wp2_with (
    first
    | (refine wpBoxV rfl (.tmp 0) rfl (recC r) rfl ?_
       intro W1 b1 e1 B1 K1
       have BR := hide B1
       have KA := hide K1
       clear e1 B1 K1)
    | (refine wpBoxV rfl (.tmp 1) rfl (hdC st ep) rfl ?_
       intro W2 b2 e2 B2 K2
       have G : Hid (G0 w W2 b1 b2 r st ep) := ⟨(unhide BR).kept K2 (by simp), B2, ((unhide F0).kept (unhide KA)).kept K2, (unhide KA).trans K2⟩
       clear e2 B2 K2 BR KA F0)
    | (refine wpLoadA row25 (by rfl) (.tmp 2) (by rfl) b1 0 (by kernel_rfl) (recC r) lr (unhide G).rcd.range ?_)
    | (go_at_call 8
       refine (unhide H8 _).mono ?_
       rintro e W3 ⟨rfl, K3⟩
       replace G := hide ((unhide G).step K3)
       clear K3)
    | (refine wpNew row30 (u8s (zs 128)) (zl 128) zero30 5 (by rfl) (by rfl) (by rfl) (.tmp 16) (by rfl) (by rfl) (by rfl) (u8s (A ++ B)) (pair_len hA hB) (u8s_one _) (by kernel_rfl) (by kernel_rfl) ?_
       intro W4 b3 e4 B4 K4
       replace G := hide ((unhide G).step K4)
       have PR := hide B4
       clear e4 B4 K4)
    | (refine wpLoadA row27 (by rfl) (.tmp 3) (by rfl) b2 0 (by kernel_rfl) (hdC st ep) rfl (unhide G).hd.range ?_)
    | (go_at_call 9
       refine (unhide H9 _ (unhide G).first).mono ?_
       rintro e W5 ⟨rfl, K5⟩
       replace G := hide ((unhide G).step K5)
       replace PR := hide ((unhide PR).kept K5 (by simp))
       clear K5)
    | (refine wpNew row29 (u8s (zs 64)) (zl 64) zero29 7 (by rfl) (by rfl) (by rfl) (.tmp 21) (by rfl) (by rfl) (by rfl) (u8s X) lX (u8s_one _) (by kernel_rfl) (by kernel_rfl) ?_
       intro W6 b4 e6 B6 K6
       replace G := hide ((unhide G).step K6)
       replace PR := hide ((unhide PR).kept K6 (by simp))
       have SC := hide B6
       clear e6 B6 K6)
    | (go_at_call 10
       refine (unhide H10 _).mono ?_
       rintro e W7 ⟨rfl, K7⟩
       replace G := hide ((unhide G).step K7)
       replace PR := hide ((unhide PR).kept K7 (by simp))
       replace SC := hide ((unhide SC).kept K7 (by simp))
       clear K7)
    | (refine wpLoadA row29 (by rfl) (.tmp 7) (by rfl) b4 0 (by kernel_rfl) (u8s X) lX (unhide SC).range ?_)
    | (refine wpBuildZ (u8s (zs 64)) build29 (by rfl) (by rfl) ?_)
    | (refine wpNeqA 29 29 guard29 (.tmp 26) (.tmp 27) (by rfl) (by rfl) (u8s X) (u8s (zs 64)) (by kernel_rfl) (by kernel_rfl) true (by rw [equal29 _ X (zs 64) lX0 (by simp [zs])]; simp [unhide HXz]) ?_)
    | (go_at_call 11; refine (num11 _ _).mono ?_; rintro e wn ⟨rfl, rfl⟩)
    | (go_at_call 14
       refine (unhide H14 _).mono ?_
       rintro e W8 ⟨rfl, K8⟩
       replace G := hide ((unhide G).step K8)
       replace PR := hide ((unhide PR).kept K8 (by simp))
       clear K8)
    | (refine wpLoadA row29 (by rfl) (.tmp 71) (by rfl) b3 0 (by kernel_rfl) (u8s A) (sec_len hA) (pair_l (unhide PR)) ?_)
    | (refine wpLoadA row29 (by rfl) (.tmp 73) (by rfl) b3 64 (by kernel_rfl) (u8s B) (sec_len hB) (pair_r lA (unhide PR)) ?_)
    | (go_at_call 16
       refine (unhide H16 _).mono ?_
       rintro e W9 ⟨rfl, K9⟩
       replace G := hide ((unhide G).step K9)
       replace PR := hide ((unhide PR).kept K9 (by simp))
       clear K9)
    | (refine wpNew row25 (recC zrec) (recC_len zrec_ok.bd.len) zero25 11 (by rfl) (by rfl) (by rfl) (.tmp 76) (by rfl) (by rfl) (by rfl) (recC r) lr (recC_one _) (by kernel_rfl) (by kernel_rfl) ?_
       intro W10 b6 e10 B10 K10
       replace G := hide ((unhide G).step K10)
       replace PR := hide ((unhide PR).kept K10 (by simp))
       have GT := hide B10
       clear e10 B10 K10))
  refine wp_region_any mixed (wpAny_tq 36 rfl (by kernel_rfl) [some (.int .i64 0), some (.int .i64 0), some (.int .i64 0), some (.int .i64 0), some (.int .i64 (0 + 0)), some (.bool true), some (.bool true), some (.pointer (some ⟨b3, 64 * 0, none⟩)), some (aggV (u8s A)), some (aggV (recC r)), some (aggV (u8s A)), some (.bool true), some (.bool true), some (.bool true), some (.pointer (some ⟨b3, 64 * 1, none⟩)), some (aggV (u8s B)), some (aggV (recC r)), some (aggV (u8s B)), some (.bool true), some (.bool true), some (.bool true), some (aggV (recC r)), some (aggV (recC r)), some (.bool true), some (.bool true), some (.bool true), some (.pointer (some ⟨b3, 64 * 0, none⟩)), some (aggV (u8s A)), some (.pointer (some ⟨b3, 64 * 1, none⟩)), some (aggV (u8s B)), some (.bool true), some (.bool true), some (.bool true), some (.bool true), some (.bool true), some (.bool true)] rfl (by kernel_rfl) (by kernel_rfl) ?_ ?_)
  · intro i o' hi hsk ho a' w2 hout hin hk2
    replace hk2 : Kept [] W10 w2 := ⟨hk2.os, hk2.tape, hk2.output, hk2.size, hk2.block⟩
    match i, ho, hsk with
    | 0, ho, hsk =>
      obtain rfl := Option.some.inj ho
      exact wp_move (.tmp 6) rfl _ ((hout 6 (by kernel_rfl)).trans rfl) ⟨_, rfl, tq_is _ _ _ _ rfl, Kept.refl _ _, fun _ _ _ _ _ => trivial⟩
    | 1, ho, hsk =>
      obtain rfl := Option.some.inj ho
      have e0 : a'.eval (.tmp 78) = .int .i64 0 := is_tq (hin 0 78 (by kernel_rfl) (by kernel_rfl)) rfl
      refine wp_callF 11 _ _ rfl #[.int .i64 0] (by simp [e0]) (cf11 _ _) ((num11 _ _).mono ?_)
      rintro e w3 ⟨rfl, rfl⟩
      exact ⟨_, rfl, _, rfl, tq_is _ _ _ _ rfl, Kept.refl _ _, fun _ _ _ _ _ => trivial⟩
    | 2, ho, hsk =>
      obtain rfl := Option.some.inj ho
      exact wp_move (.tmp 12) rfl _ ((hout 12 (by kernel_rfl)).trans rfl) ⟨_, rfl, tq_is _ _ _ _ rfl, Kept.refl _ _, fun _ _ _ _ _ => trivial⟩
    | 3, ho, hsk =>
      obtain rfl := Option.some.inj ho
      have e0 : a'.eval (.tmp 80) = .int .i64 0 := is_tq (hin 2 80 (by kernel_rfl) (by kernel_rfl)) rfl
      refine wp_callF 11 _ _ rfl #[.int .i64 0] (by simp [e0]) (cf11 _ _) ((num11 _ _).mono ?_)
      rintro e w3 ⟨rfl, rfl⟩
      exact ⟨_, rfl, _, rfl, tq_is _ _ _ _ rfl, Kept.refl _ _, fun _ _ _ _ _ => trivial⟩
    | 4, ho, hsk =>
      obtain rfl := Option.some.inj ho
      have e0 : a'.eval (.tmp 79) = .int .i64 0 := is_tq (hin 1 79 (by kernel_rfl) (by kernel_rfl)) rfl
      have e1 : a'.eval (.tmp 81) = .int .i64 0 := is_tq (hin 3 81 (by kernel_rfl) (by kernel_rfl)) rfl
      exact o_add3 (.tmp 79) (.tmp 81) rfl 0 0 (by omega) e0 e1 ⟨_, rfl, tq_is _ _ _ _ rfl, Kept.refl _ _, fun _ _ _ _ _ => trivial⟩
    | 5, ho, hsk =>
      obtain rfl := Option.some.inj ho
      have e0 : a'.eval (.tmp 82) = .int .i64 (0 + 0) := is_tq (hin 4 82 (by kernel_rfl) (by kernel_rfl)) rfl
      exact o_eql3 (.tmp 82) 0 rfl _ true (by simp) e0 ⟨_, rfl, tq_is _ _ _ _ rfl, Kept.refl _ _, fun _ _ _ _ _ => trivial⟩
    | 6, ho, hsk =>
      obtain rfl := Option.some.inj ho
      have e0 : a'.eval (.tmp 83) = .bool true := is_tq (hin 5 83 (by kernel_rfl) (by kernel_rfl)) rfl
      exact wp_move (.tmp 83) rfl _ e0 ⟨_, rfl, tq_is _ _ _ _ rfl, Kept.refl _ _, fun _ _ _ _ _ => trivial⟩
    | 7, ho, hsk =>
      obtain rfl := Option.some.inj ho
      exact o_idx30 (.tmp 5) 0 (by omega) rfl b3 ((hout 5 (by kernel_rfl)).trans rfl) ⟨_, rfl, tq_is _ _ _ _ rfl, Kept.refl _ _, fun _ _ _ _ _ => trivial⟩
    | 8, ho, hsk =>
      obtain rfl := Option.some.inj ho
      have e0 : a'.eval (.tmp 85) = .pointer (some ⟨b3, 64 * 0, none⟩) := is_tq (hin 7 85 (by kernel_rfl) (by kernel_rfl)) rfl
      exact wp_loadA row29 (.tmp 85) rfl b3 (64 * 0) e0 (u8s A) (sec_len hA) (pair_l ((unhide PR).kept hk2 (by simp))) ⟨_, rfl, tq_is _ _ _ _ rfl, Kept.refl _ _, fun _ _ _ _ _ => trivial⟩
    | 9, ho, hsk =>
      obtain rfl := Option.some.inj ho
      exact wp_loadA row25 (.tmp 2) rfl b1 0 ((hout 2 (by kernel_rfl)).trans rfl) (recC r) lr ((unhide G).step hk2).rcd.range ⟨_, rfl, tq_is _ _ _ _ rfl, Kept.refl _ _, fun _ _ _ _ _ => trivial⟩
    | 10, ho, hsk =>
      obtain rfl := Option.some.inj ho
      have e0 : a'.eval (.tmp 87) = aggV (recC r) := is_tq (hin 9 87 (by kernel_rfl) (by kernel_rfl)) rfl
      refine wp_callF 17 _ _ rfl #[aggV (recC r), .int .i64 0] (by simp [e0]; rfl) (cf17 _ _) ((unhide H17 w2).mono ?_)
      rintro e w3 ⟨rfl, hk3⟩
      exact ⟨_, rfl, _, rfl, tq_is _ _ _ _ rfl, hk3, fun _ _ _ _ _ => trivial⟩
    | 11, ho, hsk =>
      obtain rfl := Option.some.inj ho
      have e0 : a'.eval (.tmp 86) = aggV (u8s A) := is_tq (hin 8 86 (by kernel_rfl) (by kernel_rfl)) rfl
      have e1 : a'.eval (.tmp 88) = aggV (u8s A) := is_tq (hin 10 88 (by kernel_rfl) (by kernel_rfl)) rfl
      exact o_eqlA 29 29 guard29 (.tmp 86) (.tmp 88) rfl (u8s A) (u8s A) e0 e1 true (by rw [equal29 _ A A hA.len hA.len]; simp) ⟨_, rfl, tq_is _ _ _ _ rfl, Kept.refl _ _, fun _ _ _ _ _ => trivial⟩
    | 12, ho, hsk =>
      obtain rfl := Option.some.inj ho
      have e0 : a'.eval (.tmp 84) = .bool true := is_tq (hin 6 84 (by kernel_rfl) (by kernel_rfl)) rfl
      have e1 : a'.eval (.tmp 89) = .bool true := is_tq (hin 11 89 (by kernel_rfl) (by kernel_rfl)) rfl
      exact o_pick (.tmp 84) (.tmp 89) rfl _ e0 e1 ⟨_, rfl, tq_is _ _ _ _ rfl, Kept.refl _ _, fun _ _ _ _ _ => trivial⟩
    | 13, ho, hsk =>
      obtain rfl := Option.some.inj ho
      have e0 : a'.eval (.tmp 90) = .bool true := is_tq (hin 12 90 (by kernel_rfl) (by kernel_rfl)) rfl
      exact wp_move (.tmp 90) rfl _ e0 ⟨_, rfl, tq_is _ _ _ _ rfl, Kept.refl _ _, fun _ _ _ _ _ => trivial⟩
    | 14, ho, hsk =>
      obtain rfl := Option.some.inj ho
      exact o_idx30 (.tmp 5) 1 (by omega) rfl b3 ((hout 5 (by kernel_rfl)).trans rfl) ⟨_, rfl, tq_is _ _ _ _ rfl, Kept.refl _ _, fun _ _ _ _ _ => trivial⟩
    | 15, ho, hsk =>
      obtain rfl := Option.some.inj ho
      have e0 : a'.eval (.tmp 92) = .pointer (some ⟨b3, 64 * 1, none⟩) := is_tq (hin 14 92 (by kernel_rfl) (by kernel_rfl)) rfl
      exact wp_loadA row29 (.tmp 92) rfl b3 (64 * 1) e0 (u8s B) (sec_len hB) (pair_r lA ((unhide PR).kept hk2 (by simp))) ⟨_, rfl, tq_is _ _ _ _ rfl, Kept.refl _ _, fun _ _ _ _ _ => trivial⟩
    | 16, ho, hsk =>
      obtain rfl := Option.some.inj ho
      exact wp_loadA row25 (.tmp 2) rfl b1 0 ((hout 2 (by kernel_rfl)).trans rfl) (recC r) lr ((unhide G).step hk2).rcd.range ⟨_, rfl, tq_is _ _ _ _ rfl, Kept.refl _ _, fun _ _ _ _ _ => trivial⟩
    | 17, ho, hsk =>
      obtain rfl := Option.some.inj ho
      have e0 : a'.eval (.tmp 94) = aggV (recC r) := is_tq (hin 16 94 (by kernel_rfl) (by kernel_rfl)) rfl
      refine wp_callF 17 _ _ rfl #[aggV (recC r), .int .i64 1] (by simp [e0]; rfl) (cf17 _ _) ((unhide I17 w2).mono ?_)
      rintro e w3 ⟨rfl, hk3⟩
      exact ⟨_, rfl, _, rfl, tq_is _ _ _ _ rfl, hk3, fun _ _ _ _ _ => trivial⟩
    | 18, ho, hsk =>
      obtain rfl := Option.some.inj ho
      have e0 : a'.eval (.tmp 93) = aggV (u8s B) := is_tq (hin 15 93 (by kernel_rfl) (by kernel_rfl)) rfl
      have e1 : a'.eval (.tmp 95) = aggV (u8s B) := is_tq (hin 17 95 (by kernel_rfl) (by kernel_rfl)) rfl
      exact o_eqlA 29 29 guard29 (.tmp 93) (.tmp 95) rfl (u8s B) (u8s B) e0 e1 true (by rw [equal29 _ B B hB.len hB.len]; simp) ⟨_, rfl, tq_is _ _ _ _ rfl, Kept.refl _ _, fun _ _ _ _ _ => trivial⟩
    | 19, ho, hsk =>
      obtain rfl := Option.some.inj ho
      have e0 : a'.eval (.tmp 91) = .bool true := is_tq (hin 13 91 (by kernel_rfl) (by kernel_rfl)) rfl
      have e1 : a'.eval (.tmp 96) = .bool true := is_tq (hin 18 96 (by kernel_rfl) (by kernel_rfl)) rfl
      exact o_pick (.tmp 91) (.tmp 96) rfl _ e0 e1 ⟨_, rfl, tq_is _ _ _ _ rfl, Kept.refl _ _, fun _ _ _ _ _ => trivial⟩
    | 20, ho, hsk =>
      obtain rfl := Option.some.inj ho
      have e0 : a'.eval (.tmp 97) = .bool true := is_tq (hin 19 97 (by kernel_rfl) (by kernel_rfl)) rfl
      exact wp_move (.tmp 97) rfl _ e0 ⟨_, rfl, tq_is _ _ _ _ rfl, Kept.refl _ _, fun _ _ _ _ _ => trivial⟩
    | 21, ho, hsk =>
      obtain rfl := Option.some.inj ho
      exact wp_loadA row25 (.tmp 11) rfl b6 0 ((hout 11 (by kernel_rfl)).trans rfl) (recC r) lr ((unhide GT).kept hk2 (by simp)).range ⟨_, rfl, tq_is _ _ _ _ rfl, Kept.refl _ _, fun _ _ _ _ _ => trivial⟩
    | 22, ho, hsk =>
      obtain rfl := Option.some.inj ho
      exact wp_loadA row25 (.tmp 2) rfl b1 0 ((hout 2 (by kernel_rfl)).trans rfl) (recC r) lr ((unhide G).step hk2).rcd.range ⟨_, rfl, tq_is _ _ _ _ rfl, Kept.refl _ _, fun _ _ _ _ _ => trivial⟩
    | 23, ho, hsk =>
      obtain rfl := Option.some.inj ho
      have e0 : a'.eval (.tmp 99) = aggV (recC r) := is_tq (hin 21 99 (by kernel_rfl) (by kernel_rfl)) rfl
      have e1 : a'.eval (.tmp 100) = aggV (recC r) := is_tq (hin 22 100 (by kernel_rfl) (by kernel_rfl)) rfl
      exact o_eqlA 25 25 guard25 (.tmp 99) (.tmp 100) rfl (recC r) (recC r) e0 e1 true (by rw [equal25 _ r r rok.bd.len rok.bd.len, recEq_self]) ⟨_, rfl, tq_is _ _ _ _ rfl, Kept.refl _ _, fun _ _ _ _ _ => trivial⟩
    | 24, ho, hsk =>
      obtain rfl := Option.some.inj ho
      have e0 : a'.eval (.tmp 98) = .bool true := is_tq (hin 20 98 (by kernel_rfl) (by kernel_rfl)) rfl
      have e1 : a'.eval (.tmp 101) = .bool true := is_tq (hin 23 101 (by kernel_rfl) (by kernel_rfl)) rfl
      exact o_pick (.tmp 98) (.tmp 101) rfl _ e0 e1 ⟨_, rfl, tq_is _ _ _ _ rfl, Kept.refl _ _, fun _ _ _ _ _ => trivial⟩
    | 25, ho, hsk =>
      obtain rfl := Option.some.inj ho
      have e0 : a'.eval (.tmp 102) = .bool true := is_tq (hin 24 102 (by kernel_rfl) (by kernel_rfl)) rfl
      exact wp_move (.tmp 102) rfl _ e0 ⟨_, rfl, tq_is _ _ _ _ rfl, Kept.refl _ _, fun _ _ _ _ _ => trivial⟩
    | 26, ho, hsk =>
      obtain rfl := Option.some.inj ho
      exact o_idx30 (.tmp 5) 0 (by omega) rfl b3 ((hout 5 (by kernel_rfl)).trans rfl) ⟨_, rfl, tq_is _ _ _ _ rfl, Kept.refl _ _, fun _ _ _ _ _ => trivial⟩
    | 27, ho, hsk =>
      obtain rfl := Option.some.inj ho
      have e0 : a'.eval (.tmp 104) = .pointer (some ⟨b3, 64 * 0, none⟩) := is_tq (hin 26 104 (by kernel_rfl) (by kernel_rfl)) rfl
      exact wp_loadA row29 (.tmp 104) rfl b3 (64 * 0) e0 (u8s A) (sec_len hA) (pair_l ((unhide PR).kept hk2 (by simp))) ⟨_, rfl, tq_is _ _ _ _ rfl, Kept.refl _ _, fun _ _ _ _ _ => trivial⟩
    | 28, ho, hsk =>
      obtain rfl := Option.some.inj ho
      exact o_idx30 (.tmp 5) 1 (by omega) rfl b3 ((hout 5 (by kernel_rfl)).trans rfl) ⟨_, rfl, tq_is _ _ _ _ rfl, Kept.refl _ _, fun _ _ _ _ _ => trivial⟩
    | 29, ho, hsk =>
      obtain rfl := Option.some.inj ho
      have e0 : a'.eval (.tmp 106) = .pointer (some ⟨b3, 64 * 1, none⟩) := is_tq (hin 28 106 (by kernel_rfl) (by kernel_rfl)) rfl
      exact wp_loadA row29 (.tmp 106) rfl b3 (64 * 1) e0 (u8s B) (sec_len hB) (pair_r lA ((unhide PR).kept hk2 (by simp))) ⟨_, rfl, tq_is _ _ _ _ rfl, Kept.refl _ _, fun _ _ _ _ _ => trivial⟩
    | 30, ho, hsk =>
      obtain rfl := Option.some.inj ho
      have e0 : a'.eval (.tmp 105) = aggV (u8s A) := is_tq (hin 27 105 (by kernel_rfl) (by kernel_rfl)) rfl
      have e1 : a'.eval (.tmp 107) = aggV (u8s B) := is_tq (hin 29 107 (by kernel_rfl) (by kernel_rfl)) rfl
      refine wp_callF 18 _ _ rfl #[aggV (u8s A), aggV (u8s B)] (by simp [e0, e1]) (cf18 _ _) ((unhide H18 w2).mono ?_)
      rintro e w3 ⟨rfl, hk3⟩
      exact ⟨_, rfl, _, rfl, tq_is _ _ _ _ rfl, hk3, fun _ _ _ _ _ => trivial⟩
    | 31, ho, hsk =>
      obtain rfl := Option.some.inj ho
      have e0 : a'.eval (.tmp 103) = .bool true := is_tq (hin 25 103 (by kernel_rfl) (by kernel_rfl)) rfl
      have e1 : a'.eval (.tmp 108) = .bool true := is_tq (hin 30 108 (by kernel_rfl) (by kernel_rfl)) rfl
      exact o_pick (.tmp 103) (.tmp 108) rfl _ e0 e1 ⟨_, rfl, tq_is _ _ _ _ rfl, Kept.refl _ _, fun _ _ _ _ _ => trivial⟩
    | 32, ho, hsk =>
      obtain rfl := Option.some.inj ho
      have e0 : a'.eval (.tmp 109) = .bool true := is_tq (hin 31 109 (by kernel_rfl) (by kernel_rfl)) rfl
      exact wp_move (.tmp 109) rfl _ e0 ⟨_, rfl, tq_is _ _ _ _ rfl, Kept.refl _ _, fun _ _ _ _ _ => trivial⟩
    | 33, ho, hsk =>
      obtain rfl := Option.some.inj ho
      refine wp_callF 15 _ _ rfl #[] (by simp) (cf15 _ _) ((known15 w2 ((unhide G).step hk2).first).mono ?_)
      rintro e w3 ⟨rfl, hk3⟩
      exact ⟨_, rfl, _, rfl, tq_is _ _ _ _ rfl, hk3, fun _ _ _ _ _ => trivial⟩
    | 34, ho, hsk =>
      obtain rfl := Option.some.inj ho
      have e0 : a'.eval (.tmp 110) = .bool true := is_tq (hin 32 110 (by kernel_rfl) (by kernel_rfl)) rfl
      have e1 : a'.eval (.tmp 111) = .bool true := is_tq (hin 33 111 (by kernel_rfl) (by kernel_rfl)) rfl
      exact o_pick (.tmp 110) (.tmp 111) rfl _ e0 e1 ⟨_, rfl, tq_is _ _ _ _ rfl, Kept.refl _ _, fun _ _ _ _ _ => trivial⟩
    | 35, ho, hsk =>
      obtain rfl := Option.some.inj ho
      have e0 : a'.eval (.tmp 112) = .bool true := is_tq (hin 34 112 (by kernel_rfl) (by kernel_rfl)) rfl
      exact wp_assignV (.tmp 112) rfl _ e0 ⟨_, rfl, tq_is _ _ _ _ rfl, Kept.refl _ _, fun _ _ _ _ _ => trivial⟩
  intro w8 hk8
  replace hk8 : Kept [] W10 w8 := ⟨hk8.os, hk8.tape, hk8.output, hk8.size, hk8.block⟩
  simp only [valsQ, List.map_cons, List.map_nil, Option.getD_some, List.take_succ_cons, List.take_zero, putAll, Act.put, List.setIfInBounds_toArray, List.set_cons_succ, List.set_cons_zero]
  refine wpAny_done (by kernel_rfl) ?_ _
  replace G := hide ((unhide G).step hk8)
  clear hk8
  go_wp2_with fail
  go_ret
  exact ⟨rfl, (unhide G).kept⟩

set_option maxHeartbeats 4000000 in
set_option maxRecDepth 100000 in
theorem puts_nn (r : Rec) (rok : r.Ok) (st ep : Int) (A B X : List Int) (hA : Byts 64 A) (hB : Byts 64 B) (hX : Byts 64 X) (P8 : ∀ w, Calls Tryd.prog 8 #[aggV (recC r)] w fun e w' => e = .returned (.tuple #[aggV (u8s (A ++ B)), .int .i64 2]) ∧ Kept [] w w') (P9 : ∀ w, First w → Calls Tryd.prog 9 #[aggV (hdC st ep)] w fun e w' => e = .returned (.tuple #[aggV (u8s X), .int .i64 2]) ∧ Kept [] w w') (P10 : ∀ w, Calls Tryd.prog 10 #[aggV (hdC st ep)] w fun e w' => e = .returned (.bool false) ∧ Kept [] w w') (P14 : ∀ w, Calls Tryd.prog 14 #[aggV (recC r)] w fun e w' => e = .returned (.bool false) ∧ Kept [] w w') (hXz : X = zs 64) (hAz : A = zs 64) (hBz : B = zs 64) (w : World) (hF : First w) : Calls Tryd.prog 3 #[aggV (recC r), aggV (hdC st ep)] w fun e w' => e = .returned (.bool true) ∧ Kept [] w w' := by
  have H8 := hide P8
  have H9 := hide P9
  have H10 := hide P10
  have H14 := hide P14
  clear P8 P9 P10 P14
  have HXz := hide hXz
  clear hXz
  have HAz := hide hAz
  have HBz := hide hBz
  clear hAz hBz
  have lr := recC_len rok.bd.len
  have lX := sec_len hX
  have lX0 := hX.len
  have lA := hA.len
  have F0 := hide hF
  clear hF
  go_enter Tryd.func3, Tryd.ntmps3
  go_wp2_with (
    first
    | (refine wpBoxV rfl (.tmp 0) rfl (recC r) rfl ?_
       intro W1 b1 e1 B1 K1
       have BR := hide B1
       have KA := hide K1
       clear e1 B1 K1)
    | (refine wpBoxV rfl (.tmp 1) rfl (hdC st ep) rfl ?_
       intro W2 b2 e2 B2 K2
       have G : Hid (G0 w W2 b1 b2 r st ep) := ⟨(unhide BR).kept K2 (by simp), B2, ((unhide F0).kept (unhide KA)).kept K2, (unhide KA).trans K2⟩
       clear e2 B2 K2 BR KA F0)
    | (refine wpLoadA row25 (by rfl) (.tmp 2) (by rfl) b1 0 (by kernel_rfl) (recC r) lr (unhide G).rcd.range ?_)
    | (go_at_call 8
       refine (unhide H8 _).mono ?_
       rintro e W3 ⟨rfl, K3⟩
       replace G := hide ((unhide G).step K3)
       clear K3)
    | (refine wpNew row30 (u8s (zs 128)) (zl 128) zero30 5 (by rfl) (by rfl) (by rfl) (.tmp 16) (by rfl) (by rfl) (by rfl) (u8s (A ++ B)) (pair_len hA hB) (u8s_one _) (by kernel_rfl) (by kernel_rfl) ?_
       intro W4 b3 e4 B4 K4
       replace G := hide ((unhide G).step K4)
       have PR := hide B4
       clear e4 B4 K4)
    | (refine wpLoadA row27 (by rfl) (.tmp 3) (by rfl) b2 0 (by kernel_rfl) (hdC st ep) rfl (unhide G).hd.range ?_)
    | (go_at_call 9
       refine (unhide H9 _ (unhide G).first).mono ?_
       rintro e W5 ⟨rfl, K5⟩
       replace G := hide ((unhide G).step K5)
       replace PR := hide ((unhide PR).kept K5 (by simp))
       clear K5)
    | (refine wpNew row29 (u8s (zs 64)) (zl 64) zero29 7 (by rfl) (by rfl) (by rfl) (.tmp 21) (by rfl) (by rfl) (by rfl) (u8s X) lX (u8s_one _) (by kernel_rfl) (by kernel_rfl) ?_
       intro W6 b4 e6 B6 K6
       replace G := hide ((unhide G).step K6)
       replace PR := hide ((unhide PR).kept K6 (by simp))
       have SC := hide B6
       clear e6 B6 K6)
    | (go_at_call 10
       refine (unhide H10 _).mono ?_
       rintro e W7 ⟨rfl, K7⟩
       replace G := hide ((unhide G).step K7)
       replace PR := hide ((unhide PR).kept K7 (by simp))
       replace SC := hide ((unhide SC).kept K7 (by simp))
       clear K7)
    | (refine wpLoadA row29 (by rfl) (.tmp 7) (by rfl) b4 0 (by kernel_rfl) (u8s X) lX (unhide SC).range ?_)
    | (refine wpBuildZ (u8s (zs 64)) build29 (by rfl) (by rfl) ?_)
    | (refine wpNeqA 29 29 guard29 (.tmp 26) (.tmp 27) (by rfl) (by rfl) (u8s X) (u8s (zs 64)) (by kernel_rfl) (by kernel_rfl) true (by rw [equal29 _ X (zs 64) lX0 (by simp [zs])]; simp [unhide HXz]) ?_)
    | (go_at_call 11; refine (num11 _ _).mono ?_; rintro e wn ⟨rfl, rfl⟩)
    | (go_at_call 14
       refine (unhide H14 _).mono ?_
       rintro e W8 ⟨rfl, K8⟩
       replace G := hide ((unhide G).step K8)
       replace PR := hide ((unhide PR).kept K8 (by simp))
       clear K8)
    | (refine wpLoadA row30 (by rfl) (.tmp 5) (by rfl) b3 0 (by kernel_rfl) (u8s (A ++ B)) (pair_len hA hB) (unhide PR).range ?_)
    | (refine wpBuildZ (u8s (zs 64 ++ zs 64)) build30z (by rfl) (by rfl) ?_)
    | (refine wpEqlA 30 30 guard30 (.tmp 59) (.tmp 60) (by rfl) (by rfl) (u8s (A ++ B)) (u8s (zs 64 ++ zs 64)) (by kernel_rfl) (by kernel_rfl) true (by rw [equal30 _ A B (zs 64) (zs 64) hA.len hB.len (by simp [zs]) (by simp [zs])]; simp [unhide HAz, unhide HBz]) ?_)
    | (go_at_call 15
       refine (known15 _ (unhide G).first).mono ?_
       rintro e W9 ⟨rfl, K9⟩
       replace G := hide ((unhide G).step K9)
       replace PR := hide ((unhide PR).kept K9 (by simp))
       clear K9))
  go_ret
  exact ⟨rfl, (unhide G).kept⟩

theorem puts3 (r : Rec) (rok : r.Ok) (st ep : Int) (w : World) (hF : First w) : Calls Tryd.prog 3 #[aggV (recC r), aggV (hdC st ep)] w fun e w' => e = .returned (.bool true) ∧ Kept [] w w' := by
  have P8 := fun w => put8 r rok.bd w
  have P9 := fun w => puthead9 st ep w
  have P10 := fun w => mayhead10 st ep w
  have P14 := fun w => may14 r w
  cases hr : isRec r with
  | true =>
    have e8 : putR r = (laidR r 0 ++ laidR r 1, 0) := by simp [putR, hr]
    have hA := laidR_byts (r := r) (h := 0) (by omega) rok.bd
    have hB := laidR_byts (r := r) (h := 1) (by omega) rok.bd
    have eg := get_laid r hr rok.bd
    have P16 := fun w => get16 _ _ hA hB w
    have P18 := fun w => whole18 _ _ hA hB w
    have P17 := fun w => half17 r hr rok.bd 0 (by omega) w
    have Q17 := fun w => half17 r hr rok.bd 1 (by omega) w
    rw [e8] at P8
    rw [hr] at P14
    rw [eg] at P16 P18
    cases hm : mayH st ep with
    | true =>
      rw [hm] at P10
      have ht := take_laid st ep (by simpa [mayH] using hm)
      have hX := puthR_byts st ep
      have P12 := fun w hF => takehead12 _ hX w hF
      rw [ht.1] at P12
      rw [ht.2] at P9
      exact puts_yy r rok st ep _ _ _ hA hB hX P8 P9 P10 P14 P12 (fun w => rputh13 st ep hm w) P17 Q17 P16 P18 w hF
    | false =>
      rw [hm] at P10
      have h2 := hm
      simp only [mayH, Bool.or_eq_false_iff] at h2
      have e9 : puthR st ep = (zs 64, 2) := by simp [puthR, h2.1, h2.2]
      rw [e9] at P9
      exact puts_ny r rok st ep _ _ _ hA hB (zs_byts 64) P8 P9 P10 P14 rfl P17 Q17 P16 P18 w hF
  | false =>
    have e8 : putR r = (zs 64 ++ zs 64, 2) := by
      have : zs 128 = zs 64 ++ zs 64 := rfl
      simp [putR, hr, this]
    rw [e8] at P8
    rw [hr] at P14
    cases hm : mayH st ep with
    | true =>
      rw [hm] at P10
      have ht := take_laid st ep (by simpa [mayH] using hm)
      have hX := puthR_byts st ep
      have P12 := fun w hF => takehead12 _ hX w hF
      rw [ht.1] at P12
      rw [ht.2] at P9
      exact puts_yn r rok st ep _ _ _ (zs_byts 64) (zs_byts 64) hX P8 P9 P10 P14 P12 (fun w => rputh13 st ep hm w) rfl rfl w hF
    | false =>
      rw [hm] at P10
      have h2 := hm
      simp only [mayH, Bool.or_eq_false_iff] at h2
      have e9 : puthR st ep = (zs 64, 2) := by simp [puthR, h2.1, h2.2]
      rw [e9] at P9
      exact puts_nn r rok st ep _ _ _ (zs_byts 64) (zs_byts 64) (zs_byts 64) P8 P9 P10 P14 rfl rfl rfl w hF

end Go.Proofs.YtkpkiibahfdomaaDoor
