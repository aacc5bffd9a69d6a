/-
  The walk of RecordGets.
-/
import Derived.Test.YtkpkiibahfdomaaDoorGetsa
namespace Go.Proofs.YtkpkiibahfdomaaDoor
open Go.RowKit

section
variable {o : Oper} {a : Act} {w : World} {K : Act → World → Prop} {Q : Exit → Act → World → Prop}
theorem o_neqS3 (x y : Operand) (ho : o.op = .binOp .neq 3 x y 3) (m : Int) (hx : a.eval x = .int .i64 m) (hy : a.eval y = .int .i64 m) (h : K (a.put o.dst (.bool false)) w) : o.wp Tryd.prog a w K Q := by
  unfold Oper.wp execOp
  simp only [ho, hx, hy]
  simp [go_sem]
  exact h
theorem o_eqlS3 (x y : Operand) (ho : o.op = .binOp .eql 3 x y 3) (m : Int) (hx : a.eval x = .int .i64 m) (hy : a.eval y = .int .i64 m) (h : K (a.put o.dst (.bool true)) w) : o.wp Tryd.prog a w K Q := by
  unfold Oper.wp execOp
  simp only [ho, hx, hy]
  simp [go_sem]
  exact h
theorem o_eqlS4 (x y : Operand) (ho : o.op = .binOp .eql 4 x y 4) (m : Bool) (hx : a.eval x = .bool m) (hy : a.eval y = .bool m) (h : K (a.put o.dst (.bool true)) w) : o.wp Tryd.prog a w K Q := by
  unfold Oper.wp execOp
  simp only [ho, hx, hy]
  simp [go_sem]
  exact h
end
section
variable {ops : Array Oper} {rest : List Oper} {op : Oper} {a : Act} {w : World} {Q : Exit → Act → World → Prop}
theorem wpNeq3G (x y : Operand) (ho : op.op = .binOp .neq 3 x y 3) (hw : Region.wanted op (yielded ops a.tmps) = true) (m : Int) (hx : a.eval x = .int .i64 m) (hy : a.eval y = .int .i64 m) (h : wpList Tryd.prog ops Q rest (a.put op.dst (.bool false)) w) : wpList Tryd.prog ops Q (op :: rest) a w :=
  BigFrame.wpList_want hw fun _ hK => o_neqS3 x y ho m hx hy (hK _ _ h)
theorem wpNeq4G (x y : Operand) (ho : op.op = .binOp .neq 4 x y 4) (hw : Region.wanted op (yielded ops a.tmps) = true) (m : Bool) (hx : a.eval x = .bool m) (hy : a.eval y = .bool m) (h : wpList Tryd.prog ops Q rest (a.put op.dst (.bool false)) w) : wpList Tryd.prog ops Q (op :: rest) a w :=
  BigFrame.wpList_want hw fun _ hK => o_neq4 x y ho m hx hy (hK _ _ h)
theorem wpNeq27G (x y : Operand) (ho : op.op = .binOp .neq 27 x y 27) (hw : Region.wanted op (yielded ops a.tmps) = true) (p q : Int) (hx : a.eval x = aggV (hdC p q)) (hy : a.eval y = aggV (hdC p q)) (h : wpList Tryd.prog ops Q rest (a.put op.dst (.bool false)) w) : wpList Tryd.prog ops Q (op :: rest) a w :=
  BigFrame.wpList_want hw fun _ hK => o_neqA 27 27 guard27 x y ho (hdC p q) (hdC p q) hx hy true (by rw [equal27]; simp) (hK _ _ h)
theorem wpEql3G (x y : Operand) (ho : op.op = .binOp .eql 3 x y 3) (hw : Region.wanted op (yielded ops a.tmps) = true) (m : Int) (hx : a.eval x = .int .i64 m) (hy : a.eval y = .int .i64 m) (h : wpList Tryd.prog ops Q rest (a.put op.dst (.bool true)) w) : wpList Tryd.prog ops Q (op :: rest) a w :=
  BigFrame.wpList_want hw fun _ hK => o_eqlS3 x y ho m hx hy (hK _ _ h)
theorem wpEql4G (x y : Operand) (ho : op.op = .binOp .eql 4 x y 4) (hw : Region.wanted op (yielded ops a.tmps) = true) (m : Bool) (hx : a.eval x = .bool m) (hy : a.eval y = .bool m) (h : wpList Tryd.prog ops Q rest (a.put op.dst (.bool true)) w) : wpList Tryd.prog ops Q (op :: rest) a w :=
  BigFrame.wpList_want hw fun _ hK => o_eqlS4 x y ho m hx hy (hK _ _ h)
theorem wpEqlC3G (x : Operand) (c : Int) (ho : op.op = .binOp .eql 3 x (.const (.int .i64 c)) 3) (hw : Region.wanted op (yielded ops a.tmps) = true) (m : Int) (hx : a.eval x = .int .i64 m) (h : wpList Tryd.prog ops Q rest (a.put op.dst (.bool (decide (m = c)))) w) : wpList Tryd.prog ops Q (op :: rest) a w :=
  BigFrame.wpList_want hw fun _ hK => o_eql3 x c ho m _ rfl hx (hK _ _ h)
end
/-- What RecordGets keeps while it goes. -/
structure Vw (w wr : World) (b1 b3 b5 : Nat) (a b : List Int) (R : Rec) : Prop where
  pr : Blk wr b1 30 (u8s (a ++ b))
  g : Blk wr b3 25 (recC R)
  d : Blk wr b5 25 (recC R)
  first : First wr
  kept : Kept [] w wr
theorem Vw.step {w wr wn : World} {b1 b3 b5 : Nat} {a b : List Int} {R : Rec} (h : Vw w wr b1 b3 b5 a b R) (hk : Kept [] wr wn) : Vw w wn b1 b3 b5 a b R :=
  ⟨h.pr.kept hk (by simp), h.g.kept hk (by simp), h.d.kept hk (by simp), h.first.kept hk, h.kept.trans hk⟩
/-- What the two programs tell of one sector. -/
structure Tells (s : List Int) (S : Rec) (n : Int) (t : Bool) (p q e : Int) : Prop where
  c20 : ∀ w, Calls Tryd.prog 20 #[aggV (u8s s)] w fun e w' => e = .returned (.tuple #[aggV (recC S), .int .i64 n, .bool t]) ∧ Kept [] w w'
  c21 : ∀ w, Calls Tryd.prog 21 #[aggV (u8s s)] w fun e w' => e = .returned (.tuple #[aggV (recC S), .int .i64 n, .bool t]) ∧ Kept [] w w'
  c12 : ∀ w, First w → Calls Tryd.prog 12 #[aggV (u8s s)] w fun e' w' => e' = .returned (.tuple #[aggV (hdC p q), .int .i64 e]) ∧ Kept [] w w'
  c22 : ∀ w, Calls Tryd.prog 22 #[aggV (u8s s)] w fun e' w' => e' = .returned (.tuple #[aggV (hdC p q), .int .i64 e]) ∧ Kept [] w w'
  len : S.bd.length = 96

set_option maxHeartbeats 4000000 in
set_option maxRecDepth 100000 in
theorem gets_w (a b : List Int) (ha : Byts 64 a) (hb : Byts 64 b) (R : Rec) (ee : Int) (hR : R.bd.length = 96) (P16 : ∀ w, Calls Tryd.prog 16 #[aggV (u8s a), aggV (u8s b)] w fun e w' => e = .returned (.tuple #[aggV (recC R), .int .i64 ee]) ∧ Kept [] w w') (P19 : ∀ w, Calls Tryd.prog 19 #[aggV (u8s a), aggV (u8s b)] w fun e w' => e = .returned (.tuple #[aggV (recC R), .int .i64 ee]) ∧ Kept [] w w') (P18 : ∀ w, Calls Tryd.prog 18 #[aggV (u8s a), aggV (u8s b)] w fun e w' => e = .returned (.bool (decide (ee = 0))) ∧ Kept [] w w')
    (Sa : Rec) (na : Int) (ta : Bool) (pa qa ea : Int) (hTa : Tells a Sa na ta pa qa ea) (Sb : Rec) (nb : Int) (tb : Bool) (pb qb eb : Int) (hTb : Tells b Sb nb tb pb qb eb) (w : World) (hF : First w) : Calls Tryd.prog 4 #[aggV (u8s (a ++ b))] w fun e w' => e = .returned (.bool true) ∧ Kept [] w w' := by
  have H16 := hide P16
  have H19 := hide P19
  have H18 := hide P18
  have Ta := hide hTa
  have Tb := hide hTb
  have F0 := hide hF
  clear P16 P19 P18 hTa hTb hF
  have lR := recC_len hR
  have lz : (recC zrec).length = 101 := recC_len zrec_ok.bd.len
  go_enter Tryd.func4, Tryd.ntmps4
  go_wp2_with (
    first
    | (refine wpBoxV rfl (.tmp 0) rfl (u8s (a ++ b)) rfl ?_
       intro W1 b1 e1 B1 K1
       have PR := hide B1
       have KA := hide K1
       replace F0 := hide ((unhide F0).kept K1)
       clear e1 B1 K1)
    | (refine wpLoadA row29 (by rfl) (.tmp 19) (by rfl) b1 0 (by kernel_rfl) (u8s a) (sec_len ha) (pair_l (unhide PR)) ?_)
    | (refine wpLoadA row29 (by rfl) (.tmp 21) (by rfl) b1 64 (by kernel_rfl) (u8s b) (sec_len hb) (pair_r ha.len (unhide PR)) ?_)
    | (go_at_call 16
       refine (unhide H16 _).mono ?_
       rintro e W2 ⟨rfl, K2⟩
       replace F0 := hide ((unhide F0).kept K2)
       replace PR := hide ((unhide PR).kept K2 (by simp))
       replace KA := hide ((unhide KA).trans K2)
       clear K2)
    | (refine wpNew row25 (recC zrec) lz zero25 3 (by rfl) (by rfl) (by rfl) (.tmp 24) (by rfl) (by rfl) (by rfl) (recC R) lR (recC_one _) (by kernel_rfl) (by kernel_rfl) ?_
       intro W3 b3 e3 B3 K3
       replace F0 := hide ((unhide F0).kept K3)
       replace PR := hide ((unhide PR).kept K3 (by simp))
       replace KA := hide ((unhide KA).trans K3)
       have MG := hide B3
       clear e3 B3 K3)
    | (refine wpLoadA row29 (by rfl) (.tmp 27) (by rfl) b1 0 (by kernel_rfl) (u8s a) (sec_len ha) (pair_l (unhide PR)) ?_)
    | (refine wpLoadA row29 (by rfl) (.tmp 29) (by rfl) b1 64 (by kernel_rfl) (u8s b) (sec_len hb) (pair_r ha.len (unhide PR)) ?_)
    | (go_at_call 19
       refine (unhide H19 _).mono ?_
       rintro e W4 ⟨rfl, K4⟩
       replace F0 := hide ((unhide F0).kept K4)
       replace PR := hide ((unhide PR).kept K4 (by simp))
       replace MG := hide ((unhide MG).kept K4 (by simp))
       replace KA := hide ((unhide KA).trans K4)
       clear K4)
    | (refine wpNew row25 (recC zrec) lz zero25 5 (by rfl) (by rfl) (by rfl) (.tmp 32) (by rfl) (by rfl) (by rfl) (recC R) lR (recC_one _) (by kernel_rfl) (by kernel_rfl) ?_
       intro W5 b5 e5 B5 K5
       have G : Hid (Vw w W5 b1 b3 b5 a b R) := ⟨(unhide PR).kept K5 (by simp), (unhide MG).kept K5 (by simp), B5, (unhide F0).kept K5, (unhide KA).trans K5⟩
       clear e5 B5 K5 F0 PR KA MG))
  go_loopw [7] (fun i wr => ∃ k : Nat, k ≤ 2 ∧ i = .int .i64 k ∧ Hid (Vw w wr b1 b3 b5 a b R)) (fun i _ => 2 - (intOf i).toNat)
  case atStart => exact ⟨0, by omega, rfl, G⟩
  case round =>
    clear G
    obtain ⟨k, hk2, rfl, G⟩ := hrel
    obtain rfl | rfl | rfl : k = 0 ∨ k = 1 ∨ k = 2 := by omega
    · clear hk2
      go_wp2_with (
        first
        | (refine wpLoadA row29 (by rfl) (.tmp 40) (by rfl) b1 0 (by kernel_rfl) (u8s a) (sec_len ha) (pair_l (unhide G).pr) ?_)
        | (go_at_call 20
           refine ((unhide Ta).c20 _).mono ?_
           rintro e W20 ⟨rfl, K20⟩
           replace G := hide ((unhide G).step K20)
           clear K20)
        | (refine wpNew row25 (recC zrec) lz zero25 8 (by rfl) (by rfl) (by rfl) (.tmp 43) (by rfl) (by rfl) (by rfl) (recC Sa) (recC_len (unhide Ta).len) (recC_one _) (by kernel_rfl) (by kernel_rfl) ?_
           intro W21 c1 e21 B21 K21
           replace G := hide ((unhide G).step K21)
           have M1 := hide B21
           clear e21 B21 K21)
        | (refine wpLoadA row29 (by rfl) (.tmp 48) (by rfl) b1 0 (by kernel_rfl) (u8s a) (sec_len ha) (pair_l (unhide G).pr) ?_)
        | (go_at_call 21
           refine ((unhide Ta).c21 _).mono ?_
           rintro e W22 ⟨rfl, K22⟩
           replace G := hide ((unhide G).step K22)
           replace M1 := hide ((unhide M1).kept K22 (by simp))
           clear K22)
        | (refine wpNew row25 (recC zrec) lz zero25 11 (by rfl) (by rfl) (by rfl) (.tmp 51) (by rfl) (by rfl) (by rfl) (recC Sa) (recC_len (unhide Ta).len) (recC_one _) (by kernel_rfl) (by kernel_rfl) ?_
           intro W23 c2 e23 B23 K23
           replace G := hide ((unhide G).step K23)
           replace M1 := hide ((unhide M1).kept K23 (by simp))
           have M2 := hide B23
           clear e23 B23 K23)
        | (refine wpLoadA row29 (by rfl) (.tmp 56) (by rfl) b1 0 (by kernel_rfl) (u8s a) (sec_len ha) (pair_l (unhide G).pr) ?_)
        | (go_at_call 12
           refine ((unhide Ta).c12 _ (unhide G).first).mono ?_
           rintro e W24 ⟨rfl, K24⟩
           replace G := hide ((unhide G).step K24)
           replace M1 := hide ((unhide M1).kept K24 (by simp))
           replace M2 := hide ((unhide M2).kept K24 (by simp))
           clear K24)
        | (refine wpNew row27 (hdC 0 0) rfl zero27 14 (by rfl) (by rfl) (by rfl) (.tmp 59) (by rfl) (by rfl) (by rfl) (hdC pa qa) rfl (hdC_one _ _) (by kernel_rfl) (by kernel_rfl) ?_
           intro W25 c3 e25 B25 K25
           replace G := hide ((unhide G).step K25)
           replace M1 := hide ((unhide M1).kept K25 (by simp))
           replace M2 := hide ((unhide M2).kept K25 (by simp))
           have M3 := hide B25
           clear e25 B25 K25)
        | (refine wpLoadA row29 (by rfl) (.tmp 63) (by rfl) b1 0 (by kernel_rfl) (u8s a) (sec_len ha) (pair_l (unhide G).pr) ?_)
        | (go_at_call 22
           refine ((unhide Ta).c22 _).mono ?_
           rintro e W26 ⟨rfl, K26⟩
           replace G := hide ((unhide G).step K26)
           replace M1 := hide ((unhide M1).kept K26 (by simp))
           replace M2 := hide ((unhide M2).kept K26 (by simp))
           replace M3 := hide ((unhide M3).kept K26 (by simp))
           clear K26)
        | (refine wpNew row27 (hdC 0 0) rfl zero27 16 (by rfl) (by rfl) (by rfl) (.tmp 66) (by rfl) (by rfl) (by rfl) (hdC pa qa) rfl (hdC_one _ _) (by kernel_rfl) (by kernel_rfl) ?_
           intro W27 c4 e27 B27 K27
           replace G := hide ((unhide G).step K27)
           replace M1 := hide ((unhide M1).kept K27 (by simp))
           replace M2 := hide ((unhide M2).kept K27 (by simp))
           replace M3 := hide ((unhide M3).kept K27 (by simp))
           have M4 := hide B27
           clear e27 B27 K27)
        | (refine wpLoadA row25 (by rfl) (.tmp 8) (by rfl) c1 0 (by kernel_rfl) (recC Sa) (recC_len (unhide Ta).len) (unhide M1).range ?_)
        | (refine wpLoadA row25 (by rfl) (.tmp 11) (by rfl) c2 0 (by kernel_rfl) (recC Sa) (recC_len (unhide Ta).len) (unhide M2).range ?_)
        | (refine wpNeqA 25 25 guard25 (.tmp 68) (.tmp 69) (by rfl) (by rfl) (recC Sa) (recC Sa) (by kernel_rfl) (by kernel_rfl) true (by rw [equal25 _ Sa Sa (unhide Ta).len (unhide Ta).len, recEq_self]) ?_)
        | (refine wpNeq3G (.tmp 72) (.tmp 73) (by rfl) (by kernel_rfl) na (by kernel_rfl) (by kernel_rfl) ?_)
        | (refine wpNeq4G (.tmp 77) (.tmp 78) (by rfl) (by kernel_rfl) ta (by kernel_rfl) (by kernel_rfl) ?_)
        | (refine wpLoadG row27 (.tmp 14) (by rfl) (by kernel_rfl) c3 0 (by kernel_rfl) (hdC pa qa) rfl (unhide M3).range ?_)
        | (refine wpLoadG row27 (.tmp 16) (by rfl) (by kernel_rfl) c4 0 (by kernel_rfl) (hdC pa qa) rfl (unhide M4).range ?_)
        | (refine wpNeq27G (.tmp 82) (.tmp 83) (by rfl) (by kernel_rfl) pa qa (by kernel_rfl) (by kernel_rfl) ?_)
        | (go_at_call 11; refine (num11 _ _).mono ?_; rintro e wn ⟨rfl, rfl⟩)
        | (refine wpNeq3G (.tmp 88) (.tmp 89) (by rfl) (by kernel_rfl) ea (by kernel_rfl) (by kernel_rfl) ?_))
      go_roundw
      case rel => exact ⟨1, by omega, by go_num, G⟩
      case measure => simp [intOf]
    · clear hk2
      go_wp2_with (
        first
        | (refine wpLoadA row29 (by rfl) (.tmp 40) (by rfl) b1 64 (by kernel_rfl) (u8s b) (sec_len hb) (pair_r ha.len (unhide G).pr) ?_)
        | (go_at_call 20
           refine ((unhide Tb).c20 _).mono ?_
           rintro e W20 ⟨rfl, K20⟩
           replace G := hide ((unhide G).step K20)
           clear K20)
        | (refine wpNew row25 (recC zrec) lz zero25 8 (by rfl) (by rfl) (by rfl) (.tmp 43) (by rfl) (by rfl) (by rfl) (recC Sb) (recC_len (unhide Tb).len) (recC_one _) (by kernel_rfl) (by kernel_rfl) ?_
           intro W21 c1 e21 B21 K21
           replace G := hide ((unhide G).step K21)
           have M1 := hide B21
           clear e21 B21 K21)
        | (refine wpLoadA row29 (by rfl) (.tmp 48) (by rfl) b1 64 (by kernel_rfl) (u8s b) (sec_len hb) (pair_r ha.len (unhide G).pr) ?_)
        | (go_at_call 21
           refine ((unhide Tb).c21 _).mono ?_
           rintro e W22 ⟨rfl, K22⟩
           replace G := hide ((unhide G).step K22)
           replace M1 := hide ((unhide M1).kept K22 (by simp))
           clear K22)
        | (refine wpNew row25 (recC zrec) lz zero25 11 (by rfl) (by rfl) (by rfl) (.tmp 51) (by rfl) (by rfl) (by rfl) (recC Sb) (recC_len (unhide Tb).len) (recC_one _) (by kernel_rfl) (by kernel_rfl) ?_
           intro W23 c2 e23 B23 K23
           replace G := hide ((unhide G).step K23)
           replace M1 := hide ((unhide M1).kept K23 (by simp))
           have M2 := hide B23
           clear e23 B23 K23)
        | (refine wpLoadA row29 (by rfl) (.tmp 56) (by rfl) b1 64 (by kernel_rfl) (u8s b) (sec_len hb) (pair_r ha.len (unhide G).pr) ?_)
        | (go_at_call 12
           refine ((unhide Tb).c12 _ (unhide G).first).mono ?_
           rintro e W24 ⟨rfl, K24⟩
           replace G := hide ((unhide G).step K24)
           replace M1 := hide ((unhide M1).kept K24 (by simp))
           replace M2 := hide ((unhide M2).kept K24 (by simp))
           clear K24)
        | (refine wpNew row27 (hdC 0 0) rfl zero27 14 (by rfl) (by rfl) (by rfl) (.tmp 59) (by rfl) (by rfl) (by rfl) (hdC pb qb) rfl (hdC_one _ _) (by kernel_rfl) (by kernel_rfl) ?_
           intro W25 c3 e25 B25 K25
           replace G := hide ((unhide G).step K25)
           replace M1 := hide ((unhide M1).kept K25 (by simp))
           replace M2 := hide ((unhide M2).kept K25 (by simp))
           have M3 := hide B25
           clear e25 B25 K25)
        | (refine wpLoadA row29 (by rfl) (.tmp 63) (by rfl) b1 64 (by kernel_rfl) (u8s b) (sec_len hb) (pair_r ha.len (unhide G).pr) ?_)
        | (go_at_call 22
           refine ((unhide Tb).c22 _).mono ?_
           rintro e W26 ⟨rfl, K26⟩
           replace G := hide ((unhide G).step K26)
           replace M1 := hide ((unhide M1).kept K26 (by simp))
           replace M2 := hide ((unhide M2).kept K26 (by simp))
           replace M3 := hide ((unhide M3).kept K26 (by simp))
           clear K26)
        | (refine wpNew row27 (hdC 0 0) rfl zero27 16 (by rfl) (by rfl) (by rfl) (.tmp 66) (by rfl) (by rfl) (by rfl) (hdC pb qb) rfl (hdC_one _ _) (by kernel_rfl) (by kernel_rfl) ?_
           intro W27 c4 e27 B27 K27
           replace G := hide ((unhide G).step K27)
           replace M1 := hide ((unhide M1).kept K27 (by simp))
           replace M2 := hide ((unhide M2).kept K27 (by simp))
           replace M3 := hide ((unhide M3).kept K27 (by simp))
           have M4 := hide B27
           clear e27 B27 K27)
        | (refine wpLoadA row25 (by rfl) (.tmp 8) (by rfl) c1 0 (by kernel_rfl) (recC Sb) (recC_len (unhide Tb).len) (unhide M1).range ?_)
        | (refine wpLoadA row25 (by rfl) (.tmp 11) (by rfl) c2 0 (by kernel_rfl) (recC Sb) (recC_len (unhide Tb).len) (unhide M2).range ?_)
        | (refine wpNeqA 25 25 guard25 (.tmp 68) (.tmp 69) (by rfl) (by rfl) (recC Sb) (recC Sb) (by kernel_rfl) (by kernel_rfl) true (by rw [equal25 _ Sb Sb (unhide Tb).len (unhide Tb).len, recEq_self]) ?_)
        | (refine wpNeq3G (.tmp 72) (.tmp 73) (by rfl) (by kernel_rfl) nb (by kernel_rfl) (by kernel_rfl) ?_)
        | (refine wpNeq4G (.tmp 77) (.tmp 78) (by rfl) (by kernel_rfl) tb (by kernel_rfl) (by kernel_rfl) ?_)
        | (refine wpLoadG row27 (.tmp 14) (by rfl) (by kernel_rfl) c3 0 (by kernel_rfl) (hdC pb qb) rfl (unhide M3).range ?_)
        | (refine wpLoadG row27 (.tmp 16) (by rfl) (by kernel_rfl) c4 0 (by kernel_rfl) (hdC pb qb) rfl (unhide M4).range ?_)
        | (refine wpNeq27G (.tmp 82) (.tmp 83) (by rfl) (by kernel_rfl) pb qb (by kernel_rfl) (by kernel_rfl) ?_)
        | (go_at_call 11; refine (num11 _ _).mono ?_; rintro e wn ⟨rfl, rfl⟩)
        | (refine wpNeq3G (.tmp 88) (.tmp 89) (by rfl) (by kernel_rfl) eb (by kernel_rfl) (by kernel_rfl) ?_))
      go_roundw
      case rel => exact ⟨2, by omega, by go_num, G⟩
      case measure => simp [intOf]
    · clear hk2
      go_wp2_with (
        first
        | (refine wpLoadA row25 (by rfl) (.tmp 3) (by rfl) b3 0 (by kernel_rfl) (recC R) lR (unhide G).g.range ?_)
        | (refine wpLoadA row25 (by rfl) (.tmp 5) (by rfl) b5 0 (by kernel_rfl) (recC R) lR (unhide G).d.range ?_)
        | (refine wpEqlA 25 25 guard25 (.tmp 92) (.tmp 93) (by rfl) (by rfl) (recC R) (recC R) (by kernel_rfl) (by kernel_rfl) true (by rw [equal25 _ R R hR hR, recEq_self]) ?_)
        | (go_at_call 11; refine (num11 _ _).mono ?_; rintro e wn ⟨rfl, rfl⟩)
        | (refine wpEql3G (.tmp 97) (.tmp 98) (by rfl) (by kernel_rfl) ee (by kernel_rfl) (by kernel_rfl) ?_)
        | (refine wpLoadG row29 (.tmp 102) (by rfl) (by kernel_rfl) b1 0 (by kernel_rfl) (u8s a) (sec_len ha) (pair_l (unhide G).pr) ?_)
        | (refine wpLoadG row29 (.tmp 104) (by rfl) (by kernel_rfl) b1 64 (by kernel_rfl) (u8s b) (sec_len hb) (pair_r ha.len (unhide G).pr) ?_)
        | (go_at_call 18
           refine (unhide H18 _).mono ?_
           rintro e W30 ⟨rfl, K30⟩
           replace G := hide ((unhide G).step K30)
           clear K30)
        | (refine wpEqlC3G (.tmp 107) 0 (by rfl) (by kernel_rfl) ee (by kernel_rfl) ?_)
        | (refine wpEql4G (.tmp 106) (.tmp 108) (by rfl) (by kernel_rfl) (decide (ee = 0)) (by kernel_rfl) (by kernel_rfl) ?_)
        | (go_at_call 15
           refine (known15 _ (unhide G).first).mono ?_
           rintro e W31 ⟨rfl, K31⟩
           replace G := hide ((unhide G).step K31)
           clear K31))
      go_ret
      exact ⟨rfl, (unhide G).kept⟩
theorem tells (s : List Int) (hs : Byts 64 s) : Tells s (stR s).1 (stR s).2.1 (stR s).2.2 (takeR s).1.1 (takeR s).1.2 (takeR s).2 :=
  ⟨fun w => stamp20 s hs w, fun w => rst21 s hs w, fun w hF => takehead12 s hs w hF, fun w => rtake22 s hs w, stR_ok⟩
theorem gets4 (a b : List Int) (ha : Byts 64 a) (hb : Byts 64 b) (w : World) (hF : First w) : Calls Tryd.prog 4 #[aggV (u8s (a ++ b))] w fun e w' => e = .returned (.bool true) ∧ Kept [] w w' :=
  gets_w a b ha hb (getR a b).1 (getR a b).2 (getR_ok ha hb).bd.len (fun w => get16 a b ha hb w) (fun w => rget19 a b ha hb w) (fun w => whole18 a b ha hb w) _ _ _ _ _ _ (tells a ha) _ _ _ _ _ _ (tells b hb) w hF

end Go.Proofs.YtkpkiibahfdomaaDoor
