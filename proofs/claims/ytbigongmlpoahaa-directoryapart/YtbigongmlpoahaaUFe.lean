import Derived.Test.YtbigongmlpoahaaUFd
namespace Go.Proofs.Ytbigongmlpoahaa
set_option maxHeartbeats 2000000
set_option maxRecDepth 100000
set_option linter.unusedSimpArgs false
open Go.RowKit
section
variable {o:Oper} {a:Act} {w w0:World} {K:Act→World→Prop} {Q:Exit→Act→World→Prop} {e z:Nat}
theorem o_len28 (x:Operand) (ho:o.op= .call { callee:= .builtin .len,args:= #[x],argTypes:= #[81] }) (v:Value) (n:Nat) (xs:List Value) (hx:a.eval x=v) (hR:Rw w e z v n xs) (h:K (a.put o.dst (.int .i64 n)) w):o.wp Try.prog a w K Q:=by
 obtain⟨ao,c,rfl,_⟩:=hR.sl
 unfold Oper.wp execOp
 simp only [ho,resolve,invoke,builtin,Sem.run_bind,Sem.run_pure,Result.andThen_ok,List.map_toArray,List.map_cons,List.map_nil,hx]
 simp [go_sem]
 exact h
theorem o_len36 (x:Operand) (ho:o.op= .call { callee:= .builtin .len,args:= #[x],argTypes:= #[22] }) (v:Value) (n:Nat) (xs:List Value) (hx:a.eval x=v) (hR:Rw w e z v n xs) (h:K (a.put o.dst (.int .i64 n)) w):o.wp Try.prog a w K Q:=by
 obtain⟨ao,c,rfl,_⟩:=hR.sl
 unfold Oper.wp execOp
 simp only [ho,resolve,invoke,builtin,Sem.run_bind,Sem.run_pure,Result.andThen_ok,List.map_toArray,List.map_cons,List.map_nil,hx]
 simp [go_sem]
 exact h
theorem o_len38 (x:Operand) (ho:o.op= .call { callee:= .builtin .len,args:= #[x],argTypes:= #[35] }) (v:Value) (n:Nat) (xs:List Value) (hx:a.eval x=v) (hR:Rw w e z v n xs) (h:K (a.put o.dst (.int .i64 n)) w):o.wp Try.prog a w K Q:=by
 obtain⟨ao,c,rfl,_⟩:=hR.sl
 unfold Oper.wp execOp
 simp only [ho,resolve,invoke,builtin,Sem.run_bind,Sem.run_pure,Result.andThen_ok,List.map_toArray,List.map_cons,List.map_nil,hx]
 simp [go_sem]
 exact h
theorem o_idxI (x y:Operand) (ho:o.op= .indexAddr 22 x y) (v:Value) (L:List Int) (j:Nat) (m:Int) (hx:a.eval x=v) (hy:a.eval y= .int .i64 j) (hI:Is w v L) (hm:L[j]?=some m) (h:∀p,w.cell? p=some (.int .i64 m)→K (a.put o.dst (.pointer (some p))) w):o.wp Try.prog a w K Q:=by
 obtain⟨g,off,c,rfl,hc⟩:=Is.get hI hm
 have hj:=(List.getElem?_eq_some_iff.1 hm).1
 have hjI:(j:Int)<L.length:=by omega
 unfold Oper.wp execOp
 simp only [ho,hx,hy]
 simp [go_sem,hj,hjI]
 exact h _ hc
theorem o_idxO (x y:Operand) (ho:o.op= .indexAddr 81 x y) (v:Value) (L:List Od) (j:Nat) (m:Od) (hx:a.eval x=v) (hy:a.eval y= .int .i64 j) (hI:Os w v L) (hm:L[j]?=some m) (h:∀g o',w.rangeAt g o' m.C→K (a.put o.dst (.pointer (some ⟨g,o',none⟩))) w):o.wp Try.prog a w K Q:=by
 obtain⟨g,off,c,rfl,hc⟩:=Os.get hI hm
 have hj:=(List.getElem?_eq_some_iff.1 hm).1
 have hjI:(j:Int)<L.length:=by omega
 unfold Oper.wp execOp
 simp only [ho,hx,hy]
 simp [go_sem,hj,hjI]
 exact h _ _ hc
end
section
variable {ops:Array Oper} {rest:List Oper} {op:Oper} {a:Act} {w w0:World} {Q:Exit→Act→World→Prop} {e z:Nat}
theorem wpLen28 (hgd:op.guard=none) (x:Operand) (ho:op.op= .call { callee:= .builtin .len,args:= #[x],argTypes:= #[81] }) (v:Value) (n:Nat) (xs:List Value) (hx:a.eval x=v) (hR:Rw w e z v n xs) (h:wpList Try.prog ops Q rest (a.put op.dst (.int .i64 n)) w):wpList Try.prog ops Q (op::rest) a w:=
 wpList_plain hgd fun _ hK=>o_len28 x ho v n xs hx hR (hK _ _ h)
theorem wpLen36 (hgd:op.guard=none) (x:Operand) (ho:op.op= .call { callee:= .builtin .len,args:= #[x],argTypes:= #[22] }) (v:Value) (n:Nat) (xs:List Value) (hx:a.eval x=v) (hR:Rw w e z v n xs) (h:wpList Try.prog ops Q rest (a.put op.dst (.int .i64 n)) w):wpList Try.prog ops Q (op::rest) a w:=
 wpList_plain hgd fun _ hK=>o_len36 x ho v n xs hx hR (hK _ _ h)
theorem wpIdxI (hgd:op.guard=none) (x y:Operand) (ho:op.op= .indexAddr 22 x y) (v:Value) (L:List Int) (j:Nat) (m:Int) (hx:a.eval x=v) (hy:a.eval y= .int .i64 j) (hI:Is w v L) (hm:L[j]?=some m) (h:∀p,w.cell? p=some (.int .i64 m)→wpList Try.prog ops Q rest (a.put op.dst (.pointer (some p))) w):wpList Try.prog ops Q (op::rest) a w:=
 wpList_plain hgd fun _ hK=>o_idxI x y ho v L j m hx hy hI hm (fun p hp=>hK _ _ (h p hp))
theorem wpIdxO (hgd:op.guard=none) (x y:Operand) (ho:op.op= .indexAddr 81 x y) (v:Value) (L:List Od) (j:Nat) (m:Od) (hx:a.eval x=v) (hy:a.eval y= .int .i64 j) (hI:Os w v L) (hm:L[j]?=some m) (h:∀g o',w.rangeAt g o' m.C→wpList Try.prog ops Q rest (a.put op.dst (.pointer (some ⟨g,o',none⟩))) w):wpList Try.prog ops Q (op::rest) a w:=
 wpList_plain hgd fun _ hK=>o_idxO x y ho v L j m hx hy hI hm (fun g o' hp=>hK _ _ (h g o' hp))
end
theorem Rw.apart {W:World} {e z e' z' n n':Nat} {v u:Value} {xs ys:List Value} (h:Rw W e z v n xs) (k:Rw W e' z' u n' ys) (hne:e≠e'):∀i,v.ownBlock=some i→i∉spare u:=by
 intro i hi hs
 obtain⟨cs,hc⟩:=h.block i hi
 obtain⟨ds,hd⟩:=k.block i (spare_own hs)
 rw [hc] at hd
 injection hd with hd
 injection hd with _ hd
 exact hne hd
def Lo.drops (s:Lo):List Od:=(lst s.wa).map fun n=>⟨4,n,s.op,0,0,0⟩
def Lo.discards (s:Lo) (p:Int):List Od:=(lst s.pa).map fun n=>⟨6,n,0,0,0,p⟩
theorem drops76 (s:Lo) (ln:Value) (b:Nat) (w:World) (h:Blk w b 108 (s.C ln)):Calls Try.prog 100 #[P0 b] w fun e w'=>∃v,e= .returned v∧Ou w w' v (s.drops)∧Kept [] w w':=by
 have H:=hide h
 have c30:=fits_cell h 30 _ rfl
 clear h
 go_enter Try.func100,Try.ntmps100
 go_wp2_with (first |(refine wpLoadA row73 rfl (.tmp 8) rfl b 32 rfl (b8 s.wa) rfl (unhide H).waA ?_;refine Stp.go ?_))
 constructor
 go_wp2_with (first |(go_at_call 70;refine(list42 s.wa _).mono ?_;rintro e W1 ⟨xv,rfl,N1,K1⟩;have HI:=hide N1;have HK:=hide K1;clear N1 K1 c30;refine Stp.go ?_))
 constructor
 go_wp2_with (first |(refine wpLen36 (e:=3) (z:=1) rfl (.tmp 10) rfl xv _ _ rfl (unhide HI).row ?_;refine Stp.go ?_))
 constructor
 go_wp2_with fail
 obtain⟨L,hL⟩:∃L,L=lst s.wa:=⟨_,rfl⟩
 have HL:=hide hL
 have hl8:L.length≤8:=by rw [hL];exact lstTo_len _ 8
 rw [← hL] at HI
 rw [show (lst s.wa).length=L.length by rw [hL]]
 clear hL
 go_loopw [3,5,12] (fun u _ i wr=>∃(j:Nat) (xu:Value),j≤L.length∧i= .int .i64 j∧xu=u∧Hid (Ou w wr xu ((L.take j).map fun n=>(⟨4,n,s.op,0,0,0⟩:Od)))∧Hid (New w wr 3 1 xv L.length (inC L))∧Hid (Kept [] w wr)) (fun _ _ i _=>L.length-(intOf i).toNat)
 case atStart=>exact ⟨0,_,by omega,rfl,rfl,New.nil _ _ _ _,HI,HK⟩
 case round=>
   clear HI HK
   obtain⟨j,xu,hj,rfl,rfl,HO,HI,HK⟩:=hrel
   have HB:Hid (Blk wr b 108 (s.C ln)):=hide ((unhide H).kept (unhide HK) (by simp))
   have c30:=fits_cell (unhide HB) 30 _ rfl
   by_cases hlt:j<L.length
   · have hjI:(j:Int)<L.length:=by omega
     have hd:decide ((j:Int)<L.length)=true:=by simpa using hjI
     obtain⟨m,hm⟩:∃m,L[j]?=some m:=⟨_,List.getElem?_eq_getElem hlt⟩
     have HM:=hide hm
     have HT:Hid (L.take (j+1)=L.take j++ [m]):=by show _=_;rw [List.take_add_one,hm];rfl
     clear hm
     go_wp2_with (first |(refine wpIdxI rfl (.tmp 10) (.tmp 12) rfl xv L j m rfl rfl (unhide HI).row (unhide HM) ?_;intro q cp;refine Stp.go ?_))
     constructor
     go_wp2_with (first |(refine wpBuildP (by rfl) #[(0,.const (.int .i64 4)),(1,.tmp 17),(2,.tmp 21)] (by rfl) #[(0,.int .i64 4),(1,.int .i64 m),(2,.int .i64 s.op)] (by kernel_rfl) (Od.C ⟨4,m,s.op,0,0,0⟩) (boc _ 4 m s.op) ?_;refine Stp.go ?_))
     constructor
     go_wp2_with (first |(refine wpBs28 rfl (.tmp 22) rfl ⟨4,m,s.op,0,0,0⟩ rfl ?_;intro W2 g2 e2 B2 K2;have HB2:=hide B2;have HO2:Hid (Ou w W2 xu ((L.take j).map fun n=>(⟨4,n,s.op,0,0,0⟩:Od))):=(unhide HO).kept K2 (by simp);have HI2:Hid (New w W2 3 1 xv L.length (inC L)):=(unhide HI).kept K2 (by simp);have HK2:Hid (Kept [] w W2):=(unhide HK).trans K2;clear e2 B2 K2 cp c30;refine Stp.go ?_))
     constructor
     go_wp2_with (
       first
       | (refine wpAppN el28 rfl (.tmp 16) (.tmp 23) rfl xu _ _ rfl (unhide HO2) _ 1 (Od.C ⟨4,m,s.op,0,0,0⟩) rfl (Rw.made (unhide HB2) rfl (max1000 (by omega))) (Od.one _) (by simp;omega) (max1000 (by simp;omega)) (unhide HK2).size ?_
          intro v3 W3 N3 K3
          have HO3:Hid (Ou w W3 v3 ((L.take (j+1)).map fun n=>(⟨4,n,s.op,0,0,0⟩:Od))):=by
            have h9:=N3
            show New _ _ _ _ _ _ _
            rw [unhide HT,List.map_append,odC_app,List.length_append]
            exact h9
          have HI3:Hid (New w W3 3 1 xv L.length (inC L)):=⟨(unhide HI2).row.kept K3 ((unhide HI2).row.apart (unhide HO2).row (by decide)),(unhide HI2).own⟩
          have HK3:Hid (Kept [] w W3):=(unhide HK2).own K3 (unhide HO2).spare
          clear N3 K3
          refine Stp.go ?_))
     constructor
     go_wp2_with fail
     go_roundw
     case rel=>exact ⟨j+1,_,by omega,by go_num,rfl,HO3,HI3,HK3⟩
     case measure=>simp [intOf];omega
   · have hd:decide ((j:Int)<L.length)=false:=by simp;omega
     have HJ:Hid (L.take j=L):=by show _=_;exact List.take_of_length_le (by omega)
     go_wp2_with fail
     go_ret
     exact⟨_,rfl,by have h9:=unhide HO;rw [unhide HJ,unhide HL] at h9;exact h9,unhide HK⟩
theorem discards61 (s:Lo) (ln:Value) (b:Nat) (p:Int) (w:World) (h:Blk w b 108 (s.C ln)):Calls Try.prog 87 #[P0 b,.int .i64 p] w fun e w'=>∃v,e= .returned v∧Ou w w' v (s.discards p)∧Kept [] w w':=by
 have H:=hide h
 have c30:=fits_cell h 30 _ rfl
 clear h
 go_enter Try.func87,Try.ntmps87
 go_wp2_with (first |(refine wpLoadA row73 rfl (.tmp 10) rfl b 19 rfl (b8 s.pa) rfl (unhide H).paA ?_;refine Stp.go ?_))
 constructor
 go_wp2_with (first |(go_at_call 70;refine(list42 s.pa _).mono ?_;rintro e W1 ⟨xv,rfl,N1,K1⟩;have HI:=hide N1;have HK:=hide K1;clear N1 K1 c30;refine Stp.go ?_))
 constructor
 go_wp2_with (first |(refine wpLen36 (e:=3) (z:=1) rfl (.tmp 12) rfl xv _ _ rfl (unhide HI).row ?_;refine Stp.go ?_))
 constructor
 go_wp2_with fail
 obtain⟨L,hL⟩:∃L,L=lst s.pa:=⟨_,rfl⟩
 have HL:=hide hL
 have hl8:L.length≤8:=by rw [hL];exact lstTo_len _ 8
 rw [← hL] at HI
 rw [show (lst s.pa).length=L.length by rw [hL]]
 clear hL
 go_loopw [5,7,14] (fun u _ i wr=>∃(j:Nat) (xu:Value),j≤L.length∧i= .int .i64 j∧xu=u∧Hid (Ou w wr xu ((L.take j).map fun n=>(⟨6,n,0,0,0,p⟩:Od)))∧Hid (New w wr 3 1 xv L.length (inC L))∧Hid (Kept [] w wr)) (fun _ _ i _=>L.length-(intOf i).toNat)
 case atStart=>exact ⟨0,_,by omega,rfl,rfl,New.nil _ _ _ _,HI,HK⟩
 case round=>
   clear HI HK
   obtain⟨j,xu,hj,rfl,rfl,HO,HI,HK⟩:=hrel
   have HB:Hid (Blk wr b 108 (s.C ln)):=hide ((unhide H).kept (unhide HK) (by simp))
   have c30:=fits_cell (unhide HB) 30 _ rfl
   by_cases hlt:j<L.length
   · have hjI:(j:Int)<L.length:=by omega
     have hd:decide ((j:Int)<L.length)=true:=by simpa using hjI
     obtain⟨m,hm⟩:∃m,L[j]?=some m:=⟨_,List.getElem?_eq_getElem hlt⟩
     have HM:=hide hm
     have HT:Hid (L.take (j+1)=L.take j++ [m]):=by show _=_;rw [List.take_add_one,hm];rfl
     clear hm
     go_wp2_with (first |(refine wpIdxI rfl (.tmp 12) (.tmp 14) rfl xv L j m rfl rfl (unhide HI).row (unhide HM) ?_;intro q cp;refine Stp.go ?_))
     constructor
     go_wp2_with (first |(refine wpBuildP (by rfl) #[(0,.const (.int .i64 6)),(1,.tmp 19),(5,.tmp 20)] (by rfl) #[(0,.int .i64 6),(1,.int .i64 m),(5,.int .i64 p)] (by kernel_rfl) (Od.C ⟨6,m,0,0,0,p⟩) (bod _ 6 m p) ?_;refine Stp.go ?_))
     constructor
     go_wp2_with (first |(refine wpBs28 rfl (.tmp 21) rfl ⟨6,m,0,0,0,p⟩ rfl ?_;intro W2 g2 e2 B2 K2;have HB2:=hide B2;have HO2:Hid (Ou w W2 xu ((L.take j).map fun n=>(⟨6,n,0,0,0,p⟩:Od))):=(unhide HO).kept K2 (by simp);have HI2:Hid (New w W2 3 1 xv L.length (inC L)):=(unhide HI).kept K2 (by simp);have HK2:Hid (Kept [] w W2):=(unhide HK).trans K2;clear e2 B2 K2 cp c30;refine Stp.go ?_))
     constructor
     go_wp2_with (
       first
       | (refine wpAppN el28 rfl (.tmp 18) (.tmp 22) rfl xu _ _ rfl (unhide HO2) _ 1 (Od.C ⟨6,m,0,0,0,p⟩) rfl (Rw.made (unhide HB2) rfl (max1000 (by omega))) (Od.one _) (by simp;omega) (max1000 (by simp;omega)) (unhide HK2).size ?_
          intro v3 W3 N3 K3
          have HO3:Hid (Ou w W3 v3 ((L.take (j+1)).map fun n=>(⟨6,n,0,0,0,p⟩:Od))):=by
            have h9:=N3
            show New _ _ _ _ _ _ _
            rw [unhide HT,List.map_append,odC_app,List.length_append]
            exact h9
          have HI3:Hid (New w W3 3 1 xv L.length (inC L)):=⟨(unhide HI2).row.kept K3 ((unhide HI2).row.apart (unhide HO2).row (by decide)),(unhide HI2).own⟩
          have HK3:Hid (Kept [] w W3):=(unhide HK2).own K3 (unhide HO2).spare
          clear N3 K3
          refine Stp.go ?_))
     constructor
     go_wp2_with fail
     go_roundw
     case rel=>exact ⟨j+1,_,by omega,by go_num,rfl,HO3,HI3,HK3⟩
     case measure=>simp [intOf];omega
   · have hd:decide ((j:Int)<L.length)=false:=by simp;omega
     have HJ:Hid (L.take j=L):=by show _=_;exact List.take_of_length_le (by omega)
     go_wp2_with fail
     go_ret
     exact⟨_,rfl,by have h9:=unhide HO;rw [unhide HJ,unhide HL] at h9;exact h9,unhide HK⟩
end Go.Proofs.Ytbigongmlpoahaa
