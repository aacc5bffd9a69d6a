import Derived.Test.YtbigongmlpoahaaUFa
namespace Go.Proofs.Ytbigongmlpoahaa
set_option maxHeartbeats 1000000
set_option maxRecDepth 100000
set_option linter.unusedSimpArgs false
open Go.RowKit
theorem nef_a {x c:Int} (h:¬x=c):decide (x=c)=false:=decide_eq_false h
theorem nef_b {x c:Int} (h:¬x=c):(x == c)=false:=by simpa using h
theorem nef_c {x c:Int} (h:¬x=c):(x !=c)=true:=by simpa using h
def lowFrom (f:Nat→Bool) (j:Nat):Nat→Int
 | 0=> -1
 | k+1=>if f j then (j:Int) else lowFrom f (j+1) k
def low (f:Nat→Bool):Int:=lowFrom f 0 8
def lstTo (f:Nat→Bool):Nat→List Int
 | 0=> []
 | j+1=>lstTo f j++(if f j then [(j:Int)] else [])
def lst (f:Nat→Bool):List Int:=lstTo f 8
theorem lstTo_len (f:Nat→Bool):∀j,(lstTo f j).length≤j
 | 0=>by simp [lstTo]
 | j+1=>by
   have:=lstTo_len f j
   rw [lstTo,List.length_append]
   split <;> simp <;> omega
section
variable {ops:Array Oper} {rest:List Oper} {op:Oper} {a:Act} {w:World} {Q:Exit→Act→World→Prop}
theorem wpIdx73 (hgd:op.guard=none) (x y:Operand) (ho:op.op= .index 106 x y) (f:Nat→Bool) (j:Nat) (hx:a.eval x=aggV (b8 f)) (hy:a.eval y= .int .i64 j) (hj:j<8)
   (h:wpList Try.prog ops Q rest (a.put op.dst (.bool (f j))) w):wpList Try.prog ops Q (op::rest) a w:=
 wpList_plain hgd fun K hK=>by
   have h1:(j:Int)<8:=by omega
   unfold Oper.wp execOp
   simp only [ho,hx,hy]
   have hb:(b8 f)[j]?=some (.bool (f j)):=b8_at f j hj
   have hp:=part4 w (b8 f).toArray j (.bool (f j)) (by rw [List.getElem?_toArray];exact hb)
   have hr:(Instr.index 106 (.agg (b8 f).toArray) (.int .i64 j)).run Try.prog w= .ok (.bool (f j)) w:=by
     simp [Instr.index,go_sem,run_underlying Try.underlying106,h1,hj]
     simp [hb]
   simp only [aggV,Sem.run_bind,hr,Result.andThen_ok]
   exact hK _ _ h
end
theorem lowest81 (f:Nat→Bool) (w:World):Calls Try.prog 105 #[aggV (b8 f)] w fun e w'=>e= .returned (.int .i64 (low f))∧Kept [] w w':=by
 go_enter Try.func105,Try.ntmps105
 have M:Hid (Mm [] w w []):=hide Mm.init
 go_wp2_with (first |(refine wpBoxV rfl (.tmp 0) rfl (b8 f) rfl ?_;intro W1 b1 e1 B1 K1;replace M:=hide ((unhide M).new e1 B1 K1);clear e1 B1 K1;refine Stp.go ?_))
 constructor
 go_wp2_with (first |(refine wpLoadA row73 rfl (.tmp 1) rfl b1 0 rfl (b8 f) rfl ((unhide M).at 0 _ rfl).range ?_;refine Stp.go ?_))
 constructor
 go_wp2_with fail
 have HK:=hide (unhide M).kept
 clear M
 go_loopw [6] (fun i wr=>∃j:Nat,j≤8∧i= .int .i64 j∧Hid (low f=lowFrom f j (8-j))∧Hid (Kept [] w wr)) (fun i _=>8-(intOf i).toNat)
 case atStart=>exact ⟨0,by omega,rfl,rfl,HK⟩
 case round=>
   clear HK
   obtain⟨j,hj,rfl,HL,HK⟩:=hrel
   by_cases hlt:j<8
   · have hjI:(j:Int)<8:=by omega
     have hd:decide ((j:Int)<8)=true:=by simpa using hjI
     have HL2:Hid (low f=if f j then (j:Int) else lowFrom f (j+1) (8-(j+1))):=by
       show _=_
       rw [unhide HL,show 8-j=(8-(j+1))+1 by omega,lowFrom]
     cases hf:f j with
     | true=>
       rw [hf] at HL2
       have HF:=hide hf
       clear hf
       go_wp2_with (first |(refine wpIdx73 rfl (.tmp 5) (.tmp 6) rfl f j rfl rfl hlt ?_;rw [unhide HF];refine Stp.go ?_))
       constructor
       go_wp2_with fail
       go_ret
       exact⟨by rw [unhide HL2];rfl,unhide HK⟩
     | false=>
       rw [hf] at HL2
       have HF:=hide hf
       clear hf
       go_wp2_with (first |(refine wpIdx73 rfl (.tmp 5) (.tmp 6) rfl f j rfl rfl hlt ?_;rw [unhide HF];refine Stp.go ?_))
       constructor
       go_wp2_with fail
       go_roundw
       case rel=>exact ⟨j+1,by omega,by go_num,by show _=_;rw [unhide HL2];rfl,HK⟩
       case measure=>simp [intOf];omega
   · have hd:decide ((j:Int)<8)=false:=by simp;omega
     have HL2:Hid (low f= -1):=by
       show _=_
       rw [unhide HL,show 8-j=0 by omega];rfl
     go_wp2_with fail
     go_ret
     exact⟨by rw [unhide HL2];rfl,unhide HK⟩
theorem Kept.own {w W W':World} {X:List Nat} (h:Kept [] w W) (k:Kept X W W') (hX:∀i∈X,w.heap.size≤i):Kept [] w W':=h.fresh k (fun i hi hl=>by have:=hX i hi;omega)
structure New (w W:World) (e z:Nat) (v:Value) (n:Nat) (xs:List Value):Prop where
 row:Rw W e z v n xs
 own:∀k,v.ownBlock=some k→w.heap.size≤k
theorem New.nil (w W:World) (e z:Nat):New w W e z (.slice none 0 0) 0 []:=⟨Rw.nil W,fun k hk=>by cases hk⟩
theorem New.kept {w W W':World} {e z n:Nat} {v:Value} {xs:List Value} {X:List Nat} (h:New w W e z v n xs) (hk:Kept X W W') (hX:∀k,w.heap.size≤k→k∉X):New w W' e z v n xs:=⟨h.row.kept hk (fun k hk'=>hX k (h.own k hk')),h.own⟩
theorem New.elder {w w1 W:World} {e z n:Nat} {v:Value} {xs:List Value} (h:New w1 W e z v n xs) (hk:w.heap.size≤w1.heap.size):New w W e z v n xs:=⟨h.row,fun k hk'=>by have:=h.own k hk';omega⟩
theorem New.spare {w W:World} {e z n:Nat} {v:Value} {xs:List Value} (h:New w W e z v n xs):∀k∈Ytbigongmlpoahaa.spare v,w.heap.size≤k:=fun k hk=>h.own k (spare_own hk)
section
variable {ops:Array Oper} {rest:List Oper} {op:Oper} {a:Act} {w w0:World} {Q:Exit→Act→World→Prop} {e z:Nat}
theorem wpAppN {T y:Nat} (hE:El T e z y) (hgd:op.guard=none) (s x:Operand) (ho:op.op= .call { callee:= .builtin .append,args:= #[s,x],argTypes:= #[T,T] }) (v:Value) (n:Nat) (xs:List Value) (hs:a.eval s=v) (hO:New w0 w e z v n xs) (u:Value) (m:Nat) (news:List Value) (hx:a.eval x=u) (hB:Rw w e z u m news) (hone:∀u∈news,u.oneCell'=true) (hn:(n+m)*y≤140737488355328) (hmx:n+m≤maxLen) (hw:w0.heap.size≤w.heap.size)
   (h:∀v' W,New w0 W e z v' (n+m) (xs++news)→Kept (spare v) w W→wpList Try.prog ops Q rest (a.put op.dst v') W):wpList Try.prog ops Q (op::rest) a w:=
 wpAppR hE hgd s x ho v n xs hs hO.row u m news hx hB hone hn hmx (fun v' W h1 h2 h3 _=>h v' W ⟨h1,fun k hk=>by rcases h3 k hk with h4 | h4;exact hO.own k h4;omega⟩ h2)
end
theorem list42 (f:Nat→Bool) (w:World):Calls Try.prog 70 #[aggV (b8 f)] w fun e w'=>∃v,e= .returned v∧New w w' 3 1 v (lst f).length (inC (lst f))∧Kept [] w w':=by
 go_enter Try.func70,Try.ntmps70
 have M:Hid (Mm [] w w []):=hide Mm.init
 go_wp2_with (first |(refine wpBoxV rfl (.tmp 0) rfl (b8 f) rfl ?_;intro W1 b1 e1 B1 K1;replace M:=hide ((unhide M).new e1 B1 K1);clear e1 B1 K1;refine Stp.go ?_))
 constructor
 go_wp2_with (first |(refine wpLoadA row73 rfl (.tmp 1) rfl b1 0 rfl (b8 f) rfl ((unhide M).at 0 _ rfl).range ?_;refine Stp.go ?_))
 constructor
 go_wp2_with fail
 have HK:=hide (unhide M).kept
 clear M
 go_loopw [3,7] (fun u i wr=>∃(j:Nat) (xu:Value),j≤8∧i= .int .i64 j∧xu=u∧Hid (New w wr 3 1 xu (lstTo f j).length (inC (lstTo f j)))∧Hid (Kept [] w wr)) (fun _ i _=>8-(intOf i).toNat)
 case atStart=>exact ⟨0,_,by omega,rfl,rfl,New.nil _ _ _ _,HK⟩
 case round=>
   clear HK
   obtain⟨j,xu,hj,rfl,rfl,HI,HK⟩:=hrel
   by_cases hlt:j<8
   · have hjI:(j:Int)<8:=by omega
     have hd:decide ((j:Int)<8)=true:=by simpa using hjI
     have HLN:Hid ((lstTo f j).length≤8):=by have:=lstTo_len f j;show _≤_;omega
     cases hf:f j with
     | true=>
       have HF:=hide hf
       have HS2:Hid (lstTo f (j+1)=lstTo f j++ [(j:Int)]):=by show _=_;rw [lstTo,hf];rfl
       clear hf
       go_wp2_with (first |(refine wpIdx73 rfl (.tmp 6) (.tmp 7) rfl f j rfl rfl hlt ?_;rw [unhide HF];refine Stp.go ?_))
       constructor
       go_wp2_with (first |(refine wpBs36 rfl (.tmp 13) rfl (j:Int) rfl ?_;intro W2 g2 e2 B2 K2;have HB2:=hide B2;have HI2:Hid (New w W2 3 1 xu (lstTo f j).length (inC (lstTo f j))):=(unhide HI).kept K2 (by simp);have HK2:Hid (Kept [] w W2):=(unhide HK).trans K2;clear e2 B2 K2;refine Stp.go ?_))
       constructor
       go_wp2_with (
         first
         | (refine wpAppN el36 rfl (.tmp 12) (.tmp 14) rfl xu _ _ rfl (unhide HI2) _ 1 [.int .i64 (j:Int)] rfl (Rw.made (unhide HB2) rfl (max1000 (by omega))) (by simp;rfl) (by have:=unhide HLN;omega) (max1000 (by have:=unhide HLN;omega)) (unhide HK2).size ?_
            intro v3 W3 N3 K3
            have HI3:Hid (New w W3 3 1 v3 (lstTo f (j+1)).length (inC (lstTo f (j+1)))):=by
              have h9:=N3
              rw [unhide HS2,inC_app,List.length_append]
              exact h9
            have HK3:Hid (Kept [] w W3):=(unhide HK2).own K3 (unhide HI2).spare
            clear N3 K3
            refine Stp.go ?_))
       constructor
       go_wp2_with fail
       go_roundw
       case rel=>exact ⟨j+1,_,by omega,by go_num,rfl,HI3,HK3⟩
       case measure=>simp [intOf];omega
     | false=>
       have HF:=hide hf
       have HS2:Hid (lstTo f (j+1)=lstTo f j):=by show _=_;rw [lstTo,hf];simp
       clear hf
       go_wp2_with (first |(refine wpIdx73 rfl (.tmp 6) (.tmp 7) rfl f j rfl rfl hlt ?_;rw [unhide HF];refine Stp.go ?_))
       constructor
       go_wp2_with fail
       go_roundw
       case rel=>exact ⟨j+1,_,by omega,by go_num,rfl,by rw [unhide HS2];exact HI,HK⟩
       case measure=>simp [intOf];omega
   · have hd:decide ((j:Int)<8)=false:=by simp;omega
     have HJ:Hid (8=j):=by show _=_;omega
     go_wp2_with fail
     go_ret
     exact⟨_,rfl,by unfold lst;rw [unhide HJ];exact unhide HI,unhide HK⟩
end Go.Proofs.Ytbigongmlpoahaa
