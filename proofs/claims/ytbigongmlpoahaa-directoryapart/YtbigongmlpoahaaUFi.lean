import Derived.Test.YtbigongmlpoahaaUFh
namespace Go.Proofs.Ytbigongmlpoahaa
set_option maxRecDepth 100000
set_option linter.unusedSimpArgs false
open Go.RowKit
def bgs:Array MapEntry:= #[⟨.int .i64 1,.func (.func 102) #[] #[],0⟩,⟨.int .i64 2,.func (.func 103) #[] #[],1⟩,⟨.int .i64 3,.func (.func 104) #[] #[],2⟩]
def Mp (W:World) (g:Nat):Prop:=W.heap[g]?=some (.map bgs 3)
theorem Mp.kept {W W':World} {g:Nat} {X:List Nat} (h:Mp W g) (hk:Kept X W W') (hX:g∉X):Mp W' g:=hk.heap h hX
theorem Mp.ne {W:World} {g b T:Nat} {vs:List Value} (h:Mp W g) (hB:Blk W b T vs):g∉ [b]:=by
 intro hx
 simp at hx;subst hx
 unfold Mp at h
 unfold Blk at hB
 rw [h] at hB
 injection hB with hB
 cases hB
def putB (w:World) (r:Nat) (o:Obj):World:= { w with heap:=w.heap.setIfInBounds r o }
theorem get_map {w:World} {r:Nat} {es:Array MapEntry} {c:Nat} (hb:w.heap[r]?=some (.map es c)):(getObj r).run Try.prog w= .ok (.map es c) w:=by simp [getObj,Sem.run,hb]
theorem set_map {w:World} {r:Nat} {es:Array MapEntry} {c:Nat} (o:Obj) (hb:w.heap[r]?=some (.map es c)):(setObj r o).run Try.prog w= .ok () (putB w r o):=by simp [setObj,Sem.run,hb,putB]
theorem putB_at {w:World} {r:Nat} {o o':Obj} (h:w.heap[r]?=some o'):(putB w r o).heap[r]?=some o:=by
 have:=(Array.getElem?_eq_some_iff.1 h).1
 simp [putB,this]
theorem Kept.putB {X:List Nat} {a w:World} (h:Kept X a w) {r:Nat} (o:Obj) (hr:r<a.heap.size→r∈X):Kept X a (Ytbigongmlpoahaa.putB w r o):=by
 refine⟨h.os,h.tape,h.output,by simp [Ytbigongmlpoahaa.putB];exact h.size,fun i hi hx=> ?_⟩
 rw [← h.block i hi hx]
 have:i≠r:=fun e=>hx (by rw [e];exact hr (by rw [← e];exact hi))
 simp [Ytbigongmlpoahaa.putB,this.symm]
theorem map88:Try.prog.underlying 120=some (.map 36 96):=by kernel_rfl
theorem check39 (w:World) (em:Bool) (k:Int):(Instr.checkKey em 10000 36 (.int .i64 k)).run Try.prog w= .ok () w:=by cases em <;> kernel_rfl
theorem run_ins (w:World) (g:Nat) (es:Array MapEntry) (c:Nat) (k:Int) (v:Value) (h:w.heap[g]?=some (.map es c)) (hf:∀w:World,(Instr.findKey 36 (.int .i64 k) es.toList).run Try.prog w= .ok none w):(Instr.mapUpdate 120 (.map (some g)) (.int .i64 k) v).run Try.prog w= .ok () (putB w g (.map (es.push ⟨.int .i64 k,v,c⟩) (c+1))):=by
 unfold Instr.mapUpdate
 simp only [Sem.run_bind,run_underlying map88,Result.andThen_ok,get_map h,check39,hf,set_map _ h]
theorem run_lk (w:World) (g:Nat) (k:Int) (f:FuncId) (h:Mp w g) (hf:∀w:World,(Instr.findKey 36 (.int .i64 k) bgs.toList).run Try.prog w= .ok (some (k.toNat-1,.func (.func f) #[] #[])) w):(Instr.lookup 120 (.map (some g)) (.int .i64 k) false).run Try.prog w= .ok (.func (.func f) #[] #[]) w:=by
 unfold Instr.lookup
 simp only [Sem.run_bind,run_underlying map88,Result.andThen_ok,get_map h,Sem.run_pure,check39,hf]
 simp
theorem find1 (w:World):(Instr.findKey 36 (.int .i64 1) bgs.toList).run Try.prog w= .ok (some ((1:Int).toNat-1,.func (.func 102) #[] #[])) w:=by kernel_rfl
theorem find2 (w:World):(Instr.findKey 36 (.int .i64 2) bgs.toList).run Try.prog w= .ok (some ((2:Int).toNat-1,.func (.func 103) #[] #[])) w:=by kernel_rfl
theorem find3 (w:World):(Instr.findKey 36 (.int .i64 3) bgs.toList).run Try.prog w= .ok (some ((3:Int).toNat-1,.func (.func 104) #[] #[])) w:=by kernel_rfl
theorem cg78 (vs:Array Value) (w:World):(callFunc 102 vs).run Try.prog w= .ok (.enter 102 vs) w:=by kernel_rfl
theorem cg79 (vs:Array Value) (w:World):(callFunc 103 vs).run Try.prog w= .ok (.enter 103 vs) w:=by kernel_rfl
theorem cg80 (vs:Array Value) (w:World):(callFunc 104 vs).run Try.prog w= .ok (.enter 104 vs) w:=by kernel_rfl
section
variable {o:Oper} {a:Act} {w:World} {K:Act→World→Prop} {Q:Exit→Act→World→Prop}
theorem wp_callC (f:FuncId) (t:Nat) (args:Array Operand) (ts:Array TypeId) (ho:o.op= .call { callee:= .value (.tmp t),args:=args,argTypes:=ts }) (cs:Array Value) (hf:a.eval (.tmp t)= .func (.func f) #[] cs)
   (vs:Array Value) (hv:args.map a.eval=vs) (hcf:(callFunc f (vs++cs)).run Try.prog w= .ok (.enter f (vs++cs)) w) (h:Calls Try.prog f (vs++cs) w fun e w'=>∃v,e= .returned v∧K (a.put o.dst v) w'):o.wp Try.prog a w K Q:=by
 subst hv
 unfold Oper.wp execOp
 simp only [ho,resolve,hf]
 simp [invoke,go_sem,hcf]
 refine h.mono ?_
 rintro e w' ⟨v,rfl,hk⟩
 exact hk
theorem o_idx38z (x:Operand) (ho:o.op= .indexAddr 35 x (.const (.int .i64 0))) (g off m c:Nat) (hk:0<m) (hx:a.eval x= .slice (some ⟨g,off,none⟩) m c) (h:K (a.put o.dst (.pointer (some ⟨g,off,none⟩))) w):o.wp Try.prog a w K Q:=by
 unfold Oper.wp execOp
 simp only [ho,hx]
 simp [go_sem,Act.eval,hk]
 exact h
end
section
variable {ops:Array Oper} {rest:List Oper} {op:Oper} {a:Act} {w:World} {Q:Exit→Act→World→Prop}
theorem wpMk (hgd:op.guard=none) (ho:op.op= .makeMap 120 none) (h:∀W g,g=w.heap.size→W.heap[g]?=some (.map #[] 0)→Kept [] w W→wpList Try.prog ops Q rest (a.put op.dst (.map (some g))) W):wpList Try.prog ops Q (op::rest) a w:=
 wpList_plain hgd fun _ hK=>by
   have hmk:Sem.run Try.prog (Instr.makeMap 120 none) w= .ok (.map (some w.heap.size)) (w.alloc (.map #[] 0)):=by kernel_rfl
   unfold Oper.wp execOp
   simp only [ho,Option.map_none,Sem.run_bind,hmk,Result.andThen_ok]
   exact hK _ _ (h _ _ rfl (heap_alloc_new w _) ((Kept.refl _ _).alloc _))
theorem wpIns (hgd:op.guard=none) (x:Operand) (k:Int) (f:FuncId) (ho:op.op= .insert 120 x (.const (.int .i64 k)) (.func f)) (hd:op.dst=none) (g:Nat) (es:Array MapEntry) (c:Nat) (hx:a.eval x= .map (some g)) (hm:w.heap[g]?=some (.map es c)) (hf:∀w:World,(Instr.findKey 36 (.int .i64 k) es.toList).run Try.prog w= .ok none w)
   (h:∀W,W.heap[g]?=some (.map (es.push ⟨.int .i64 k,.func (.func f) #[] #[],c⟩) (c+1))→Kept [g] w W→wpList Try.prog ops Q rest a W):wpList Try.prog ops Q (op::rest) a w:=
 wpList_plain hgd fun K hK=>by
   have hr:=run_ins w g es c k (.func (.func f) #[] #[]) hm hf
   unfold Oper.wp execOp
   have e1:a.eval (.const (.int .i64 k))= .int .i64 k:=rfl
   have e2:a.eval (.func f)= .func (.func f) #[] #[]:=rfl
   simp only [ho,hx,e1,e2,Sem.run_bind,hr,Result.andThen_ok]
   show K (a.put op.dst undef) _
   rw [hd]
   exact hK _ _ (h _ (putB_at hm) ((Kept.refl _ _).putB _ (by simp)))
theorem wpLk (hgd:op.guard=none) (m x:Operand) (ho:op.op= .lookup 120 m x false) (g:Nat) (k:Int) (f:FuncId) (hm:a.eval m= .map (some g)) (hx:a.eval x= .int .i64 k) (hM:Mp w g) (hf:∀w:World,(Instr.findKey 36 (.int .i64 k) bgs.toList).run Try.prog w= .ok (some (k.toNat-1,.func (.func f) #[] #[])) w)
   (h:wpList Try.prog ops Q rest (a.put op.dst (.func (.func f) #[] #[])) w):wpList Try.prog ops Q (op::rest) a w:=
 wpList_plain hgd fun _ hK=>by
   unfold Oper.wp execOp
   simp only [ho,hm,hx,Sem.run_bind,run_lk w g k f hM hf,Result.andThen_ok]
   exact hK _ _ h
theorem wpCallB (hgd:op.guard=none) (f:FuncId) (t u:Nat) (ho:op.op= .call { callee:= .value (.tmp t),args:= #[.tmp u],argTypes:= #[88] }) (hf:a.eval (.tmp t)= .func (.func f) #[] #[]) (b:Nat) (hu:a.eval (.tmp u)=P0 b) (hcf:∀vs w,(callFunc f vs).run Try.prog w= .ok (.enter f vs) w) {P:Ending→World→Prop} (hc:Calls Try.prog f #[P0 b] w P) (h:∀e W,P e W→∃v,e= .returned v∧wpList Try.prog ops Q rest (a.put op.dst v) W):wpList Try.prog ops Q (op::rest) a w:=
 wpList_plain hgd fun _ hK=>wp_callC f t #[.tmp u] #[88] ho #[] hf #[P0 b] (by simp [hu]) (hcf _ _) (by
   simp only [Array.append_empty]
   refine hc.mono ?_
   intro e W hP
   obtain⟨v,e1,e2⟩:=h e W hP
   exact⟨v,e1,hK _ _ e2⟩)
end
theorem beginnings70 (w:World):Calls Try.prog 96 #[] w fun e w'=>∃g,e= .returned (.map (some g))∧w.heap.size≤g∧Mp w' g∧Kept [] w w':=by
 go_enter Try.func96,Try.ntmps96
 go_wp2_with (first |(refine wpMk rfl rfl ?_;intro W1 g e1 B1 K1;have HM:=hide B1;have HG:Hid (w.heap.size≤g):=(by show _≤_;omega);have HK:=hide K1;clear e1 B1 K1;refine Stp.go ?_))
 constructor
 go_wp2_with (first |(refine wpIns rfl (.tmp 1) 1 102 rfl rfl g _ _ rfl (unhide HM) (fun w=>by kernel_rfl) ?_;intro W2 B2 K2;replace HM:=hide B2;replace HK:Hid (Kept [] w W2):=(unhide HK).fresh K2 (fun i hi hl=>by simp at hi;subst hi;have:=unhide HG;omega);clear B2 K2;refine Stp.go ?_))
 constructor
 go_wp2_with (first |(refine wpIns rfl (.tmp 1) 2 103 rfl rfl g _ _ rfl (unhide HM) (fun w=>by kernel_rfl) ?_;intro W3 B3 K3;replace HM:=hide B3;replace HK:Hid (Kept [] w W3):=(unhide HK).fresh K3 (fun i hi hl=>by simp at hi;subst hi;have:=unhide HG;omega);clear B3 K3;refine Stp.go ?_))
 constructor
 go_wp2_with (first |(refine wpIns rfl (.tmp 1) 3 104 rfl rfl g _ _ rfl (unhide HM) (fun w=>by kernel_rfl) ?_;intro W4 B4 K4;replace HM:=hide B4;replace HK:Hid (Kept [] w W4):=(unhide HK).fresh K4 (fun i hi hl=>by simp at hi;subst hi;have:=unhide HG;omega);clear B4 K4;refine Stp.go ?_))
 constructor
 go_wp2_with fail
 go_ret
 exact⟨g,rfl,unhide HG,unhide HM,unhide HK⟩
end Go.Proofs.Ytbigongmlpoahaa
