/-
  Texts of the walks of member, shortened.
-/
import Derived.Test.YtcfflbafclmheaaGreatDoorDac
import Derived.ChangeKeysEq
import Derived.Deep.QuietTactic
import Derived.Deep.DeepMust
import Derived.Laws.MakeOwn
set_option maxRecDepth 100000
set_option maxHeartbeats 100000000
set_option linter.unusedSimpArgs false
namespace Go.Proofs.YtcfflbafclmheaaGreatDoor.Dv
open Go.RowKit
def nought:List Int:=List.replicate 64 0
theorem nought_len:nought.length=64:=by simp [nought]
theorem Zt:Sec nought:=⟨nought_len,fun x hx=>by simp [nought] at hx;omega⟩
def secV (s:List Int):Value:= .agg (u8s s).toArray
def At (w:World) (b o:Nat) (s:List Int):Prop:=Sec s∧w.rangeAt b o (u8s s)∧w.there b o 64
theorem Tryz.info38:(Tryz.prog.info? 59).map (·.size)=some 64:=by kernel_rfl
theorem At.loadVar {w:World} {b o:Nat} {s:List Int} (h:At w b o s):(loadVar 59 ⟨b,o,none⟩).run Tryz.prog w= .ok (secV s) w:=
 run_loadVar_mid (P:=Tryz.prog) w b o 59 (u8s s) _ h.2.1 Tryz.underlying59 rfl (by rw [Qy,h.1.1];exact Tryz.info38)
theorem wpLoadS {ops:Array Oper} {rest:List Oper} {op:Oper} {a:Act} {w:World} {Q:Exit→Act→World→Prop} (hgd:op.guard=none) (x:Operand) (ho:op.op= .load 59 x)
  (b o:Nat) (hx:a.eval x= .pointer (some ⟨b,o,none⟩)) (s:List Int) (hA:At w b o s) (h:wpList Tryz.prog ops Q rest (a.put op.dst (secV s)) w):wpList Tryz.prog ops Q (op::rest) a w:=
 wpList_load_mid (P:=Tryz.prog) hgd 59 x ho b o hx (u8s s) _ hA.2.1 Tryz.underlying59 rfl (by rw [Qy,hA.1.1];exact Tryz.info38) h
theorem wpStoreS {ops:Array Oper} {rest:List Oper} {op:Oper} {a:Act} {w:World} {Q:Exit→Act→World→Prop} (hgd:op.guard=none) (x y:Operand) (ho:op.op= .store 59 x y)
  (b o:Nat) (t:List Int) (hx:a.eval x= .pointer (some ⟨b,o,none⟩)) (hy:a.eval y=secV t) (ht:Sec t) (hA:w.there b o 64) (h:wpList Tryz.prog ops Q rest (a.put op.dst undef) (w.setCells b o (u8s t))):wpList Tryz.prog ops Q (op::rest) a w:=
 wpList_store_mid (P:=Tryz.prog) hgd 59 x y ho b o (u8s t).toArray hx hy (by simpa [Qy,ht.1] using hA) (by simp only [List.size_toArray,Qy,ht.1];exact Tryz.info38) (all_oneCell_toArray (QU t)) h
theorem run_alloc38 (w:World):(Instr.alloc 59 true (.tuple #[])).run Tryz.prog w= .ok (.pointer (some ⟨w.heap.size,0,none⟩)) (w.alloc (.cells (u8s nought).toArray 59)):=by kernel_rfl
theorem run_build38 (w:World):(Instr.build 59 #[]).run Tryz.prog w= .ok (secV nought) w:=by kernel_rfl
theorem wpAllocS {ops:Array Oper} {rest:List Oper} {op:Oper} {a:Act} {w:World} {Q:Exit→Act→World→Prop} (hgd:op.guard=none) (ho:op.op= .alloc 59)
  (h:wpList Tryz.prog ops Q rest (a.put op.dst (.pointer (some ⟨w.heap.size,0,none⟩))) (w.alloc (.cells (u8s nought).toArray 59))):wpList Tryz.prog ops Q (op::rest) a w:=
 wpList_plain hgd fun K hK=>by
  unfold Oper.wp execOp;simp only [ho,Sem.run_bind,run_alloc38,Result.andThen_ok];exact hK _ _ h
theorem wpBuildS {ops:Array Oper} {rest:List Oper} {op:Oper} {a:Act} {w:World} {Q:Exit→Act→World→Prop} (hgd:op.guard=none) (ho:op.op= .build 59 #[])
  (h:wpList Tryz.prog ops Q rest (a.put op.dst (secV nought)) w):wpList Tryz.prog ops Q (op::rest) a w:=
 wpList_plain hgd fun K hK=>by
  unfold Oper.wp execOp;simp only [ho,Array.map_empty,Sem.run_bind,run_build38,Result.andThen_ok];exact hK _ _ h
theorem Dv.sector {w:World} {b g:Nat} {D:Dev} (h:Dv w b g D) (i:Nat) (hi:i<D.S.length):At w g (i*64) D.S[i]:=by
 obtain⟨cap,_,hb⟩:=h.lay;exact⟨h.ok.sec _ (List.getElem_mem hi),hb.range h.ok.sec i hi,hb.there h.ok.sec i hi⟩
def Box (w:World) (b:Nat) (s:List Int):Prop:=Sec s∧w.heap[b]?=some (.cells (u8s s).toArray 59 (0,0))
theorem Box.at {w:World} {b:Nat} {s:List Int} (h:Box w b s):At w b 0 s:=by
 obtain⟨hs,h⟩:=h;have hr:w.rangeAt b 0 (u8s s):=fun j v hj=>by rw [cell_of_block h,Nat.zero_add,List.getElem?_toArray];exact hj
 exact⟨hs,hr,fun j hj=>⟨hr.isSome j (by rw [Qy,hs.1];exact hj),QO h _⟩⟩
theorem Box.put {w:World} {b:Nat} {s t:List Int} (h:Box w b s) (ht:Sec t):Box (w.setCells b 0 (u8s t)) b t:=by
 have:=heap_sets (b:=b) (t:=59) (p:=(0,0)) (u8s t) w 0 [] (u8s s) [] (by simpa using h.2) rfl (by rw [Qy,Qy,ht.1,h.1.1]);exact⟨ht,by simpa using this⟩
theorem Box.kept {w w':World} {b:Nat} {s:List Int} {X:List Nat} (h:Box w b s) (hk:Kept X w w') (hb:b∉X):Box w' b s:=⟨h.1,hk.heap h.2 hb⟩
theorem Box.new (w:World):Box (w.alloc (.cells (u8s nought).toArray 59)) w.heap.size nought:=⟨Zt,heap_alloc_new w _⟩
theorem run_box38 (w:World) (s:List Int):(Instr.box 59 (secV s)).run Tryz.prog w= .ok (.pointer (some ⟨w.heap.size,0,none⟩)) (w.alloc (.cells (u8s s).toArray 59)):=by
 simp [Instr.box,secV,newVar,newRow,Value.cells]
theorem ZU {ops:Array Oper} {rest:List Oper} {op:Oper} {a:Act} {w:World} {Q:Exit→Act→World→Prop} (hgd:op.guard=none) (x:Operand) (ho:op.op= .box 59 x) (s:List Int) (hx:a.eval x=secV s)
  (h:wpList Tryz.prog ops Q rest (a.put op.dst (.pointer (some ⟨w.heap.size,0,none⟩))) (w.alloc (.cells (u8s s).toArray 59))):wpList Tryz.prog ops Q (op::rest) a w:=
 wpList_plain hgd fun K hK=>by
  unfold Oper.wp execOp;simp only [ho,hx,Sem.run_bind,run_box38,Result.andThen_ok];exact hK _ _ h
theorem Tryz.info5:(Tryz.prog.info? 5).map (fun i=>(i.zero,i.size,i.bytes))=some (some (.int .u8 0),1,1):=by kernel_rfl
theorem Tryz.cells5:Tryz.prog.cellsOf 5=1:=by kernel_rfl
theorem eq5 (W:World) (d:Nat) (x y:Int):(Op.equalIn (d+1) 5 (.int .u8 x) (.int .u8 y)).run Tryz.prog W= .ok (decide (x=y)) W:=by
 simp [Op.equalIn,Sem.run_bind,run_underlying Tryz.underlying5];rw [Bool.eq_iff_iff];simp
theorem items_secs (W:World) (d:Nat) (s t:List Int) (hs:s.length=64) (ht:t.length=64):∀is:List Nat,(∀i∈is,i<64)→
  (Op.eqItems (d+1) 5 1 (u8s s).toArray (u8s t).toArray is).run Tryz.prog W= .ok (decide (∀i∈is,s[i]?=t[i]?)) W:=by
 have h2:∀(xs:Array Value) (j:Nat) (v:Value),xs[j]?=some v→(part 5 xs j).run Tryz.prog W= .ok v W:=by
  intro xs j v hj;simp [part,isAgg,run_underlying Tryz.underlying5,hj]
 intro is
 induction is with
 | nil=>intro _;simp [Op.eqItems]
 | cons i is ih=>
  intro hi;have hi0:=hi i (List.mem_cons_self ..);have h3:(part 5 (u8s s).toArray (i*1)).run Tryz.prog W= .ok (.int .u8 (s[i]'(by omega))) W:=h2 _ _ _ (by simp [u8s,show i<s.length by omega]);have h4:(part 5 (u8s t).toArray (i*1)).run Tryz.prog W= .ok (.int .u8 (t[i]'(by omega))) W:=h2 _ _ _ (by simp [u8s,show i<t.length by omega]);simp only [Op.eqItems,Sem.run_bind,h3,h4,Result.andThen_ok,eq5];by_cases he:s[i]'(by omega)=t[i]'(by omega)
  · have:=ih (fun j hj=>hi j (List.mem_cons_of_mem _ hj));simp [he,this,show i<s.length by omega,show i<t.length by omega]
  · simp [he,show i<s.length by omega,show i<t.length by omega]
theorem equal_secs (W:World) (s t:List Int) (hs:Sec s) (ht:Sec t):(Op.equal 59 (secV s) (secV t)).run Tryz.prog W= .ok (decide (s=t)) W:=by
 obtain⟨i0,hi,_⟩:=info_parts Tryz.info5;have h:=run_equalIn_array W 9999 (u8s s).toArray (u8s t).toArray Tryz.underlying59 hi;rw [Tryz.cells5,items_secs W 9998 s t hs.1 ht.1 (List.range 64) (by simp)] at h;have hd:decide (∀i∈List.range 64,s[i]?=t[i]?)=decide (s=t):=by
  rw [decide_eq_decide];constructor
  · intro h;apply List.ext_getElem?;intro i;by_cases hi:i<64
    · exact h i (by simpa using hi)
    · rw [List.getElem?_eq_none (by rw [hs.1];omega),List.getElem?_eq_none (by rw [ht.1];omega)]
  · intro h i _;rw [h]
 rw [hd] at h;exact h
theorem neq_secs (W:World) (s t:List Int) (hs:Sec s) (ht:Sec t):(binOp BinOp.neq 59 (secV s) (secV t)).run Tryz.prog W= .ok (.bool (!decide (s=t))) W:=by
 have:=equal_secs W s t hs ht;simp only [secV] at this⊢;simp only [binOp,Sem.run_bind,this,Result.andThen_ok,Sem.run_pure]
theorem guard_secs (W:World) (o:BinOp) (x y:Operand) (s t:List Int):(eqGuard o 59 x y (secV s) (secV t)).run Tryz.prog W= .ok () W:=by
 cases o <;> simp [eqGuard,secV,Sem.run_bind]
theorem ZF {ops:Array Oper} {rest:List Oper} {o:Oper} {a:Act} {C:World→Prop} {Q:Act→Prop} (hw:Region.wanted o (yielded ops a.tmps)=true) (x:Operand) (ho:o.op= .load 59 x)
  (b off:Nat) (hx:a.eval x= .pointer (some ⟨b,off,none⟩)) (s:List Int) (hs:Sec s) (hC:∀w,C w→w.rangeAt b off (u8s s)) (h:wpQuiet Tryz.prog ops C Q rest (a.put o.dst (secV s))):wpQuiet Tryz.prog ops C Q (o::rest) a:=by
 refine wpQuiet_step (fun K hK=> ?_);rw [if_pos hw];refine⟨secV s,fun w hw'=> ?_,hK _ h⟩;unfold Oper.quietAt execOp;have:=run_loadVar_mid (P:=Tryz.prog) w b off 59 (u8s s) _ (hC w hw') Tryz.underlying59 rfl (by rw [Qy,hs.1];exact Tryz.info38);simp only [ho,hx,Instr.loadAt,Instr.sureAddr,Sem.run_bind,Sem.run_pure,Result.andThen_ok,this];exact⟨rfl,rfl⟩
theorem quietNeqS {ops:Array Oper} {rest:List Oper} {o:Oper} {a:Act} {C:World→Prop} {Q:Act→Prop} (hw:Region.wanted o (yielded ops a.tmps)=true) (x y:Operand) (r:TypeId) (ho:o.op= .binOp .neq 59 x y r) (s t:List Int) (hx:a.eval x=secV s) (hy:a.eval y=secV t) (hs:Sec s) (ht:Sec t) (rb:Bool) (hr:(!decide (s=t))=rb)
  (h:wpQuiet Tryz.prog ops C Q rest (a.put o.dst (.bool rb))):wpQuiet Tryz.prog ops C Q (o::rest) a:=by
 subst hr;refine wpQuiet_step (fun K hK=> ?_);rw [if_pos hw];refine⟨.bool (!decide (s=t)),fun w hw'=> ?_,hK _ h⟩;unfold Oper.quietAt execOp;simp only [ho,hx,hy,Sem.run_bind,guard_secs,neq_secs _ _ _ hs ht,Result.andThen_ok];exact⟨rfl,rfl⟩
open Go.RowKit
def Dev.read (D:Dev) (x:Int):List Int×Int:=if hasS D.S.length x 1 then (D.S.getD x.toNat nought,0) else (nought,2)
theorem res26 (w:World) (z:Nat) (s:List Int) (e:Int) (tmps:Array Value) (h4:tmps[4]?.getD undef= .pointer (some ⟨z,0,none⟩)) (h5:tmps[5]?.getD undef= .int .i64 e) (hb:Box w z s):(results Tryz.f146 tmps).run Tryz.prog w= .ok (.tuple #[secV s,.int .i64 e]) w:=by
 have:=hb.at.loadVar;simp [results,Tryz.results146,h4,h5,this,asAddr]
set_option maxRecDepth 100000 in
theorem read26 (b g:Nat) (D:Dev) (x:Int) (w:World) (h:Dv w b g D) (hx: -9223372036854775808≤x∧x≤9223372036854775807):
  Calls Tryz.prog 146 #[.pointer (some ⟨b,0,none⟩),.int .i64 x] w fun e w'=>e= .returned (.tuple #[secV (D.read x).1,.int .i64 (D.read x).2])∧Kept [] w w':=by
 have hlt:=h.lt;have hb0:=hide (Box.new w);have hk0:=hide ((Kept.refl [] w).alloc (.cells (u8s nought).toArray 59));have hD:=h.alloc (.cells (u8s nought).toArray 59);have hC:=hide (hasSectors53 _ _ x 1 _ hD.sz hD.ok.s1 hx);cases hN:hasS D.S.length x 1 with
 | false=>
  have hE:D.read x=(nought,2):=by simp [Dev.read,hN]
  rw [hE];clear hE;go_enter Tryz.func146,Tryz.ntmps146
  go_wp2_with (first |(refine wpAllocS rfl rfl ?_) |(refine wpBuildS rfl rfl ?_) |(refine wpStoreS rfl (.tmp 4) (.tmp 15) rfl w.heap.size 0 nought rfl rfl Zt (Qa hb0).at.2.2 ?_) |(go_at_call 54;refine(none_no _ _ _ _ hD).mono ?_;rintro e w' ⟨rfl,rfl⟩) |(go_at_call 129;refine(Qa hC).mono ?_;rintro e w' ⟨rfl,rfl⟩))
  exact bodyPost_ret (res26 _ w.heap.size nought 2 _ rfl rfl ((Qa hb0).put Zt)) rfl ⟨rfl,(Qa hk0).setCells _ _ (by simp)⟩
 | true=>
  have hb:0≤x∧1≤D.S.length-x:=by simpa [hasS] using hN
  obtain⟨k,rfl⟩:=Int.eq_ofNat_of_zero_le hb.1;have hk:k<D.S.length:=by omega
  have hE:D.read k=(D.S[k]'(by omega),0):=by simp [Dev.read,hN,List.getD,hk]
  rw [hE];clear hE;obtain⟨cap,hh,_⟩:=hD.lay;have hc:=(hh.cells hD.ok).1;have hA:=hide (hD.sector k hk);clear hh;go_enter Tryz.func146,Tryz.ntmps146
  go_wp2_with (first |(refine wpAllocS rfl rfl ?_) |(refine wpLoadS rfl (.tmp 21) rfl g (k*64) rfl _ (Qa hA) ?_) |(refine wpStoreS rfl (.tmp 4) (.tmp 22) rfl w.heap.size 0 _ rfl rfl (Qa hA).1 (Qa hb0).at.2.2 ?_) |(go_at_call 54;refine(none_no _ _ _ _ hD).mono ?_;rintro e w' ⟨rfl,rfl⟩) |(go_at_call 129;refine(Qa hC).mono ?_;rintro e w' ⟨rfl,rfl⟩))
  exact bodyPost_ret (res26 _ w.heap.size _ 0 _ rfl rfl ((Qa hb0).put (Qa hA).1)) rfl ⟨rfl,(Qa hk0).setCells _ _ (by simp)⟩
open Go.RowKit
theorem Zf {w:World} {g o p i:Nat} {vs:List Value} {v:Value} (hne:p≠g) (h:w.cell? ⟨p,i,none⟩=some v):(w.setCells g o vs).cell? ⟨p,i,none⟩=some v:=by
 rw [World.cell?_of_block (w:=w) (sets_ne vs w o p hne)];exact h
theorem Dv.putS {w:World} {b g k:Nat} {D:Dev} {s:List Int} (h:Dv w b g D) (hk:k<D.S.length) (hs:Sec s):Dv (w.setCells g (k*64) (u8s s)) b g { D with S:=D.S.set k s } :=by
 obtain⟨cap,h1,h2⟩:=h.lay;refine⟨h.ok.sector k s hs,h.ne,cap,?_,h2.put h.ok.sec k hk s hs.1⟩;unfold Head at h1⊢;rw [sets_ne _ _ _ _ h.ne,h1];simp [QH]
set_option maxRecDepth 100000 in
theorem write55 (ps pd pf pi b g:Nat) (D:Dev) (f i m:Nat) (hm:Hid (m=f+i)) (s:List Int) (w:World) (h:Dv w b g D) (hk:m<D.S.length) (hs:Box w ps s) (hd:w.cell? ⟨pd,0,none⟩=some (.pointer (some ⟨b,0,none⟩))) (hf:w.cell? ⟨pf,0,none⟩=some (.int .i64 f)) (hi:w.cell? ⟨pi,0,none⟩=some (.int .i64 i)) (n0:ps≠g) (n1:pd≠g) (n2:pf≠g) (n3:pi≠g):
  Calls Tryz.prog 130 #[.pointer (some ⟨ps,0,none⟩),.pointer (some ⟨pd,0,none⟩),.pointer (some ⟨pf,0,none⟩),.pointer (some ⟨pi,0,none⟩)] w fun e w'=>e= .returned (.tuple #[])∧Dv w' b g { D with S:=D.S.set m s } ∧Kept [g] w w':=by
 have hp:=hide (h.drew.putS hk hs.1);have hsec:=hs.1;have hl1:=h.ok.s1;have hne:=h.ne;obtain⟨cap,hh,hbd⟩:=h.lay;have hc0:=(hh.cells h.ok).1;have hth:=hbd.there h.ok.sec m hk;have hrs:=hs.at.2.1;have h0:(0:Int)≤(m:Int):=by omega
 have hk':(m:Int)<D.S.length:=by omega
 have hw:IntKind.i64.wrap ((f:Int)+(i:Int))=(m:Int):=by
  have:=Qa hm;rw [IntKind.wrap_i64];omega
 have hu:=Tryz.underlying59;have hu8:(u8s s).length=64:=by rw [Qy,hsec.1]
 have hsz:(Tryz.prog.info? 59).map (·.size)=some (u8s s).length:=by rw [hu8];exact Tryz.info38
 have hone:=QU s;clear hh hbd h hs;go_enter Tryz.func130,Tryz.ntmps130
 go_wp2
 go_region_held3 (fun w'=>w'.cell? ⟨pd,0,none⟩=some (.pointer (some ⟨b,0,none⟩))∧w'.cell? ⟨pf,0,none⟩=some (.int .i64 f)∧w'.cell? ⟨pi,0,none⟩=some (.int .i64 i)∧w'.cell? ⟨b,0,none⟩=some (.slice (some ⟨g,0,none⟩) D.S.length cap)∧w'.rangeAt ps 0 (u8s s)∧w'.there g (m*64) 64)
  (first |(go_keep_ranges;done) |(go_keep;done) |(go_split_ands;simp only [World.rangeAt_drew,World.there_drew] at *;refine⟨Zf n1 (by assumption),Zf n2 (by assumption),Zf n3 (by assumption),Zf hne (by assumption),World.rangeAt_setCells_apart (by assumption) _ _ _ (.inl n0),World.there_setCells (by assumption) _ _ _⟩)) (fail)
 all_goals go_wp2
 exact bodyPost_end (results_none rfl _ _ _) rfl ⟨rfl,Qa hp,(Kept.refl _ _).drew.setCells _ _ (by simp)⟩
set_option maxRecDepth 100000 in
theorem swap57 (ps pd pf b g:Nat) (D:Dev) (m:Nat) (s:List Int) (w:World) (h:Dv w b g D) (hk:m<D.S.length) (hs:Box w ps s) (hd:w.cell? ⟨pd,0,none⟩=some (.pointer (some ⟨b,0,none⟩))) (hf:w.cell? ⟨pf,0,none⟩=some (.int .i64 m)) (n0:ps≠g) (n1:pd≠g) (n2:pf≠g):
  Calls Tryz.prog 159 #[.pointer (some ⟨ps,0,none⟩),.pointer (some ⟨pd,0,none⟩),.pointer (some ⟨pf,0,none⟩)] w fun e w'=>e= .returned (.tuple #[])∧Dv w' b g { D with S:=D.S.set m s } ∧Kept [g] w w':=by
 have hp:=hide (h.drew.putS hk hs.1);have hsec:=hs.1;have hl1:=h.ok.s1;have hne:=h.ne;obtain⟨cap,hh,hbd⟩:=h.lay;have hc0:=(hh.cells h.ok).1;have hth:=hbd.there h.ok.sec m hk;have hrs:=hs.at.2.1;have h0:(0:Int)≤(m:Int):=by omega
 have hk':(m:Int)<D.S.length:=by omega
 have hu:=Tryz.underlying59;have hu8:(u8s s).length=64:=by rw [Qy,hsec.1]
 have hsz:(Tryz.prog.info? 59).map (·.size)=some (u8s s).length:=by rw [hu8];exact Tryz.info38
 have hone:=QU s;clear hh hbd h hs;go_enter Tryz.func159,Tryz.ntmps159
 go_wp2
 go_region_held3 (fun w'=>w'.cell? ⟨pd,0,none⟩=some (.pointer (some ⟨b,0,none⟩))∧w'.cell? ⟨pf,0,none⟩=some (.int .i64 m)∧w'.cell? ⟨b,0,none⟩=some (.slice (some ⟨g,0,none⟩) D.S.length cap)∧w'.rangeAt ps 0 (u8s s)∧w'.there g (m*64) 64)
  (first |(go_keep_ranges;done) |(go_keep;done) |(go_split_ands;simp only [World.rangeAt_drew,World.there_drew] at *;refine⟨Zf n1 (by assumption),Zf n2 (by assumption),Zf hne (by assumption),World.rangeAt_setCells_apart (by assumption) _ _ _ (.inl n0),World.there_setCells (by assumption) _ _ _⟩)) (fail)
 all_goals go_wp2
 exact bodyPost_end (results_none rfl _ _ _) rfl ⟨rfl,Qa hp,(Kept.refl _ _).drew.setCells _ _ (by simp)⟩
theorem has_is (p:Value) (n:Nat) (first many:Int) (w:World) (h:Sz w p n) (hn:n≤4096) (hf: -9223372036854775808≤first∧first≤9223372036854775807) (r:Bool) (hr:hasS n first many=r):
 Calls Tryz.prog 129 #[p,.int .i64 first,.int .i64 many] w fun e w'=>e= .returned (.bool r)∧w'=w:=by subst hr;exact hasSectors53 p n first many w h hn hf
theorem ref_is (b g:Nat) (D:Dev) (x ep:Int) (may:Bool) (w:World) (h:Dv w b g D) (r:Int) (hr:D.ref x ep may=r):Calls Tryz.prog 128 #[.pointer (some ⟨b,0,none⟩),.int .i64 x,.int .i64 ep,.bool may] w fun e w'=>e= .returned (.int .i64 r)∧w'=w:=by
 subst hr;exact refusal52 b g D x ep may w h
theorem wpLoadS' {ops:Array Oper} {rest:List Oper} {op:Oper} {a:Act} {w:World} {Q:Exit→Act→World→Prop} (hgd:op.guard=none) (x:Operand) (ho:op.op= .load 59 x)
  (b o:Nat) (hx:a.eval x= .pointer (some ⟨b,o,none⟩)) (s:List Int) (hs:Sec s) (hA:w.rangeAt b o (u8s s)) (h:wpList Tryz.prog ops Q rest (a.put op.dst (secV s)) w):wpList Tryz.prog ops Q (op::rest) a w:=
 wpList_load_mid (P:=Tryz.prog) hgd 59 x ho b o hx (u8s s) _ hA Tryz.underlying59 rfl (by rw [Qy,hs.1];exact Tryz.info38) h
theorem _root_.Go.Proofs.YtcfflbafclmheaaGreatDoor.Kept.drewN {X:List Nat} {a w:World} (h:Kept X a w) (n:Nat):Kept X a (w.drewN n):=⟨h.os,h.tape,h.output,h.size,h.block⟩
theorem Dv.drewN {w:World} {b g:Nat} {D:Dev} (h:Dv w b g D) (n:Nat):Dv (w.drewN n) b g D:=h.kept (X:= []) ((Kept.refl _ _).drewN n) (by simp) (by simp)
structure Secs (w:World) (ao:Option Addr) (n c:Nat) (L:List (List Int)):Prop where
 len:L.length=n
 sec:∀s∈L,Sec s
 cap:n≤c
 lies:L≠ []→∃h off,ao=some ⟨h,off,none⟩∧∀i (hi:i<L.length),w.rangeAt h (off+i*64) (u8s L[i])
def Away (ao:Option Addr) (X:List Nat):Prop:=∀h off,ao=some ⟨h,off,none⟩→h∉X
theorem Secs.kept {w w':World} {ao:Option Addr} {n c:Nat} {L:List (List Int)} {X:List Nat} (h:Secs w ao n c L) (hk:Kept X w w') (ha:Away ao X):Secs w' ao n c L:=by
 refine⟨h.len,h.sec,h.cap,fun hne=> ?_⟩;obtain⟨b,off,e,hr⟩:=h.lies hne;exact⟨b,off,e,fun i hi j v hj=>hk.cell (hr i hi j v hj) (ha b off e)⟩
def Dev.puts (D:Dev) (k:Nat):List (List Int)→Dev
 | []=>D
 | s::L=>if (D.step (D.S.set k s) D.E).2 then ((D.step (D.S.set k s) D.E).1).puts (k+1) L else (D.step (D.S.set k s) D.E).1
def Dev.write (D:Dev) (x ep f:Int) (L:List (List Int)):Int×Dev:=
 if D.ref x ep (hasS D.S.length f L.length)=0 then (0,D.puts f.toNat L) else (D.ref x ep (hasS D.S.length f L.length),D)
theorem step_len (D:Dev) (k:Nat) (s:List Int):(D.step (D.S.set k s) D.E).1.S.length=D.S.length:=by unfold Dev.step;split <;> simp
set_option maxRecDepth 100000 in
theorem write22 (b g:Nat) (D:Dev) (x ep f:Int) (ao:Option Addr) (n c:Nat) (L:List (List Int)) (w:World) (h:Dv w b g D) (hf: -9223372036854775808≤f∧f≤9223372036854775807) (hn:n≤9223372036854775807) (hL:Secs w ao n c L) (hA:Away ao [b,g]):
   Calls Tryz.prog 73 #[.pointer (some ⟨b,0,none⟩),.int .i64 x,.int .i64 ep,.int .i64 f,.slice ao n c] w fun e w'=>e= .returned (.int .i64 (D.write x ep f L).1)∧Dv w' b g (D.write x ep f L).2∧Kept [b,g] w w':=by
 have hlt:=h.lt;have hk2:Kept [] w ((w.alloc (.cells #[.pointer (some ⟨b,0,none⟩)] 32)).alloc (.cells #[.int .i64 f] 3)):=((Kept.refl _ _).alloc _).alloc _;have hD:=h.kept hk2 (by simp) (by simp);have hL2:=hL.kept hk2 (by intro _ _ _;simp);have hc1:((w.alloc (.cells #[.pointer (some ⟨b,0,none⟩)] 32)).alloc (.cells #[.int .i64 f] 3)).cell? ⟨w.heap.size,0,none⟩=some (.pointer (some ⟨b,0,none⟩)):=box_at (heap_alloc_old (QX rfl));have hc2:((w.alloc (.cells #[.pointer (some ⟨b,0,none⟩)] 32)).alloc (.cells #[.int .i64 f] 3)).cell? ⟨w.heap.size+1,0,none⟩=some (.int .i64 f):=box_at (QX (by simp));have hsz:w.heap.size+2≤((w.alloc (.cells #[.pointer (some ⟨b,0,none⟩)] 32)).alloc (.cells #[.int .i64 f] 3)).heap.size:=by simp
 have hlen:=hL.len;by_cases hz:D.ref x ep (hasS D.S.length f n)=0
 · have hU:D.write x ep f L=(0,D.puts f.toNat L):=by simp [Dev.write,hlen,hz]
   rw [hU];have hS:=ref_may hz;have hff:0≤f∧(n:Int)≤D.S.length-f:=by simpa [hasS] using hS
   obtain⟨F,rfl⟩:=Int.eq_ofNat_of_zero_le hff.1;simp only [Int.toNat_natCast];clear hU;rw [hS] at hz;have HZ:=hide hz;have HS:=hide hS;clear hz hS;go_enter Tryz.func73,Tryz.ntmps73
   go_wp2
   generalize (w.alloc (.cells #[.pointer (some ⟨b,0,none⟩)] 32)).alloc (.cells #[.int .i64 F] 3)=W at*;go_step3
   go_wp2
   go_quiet ((first |(go_at_call 129;exact Calls.quiet_of_same (has_is _ _ _ _ _ (hD.drewN _).sz hD.ok.s1 hf true (Qa HS))) |(go_at_call 128;go_must (exact Calls.quiet_of_same (ref_is _ _ _ _ _ _ _ (hD.drewN _) 0 (Qa HZ))))))
   go_wp2
   go_step3
   go_wp2
   have hkW:Hid (Kept [b,g] W (W.drewN nq)):=(Kept.refl _ _).drewN _;have hDW:Hid (Dv (W.drewN nq) b g D):=hD.drewN _;go_loopw [28] (fun i wr=>∃(k:Nat) (Dk:Dev),k≤n∧i= .int .i64 k∧Dv wr b g Dk∧Dk.S.length=D.S.length∧Hid (Dk.puts (F+k) (L.drop k)=D.puts F L)∧Hid (Kept [b,g] W wr)) (fun i _=>n-(intOf i).toNat)
   case atStart=>exact ⟨0,D,by omega,rfl,Qa hDW,rfl,rfl,hkW⟩
   case round=>
    obtain⟨k,Dk,hkn,rfl,hDk,hSk,hPk,hKk⟩:=hrel;have hb1:=(Qa hKk).cell hc1 (by simp;omega);have hb2:=(Qa hKk).cell hc2 (by simp;omega);by_cases hlt':k<n
    · obtain⟨s,hs⟩:∃s,L[k]?=some s:=⟨_,List.getElem?_eq_getElem (by omega)⟩;have hsec:Sec s:=hL2.sec s (List.mem_of_getElem? hs);obtain⟨hb,off,rfl,hr⟩:=hL2.lies (by intro e;simp [e] at hlen;omega);have hrk:=hr k (by omega);have hgs:L[k]'(by omega)=s:=by have:=List.getElem?_eq_getElem (l:=L) (i:=k) (by omega);rw [this] at hs;simpa using hs
      rw [hgs] at hrk;have hrr:wr.rangeAt hb (off+k*64) (u8s s):=fun j v hj=>(Qa hKk).cell (hrk j v hj) (hA hb off rfl);have HR:=hide hrr;have hBX:Hid (Box ((wr.alloc (Obj.cells #[.int .i64 k] 3)).alloc (Obj.cells (u8s nought).toArray 59)) (wr.heap.size+1) nought):=⟨Zt,QX (by simp)⟩;have hKX:Hid (Kept [] wr ((wr.alloc (Obj.cells #[.int .i64 k] 3)).alloc (Obj.cells (u8s nought).toArray 59))):=((Kept.refl _ _).alloc _).alloc _;have hCX:Hid (((wr.alloc (Obj.cells #[.int .i64 k] 3)).alloc (Obj.cells (u8s nought).toArray 59)).cell? ⟨wr.heap.size,0,none⟩=some (.int .i64 k)):=box_at (heap_alloc_old (QX rfl));have hwr:=(Qa hKk).size;have hKY:Hid (Kept [] wr (((wr.alloc (Obj.cells #[.int .i64 k] 3)).alloc (Obj.cells (u8s nought).toArray 59)).setCells (wr.heap.size+1) 0 (u8s s))):=(Qa hKX).setCells _ _ (by omega);have hb3:(((wr.alloc (Obj.cells #[.int .i64 k] 3)).alloc (Obj.cells (u8s nought).toArray 59)).setCells (wr.heap.size+1) 0 (u8s s)).cell? ⟨w.heap.size,0,none⟩=some (.pointer (some ⟨b,0,none⟩)):=(Qa hKY).cell hb1 (by simp);have hDo:Hid (Calls Tryz.prog 115 #[.pointer (some ⟨b,0,none⟩),.func (.func 130) #[] #[.pointer (some ⟨wr.heap.size+1,0,none⟩),.pointer (some ⟨w.heap.size,0,none⟩),.pointer (some ⟨w.heap.size+1,0,none⟩),.pointer (some ⟨wr.heap.size,0,none⟩)]] (((wr.alloc (Obj.cells #[.int .i64 k] 3)).alloc (Obj.cells (u8s nought).toArray 59)).setCells (wr.heap.size+1) 0 (u8s s)) fun e w'=>e= .returned (.bool (Dk.step (Dk.S.set (F+k) s) Dk.E).2)∧Dv w' b g (Dk.step (Dk.S.set (F+k) s) Dk.E).1∧Kept [b,g] wr w'):=by
       have hlt2:=hDk.lt;have hDY:=hDk.kept (Qa hKY) (by simp) (by simp);refine(do54_55 b g Dk (Dk.S.set (F+k) s) Dk.E _ _ hDY ?_).mono ?_
       · intro D1 w1 hS1 hE1 hN1 h1 k1;refine(write55 (wr.heap.size+1) w.heap.size (w.heap.size+1) wr.heap.size b g D1 F k (F+k) rfl s w1 h1 (by rw [hS1,hSk];omega) (((Qa hBX).put hsec).kept k1 (by simp;omega)) (k1.cell hb3 (by simp;omega)) (k1.cell ((Qa hKY).cell hb2 (by simp)) (by simp;omega)) (k1.cell (Zf (by omega) (Qa hCX)) (by simp;omega)) (by omega) (by omega) (by omega) (by omega)).mono ?_;rintro e w2 ⟨rfl,h2,k2⟩;refine⟨rfl,?_,k2.mono (by simp)⟩;rw [← hS1,← hE1];exact h2
       · rintro e w2 ⟨rfl,h2,k2⟩;exact⟨rfl,h2,((Qa hKY).mono (by simp)).trans k2⟩
      clear hr hrk hrr;have hdrop:L.drop k=s::L.drop (k+1):=by rw [List.drop_eq_getElem_cons (by omega),hgs]
      have hPs:=Qa hPk;rw [hdrop,Dev.puts] at hPs;cases hst:(Dk.step (Dk.S.set (F+k) s) Dk.E).2 with
      | true=>
       rw [hst] at hDo;rw [hst,if_pos rfl] at hPs;have HPs:=hide hPs;have hln:=step_len Dk (F+k) s;clear hPs hPk hdrop hst hgs;go_wp2_with (first |(refine wpLoadS' rfl (.tmp 31) rfl hb (off+k*64) rfl s hsec (Qa HR) ?_) |(refine wpAllocS rfl rfl ?_) |(refine wpStoreS rfl (.tmp 13) (.tmp 32) rfl (wr.heap.size+1) 0 s rfl rfl hsec (Qa hBX).at.2.2 ?_) |(go_at_call 115;go_must (refine(Qa hDo).mono ?_;rintro e w1 ⟨rfl,hd1,hk1⟩)))
       go_roundw
       case rel=>exact ⟨k+1,_,by omega,by go_num,hd1,by rw [hln];exact hSk,by rw [← Nat.add_assoc];exact HPs,(Qa hKk).trans hk1⟩
       case measure=>simp [intOf];omega
      | false=>
       rw [hst] at hDo;rw [hst,if_neg (by simp)] at hPs;have HPs:=hide hPs;clear hPs hPk hdrop hst hgs;go_wp2_with (first |(refine wpLoadS' rfl (.tmp 31) rfl hb (off+k*64) rfl s hsec (Qa HR) ?_) |(refine wpAllocS rfl rfl ?_) |(refine wpStoreS rfl (.tmp 13) (.tmp 32) rfl (wr.heap.size+1) 0 s rfl rfl hsec (Qa hBX).at.2.2 ?_) |(go_at_call 115;go_must (refine(Qa hDo).mono ?_;rintro e w1 ⟨rfl,hd1,hk1⟩)))
       rw [Exit.noGoto_ret];go_ret
       exact⟨rfl,(Qa HPs)▸hd1,((hk2.mono (by simp)).trans (Qa hKk)).trans hk1⟩
    · go_wp2
      rw [Exit.noGoto_ret];go_ret
      have:L.drop k= []:=List.drop_eq_nil_of_le (by omega);have hp:=Qa hPk;rw [this] at hp;simp only [Dev.puts] at hp;exact⟨rfl,hp▸hDk,((hk2.mono (by simp)).trans (Qa hKk))⟩
 · have hU:D.write x ep f L=(D.ref x ep (hasS D.S.length f n),D):=by simp [Dev.write,hlen,hz]
   rw [hU];have hne:(D.ref x ep (hasS D.S.length f n) !=0)=true:=by simpa using hz
   clear hU;go_enter Tryz.func73,Tryz.ntmps73
   go_wp2
   generalize (w.alloc (.cells #[.pointer (some ⟨b,0,none⟩)] 32)).alloc (.cells #[.int .i64 f] 3)=W at*;go_step3
   go_wp2
   go_quiet ((first |(go_at_call 129;exact Calls.quiet_of_same (hasSectors53 _ _ _ _ _ (hD.drewN _).sz hD.ok.s1 hf)) |(go_at_call 128;go_must (exact Calls.quiet_of_same (refusal52 _ _ _ _ _ _ _ (hD.drewN _))))))
   go_wp2
   try rw [Exit.noGoto_ret]
   go_ret
   exact⟨rfl,hD.drewN _,(hk2.mono (by simp)).drewN _⟩
open Go.RowKit
def Dev.swap (D:Dev) (x ep f:Int) (s t:List Int):Bool×Int×Dev:=
 if D.ref x ep (hasS D.S.length f 1)=0 then (if D.S.getD f.toNat nought=s then (true,0,(D.step (D.S.set f.toNat t) D.E).1) else (false,0,D)) else (false,D.ref x ep (hasS D.S.length f 1),D)
def swapW (w:World) (p:Value) (f:Int) (s t:List Int):World:=(((w.alloc (.cells #[p] 32)).alloc (.cells #[.int .i64 f] 3)).alloc (.cells (u8s s).toArray 59)).alloc (.cells (u8s t).toArray 59)
theorem swapW_kept (w:World) (p:Value) (f:Int) (s t:List Int) (X:List Nat):Kept X w (swapW w p f s t):=((((Kept.refl _ _).alloc _).alloc _).alloc _).alloc _
theorem swapW_d (w:World) (p:Value) (f:Int) (s t:List Int):(swapW w p f s t).cell? ⟨w.heap.size,0,none⟩=some p:=box_at (heap_alloc_old (heap_alloc_old (heap_alloc_old (QX rfl))))
theorem swapW_f (w:World) (p:Value) (f:Int) (s t:List Int):(swapW w p f s t).cell? ⟨w.heap.size+1,0,none⟩=some (.int .i64 f):=box_at (heap_alloc_old (heap_alloc_old (QX (by simp))))
theorem swapW_s (w:World) (p:Value) (f:Int) (s t:List Int) (hs:Sec s):Box (swapW w p f s t) (w.heap.size+1+1) s:=⟨hs,heap_alloc_old (QX (by simp))⟩
theorem swapW_t (w:World) (p:Value) (f:Int) (s t:List Int) (ht:Sec t):Box (swapW w p f s t) (w.heap.size+1+1+1) t:=⟨ht,QX (by simp)⟩
set_option maxRecDepth 100000 in
theorem swap30 (b g:Nat) (D:Dev) (x ep f:Int) (s t:List Int) (w:World) (h:Dv w b g D) (hf: -9223372036854775808≤f∧f≤9223372036854775807) (hs:Sec s) (ht:Sec t):
   Calls Tryz.prog 153 #[.pointer (some ⟨b,0,none⟩),.int .i64 x,.int .i64 ep,.int .i64 f,secV s,secV t] w fun e w'=>e= .returned (.tuple #[.bool (D.swap x ep f s t).1,.int .i64 (D.swap x ep f s t).2.1])∧Dv w' b g (D.swap x ep f s t).2.2∧Kept [b,g] w w':=by
 have hlt:=h.lt;have hk:=swapW_kept w (.pointer (some ⟨b,0,none⟩)) f s t [];have hD:=h.kept hk (by simp) (by simp);have hd:=swapW_d w (.pointer (some ⟨b,0,none⟩)) f s t;have hff:=swapW_f w (.pointer (some ⟨b,0,none⟩)) f s t;have hbs:=hide (swapW_s w (.pointer (some ⟨b,0,none⟩)) f s t hs);have hbt:=hide (swapW_t w (.pointer (some ⟨b,0,none⟩)) f s t ht);by_cases hz:D.ref x ep (hasS D.S.length f 1)=0
 · have hS:=ref_may hz;have hfs:0≤f∧(1:Int)≤D.S.length-f:=by simpa [hasS] using hS
   obtain⟨F,rfl⟩:=Int.eq_ofNat_of_zero_le hfs.1;have hFl:F<D.S.length:=by omega
   have hgd:D.S.getD F nought=D.S[F]:=by simp [List.getD,hFl]
   have hsecF:=hD.ok.sec _ (List.getElem_mem hFl);have hU:D.swap x ep F s t=if D.S[F]=s then (true,0,(D.step (D.S.set F t) D.E).1) else (false,0,D):=by simp [Dev.swap,hz,hFl]
   rw [hU];rw [hS] at hz;have HZ:=hide hz;have HS:=hide hS;have HU:=hide hgd;clear hz hS hgd hU;obtain⟨cap,hh,hbd⟩:=hD.lay;have hc0:=(hh.cells hD.ok).1;have hrF:=hbd.range hD.ok.sec F hFl;have hrs:=(Qa hbs).at.2.1;have hu:=Tryz.underlying59;have hu8:(u8s D.S[F]).length=64:=by rw [Qy,hsecF.1]
   have hu9:(u8s s).length=64:=by rw [Qy,hs.1]
   have hsz:(Tryz.prog.info? 59).map (·.size)=some (u8s D.S[F]).length:=by rw [hu8];exact Tryz.info38
   have hsz2:(Tryz.prog.info? 59).map (·.size)=some (u8s s).length:=by rw [hu9];exact Tryz.info38
   have h0:(0:Int)≤(F:Int):=by omega
   have hF':(F:Int)<D.S.length:=by omega
   have hn:=fun W=>neq_secs W D.S[F] s hsecF hs;have hg:=fun W x y=>guard_secs W .neq x y D.S[F] s;simp only [secV] at hn hg;clear hh hbd;by_cases he:D.S[F]=s
   · rw [if_pos he];have hdec:Hid ((!decide (D.S[F]=s))=false):=by simpa [Hid] using he
     clear he;go_enter Tryz.func153,Tryz.ntmps153
     go_wp2_with (first |(refine ZU rfl (.tmp 4) rfl s rfl ?_) |(refine ZU rfl (.tmp 5) rfl t rfl ?_))
     change Code.wp _ _ _ _ (swapW w (.pointer (some ⟨b,0,none⟩)) F s t);generalize swapW w (.pointer (some ⟨b,0,none⟩)) F s t=W at*;go_quiet ((first |(go_at_call 129;exact Calls.quiet_of_same (has_is _ _ _ _ _ (hD.drewN _).sz hD.ok.s1 hf true (Qa HS))) |(go_at_call 128;go_must (exact Calls.quiet_of_same (ref_is _ _ _ _ _ _ _ (hD.drewN _) 0 (Qa HZ))))))
     go_wp2
     have hd1:(W.drewN nq).cell? ⟨w.heap.size,0,none⟩=some (.pointer (some ⟨b,0,none⟩)):=hd;have hff1:(W.drewN nq).cell? ⟨w.heap.size+1,0,none⟩=some (.int .i64 F):=hff;have hc01:(W.drewN nq).cell? ⟨b,0,none⟩=some (.slice (some ⟨g,0,none⟩) D.S.length cap):=hc0;have hrF1:(W.drewN nq).rangeAt g (F*64) (u8s D.S[F]):=hrF;have hrs1:(W.drewN nq).rangeAt (w.heap.size+1+1) 0 (u8s s):=hrs;have hD1:=hD.drewN nq;have hbt1:Hid (Box (W.drewN nq) (w.heap.size+1+1+1) t):=(Qa hbt).kept (X:= []) ((Kept.refl _ _).drewN _) (by simp);have hk1:Kept [] w (W.drewN nq):=hk.drewN nq;have i1:Hid (w.heap.size≠b∧w.heap.size≠g):=⟨by omega,by omega⟩;have i2:Hid (w.heap.size+1≠b∧w.heap.size+1≠g):=⟨by omega,by omega⟩;have i3:Hid (w.heap.size+1+1+1≠b∧w.heap.size+1+1+1≠g):=⟨by omega,by omega⟩;clear hbs hbt hd hff hc0 hrF hrs hD hk hlt;generalize w.heap.size+1+1+1=pt at*;generalize w.heap.size+1+1=ps at*;generalize w.heap.size+1=pf at*;generalize w.heap.size=pd at*;generalize W.drewN nq=W1 at*;refine wp_region_quiet_lit (by kernel_rfl) (by kernel_rfl) ?_
     repeat (first |(refine ZF rfl (.tmp 30) rfl g (F*64) rfl D.S[F] hsecF (by rintro _ ⟨_,rfl⟩;exact hrF1) ?_) |(refine ZF rfl (.tmp 10) rfl ps 0 rfl s hs (by rintro _ ⟨_,rfl⟩;exact hrs1) ?_) |(refine quietNeqS rfl (.tmp 31) (.tmp 32) _ rfl D.S[F] s rfl rfl hsecF hs _ (Qa hdec) ?_) | quiet_step (fail))
     refine wpQuiet_nil ?_;intro _ hw';obtain⟨nq2,hw''⟩:=hw';subst hw'';have hd2:(W1.drewN nq2).cell? ⟨pd,0,none⟩=some (.pointer (some ⟨b,0,none⟩)):=hd1;have hD2:=hD1.drewN nq2;have hf2:Hid ((W1.drewN nq2).cell? ⟨pf,0,none⟩=some (.int .i64 F)):=hff1;have hbt2:Hid (Box (W1.drewN nq2) pt t):=(Qa hbt1).kept (X:= []) ((Kept.refl _ _).drewN _) (by simp);have hk2:Hid (Kept [] w (W1.drewN nq2)):=hk1.drewN nq2;clear hd1 hD1 hff1 hbt1 hk1 hc01 hrF1 hrs1 hn hg;generalize W1.drewN nq2=W2 at*;have hDo:Hid (Calls Tryz.prog 115 #[.pointer (some ⟨b,0,none⟩),.func (.func 159) #[] #[.pointer (some ⟨pt,0,none⟩),.pointer (some ⟨pd,0,none⟩),.pointer (some ⟨pf,0,none⟩)]] W2 fun e w'=>e= .returned (.bool (D.step (D.S.set F t) D.E).2)∧Dv w' b g (D.step (D.S.set F t) D.E).1∧Kept [b,g] W2 w'):=by
      obtain⟨j1,j2⟩:=Qa i1;obtain⟨j3,j4⟩:=Qa i2;obtain⟨j5,j6⟩:=Qa i3;refine(do54_57 b g D (D.S.set F t) D.E _ _ hD2 ?_).mono (fun e w' h=>h);intro D1 w1 hS1 hE1 hN1 h1 k1;refine(swap57 pt pd pf b g D1 F t w1 h1 (by rw [hS1];exact hFl) ((Qa hbt2).kept k1 (by simpa using j5)) (k1.cell hd2 (by simpa using j1)) (k1.cell (Qa hf2) (by simpa using j3)) j6 j2 j4).mono ?_;rintro e w2 ⟨rfl,h2,k2⟩;refine⟨rfl,?_,k2.mono (by simp)⟩;rw [← hS1,← hE1];exact h2
     go_wp2_with (go_at_call 115;go_must (refine(Qa hDo).mono ?_;rintro e w1 ⟨rfl,hd1,hk1⟩))
     go_ret2
     exact⟨rfl,hd1,((Qa hk2).mono (by simp)).trans hk1⟩
   · rw [if_neg he];have hdec:Hid ((!decide (D.S[F]=s))=true):=by simpa [Hid] using he
     clear he;go_enter Tryz.func153,Tryz.ntmps153
     go_wp2_with (first |(refine ZU rfl (.tmp 4) rfl s rfl ?_) |(refine ZU rfl (.tmp 5) rfl t rfl ?_))
     change Code.wp _ _ _ _ (swapW w (.pointer (some ⟨b,0,none⟩)) F s t);generalize swapW w (.pointer (some ⟨b,0,none⟩)) F s t=W at*;go_quiet ((first |(go_at_call 129;exact Calls.quiet_of_same (has_is _ _ _ _ _ (hD.drewN _).sz hD.ok.s1 hf true (Qa HS))) |(go_at_call 128;go_must (exact Calls.quiet_of_same (ref_is _ _ _ _ _ _ _ (hD.drewN _) 0 (Qa HZ))))))
     go_wp2
     have hd1:(W.drewN nq).cell? ⟨w.heap.size,0,none⟩=some (.pointer (some ⟨b,0,none⟩)):=hd;have hff1:(W.drewN nq).cell? ⟨w.heap.size+1,0,none⟩=some (.int .i64 F):=hff;have hc01:(W.drewN nq).cell? ⟨b,0,none⟩=some (.slice (some ⟨g,0,none⟩) D.S.length cap):=hc0;have hrF1:(W.drewN nq).rangeAt g (F*64) (u8s D.S[F]):=hrF;have hrs1:(W.drewN nq).rangeAt (w.heap.size+1+1) 0 (u8s s):=hrs;have hD1:=hD.drewN nq;have hbt1:Hid (Box (W.drewN nq) (w.heap.size+1+1+1) t):=(Qa hbt).kept (X:= []) ((Kept.refl _ _).drewN _) (by simp);have hk1:Kept [] w (W.drewN nq):=hk.drewN nq;have i1:Hid (w.heap.size≠b∧w.heap.size≠g):=⟨by omega,by omega⟩;have i2:Hid (w.heap.size+1≠b∧w.heap.size+1≠g):=⟨by omega,by omega⟩;have i3:Hid (w.heap.size+1+1+1≠b∧w.heap.size+1+1+1≠g):=⟨by omega,by omega⟩;clear hbs hbt hd hff hc0 hrF hrs hD hk hlt;generalize w.heap.size+1+1+1=pt at*;generalize w.heap.size+1+1=ps at*;generalize w.heap.size+1=pf at*;generalize w.heap.size=pd at*;generalize W.drewN nq=W1 at*;refine wp_region_quiet_lit (by kernel_rfl) (by kernel_rfl) ?_
     repeat (first |(refine ZF rfl (.tmp 30) rfl g (F*64) rfl D.S[F] hsecF (by rintro _ ⟨_,rfl⟩;exact hrF1) ?_) |(refine ZF rfl (.tmp 10) rfl ps 0 rfl s hs (by rintro _ ⟨_,rfl⟩;exact hrs1) ?_) |(refine quietNeqS rfl (.tmp 31) (.tmp 32) _ rfl D.S[F] s rfl rfl hsecF hs _ (Qa hdec) ?_) | quiet_step (fail))
     refine wpQuiet_nil ?_;intro _ hw';obtain⟨nq2,hw''⟩:=hw';subst hw'';have hd2:(W1.drewN nq2).cell? ⟨pd,0,none⟩=some (.pointer (some ⟨b,0,none⟩)):=hd1;have hD2:=hD1.drewN nq2;have hf2:Hid ((W1.drewN nq2).cell? ⟨pf,0,none⟩=some (.int .i64 F)):=hff1;have hbt2:Hid (Box (W1.drewN nq2) pt t):=(Qa hbt1).kept (X:= []) ((Kept.refl _ _).drewN _) (by simp);have hk2:Hid (Kept [] w (W1.drewN nq2)):=hk1.drewN nq2;clear hd1 hD1 hff1 hbt1 hk1 hc01 hrF1 hrs1 hn hg;generalize W1.drewN nq2=W2 at*;go_wp2_with fail
     go_ret2
     exact⟨rfl,hD2,(Qa hk2).mono (by simp)⟩
 · have hU:D.swap x ep f s t=(false,D.ref x ep (hasS D.S.length f 1),D):=by simp [Dev.swap,hz]
   rw [hU];have hne:(D.ref x ep (hasS D.S.length f 1) !=0)=true:=by simpa using hz
   clear hU;go_enter Tryz.func153,Tryz.ntmps153
   go_wp2_with (first |(refine ZU rfl (.tmp 4) rfl s rfl ?_) |(refine ZU rfl (.tmp 5) rfl t rfl ?_))
   change Code.wp _ _ _ _ (swapW w (.pointer (some ⟨b,0,none⟩)) f s t);generalize swapW w (.pointer (some ⟨b,0,none⟩)) f s t=W at*;go_quiet ((first |(go_at_call 129;exact Calls.quiet_of_same (hasSectors53 _ _ _ _ _ (hD.drewN _).sz hD.ok.s1 hf)) |(go_at_call 128;go_must (exact Calls.quiet_of_same (refusal52 _ _ _ _ _ _ _ (hD.drewN _))))))
   go_wp2
   try rw [Exit.noGoto_ret]
   go_ret2
   exact⟨rfl,hD.drewN _,(hk.mono (by simp)).drewN _⟩
open Go.RowKit
def noughts (n:Nat):List (List Int):=List.replicate n nought
theorem ZN (n:Nat):(noughts n).length=n:=by simp [noughts]
theorem noughts_sec (n:Nat):∀s∈noughts n,Sec s:=fun s hs=>by rw [List.eq_of_mem_replicate hs];exact Zt
theorem noughts_flat (n:Nat):(noughts n).flatten=List.replicate (n*64) 0:=by
 unfold noughts nought
 induction n with
 | zero=>rfl
 | succ n ih=>rw [List.replicate_succ,List.flatten_cons,ih,List.replicate_append_replicate];congr 1;omega
theorem made_same (m:Nat) (v:Value) (n:Nat) (hm:0<m):madeCells (List.replicate m v).toArray n=(List.replicate n v).toArray:=by
 apply Array.ext
 · rw [size_madeCells];simp
 · intro i h1 h2;have h3:i%m<m:=Nat.mod_lt _ hm;simp [madeCells,h3]
theorem made_noughts (n:Nat):madeCells (u8s nought).toArray (n*64)=(u8s (noughts n).flatten).toArray:=by
 have h1:u8s nought=List.replicate 64 (Value.int .u8 0):=by unfold u8s nought;rw [List.map_replicate]
 have h2:u8s (noughts n).flatten=List.replicate (n*64) (Value.int .u8 0):=by unfold u8s;rw [noughts_flat,List.map_replicate]
 rw [h1,h2,made_same _ _ _ (by decide)]
theorem Tryz.zero38:(Tryz.prog.info? 59).map (fun i=>(i.zero,i.size,i.bytes))=some (some (secV nought),64,64):=by kernel_rfl
theorem wpMakeS {ops:Array Oper} {rest:List Oper} {op:Oper} {a:Act} {w:World} {Q:Exit→Act→World→Prop} (hgd:op.guard=none) (x y:Operand) (ho:op.op= .makeSlice 60 x y) (n:Nat) (hx:a.eval x= .int .i64 n) (hy:a.eval y= .int .i64 n) (hn:n≤2199023255552)
  (h:wpList Tryz.prog ops Q rest (a.put op.dst (.slice (some ⟨w.heap.size,0,none⟩) n n)) (w.alloc (.cells (u8s (noughts n).flatten).toArray 59))):wpList Tryz.prog ops Q (op::rest) a w:=by
 obtain⟨i0,hi,hz0,hz1,hz2⟩:=info_parts Tryz.zero38;have hr:=run_make (P:=Tryz.prog) w 60 59 i0 (secV nought) Tryz.underlying60 hi hz0 .i64 .i64 n n (by omega) (by omega) (by rw [hz2];omega) (by omega);have hc:(secV nought).cells=(u8s nought).toArray:=rfl;rw [hz1,Int.toNat_natCast,hc,made_noughts] at hr;refine wpList_plain hgd fun K hK=> ?_;unfold Oper.wp execOp;simp only [ho,hx,hy,Sem.run_bind,hr,Result.andThen_ok];exact hK _ _ h
def QY (n N:Nat):Dev:=⟨noughts n,N,List.replicate 8 0,0,false,0,false⟩
theorem newDev_ok {n N:Nat} (h:1≤n∧n≤4096) (hN:1≤N∧N≤8):(QY n N).Ok:=
 ⟨by simp [QY,ZN];omega,by simp [QY,ZN];omega,noughts_sec n,hN.1,hN.2,rfl,fun e he=>by rw [List.eq_of_mem_replicate he];omega,by simp [QY]⟩
def newB (x y:Int):Bool:=decide ((1≤x∧x≤4096)∧1≤y∧y≤8)
theorem new_yes (n N:Nat) (w:World) (h:newB n N=true):Calls Tryz.prog 29 #[.int .i64 n,.int .i64 N] w fun e w'=>∃b g,e= .returned (.tuple #[.pointer (some ⟨b,0,none⟩),.int .i64 0])∧w.heap.size≤b∧w.heap.size≤g∧Dv w' b g (QY n N)∧Kept [] w w':=by
 have h':(1≤(n:Int)∧(n:Int)≤4096)∧1≤(N:Int)∧(N:Int)≤8:=by simpa [newB] using h
 have h1:=from29 1 n 4096 w;have h2:=from29 1 N 8 w;have e1:decide (1≤(n:Int)∧(n:Int)≤4096)=true:=by simpa using h'.1
 have e2:decide (1≤(N:Int)∧(N:Int)≤8)=true:=by simpa using h'.2
 rw [e1] at h1;rw [e2] at h2;have H1:=hide h1;have H2:=hide h2;clear h h1 h2 e1 e2;go_enter Tryz.func29,Tryz.ntmps29
 go_wp2_with (first |(go_at_call 62;first |(refine(Qa H1).mono ?_;rintro e w' ⟨rfl,rfl⟩;clear H1) |(refine(Qa H2).mono ?_;rintro e w' ⟨rfl,rfl⟩;clear H2)) |(refine wpMakeS rfl (.tmp 14) (.tmp 14) rfl n rfl rfl (by omega) ?_))
 go_ret2
 refine⟨w'.heap.size+1,w'.heap.size,rfl,by omega,by omega,⟨newDev_ok (by omega) (by omega),by omega,n,?_,[],?_,?_,?_,?_⟩,((Kept.refl _ _).alloc _).alloc _⟩
 · unfold Head;rw [QX (by simp)];simp [QH,QY,ZN]
 · rw [List.append_nil];exact heap_alloc_old (QX rfl)
 · simp [QY,ZN]
 · simp [QY,ZN]
 · unfold maxLen;omega
end Go.Proofs.YtcfflbafclmheaaGreatDoor.Dv
