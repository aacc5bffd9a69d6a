/-
  Texts of the walks of member, shortened.
-/
import Derived.Test.YtcfflbafclmheaaGreatDoorDag
import Derived.RangeFuncNested
import Derived.RangeFuncBound
import Derived.RangeFuncCalls
import Derived.RangeFuncLeaves
import Derived.Shelf.Abstract
import Derived.Shelf.RegionOpen
import Derived.OwnWalkIn
import Derived.TacticsInMore
import Derived.LoopNIn
import Derived.LoopIn
import Derived.RangeFuncWrites
set_option maxRecDepth 100000
set_option maxHeartbeats 100000000
set_option linter.unusedSimpArgs false
namespace Go.Proofs.YtcfflbafclmheaaGreatDoor.Vi
open Go.RowKit
structure Mm (w0 w:World) (bs:List (Nat×Nat×List Value)):Prop where
 kept:Kept [] w0 w
 first:First w
 first0:0<w0.heap.size
 blk:∀x∈bs,Blk w x.1 x.2.1 x.2.2∧w0.heap.size≤x.1
 nd:(bs.map (·.1)).Nodup
theorem Mm.init {w:World} (h:First w):Mm w w []:=⟨Kept.refl _ _,h,h.lt,(fun x hx=>by cases hx),List.nodup_nil⟩
theorem Mm.step {w0 w w':World} {bs:List (Nat×Nat×List Value)} (h:Mm w0 w bs) (hk:Kept [] w w'):Mm w0 w' bs:=
 ⟨h.kept.trans hk,h.first.kept hk,h.first0,fun x hx=>⟨(h.blk x hx).1.kept hk (by simp),(h.blk x hx).2⟩,h.nd⟩
theorem Mm.new {w0 w W:World} {bs:List (Nat×Nat×List Value)} {b T:Nat} {vs:List Value} (h:Mm w0 w bs) (hb:b=w.heap.size) (B:Blk W b T vs) (K:Kept [] w W):Mm w0 W (bs++ [(b,T,vs)]):=by
 have h':=h.step K;refine⟨h'.kept,h'.first,h.first0,?_,?_⟩
 · intro x hx;rcases List.mem_append.1 hx with hx | hx
   · exact h'.blk x hx
   · simp at hx;subst hx;exact⟨B,by have:=h.kept.size;simp;omega⟩
 · rw [List.map_append,List.nodup_append];refine⟨h.nd,by simp,?_⟩;intro a ha c hc;simp at hc;subst hc;obtain⟨x,hx,rfl⟩:=List.mem_map.1 ha;have:=(h.blk x hx).1.lt;omega
theorem Mm.at {w0 w:World} {bs:List (Nat×Nat×List Value)} (h:Mm w0 w bs) (i:Nat) (x:Nat×Nat×List Value) (hx:bs[i]?=some x):Blk w x.1 x.2.1 x.2.2:=(h.blk x (List.mem_of_getElem? hx)).1
theorem Mm.new0 {w0 w:World} {bs:List (Nat×Nat×List Value)} (h:Mm w0 w bs) (i:Nat) (x:Nat×Nat×List Value) (hx:bs[i]?=some x):w0.heap.size≤x.1:=(h.blk x (List.mem_of_getElem? hx)).2
theorem Mm.mut {w0 w w':World} {bs:List (Nat×Nat×List Value)} (h:Mm w0 w bs) (i:Nat) {b T:Nat} {us vs:List Value} (hi:bs[i]?=some (b,T,us)) (hk:Kept [b] w w') (hB:Blk w' b T vs):Mm w0 w' (bs.set i (b,T,vs)):=by
 have h0:=h.new0 i _ hi;have hp:=h.first0;have hb0:b≠0:=by simp at h0;omega
 refine⟨h.kept.fresh hk (fun k hk' hl=>by simp at hk';subst hk';simp at h0;omega),h.first.keptX hk (by simpa using fun e=>hb0 e.symm),h.first0,?_,?_⟩
 · intro x hx;obtain⟨j,hj,rfl⟩:=List.getElem_of_mem hx;rw [List.length_set] at hj;by_cases hij:i=j
   · subst hij;rw [List.getElem_set_self];exact⟨hB,h0⟩
   · rw [List.getElem_set_ne hij];have hm:=h.blk bs[j] (List.getElem_mem hj);refine⟨hm.1.kept hk ?_,hm.2⟩;simp only [List.mem_singleton];intro e;have h1:=(List.getElem?_eq_some_iff.1 hi);obtain⟨hi',hi''⟩:=h1;have:=List.pairwise_iff_getElem.1 h.nd;rcases Nat.lt_or_gt_of_ne hij with hlt | hlt
     · have:=this i j (by simpa using hi') (by simpa using hj) hlt;simp [hi''] at this;exact this e.symm
     · have:=this j i (by simpa using hj) (by simpa using hi') hlt;simp [hi''] at this;exact this e
 · have:(bs.set i (b,T,vs)).map (·.1)=bs.map (·.1):=by
     rw [List.map_set];apply List.ext_getElem?;intro j;by_cases hij:i=j
     · subst hij;have h1:=(List.getElem?_eq_some_iff.1 hi);obtain⟨hi',hi''⟩:=h1;simp [hi',hi'']
     · rw [List.getElem?_set_ne hij]
   rw [this];exact h.nd
theorem Mm.sets {w0 w:World} {bs:List (Nat×Nat×List Value)} (h:Mm w0 w bs) (i:Nat) {b T:Nat} {us:List Value} (hi:bs[i]?=some (b,T,us)) (vs:List Value) (hl:us.length=vs.length):Mm w0 (w.setCells b 0 vs) (bs.set i (b,T,vs)):=
 h.mut i hi ((Kept.refl _ _).setCells _ _ (by simp)) ((h.at i _ hi).put hl)
section
variable {ops:Array Oper} {rest:List Oper} {op:Oper} {a:Act} {w w0:World} {Q:Exit→Act→World→Prop} {bs:List (Nat×Nat×List Value)}
theorem Qh {T n:Nat} (hT:Row T n) (hgd:op.guard=none) (x y:Operand) (ho:op.op= .store T x y) (hd:op.dst=none) (b i:Nat) (vs:List Value) (hx:a.eval x=P0 b) (hy:a.eval y=Qd vs) (hl:vs.length=n) (h1:∀v∈vs,v.oneCell'=true) (hM:Mm w0 w bs) {us:List Value} (hi:bs[i]?=some (b,T,us)) (hu:us.length=n)
  (h:∀W,Mm w0 W (bs.set i (b,T,vs))→wpList Tryz.prog ops Q rest a W):wpList Tryz.prog ops Q (op::rest) a w:=by
 refine wpStoreA hT hgd x y ho b 0 vs hx hy hl h1 ((hM.at i _ hi).there (by simp [hu])) ?_;rw [hd];exact h _ (hM.sets i hi vs (by omega))
theorem size2:(Tryz.prog.info? 2).map (·.size)=some 1:=by kernel_rfl
theorem size3:(Tryz.prog.info? 3).map (·.size)=some 1:=by kernel_rfl
theorem size4:(Tryz.prog.info? 4).map (·.size)=some 1:=by kernel_rfl
theorem size5:(Tryz.prog.info? 5).map (·.size)=some 1:=by kernel_rfl
theorem storeVar1 {T:Nat} (hi:(Tryz.prog.info? T).map (·.size)=some 1) {w:World} {b off TT:Nat} {us:List Value} (hB:Blk w b TT us) (hl:off<us.length) (v:Value) (h1:v.oneCell'=true) (hc1:v.cells= #[v]):(storeVar T ⟨b,off,none⟩ v).run Tryz.prog w= .ok () (w.setCell ⟨b,off,none⟩ v):=by
 have hc:=hB.cell off;rw [List.getElem?_eq_getElem hl] at hc;have hf:=hB.frozen off;have g1:∀j,j< [v].length→(w.cell? ⟨b,off+0+j,none⟩).isSome=true:=by
  intro j hj;have e:j=0:=by simpa using hj
  subst e;simp [hc]
 have g2:∀j,j< [v].length→w.frozen? ⟨b,off+0+j,none⟩=false:=by
  intro j hj;have e:j=0:=by simpa using hj
  subst e;simpa using hf
 have:=run_storeCells_cells (P:=Tryz.prog) b off [v] 0 w g1 g2 (fun u hu=>by simp at hu;subst hu;exact h1);cases hq:Tryz.prog.info? T with
 | none=>simp [hq] at hi
 | some i=>
  have hs:i.size=1:=by simpa [hq] using hi
  simp [storeVar,hc1,sizeOf,typeInfo,hq,hs];simpa [World.setCells] using this
def One (v:Value):Prop:=v.oneCell'=true∧v.cells= #[v]
theorem Qo {T:Nat} (hs:(Tryz.prog.info? T).map (·.size)=some 1) (hgd:op.guard=none) (x y:Operand) (ho:op.op= .store T x y) (hd:op.dst=none) (b off i:Nat) (v:Value) (h1:One v) (hx:a.eval x= .pointer (some ⟨b,off,none⟩)) (hy:a.eval y=v) (hM:Mm w0 w bs) {TT:Nat} {us:List Value} (hi:bs[i]?=some (b,TT,us)) (hl:off<us.length)
  (h:∀W,Mm w0 W (bs.set i (b,TT,us.set off v))→wpList Tryz.prog ops Q rest a W):wpList Tryz.prog ops Q (op::rest) a w:=
 wpList_plain hgd fun K hK=>by
  have hst:=storeVar1 hs (hM.at i _ hi) hl v h1.1 h1.2;unfold Oper.wp execOp;simp only [ho,hx,hy,Instr.storeAt,Instr.sureAddr,Sem.run_bind,Sem.run_pure,Result.andThen_ok,hst];refine hK _ _ ?_;rw [hd];exact h _ (hM.mut i hi ((Kept.refl _ _).setCell (by simp) v) ((hM.at i _ hi).set v))
end
open Go.RowKit
theorem Zb {ops:Array Oper} {rest:List Oper} {op:Oper} {a:Act} {w:World} {Q:Exit→Act→World→Prop} {T n:Nat} (hT:Row T n) (x:Operand) (ho:op.op= .load T x) (hw:Region.wanted op (yielded ops a.tmps)=true) (b off:Nat) (hx:a.eval x= .pointer (some ⟨b,off,none⟩)) (vs:List Value) (hl:vs.length=n) (hA:w.rangeAt b off vs)
  (h:wpList Tryz.prog ops Q rest (a.put op.dst (Qd vs)) w):wpList Tryz.prog ops Q (op::rest) a w:=
 BigFrame.wpList_want hw fun _ hK=>Qw hT x ho b off hx vs hl hA (hK _ _ h)
theorem mems_take (ms:List (Bool×Int)):∀(k:Nat) (m:Bool×Int),ms[k]?=some m→List.take 2 (List.drop (k*2) (QP ms))=QD m:=by
 induction ms with
 | nil=>intro k m h;simp at h
 | cons x ms ih=>
  intro k m h;rw [memsC_cons];cases k with
  | zero=>simp at h;subst h;rfl
  | succ k=>
   rw [show (k+1)*2=k*2+1+1 by omega,List.drop_succ_cons,List.drop_succ_cons];exact ih k m (by simpa using h)
theorem wpIndex24 {ops:Array Oper} {rest:List Oper} {op:Oper} {a:Act} {w:World} {Q:Exit→Act→World→Prop} (hgd:op.guard=none) (x y:Operand) (ho:op.op= .index 27 x y) (k:Nat) (ms:List (Bool×Int)) (hl:ms.length=8) (m:Bool×Int) (hm:ms[k]?=some m)
  (hx:a.eval x=Qd (QP ms)) (hy:a.eval y= .int .i64 k) (h:wpList Tryz.prog ops Q rest (a.put op.dst (Qd (QD m))) w):wpList Tryz.prog ops Q (op::rest) a w:=
 wpList_plain hgd fun K hK=>by
  obtain⟨hk,hm'⟩:=List.getElem?_eq_some_iff.1 hm;unfold Oper.wp execOp;simp only [Qd] at hx;simp only [ho,hx,hy];have hr:(Instr.index 27 (.agg (QP ms).toArray) (.int .i64 k)).run Tryz.prog w= .ok (Qd (QD m)) w:=by
    have hk8:k<8:=by omega
    simp [Instr.index,go_sem];rw [mems_take ms k m hm,if_pos hk8];rfl
  simp only [Sem.run_bind,hr,Result.andThen_ok];exact hK _ _ h
def Zy (m:Bool×Int):Bool:=if m.1 then isEp m.2 else decide (m.2=0)
def Vw.may (v:Vw):Bool:=if v.nu=0 then decide (v=fv) else decide (1≤v.nu∧v.nu≤4611686018427387904)&&(v.isIn v.fd&&v.ms.all Zy)
theorem Vw.range {v:Vw} {W:World} {b:Nat} (h:Blk W b 29 (vwC v)):W.rangeAt b 3 (QP v.ms):=h.rangeIn _ fun j _=>by
 rw [vwC,show 3+j=j+1+1+1 by omega];simp
theorem may_0 (v:Vw) (w:World) (hF:First w) (hv:v.ms.length=8) (h0:v.nu=0):Calls Tryz.prog 136 #[Qd (vwC v)] w fun e w'=>e= .returned (.bool v.may)∧Kept [] w w':=by
 go_enter Tryz.func136,Tryz.ntmps136
 have M:Hid (Mm w w []):=hide (Mm.init hF);go_wp2_with (
  first
  |(refine Qp rfl (.tmp 0) rfl (vwC v) rfl ?_;intro W1 b1 e1 B1 K1;replace M:=hide ((Qa M).new e1 B1 K1);clear e1 B1 K1;have c0:=Qb ((Qa M).at 0 _ rfl) 0 _ rfl)
  |(refine Qg Qn rfl (.tmp 1) rfl b1 0 rfl (vwC v) (Qk hv) ((Qa M).at 0 _ rfl).range ?_)
  |(refine Qg Qn rfl (.global 0) rfl 0 0 rfl (vwC fv) rfl (Qa M).first.at0 ?_)
  |(refine wpEqlA 29 29 guard26 (.tmp 8) (.tmp 9) rfl rfl (vwC v) (vwC fv) rfl rfl (decide (v=fv)) (equal26 _ v fv hv rfl) ?_))
 go_ret
 exact⟨by simp [Vw.may,h0],(Qa M).kept⟩
theorem may_neg (v:Vw) (w:World) (hF:First w) (h0:v.nu<0):Calls Tryz.prog 136 #[Qd (vwC v)] w fun e w'=>e= .returned (.bool v.may)∧Kept [] w w':=by
 have hr:v.may=false:=by unfold Vw.may;rw [if_neg (by omega),decide_eq_false (by omega)];rfl
 rw [hr];clear hr;go_enter Tryz.func136,Tryz.ntmps136
 have M:Hid (Mm w w []):=hide (Mm.init hF);go_wp2_with (first |(refine Qp rfl (.tmp 0) rfl (vwC v) rfl ?_;intro W1 b1 e1 B1 K1;replace M:=hide ((Qa M).new e1 B1 K1);clear e1 B1 K1;have c0:=Qb ((Qa M).at 0 _ rfl) 0 _ rfl))
 go_ret
 exact⟨rfl,(Qa M).kept⟩
theorem may_big (v:Vw) (w:World) (hF:First w) (h0:4611686018427387904<v.nu):Calls Tryz.prog 136 #[Qd (vwC v)] w fun e w'=>e= .returned (.bool v.may)∧Kept [] w w':=by
 have hr:v.may=false:=by unfold Vw.may;rw [if_neg (by omega),decide_eq_false (by omega)];rfl
 rw [hr];clear hr;go_enter Tryz.func136,Tryz.ntmps136
 have M:Hid (Mm w w []):=hide (Mm.init hF);go_wp2_with (first |(refine Qp rfl (.tmp 0) rfl (vwC v) rfl ?_;intro W1 b1 e1 B1 K1;replace M:=hide ((Qa M).new e1 B1 K1);clear e1 B1 K1;have c0:=Qb ((Qa M).at 0 _ rfl) 0 _ rfl))
 go_ret
 exact⟨rfl,(Qa M).kept⟩
theorem may_out (v:Vw) (w:World) (hF:First w) (hv:v.ms.length=8) (h0:1≤v.nu) (h1:v.nu≤4611686018427387904) (hI:v.isIn v.fd=false):Calls Tryz.prog 136 #[Qd (vwC v)] w fun e w'=>e= .returned (.bool v.may)∧Kept [] w w':=by
 have hr:v.may=false:=by unfold Vw.may;rw [if_neg (by omega),hI,Bool.false_and,Bool.and_false]
 rw [hr];clear hr;have P35:∀W,Hid (Calls Tryz.prog 141 #[Qd (vwC v),.int .i64 v.fd] W fun e w'=>e= .returned (.bool false)∧Kept [] W w'):=fun W=>hide (by have:=isIn35 v v.fd W hv;rw [hI] at this;exact this);go_enter Tryz.func136,Tryz.ntmps136
 have hd1:decide (v.nu<0)=false:=by simp;omega
 have hd2:decide (4611686018427387904<v.nu)=false:=by simp;omega
 have M:Hid (Mm w w []):=hide (Mm.init hF);go_wp2_with (
  first
  |(refine Qp rfl (.tmp 0) rfl (vwC v) rfl ?_;intro W1 b1 e1 B1 K1;replace M:=hide ((Qa M).new e1 B1 K1);clear e1 B1 K1;have c0:=Qb ((Qa M).at 0 _ rfl) 0 _ rfl;have c2:=Qb ((Qa M).at 0 _ rfl) 2 _ rfl)
  |(refine Zb Qn (.tmp 1) rfl rfl b1 0 rfl (vwC v) (Qk hv) ((Qa M).at 0 _ rfl).range ?_)
  |(go_at_call 141;refine(Qa (P35 _)).mono ?_;rintro e W2 ⟨rfl,K2⟩;replace M:=hide ((Qa M).step K2);clear K2))
 go_ret
 exact⟨rfl,(Qa M).kept⟩
theorem may_in (v:Vw) (w:World) (hF:First w) (hv:v.ms.length=8) (h0:1≤v.nu) (h1:v.nu≤4611686018427387904) (hI:v.isIn v.fd=true):Calls Tryz.prog 136 #[Qd (vwC v)] w fun e w'=>e= .returned (.bool v.may)∧Kept [] w w':=by
 have hr:v.may=v.ms.all Zy:=by unfold Vw.may;rw [if_neg (by omega),hI,Bool.true_and,decide_eq_true (by omega),Bool.true_and]
 rw [hr];clear hr;have hd1:decide (v.nu<0)=false:=by simp;omega
 have hd2:decide (4611686018427387904<v.nu)=false:=by simp;omega
 have P35:∀W,Hid (Calls Tryz.prog 141 #[Qd (vwC v),.int .i64 v.fd] W fun e w'=>e= .returned (.bool true)∧Kept [] W w'):=fun W=>hide (by have:=isIn35 v v.fd W hv;rw [hI] at this;exact this);go_enter Tryz.func136,Tryz.ntmps136
 have M:Hid (Mm w w []):=hide (Mm.init hF);go_wp2_with (
  first
  |(refine Qp rfl (.tmp 0) rfl (vwC v) rfl ?_;intro W1 b1 e1 B1 K1;replace M:=hide ((Qa M).new e1 B1 K1);clear e1 B1 K1;have c0:=Qb ((Qa M).at 0 _ rfl) 0 _ rfl;have c2:=Qb ((Qa M).at 0 _ rfl) 2 _ rfl)
  |(refine Zb Qn (.tmp 1) rfl rfl b1 0 rfl (vwC v) (Qk hv) ((Qa M).at 0 _ rfl).range ?_)
  |(go_at_call 141;refine(Qa (P35 _)).mono ?_;rintro e W2 ⟨rfl,K2⟩;replace M:=hide ((Qa M).step K2);clear K2)
  |(refine Qg row24 rfl (.tmp 26) rfl b1 3 rfl (QP v.ms) (by rw [Zu,hv]) (Vw.range ((Qa M).at 0 _ rfl)) ?_))
 clear P35 c0 c2 hd1 hd2 h0 h1 hI;go_loopw [28] (fun i wr=>∃j:Nat,j≤8∧i= .int .i64 j∧Hid (∀m∈v.ms.take j,Zy m=true)∧Hid (Mm w wr [(b1,29,vwC v)])) (fun i _=>8-(intOf i).toNat)
 case atStart=>exact ⟨0,by omega,rfl,(fun m hm=>by simp at hm),M⟩
 case round=>
  clear M;obtain⟨j,hj,rfl,HA,M⟩:=hrel;by_cases hlt:j<8
  · obtain⟨m,hm⟩:∃m,v.ms[j]?=some m:=⟨_,List.getElem?_eq_getElem (by omega)⟩;have hltI:(j:Int)<8:=by omega
    have HM:=hide hm;obtain⟨mi,me⟩:=m;have P36:∀W,Hid (Calls Tryz.prog 138 #[.int .i64 me] W fun e w'=>e= .returned (.bool (isEp me))∧w'=W):=fun W=>hide (isEpoch36 me W);by_cases hok:Zy (mi,me)=true
    · have HT:Hid (∀m∈v.ms.take (j+1),Zy m=true):=by
       intro m' hm';rw [List.take_add_one,hm] at hm';rcases List.mem_append.1 hm' with h | h
       · exact Qa HA m' h
       · simp at h;rw [h];exact hok
      clear HA hm;cases mi with
      | true=>
       have he:isEp me=true:=by simpa [Zy] using hok
       rw [he] at P36;clear hok he;go_wp2_with (first |(refine wpIndex24 rfl (.tmp 27) (.tmp 28) rfl j v.ms hv (true,me) (Qa HM) rfl rfl ?_;refine Stp.go ?_))
       constructor
       go_wp2_with (first |(refine QM QC (QD (false,0)) rfl QT 4 rfl rfl rfl (.tmp 30) rfl rfl rfl (QD (true,me)) rfl (Ze _) (by kernel_rfl) (by kernel_rfl) ?_;intro W11 b11 e11 B11 K11;replace M:=hide ((Qa M).new e11 B11 K11);clear e11 B11 K11;have d0:=Qb ((Qa M).at 1 _ rfl) 0 _ rfl;have d1:=Qb ((Qa M).at 1 _ rfl) 1 _ rfl;refine Stp.go ?_))
       constructor
       go_wp2_with (first |(go_at_call 138;refine(Qa (P36 _)).mono ?_;rintro e W12 ⟨rfl,rfl⟩))
       go_roundw
       case rel=>exact ⟨j+1,by omega,by go_num,HT,hide ⟨(Qa M).kept,(Qa M).first,(Qa M).first0,fun x hx=>(Qa M).blk x (by simp at hx;subst hx;simp),by simp⟩⟩
       case measure=>simp [intOf];omega
      | false=>
       have he:me=0:=by simpa [Zy] using hok
       subst he;clear hok P36;go_wp2_with (first |(refine wpIndex24 rfl (.tmp 27) (.tmp 28) rfl j v.ms hv (false,0) (Qa HM) rfl rfl ?_;refine Stp.go ?_))
       constructor
       go_wp2_with (first |(refine QM QC (QD (false,0)) rfl QT 4 rfl rfl rfl (.tmp 30) rfl rfl rfl (QD (false,0)) rfl (Ze _) (by kernel_rfl) (by kernel_rfl) ?_;intro W11 b11 e11 B11 K11;replace M:=hide ((Qa M).new e11 B11 K11);clear e11 B11 K11;have d0:=Qb ((Qa M).at 1 _ rfl) 0 _ rfl;have d1:=Qb ((Qa M).at 1 _ rfl) 1 _ rfl))
       go_roundw
       case rel=>exact ⟨j+1,by omega,by go_num,HT,hide ⟨(Qa M).kept,(Qa M).first,(Qa M).first0,fun x hx=>(Qa M).blk x (by simp at hx;subst hx;simp),by simp⟩⟩
       case measure=>simp [intOf];omega
    · have HF:Hid (v.ms.all Zy=false):=by
       have:v.ms.all Zy=false:=by
         rw [List.all_eq_false];exact⟨(mi,me),List.mem_of_getElem? hm,hok⟩
       exact this
      clear HA hm;cases mi with
      | true=>
       have he:isEp me=false:=by simpa [Zy] using hok
       rw [he] at P36;clear hok he;go_wp2_with (first |(refine wpIndex24 rfl (.tmp 27) (.tmp 28) rfl j v.ms hv (true,me) (Qa HM) rfl rfl ?_;refine Stp.go ?_))
       constructor
       go_wp2_with (first |(refine QM QC (QD (false,0)) rfl QT 4 rfl rfl rfl (.tmp 30) rfl rfl rfl (QD (true,me)) rfl (Ze _) (by kernel_rfl) (by kernel_rfl) ?_;intro W11 b11 e11 B11 K11;replace M:=hide ((Qa M).new e11 B11 K11);clear e11 B11 K11;have d0:=Qb ((Qa M).at 1 _ rfl) 0 _ rfl;have d1:=Qb ((Qa M).at 1 _ rfl) 1 _ rfl;refine Stp.go ?_))
       constructor
       go_wp2_with (first |(go_at_call 138;refine(Qa (P36 _)).mono ?_;rintro e W12 ⟨rfl,rfl⟩))
       go_ret
       exact⟨by rw [Qa HF];rfl,(Qa M).kept⟩
      | false=>
       have he:¬me=0:=by simpa [Zy] using hok
       have hde:decide (me=0)=false:=by simpa using he
       clear hok P36;go_wp2_with (first |(refine wpIndex24 rfl (.tmp 27) (.tmp 28) rfl j v.ms hv (false,me) (Qa HM) rfl rfl ?_;refine Stp.go ?_))
       constructor
       go_wp2_with (first |(refine QM QC (QD (false,0)) rfl QT 4 rfl rfl rfl (.tmp 30) rfl rfl rfl (QD (false,me)) rfl (Ze _) (by kernel_rfl) (by kernel_rfl) ?_;intro W11 b11 e11 B11 K11;replace M:=hide ((Qa M).new e11 B11 K11);clear e11 B11 K11;have d0:=Qb ((Qa M).at 1 _ rfl) 0 _ rfl;have d1:=Qb ((Qa M).at 1 _ rfl) 1 _ rfl))
       go_ret
       exact⟨by rw [Qa HF];rfl,(Qa M).kept⟩
  · have HF:Hid (v.ms.all Zy=true):=by
      have:v.ms.all Zy=true:=by
       rw [List.all_eq_true];intro m hm;exact Qa HA m (by rw [List.take_of_length_le (by omega)];exact hm)
      exact this
    go_wp2_with fail
    go_ret
    exact⟨by rw [Qa HF];rfl,(Qa M).kept⟩
theorem may12 (v:Vw) (w:World) (hF:First w) (hv:v.ms.length=8):Calls Tryz.prog 136 #[Qd (vwC v)] w fun e w'=>e= .returned (.bool v.may)∧Kept [] w w':=by
 by_cases h0:v.nu=0
 · exact may_0 v w hF hv h0
 by_cases h1:v.nu<0
 · exact may_neg v w hF h1
 by_cases h2:4611686018427387904<v.nu
 · exact may_big v w hF h2
 cases hI:v.isIn v.fd with
 | false=>exact may_out v w hF hv (by omega) (by omega) hI
 | true=>exact may_in v w hF hv (by omega) (by omega) hI
open Go.RowKit Go.Shelf
attribute [local go_sem] Oper.semAt_some
structure Zw (A B:World):Prop where
 size:A.heap.size≤B.heap.size
 block:∀(k:Nat) (cs:Array Value) (T:Nat) (p:Nat×Nat),T≠3→T≠4→A.heap[k]?=some (Obj.cells cs T p)→B.heap[k]?=some (Obj.cells cs T p)
theorem Zw.trans {A B C:World} (h:Zw A B) (k:Zw B C):Zw A C:=⟨Nat.le_trans h.size k.size,fun i cs T p hT hU hi=>k.block i cs T p hT hU (h.block i cs T p hT hU hi)⟩
theorem Zw.refl (A:World):Zw A A:=⟨Nat.le_refl _,fun _ _ _ _ _ _ h=>h⟩
theorem Zw.putObj {W:World} {l:Nat} {o o':Obj} (h:W.heap[l]?=some o) (hc:o.isCells=false):Zw W (W.putObj l o'):=by
 refine⟨by simp,fun k cs T p _ _ hk=> ?_⟩;by_cases e:k=l
 · subst e;rw [h] at hk;cases hk;simp [Obj.isCells] at hc
 · rw [World.putObj_heap_other e];exact hk
theorem Zw.of_kept {A B:World} (h:Kept [] A B):Zw A B:=⟨h.size,fun k cs T p _ _ hk=>by rw [h.block k (lt_of_block hk) (by simp)];exact hk⟩
theorem Zw.blk {A B:World} (h:Zw A B) {k T:Nat} {vs:List Value} (hB:Blk A k T vs) (h1:T≠3) (h2:T≠4):Blk B k T vs:=h.block k _ T _ h1 h2 hB
theorem QZ {w w':World} (h:Kept [] w w'):w.grownBy w' none:=⟨h.os,h.tape,h.output,h.size,fun k hk _=>h.block k hk (by simp)⟩
theorem wpIn_value {F:Fence} {n:Nat} {o:Oper} {a:Act} {w w':World} {v:Value} {K:Act→World→Prop} {Q:Exit→Act→World→Prop} (hF:∀f,F.fn f) (hsem:o.semAt F.round a.eval=execOp a.eval o) (h:(execOp a.eval o).run Tryz.prog w= .ok (.value v) w') (hk:K (a.put o.dst v) w'):o.wpIn F n Tryz.prog a w K Q:=by
 refine⟨fun f _=>hF f,?_⟩;rw [hsem,h];exact hk
theorem wpIn_skip {F:Fence} {n:Nat} {o:Oper} {a:Act} {w w':World} {K:Act→World→Prop} {Q:Exit→Act→World→Prop} (hF:∀f,F.fn f) (hsem:o.semAt F.round a.eval=execOp a.eval o) (h:(execOp a.eval o).run Tryz.prog w= .ok .skip w') (hk:K (a.put o.dst undef) w'):o.wpIn F n Tryz.prog a w K Q:=by
 refine⟨fun f _=>hF f,?_⟩;rw [hsem,h];exact hk
theorem wpListIn_want {F:Fence} {n:Nat} {ops:Array Oper} {Q:Exit→Act→World→Prop} {a:Act} {w:World} {rest:List Oper} {o:Oper} (hw:Region.wanted o (yielded ops a.tmps)=true)
  (h:o.wpIn F n Tryz.prog a w (wpListIn F n Tryz.prog ops Q rest) Q):wpListIn F n Tryz.prog ops Q (o::rest) a w:=by
 simp only [wpListIn,hw,if_true];exact h
section
variable {F:Fence} {n:Nat} {ops:Array Oper} {rest:List Oper} {o o1 o2:Oper} {a:Act} {w:World} {Q:Exit→Act→World→Prop}
end
section
variable {l n:Nat} {P:Program} {ops:Array Oper} {Q:Exit→Act→World→Prop}
theorem rowsIn_of_rows {row:String} {args:Array Value} {w:World} {R:Value→World→Prop} (h:Rows P row args w R):RowsIn (Fence.wide.inRound l) n P row args w R:=by
 intro c cs _;obtain⟨v,w',hr,hs⟩:=h c cs;exact⟨v,w',hr,stepsIn_wide.2 hs⟩
theorem uponIn_of_upon {o:Oper} {a:Act} {K:Act→World→Prop} {r:Result Next} (h:o.upon P a K Q r):o.uponIn (Fence.wide.inRound l) n P a K Q r:=by
 cases r with
 | ok nx w=>
  cases nx <;> first
   | exact h
   | exact⟨fun h=>by simp [Fence.wide] at h,CallsIn.inRound l (callsIn_wide.2 h)⟩
   | exact⟨fun h=>by simp [Fence.wide] at h,rowsIn_of_rows h⟩
   | exact h.elim
 | halt x w=>cases x <;> first | exact h | exact h.elim
theorem Zg {o:Oper} {a:Act} {w:World} {K:Act→World→Prop} (hd:∀c,o.op≠ .defer c) (h:o.wp P a w K Q):o.wpIn (Fence.wide.inRound l) n P a w K Q:=by
 refine⟨fun f _=>trivial,?_⟩;rw [Fence.inRound_round,Oper.semAt_some l _ o hd];exact uponIn_of_upon h
def noDefer (os:List Oper):Bool:=os.all fun o=>match o.op with | .defer _=>false | _=>true
theorem noDefer_spec {os:List Oper} (h:noDefer os=true):∀o∈os,∀c,o.op≠ .defer c:=by
 intro o ho c e;have:=(List.all_eq_true.1 h) o ho;rw [e] at this;simp at this
theorem ZQ (hlo:¬LetsOut Q):∀(os:List Oper) (a:Act) (w:World),(∀o∈os,∀c,o.op≠ .defer c)→wpList P ops Q os a w→wpListIn (Fence.wide.inRound l) n P ops Q os a w:=by
 intro os
 induction os with
 | nil=>intro a w _ h;exact h
 | cons o os ih=>
  intro a w hd h;unfold wpList at h;unfold wpListIn;split
  · rename_i hw;rw [if_pos hw] at h;rcases h with h | ⟨_,hl⟩
    · exact Zg (hd o (List.mem_cons_self ..)) (Oper.wp_mono (fun a w h=>ih a w (fun p hp=>hd p (List.mem_cons_of_mem _ hp)) h) h)
    · exact absurd hl hlo
  · rename_i hw;rw [if_neg hw] at h;exact⟨fun f _=>trivial,ih _ _ (fun p hp=>hd p (List.mem_cons_of_mem _ hp)) h⟩
end
theorem cells_kept {W W':World} {row:Option Nat} {k:Nat} {cs:Array Value} {t:TypeId} {p:Nat×Nat} (h:W.heap[k]?=some (.cells cs t p)) (hg:W.grownBy W' row) (hr:∀r,row=some r→∃o:Obj,W.heap[r]?=some o∧o.isCells=false):W'.heap[k]?=some (.cells cs t p):=by
 rw [hg.block k (lt_of_block h) ?_]
 · exact h
 · intro e;obtain⟨o,ho,hc⟩:=hr k e.symm;rw [h] at ho;cases ho
   simp [Obj.isCells] at hc
theorem wideF (f:FuncId):Fence.wide.fn f:=trivial
section
variable {F:Fence} {n:Nat} {ops:Array Oper} {rest:List Oper} {o:Oper} {a:Act} {w:World} {Q:Exit→Act→World→Prop}
theorem inAllocW {T:Nat} (zv:List Value) (hr:∀w:World,(Instr.alloc T true (.tuple #[])).run Tryz.prog w= .ok (P0 w.heap.size) (w.alloc (.cells zv.toArray T))) (hF:∀f,F.fn f) (hg:o.guard=none) (ho:o.op= .alloc T) (hs:o.semAt F.round a.eval=execOp a.eval o)
  (h:∀W b,b=w.heap.size→Blk W b T zv→Kept [] w W→wpListIn F n Tryz.prog ops Q rest (a.put o.dst (P0 b)) W):wpListIn F n Tryz.prog ops Q (o::rest) a w:=by
 refine wpListIn_want (by simp [Region.wanted,hg]) (wpIn_value (v:=P0 w.heap.size) (w':=w.alloc (.cells zv.toArray T)) hF hs ?_ (h _ _ rfl (Blk.new w T zv) ((Kept.refl _ _).alloc _)));unfold execOp;simp only [ho,Sem.run_bind,hr,Result.andThen_ok];rfl
theorem inStoreW {T m:Nat} (hT:Row T m) (hF:∀f,F.fn f) (hg:o.guard=none) (x y:Operand) (ho:o.op= .store T x y) (hs:o.semAt F.round a.eval=execOp a.eval o) (hd:o.dst=none) (b:Nat) (us vs:List Value) (hu:us.length=m) (hl:vs.length=m) (h1:∀v∈vs,v.oneCell'=true) (hx:a.eval x=P0 b) (hy:a.eval y=Qd vs) (hb:Blk w b T us)
   (h:∀W,Blk W b T vs→Kept [b] w W→wpListIn F n Tryz.prog ops Q rest a W):wpListIn F n Tryz.prog ops Q (o::rest) a w:=by
 refine wpListIn_want (by simp [Region.wanted,hg]) (wpIn_skip (w':=w.setCells b 0 vs) hF hs ?_ ?_)
 · obtain⟨dd,g1,g2,g3⟩:=hT;have:=run_storeVar_mid (P:=Tryz.prog) w b 0 T vs.toArray (by simpa [hl] using hb.there (by omega)) (by simpa [hl] using g3) (all_oneCell_toArray h1);have hy':a.eval y= .agg vs.toArray:=hy;unfold execOp;simp only [ho,hx,hy',Instr.storeAt,Instr.sureAddr,Sem.run_bind,Sem.run_pure,Result.andThen_ok,this]
 · rw [hd];exact h _ (hb.put (by omega)) ((Kept.refl _ _).setCells _ _ (by simp))
theorem inIndex24 (hF:∀f,F.fn f) (hg:o.guard=none) (x y:Operand) (ho:o.op= .index 27 x y) (hs:o.semAt F.round a.eval=execOp a.eval o) (k:Nat) (ms:List (Bool×Int)) (hl:ms.length=8) (m:Bool×Int) (hm:ms[k]?=some m) (hx:a.eval x=Qd (QP ms)) (hy:a.eval y= .int .i64 k)
  (h:wpListIn F n Tryz.prog ops Q rest (a.put o.dst (Qd (QD m))) w):wpListIn F n Tryz.prog ops Q (o::rest) a w:=by
 refine wpListIn_want (by simp [Region.wanted,hg]) (wpIn_value (v:=Qd (QD m)) hF hs ?_ h);obtain⟨hk,hm'⟩:=List.getElem?_eq_some_iff.1 hm;have hx':a.eval x= .agg (QP ms).toArray:=hx;have hr:(Instr.index 27 (.agg (QP ms).toArray) (.int .i64 k)).run Tryz.prog w= .ok (Qd (QD m)) w:=by
  have hk8:k<8:=by omega
  simp [Instr.index,go_sem];rw [mems_take ms k m hm,if_pos hk8];rfl
 unfold execOp;simp only [ho,hx',hy,Sem.run_bind,hr,Result.andThen_ok];rfl
end
open Go.RowKit Go.Shelf
attribute [local go_sem] Oper.semAt_some
def memF:Nat→List (Bool×Int)→List (Nat×Int)
 | _,[]=> []
 | i,m::l=>if m.1 then (i,m.2)::memF (i+1) l else memF (i+1) l
def Vw.list (v:Vw):List (Nat×Int):=if v.may then memF 0 v.ms else []
theorem members30 (v:Vw) (w:World):Calls Tryz.prog 94 #[Qd (vwC v)] w fun e w'=>∃p,e= .returned (.func (.func 142) #[] #[P0 p])∧Blk w' p 29 (vwC v)∧w.heap.size≤p∧Kept [] w w':=by
 go_enter Tryz.func94,Tryz.ntmps94
 go_wp2_with (first |(refine Qp rfl (.tmp 0) rfl (vwC v) rfl ?_;intro W1 b1 e1 B1 K1;have HB:=hide B1;have HK:=hide K1;have HE:Hid (w.heap.size≤b1):=(by show _≤_;omega);clear e1 B1 K1))
 go_ret
 exact⟨b1,rfl,Qa HB,Qa HE,Qa HK⟩
theorem members_in (n:Nat) (hn:1≤n) (lp p:Nat) (v:Vw) (W:World) (hB:Blk W p 29 (vwC v)) (hF:First W) (hv:v.ms.length=8)
  (I Ix:Nat→World→Prop) (hI:∀k A B,I k A→A.grownBy B none→I k B)
  (hY:∀k x W1,v.list[k]?=some x→I k W1→YieldAt Fence.wide (n-1) Tryz.prog lp #[.int .i64 x.1,.int .i64 x.2] W1 fun e W'=>(e= .returned (.bool true)∧I (k+1) W'∧Zw W1 W')∨(e= .returned (.bool false)∧Ix (k+1) W'))
  (h0:I 0 W):
  CallsIn Fence.wide n Tryz.prog 142 #[.func (.yield lp) #[] #[],P0 p] W fun e W'=>(∃v,e= .returned v)∧(I v.list.length W'∨∃k,k<v.list.length∧Ix (k+1) W'):=by
 have hFw:=wideF;have HB:=hide hB;have HI0:=hide h0;obtain⟨S,hS⟩:∃S,S=v.list:=⟨_,rfl⟩;rw [← hS] at hY;rw [← hS];have P12:=hide (may12 v W hF hv);rw [callsIn_wide];unfold Vw.list at hS;cases hm:v.may with
 | false=>
  rw [hm] at hS P12;have HS:Hid (S= []):=hide (by simpa using hS);clear hB h0 hS hm;go_enter Tryz.func142,Tryz.ntmps142
  go_wp2_with (first |(refine Qg Qn (by rfl) (.tmp 1) (by rfl) p 0 (by rfl) (vwC v) (Qk hv) (Qa HB).range ?_;refine Stp.go ?_))
  constructor
  go_wp2_with (first |(go_at_call 136;refine(Qa P12).mono ?_;rintro e V ⟨rfl,hk⟩;replace HI0:=hide (hI _ _ _ (Qa HI0) (QZ hk));clear hk P12;refine Stp.go ?_))
  constructor
  go_wp2_with fail
  refine bodyPost_ret (results_none rfl _ _ _) rfl ?_;refine⟨⟨_,rfl⟩,.inl ?_⟩;rw [Qa HS];exact Qa HI0
 | true=>
  rw [hm] at hS P12;have HS:Hid (S=memF 0 v.ms):=hide (by simpa using hS);clear hB h0 hS hm;go_enter Tryz.func142,Tryz.ntmps142
  go_wp2_with (first |(refine Qg Qn (by rfl) (.tmp 1) (by rfl) p 0 (by rfl) (vwC v) (Qk hv) (Qa HB).range ?_;refine Stp.go ?_))
  constructor
  go_wp2_with (first |(go_at_call 136;refine(Qa P12).mono ?_;rintro e V ⟨rfl,hk⟩;replace HI0:=hide (hI _ _ _ (Qa HI0) (QZ hk));replace HB:=hide ((Qa HB).kept hk (by simp));clear hk P12;refine Stp.go ?_))
  constructor
  go_wp2_with (first |(refine Qg row24 (by rfl) (.tmp 8) (by rfl) p 3 (by rfl) (QP v.ms) (by rw [Zu,hv]) (Vw.range (Qa HB)) ?_;refine Stp.go ?_))
  constructor
  go_wp2_with fail
  rw [← wpIn_wide (n:=n)]
  gi_loopw [10] (fun i w1=>∃j k:Nat,j≤8∧k≤S.length∧i= .int .i64 j∧Hid (memF j (v.ms.drop j)=S.drop k)∧Hid (I k w1)) (fun i _=>(8-intOf i).toNat)
  case atStart=>exact ⟨0,0,by omega,by omega,rfl,by show memF _ _=_;rw [Qa HS];simp,HI0⟩
  case round=>
    clear HI0;obtain⟨j,k,hj8,hkS,rfl,HE,HI⟩:=hrel;by_cases hlt:j<8
    · obtain⟨m,hm⟩:∃m,v.ms[j]?=some m:=⟨_,List.getElem?_eq_getElem (by omega)⟩;have hltI:(j:Int)<8:=by omega
      have hE:=Qa HE;have hd:v.ms.drop j=m::v.ms.drop (j+1):=by
       obtain⟨h1,h2⟩:=List.getElem?_eq_some_iff.1 hm;rw [List.drop_eq_getElem_cons h1,h2]
      rw [hd,memF] at hE;have HM:=hide hm;obtain⟨mi,me⟩:=m;cases mi with
      | false=>
       have HQ:Hid (memF (j+1) (v.ms.drop (j+1))=S.drop k)   :=hide (by simpa using hE);clear hE hd hm HE
       gi_wp2_with (
         first
         |(refine inIndex24 wideF (by rfl) (.tmp 9) (.tmp 10) (by rfl) (by rfl) j v.ms hv (false,me) (Qa HM) (by rfl) (by rfl) ?_;refine Stp.go ?_))
       constructor
       gi_wp2_with (
         first
         |(refine inAllocW (QD (false,0)) QT wideF (by rfl) (by rfl) (by rfl) ?_;intro W5 q e5 B5 K5;have HQB:=hide B5;have HQE:=hide e5;have HK5:=hide K5;clear e5 B5 K5;refine Stp.go ?_))
       constructor
       gi_wp2_with (
         first
         |(refine inStoreW QC wideF (by rfl) (.tmp 4) (.tmp 13) (by rfl) (by rfl) (by rfl) q (QD (false,0)) (QD (false,me)) rfl rfl (Ze _) (by rfl) (by rfl) (Qa HQB) ?_;intro W7 B7 K7;have HB7:=hide B7;have HK7:Hid (Kept [] wr W7):=(Qa HK5).fresh K7 (fun i hi hl=>by have:=Qa HQE;simp at hi;omega);have d0:=Qb B7 0 _ rfl;have d1:=Qb B7 1 _ rfl;clear B7 K7 HQB HQE HK5;refine Stp.go ?_))
       constructor
       gi_wp2_with fail
       go_roundw
       case rel=>exact ⟨j+1,k,by omega,by omega,by go_num,HQ,hide (hI _ _ _ (Qa HI) (QZ (Qa HK7)))⟩
       case measure=>simp [intOf];omega
      | true=>
       rw [if_pos rfl] at hE;have hsk:S[k]?=some (j,me):=by
         have h9:=congrArg (fun l=>l[0]?) hE;simp only [List.getElem?_drop,Nat.add_zero] at h9;exact h9.symm
       have HSK:=hide hsk;have HSL:Hid (k+1≤S.length):=(List.getElem?_eq_some_iff.1 hsk).1;have HSD:Hid (memF (j+1) (v.ms.drop (j+1))=S.drop (k+1)):=by
         have h9:S.drop (k+1)=(S.drop k).drop 1:=by rw [List.drop_drop]
         show _=_;rw [h9,← hE];rfl
       clear hE hd hm HE hsk
       gi_wp2_with (
         first
         |(refine inIndex24 wideF (by rfl) (.tmp 9) (.tmp 10) (by rfl) (by rfl) j v.ms hv (true,me) (Qa HM) (by rfl) (by rfl) ?_;refine Stp.go ?_))
       constructor
       gi_wp2_with (
         first
         |(refine inAllocW (QD (false,0)) QT wideF (by rfl) (by rfl) (by rfl) ?_;intro W5 q e5 B5 K5;have HQB:=hide B5;have HQE:=hide e5;have HK5:=hide K5;clear e5 B5 K5;refine Stp.go ?_))
       constructor
       gi_wp2_with (
         first
         |(refine inStoreW QC wideF (by rfl) (.tmp 4) (.tmp 13) (by rfl) (by rfl) (by rfl) q (QD (false,0)) (QD (true,me)) rfl rfl (Ze _) (by rfl) (by rfl) (Qa HQB) ?_;intro W7 B7 K7;have HB7:=hide B7;have HK7:Hid (Kept [] wr W7):=(Qa HK5).fresh K7 (fun i hi hl=>by have:=Qa HQE;simp at hi;omega);have d0:=Qb B7 0 _ rfl;have d1:=Qb B7 1 _ rfl;clear B7 K7 HQB HQE HK5;have hI7:=hI _ _ _ (Qa HI) (QZ (Qa HK7));obtain⟨fn,tmps,assign,body,hy,hR⟩:=hY k (j,me) W7 (Qa HSK) hI7;have hR':=hide hR;clear hR hI7;refine Stp.go ?_))
       constructor
       gi_wp2_with fail
       refine(Qa hR').mono ?_;rintro e W8 (⟨rfl,hI8,hk8⟩ | ⟨rfl,hX8⟩)
       · have HI8:=hide hI8;clear hI8 hk8 hR' hy
         gi_wp2
         go_roundw
         case rel=>exact ⟨j+1,k+1,by omega,Qa HSL,by go_num,HSD,HI8⟩
         case measure=>simp [intOf];omega
       · have HX8:=hide hX8;clear hX8 hR' hy
         gi_wp2
         refine bodyPost_ret (results_none rfl _ _ _) rfl ?_;exact⟨⟨_,rfl⟩,.inr ⟨k,Qa HSL,Qa HX8⟩⟩
    · gi_wp2_with fail
      go_end0
      have h9:=Qa HE;rw [List.drop_of_length_le (by omega),memF] at h9;have h8:=congrArg List.length h9;rw [List.length_drop,List.length_nil] at h8;refine⟨⟨_,rfl⟩,.inl ?_⟩;rw [show S.length=k by omega];exact Qa HI
open Go.RowKit Go.Shelf
theorem wp_rangeM (p:Nat) (v:Vw) (S:List (Nat×Int)) (hS:S=v.list) {gv:Operand} {ps:Array Tmp} {assign body:Code} {Q:Exit→Act→World→Prop} {a:Act} {w:World}
   (hg:a.eval gv= .func (.func 142) #[] #[P0 p]) (hps:ps.size=2) (hB:Blk w p 29 (vwC v)) (hF:First w) (hv:v.ms.length=8)
   (I:List (Nat×Int)→World→Prop) (Ix:Code→List (Nat×Int)→World→Prop) (hI:OwnFrom w.heap.size I) (hIx:∀c,OwnFrom w.heap.size (Ix c)) (h0:I [] w)
   (Fr:Nat→Nat×Int→Act→World→Prop) (hFr:∀k x a',OwnFrom w.heap.size (fun(_:Unit) W=>Fr k x a' W))
   (hassign:∀(l:Nat) (k:Nat) (x:Nat×Int) (W:World) (K:Act→World→Prop),I (S.take k) W→S[k]?=some x→(∀a' W',Kept [] W W'→Fr k x a' W'→K a' W')→
     assign.wpIn (Fence.wide.inRound l) 1 Tryz.prog (Exit.then K (fun _ _ _=>False)) { tmps:=(ps.zip #[.int .i64 x.1,.int .i64 x.2]).foldl (fun t (p,v)=>t.setIfInBounds p v) a.tmps,defers:= [] } W)
   (hbody:∀(l:Nat) (k:Nat) (x:Nat×Int) (a':Act) (W:World),S[k]?=some x→Fr k x a' W→body.wpIn (Fence.wide.inRound l) 1 Tryz.prog (ownPostG w.heap.size Zw I Ix (S.take (k+1)) W) a' W)
   (hdone:∀(D:Nat) (W:World),w.heap.size≤D→I S W→W.heap[D]?=some (.deferred (some []))→Q .normal { a with defers:= { target:= .collected D,args:= #[] } ::a.defers } W)
   (hstop:∀(D:Nat) (c:Code) (k:Nat) (W:World),w.heap.size≤D→k<S.length→Ix c (S.take (k+1)) W→W.heap[D]?=some (.deferred (some []))→c.wpIn Fence.wide 3 Tryz.prog Q { a with defers:= { target:= .collected D,args:= #[] } ::a.defers } W):
   (Code.rangeFunc gv ps assign body).wpIn Fence.wide 3 Tryz.prog Q a w:=by
 refine wpIn_rangeFunc ?_;intro fn hfn;obtain⟨bk,hbk⟩:∃bk:LoopState→Option Code→Loop,bk=fun st pe=> { state:=st,pending:=pe,fn:=fn,tmps:=a.tmps,params:=ps,assign:=assign,body:=body,defers:=w.heap.size } :=⟨_,rfl⟩;obtain⟨V,hV⟩:∃V,(w.alloc (.deferred (some []))).alloc (.loop (bk .ready none))=V:=⟨_,rfl⟩;have kV:Kept [] w V:=by rw [← hV];exact((Kept.refl _ _).alloc _).alloc _
 have dV:V.heap[w.heap.size]?=some (.deferred (some [])):=by rw [← hV];exact heap_alloc_old (heap_alloc_new w _)
 have lV:V.heap[w.heap.size+1]?=some (.loop (bk .ready none)):=by
   rw [← hV];have e:(w.alloc (.deferred (some []))).heap.size=w.heap.size+1:=World.size_alloc _ _;rw [← e];exact heap_alloc_new _ _
 refine⟨w.heap.size+1,[{ target:= .collected w.heap.size,args:= #[] }],V,{ target:= .fn (.func 142) #[P0 p],args:= #[.func (.yield (w.heap.size+1)) #[] #[]] },V,142,#[.func (.yield (w.heap.size+1)) #[] #[],P0 p],V,?_,?_,fun _ _=>trivial,?_,fun _=>by omega,?_⟩
 · rw [← hV,hbk];exact run_enterLoop_outer fn a.tmps ps assign body
 · simp only [resolve,hg];simp [go_sem]
 · simp [invoke,go_sem]
 -- what the iterator keeps for us:the invariant,and the book as it stands
 have hlaid:=members_in 2 (by omega) (w.heap.size+1) p v V (hB.kept kV (by simp)) (hF.kept kV) hv
   (fun k W=>I (S.take k) W∧W.heap[w.heap.size+1]?=some (.loop (bk .ready none))∧W.heap[w.heap.size]?=some (.deferred (some [])))
   (fun k W=>∃c,Ix c (S.take k) W∧W.heap[w.heap.size+1]?=some (.loop (bk .done (some c)))∧W.heap[w.heap.size]?=some (.deferred (some [])))
 rw [← hS] at hlaid;refine(hlaid ?_ ?_ ⟨?_,lV,dV⟩).mono ?_
 · rintro s A B ⟨g1,g2,g3⟩ hg;have hk:Kept [] A B:=Kept.of_grown hg (fun k e=>by cases e);exact⟨hI _ A B none g1 hg (fun r e=>by cases e),hk.heap g2 (by simp),hk.heap g3 (by simp)⟩
 · rintro k x W hx ⟨g1,g2,g3⟩;have hy:=run_yield (P:=Tryz.prog) (args:= #[.int .i64 x.1,.int .i64 x.2]) g2 (by rw [hbk];show 2=ps.size;exact hps.symm);rw [hbk] at hy;refine⟨fn,_,assign,body,hy,roundIn_of_wpIn hfn (hassign _ k x W _ g1 hx fun a' W' hk hF=> ?_)⟩;have l':=hk.heap g2 (by simp);have d':=hk.heap g3 (by simp);refine⟨_,run_beginRound l' (by rw [hbk]),?_⟩;have l2:(W'.putObj (w.heap.size+1) (.loop { bk .ready none with state:= .busy })).heap[w.heap.size+1]?=some (.loop { bk .ready none with state:= .busy }):=World.putObj_heap_same (lt_of_block l');have d2:(W'.putObj (w.heap.size+1) (.loop { bk .ready none with state:= .busy })).heap[w.heap.size]?=some (.deferred (some [])):=(World.putObj_heap_other (by omega)).trans d';have s2:Zw W (W'.putObj (w.heap.size+1) (.loop { bk .ready none with state:= .busy })):=(Zw.of_kept hk).trans (Zw.putObj l' rfl);refine wpIn_mono (hbody _ k x a' _ hx ((hFr k x a').putObj (s:=()) _ hF (by omega) l' rfl)) ?_
   -- how a round ends
   have ends:∀(jump:Option Code) (W3:World),KeepsFrom w.heap.size (W'.putObj (w.heap.size+1) (.loop { bk .ready none with state:= .busy })) W3→∃W4,(Instr.endRound (w.heap.size+1) jump).run Tryz.prog W3= .ok (.bool jump.isNone) W4∧W4=W3.putObj (w.heap.size+1) (.loop (bk (if jump.isNone then .ready else .done) jump))∧(∃o:Obj,W3.heap[w.heap.size+1]?=some o∧o.isCells=false)∧W4.heap[w.heap.size+1]?=some (.loop (bk (if jump.isNone then .ready else .done) jump))∧W4.heap[w.heap.size]?=some (.deferred (some [])):=by
     intro jump W3 hk3;have l3:=hk3.same _ _ (by omega) l2 rfl;have d3:=hk3.same _ _ (Nat.le_refl _) d2 rfl;have hr:=run_endRound (P:=Tryz.prog) jump l3;refine⟨_,hr,by rw [hbk],⟨_,l3,rfl⟩,?_,(World.putObj_heap_other (by omega)).trans d3⟩;rw [World.putObj_heap_same (lt_of_block l3),hbk]
   intro e a3 W3 hp;cases e with
   | normal=>
     obtain⟨k3,q3,i3⟩:=hp;obtain⟨W4,hr,e4,⟨o3,l3,c3⟩,l4,d4⟩:=ends none W3 k3;subst e4;exact⟨_,_,hr,.inl ⟨rfl,⟨hI.putObj _ i3 (by omega) l3 c3,l4,d4⟩,(s2.trans q3).trans (Zw.putObj l3 c3)⟩⟩
   | ret=>
     obtain⟨k3,i3⟩:=hp;obtain⟨W4,hr,e4,⟨o3,l3,c3⟩,l4,d4⟩:=ends (some .ret) W3 k3;subst e4;exact⟨_,_,hr,.inr ⟨rfl,_,(hIx _).putObj _ i3 (by omega) l3 c3,l4,d4⟩⟩
   | exit id=>
     obtain⟨k3,i3⟩:=hp;obtain⟨W4,hr,e4,⟨o3,l3,c3⟩,l4,d4⟩:=ends (some (.exit id)) W3 k3;subst e4;exact⟨_,_,hr,.inr ⟨rfl,_,(hIx _).putObj _ i3 (by omega) l3 c3,l4,d4⟩⟩
   | goto t=>
     obtain⟨k3,i3⟩:=hp;obtain⟨W4,hr,e4,⟨o3,l3,c3⟩,l4,d4⟩:=ends (some (.goto t)) W3 k3;subst e4;exact⟨_,_,hr,.inr ⟨rfl,_,(hIx _).putObj _ i3 (by omega) l3 c3,l4,d4⟩⟩
   | panic ch=>exact hp.elim
   | outgrown=>exact hp.elim
 · rw [← hV];exact hI.alloc _ (hI.alloc _ h0)
 · rintro e W2 ⟨⟨u,rfl⟩,h⟩;rcases h with ⟨i2,l2,d2⟩ | ⟨k,hk,c,i2,l2,d2⟩
   · rw [List.take_length] at i2;have hr:=run_endLoop (P:=Tryz.prog) l2 (by rw [hbk];simp);rw [hbk] at hr;exact⟨none,_,hr,hdone _ _ (Nat.le_refl _) (hI.putObj _ i2 (by omega) l2 rfl) ((World.putObj_heap_other (by omega)).trans d2)⟩
   · have hr:=run_endLoop (P:=Tryz.prog) l2 (by rw [hbk];simp);rw [hbk] at hr;exact⟨some c,_,hr,hstop _ c k _ (Nat.le_refl _) hk ((hIx c).putObj _ i2 (by omega) l2 rfl) ((World.putObj_heap_other (by omega)).trans d2)⟩
open Go.RowKit Go.Shelf
attribute [local go_sem] Oper.semAt_some
theorem blk_grown {W W':World} {row:Option Nat} {b T:Nat} {us:List Value} (h:Blk W b T us) (hg:W.grownBy W' row) (hr:∀r,row=some r→∃o:Obj,W.heap[r]?=some o∧o.isCells=false):Blk W' b T us:=cells_kept h hg hr
theorem kept_kept {w W W':World} {row:Option Nat} {B:Nat} (h:Kept [] w W) (hg:W.grownBy W' row) (hB:w.heap.size≤B) (hr:∀r,row=some r→B≤r):Kept [] w W':=
 h.fresh (X:=row.toList) (Kept.of_grown hg (fun k e _=>by rw [e];simp)) (fun i hi hl=>by rw [Option.mem_toList] at hi;have:=hr i hi;omega)
theorem keepsFrom_X {B:Nat} {W W':World} {X:List Nat} (h:Kept X W W') (hX:∀k∈X,∃cs T p,W.heap[k]?=some (Obj.cells cs T p)):KeepsFrom B W W':=
 ⟨h.size,fun k o _ hk hc=>by
  rw [h.block k (lt_of_block hk) (fun hm=>by obtain⟨cs,T,p,e⟩:=hX k hm;rw [hk] at e;cases e;simp [Obj.isCells] at hc)];exact hk⟩
theorem ZO {B:Nat} {W W':World} (h:Kept [] W W'):KeepsFrom B W W':=keepsFrom_X h (by simp)
theorem Zw.keptX {A W W':World} {X:List Nat} (h:Zw A W) (hk:Kept X W W') (hX:∀k∈X,∀cs T p,W.heap[k]?=some (Obj.cells cs T p)→T=3∨T=4):Zw A W':=by
 refine⟨Nat.le_trans h.size hk.size,fun k cs T p h1 h2 hc=> ?_⟩;have h3:=h.block k cs T p h1 h2 hc;rw [hk.block k (lt_of_block h3) (fun hm=>by rcases hX k hm cs T p h3 with e | e;exact h1 e;exact h2 e)];exact h3
theorem keep34 {B:Nat} {W W':World} {b T:Nat} {us:List Value} (hk:Kept [b] W W') (hB:Blk W b T us) (hT:T=3∨T=4):KeepsFrom B W W'∧Zw W W':=
 ⟨keepsFrom_X hk (fun k hm=>by simp at hm;subst hm;exact⟨_,_,_,hB⟩),(Zw.refl W).keptX hk (fun k hm cs T' p e=>by simp at hm;subst hm;unfold Blk at hB;rw [hB] at e;cases e;exact hT)⟩
theorem Zw.keeps {B:Nat} {W W1 W2:World} (h:KeepsFrom B W W1∧Zw W W1) (k:KeepsFrom B W1 W2∧Zw W1 W2):KeepsFrom B W W2∧Zw W W2:=
 ⟨⟨Nat.le_trans h.1.size k.1.size,fun i o hi ho hc=>k.1.same i o hi (h.1.same i o hi ho hc) hc⟩,h.2.trans k.2⟩
section
variable {ops:Array Oper} {rest:List Oper} {op:Oper} {a:Act} {w w0:World} {Q:Exit→Act→World→Prop} {bs:List (Nat×Nat×List Value)}
end
theorem zero4 (w:World):(Instr.alloc 4 true (.tuple #[])).run Tryz.prog w= .ok (P0 w.heap.size) (w.alloc (.cells [Value.bool false].toArray 4)):=by kernel_rfl
open Go.RowKit Go.Shelf
attribute [local go_sem] Oper.semAt_some
@[reducible] def SB (V:World) (r:Int) (d:Nat→Bool) (vs:Nat→Value) (W:World):Prop:=
 Kept [] V W∧(d 3=true→∃p,vs 3=P0 p∧V.heap.size≤p∧Blk W p 3 [.int .i64 0])∧(d 4=true→∃q,vs 4=P0 q∧V.heap.size≤q∧(d 6=false→Blk W q 3 [.int .i64 0])∧(d 6=true→Blk W q 3 [.int .i64 r]))∧(d 3=true→d 4=true→vs 3≠vs 4)
theorem SB.loc {V:World} {r:Int} :∀d d' vs vs' W,(∀i∈ [3,4,6],d i=d' i∧vs i=vs' i)→SB V r d vs W→SB V r d' vs' W:=by
 intro d d' vs vs' W H h;have e0:=H 3 (by simp);have e1:=H 4 (by simp);have e2:=H 6 (by simp);unfold SB at h⊢;rw [← e0.1,← e0.2,← e1.1,← e1.2,← e2.1];exact h
theorem o_remI (x y:Operand) {o:Oper} {a:Act} {w:World} {K:Act→World→Prop} {Q:Exit→Act→World→Prop} (ho:o.op= .binOp .rem 3 x y 3) (m n r:Int) (hr:r=m%n) (hm:0≤m∧m≤9223372036854775807) (hn:1≤n∧n≤8) (hx:a.eval x= .int .i64 m) (hy:a.eval y= .int .i64 n) (h:K (a.put o.dst (.int .i64 r)) w):o.wp Tryz.prog a w K Q:=by
 subst hr;have h1:=Int.emod_nonneg m (b:=n) (by omega);have h2:=Int.emod_lt_of_pos m (b:=n) (by omega);have ht:Int.tmod m n=m%n:=Int.tmod_eq_emod_of_nonneg hm.1;have hn0:¬n=0:=by omega
 unfold Oper.wp execOp;simp only [ho,hx,hy];simp [go_sem,hn0,ht];exact h
theorem Qj {St:(Nat→Bool)→(Nat→Value)→World→Prop} {l:Array Bool} {vs:Nat→Value} {j:Nat} {v:Value} {w:World} (sp:List Nat) (hloc:∀b b' vs vs' W,(∀i∈sp,b i=b' i∧vs i=vs' i)→St b vs W→St b' vs' W) (hj:j<l.size) (hn:sp.all (fun i=>i !=j)=true) (h:St (fun i=>l.getD i false) vs w):St (fun i=>(l.setIfInBounds j true).getD i false) (fun i=>if i=j then v else vs i) w:=by
 refine hloc _ _ _ _ _ (fun i hi=> ?_) h;have hne:i≠j:=by have:=List.all_eq_true.1 hn i hi;simpa using this
 exact⟨by rw [Zn hj];simp [hne],by simp [hne]⟩
theorem QJ {St:(Nat→Bool)→(Nat→Value)→World→Prop} {l:Array Bool} {vs:Nat→Value} {j:Nat} {v:Value} {w:World} (hj:j<l.size) (h:St (fun i=>if i=j then true else l.getD i false) (fun i=>if i=j then v else vs i) w):St (fun i=>(l.setIfInBounds j true).getD i false) (fun i=>if i=j then v else vs i) w:=by
 have e:(fun i=>(l.setIfInBounds j true).getD i false)=(fun i=>if i=j then true else l.getD i false):=by
  funext i;exact Zn hj false
 rw [e];exact h
section
variable {o:Oper} {a:Act} {w:World} {K:Act→World→Prop} {Q:Exit→Act→World→Prop}
end
theorem Mm.add {w0 W:World} {bs:List (Nat×Nat×List Value)} (h:Mm w0 W bs) {b T:Nat} {vs:List Value} (hb:Blk W b T vs) (hge:w0.heap.size≤b) (hne:∀x∈bs,x.1≠b):Mm w0 W (bs++ [(b,T,vs)]):=by
 refine⟨h.kept,h.first,h.first0,?_,?_⟩
 · intro x hx;rcases List.mem_append.1 hx with hx | hx
   · exact h.blk x hx
   · simp at hx;subst hx;exact⟨hb,hge⟩
 · rw [List.map_append,List.nodup_append];refine⟨h.nd,by simp,?_⟩;intro a ha c hc;simp at hc;subst hc;obtain⟨x,hx,rfl⟩:=List.mem_map.1 ha;exact hne x hx
open Go.RowKit
def Vw.is (v:Vw) (n e:Int):Bool:=v.may&&(v.isIn n&&decide ((v.mem n).2=e))
theorem wpRemI {ops:Array Oper} {rest:List Oper} {op:Oper} {a:Act} {w:World} {Q:Exit→Act→World→Prop} (hgd:op.guard=none) (x y:Operand) (ho:op.op= .binOp .rem 3 x y 3) (m n r:Int) (hr:r=m%n) (hm:0≤m∧m≤9223372036854775807) (hn:1≤n∧n≤8) (hx:a.eval x= .int .i64 m) (hy:a.eval y= .int .i64 n)
  (h:wpList Tryz.prog ops Q rest (a.put op.dst (.int .i64 r)) w):wpList Tryz.prog ops Q (op::rest) a w:=
 wpList_plain hgd fun _ hK=>o_remI x y ho m n r hr hm hn hx hy (hK _ _ h)
set_option linter.unusedVariables false in
theorem is_a_F:(∀(v:Vw) (n e:Int) (w:World) (hF:First w) (hv:v.ms.length=8) (hm:v.may=false),Calls Tryz.prog 82 #[Qd (vwC v),.int .i64 n,.int .i64 e] w fun x w'=>x= .returned (.bool false)∧Kept [] w w')∧(∀(v:Vw) (n e:Int) (w:World) (hF:First w) (hv:v.ms.length=8) (hm:v.may=true) (hi:v.isIn n=false),Calls Tryz.prog 82 #[Qd (vwC v),.int .i64 n,.int .i64 e] w fun x w'=>x= .returned (.bool false)∧Kept [] w w')∧(∀(v:Vw) (n e:Int) (w:World) (hF:First w) (hv:v.ms.length=8) (hm:v.may=true) (hi:v.isIn n=true),Calls Tryz.prog 82 #[Qd (vwC v),.int .i64 n,.int .i64 e] w fun x w'=>x= .returned (.bool (decide ((v.mem n).2=e)))∧Kept [] w w'):=by
 refine⟨fun v n e w hF hv hm=> ?_,fun v n e w hF hv hm hi=> ?_,fun v n e w hF hv hm hi=> ?_⟩;have P12:∀W,First W→Hid (Calls Tryz.prog 136 #[Qd (vwC v)] W fun e w'=>e= .returned (.bool false)∧Kept [] W w'):=fun W hW=>hide (by have:=may12 v W hW hv;rw [hm] at this;exact this)
 rotate_left
 have P12:∀W,First W→Hid (Calls Tryz.prog 136 #[Qd (vwC v)] W fun e w'=>e= .returned (.bool true)∧Kept [] W w'):=fun W hW=>hide (by have:=may12 v W hW hv;rw [hm] at this;exact this);have P35:∀W,Hid (Calls Tryz.prog 141 #[Qd (vwC v),.int .i64 n] W fun e w'=>e= .returned (.bool false)∧Kept [] W w'):=fun W=>hide (by have:=isIn35 v n W hv;rw [hi] at this;exact this)
 rotate_left
 have P12:∀W,First W→Hid (Calls Tryz.prog 136 #[Qd (vwC v)] W fun e w'=>e= .returned (.bool true)∧Kept [] W w'):=fun W hW=>hide (by have:=may12 v W hW hv;rw [hm] at this;exact this);have P35:∀W,Hid (Calls Tryz.prog 141 #[Qd (vwC v),.int .i64 n] W fun e w'=>e= .returned (.bool true)∧Kept [] W w'):=fun W=>hide (by have:=isIn35 v n W hv;rw [hi] at this;exact this);have hn9:0≤n∧n<8:=by simp [Vw.isIn,isNo] at hi;omega
 obtain⟨n0,n8⟩:=hn9
 rotate_left
 all_goals
   go_enter Tryz.func82,Tryz.ntmps82
   have M:Hid (Mm w w []):=hide (Mm.init hF);go_wp2_with (first |(refine Qp rfl (.tmp 0) rfl (vwC v) rfl ?_;intro W1 b1 e1 B1 K1;replace M:=hide ((Qa M).new e1 B1 K1);clear e1 B1 K1;refine Stp.go ?_))
   constructor
   go_wp2_with (first |(refine Qg Qn rfl (.tmp 3) rfl b1 0 rfl (vwC v) (Qk hv) ((Qa M).at 0 _ rfl).range ?_;refine Stp.go ?_))
   constructor
   go_wp2_with (first |(go_at_call 136;refine(Qa (P12 _ (Qa M).first)).mono ?_;rintro e W2 ⟨rfl,K2⟩;replace M:=hide ((Qa M).step K2);clear K2;refine Stp.go ?_))
   constructor
 · go_wp2_with fail
   go_ret
   exact⟨rfl,(Qa M).kept⟩
 all_goals
   go_wp2_with (first |(refine Zb Qn (.tmp 3) rfl rfl b1 0 rfl (vwC v) (Qk hv) ((Qa M).at 0 _ rfl).range ?_;refine Stp.go ?_))
   constructor
 · go_wp2_with (first |(go_at_call 141;refine(Qa (P35 _)).mono ?_;rintro e W3 ⟨rfl,K3⟩;replace M:=hide ((Qa M).step K3);clear K3;refine Stp.go ?_))
   constructor
   go_wp2_with fail
   go_ret
   exact⟨rfl,(Qa M).kept⟩
 go_wp2_with (first |(go_at_call 141;refine(Qa (P35 _)).mono ?_;rintro e W3 ⟨rfl,K3⟩;replace M:=hide ((Qa M).step K3);clear K3;obtain⟨m0,m1⟩:=Blk.mem ((Qa M).at 0 _ rfl) hv n0 n8;refine Stp.go ?_))
 constructor
 go_wp2_with fail
 go_ret
 exact⟨QB (by simp),(Qa M).kept⟩
theorem is25 (v:Vw) (n e:Int) (w:World) (hF:First w) (hv:v.ms.length=8):Calls Tryz.prog 82 #[Qd (vwC v),.int .i64 n,.int .i64 e] w fun x w'=>x= .returned (.bool (v.is n e))∧Kept [] w w':=by
 unfold Vw.is;cases hm:v.may with
 | false=>exact is_a_F.1 v n e w hF hv hm
 | true=>
  cases hi:v.isIn n with
  | false=>exact is_a_F.2.1 v n e w hF hv hm hi
  | true=>rw [Bool.true_and,Bool.true_and];exact is_a_F.2.2 v n e w hF hv hm hi
end Go.Proofs.YtcfflbafclmheaaGreatDoor.Vi
