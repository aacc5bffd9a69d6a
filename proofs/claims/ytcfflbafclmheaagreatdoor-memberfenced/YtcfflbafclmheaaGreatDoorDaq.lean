/-
  Texts of the walks of member, shortened.
-/
import Derived.Test.YtcfflbafclmheaaGreatDoorDap
import Derived.Great.BuildSlice
import Derived.Test.YtcfflbafclmheaaGreatDoorDah
set_option maxRecDepth 100000
set_option maxHeartbeats 100000000
set_option linter.unusedSimpArgs false
namespace Go.Proofs.YtcfflbafclmheaaGreatDoor
open Go.RowKit
open Le (Mm Qh Qm)
theorem fold_set (pre:List Value):∀(ys mid:List Value) (i:Nat) (done:List Value),mid.length=ys.length→done.length=i→(ys.zipIdx i).foldl (fun cs x=>cs.setIfInBounds (pre.length+x.snd) x.fst) (pre++done++mid).toArray=(pre++done++ys).toArray:=by
 intro ys
 induction ys with
 | nil=>
   intro mid i done hm _
   obtain rfl:mid= []:=List.eq_nil_of_length_eq_zero hm
   rfl
 | cons y ys ih=>
   intro mid i done hm hd
   cases mid with
   | nil=>simp at hm
   | cons m mid=>
     rw [List.zipIdx_cons,List.foldl_cons]
     have e:(pre++done++m::mid).toArray.setIfInBounds (pre.length+i) y=(pre++(done++ [y])++mid).toArray:=by
       rw [List.setIfInBounds_toArray,List.append_assoc,List.set_append_right _ _ (by omega),Nat.add_sub_cancel_left,← hd,List.set_append_right _ _ (Nat.le_refl _),Nat.sub_self]
       simp
     simp only [e]
     rw [ih mid (i+1) (done++ [y]) (by simpa using hm) (by simp [hd])]
     simp
theorem Tryz.sl60:Tryz.prog.underlying 60=some (.slice 59):=by kernel_rfl
theorem Tryz.info59z:(Tryz.prog.info? 59).map (fun i=>(i.zero,i.size,i.bytes))=some (some (.agg ((List.replicate 64 (Value.int .u8 0)).toArray)),64,64):=by kernel_rfl
theorem fillS (arr:Array Value) (ha:arr.size=64) (vs:List Value) (h:vs.length=64):Instr.fill (fun i=>some (i*64,64)) arr [(0,Qd vs)]=some vs.toArray:=by
 have hf:=fold_set [] vs arr.toList 0 [] (by rw [Array.length_toList,ha,h]) rfl
 have hc:(Value.agg vs.toArray).cells=vs.toArray:=rfl
 simp [Instr.fill,Qd,hc,h,ha]
 simpa using hf
theorem bsS (w:World) (vs:List Value) (h:vs.length=64):(Instr.buildSlice 60 1 #[(0,Qd vs)]).run Tryz.prog w= .ok (.slice (some ⟨w.heap.size,0,none⟩) 1 1) (w.alloc (.cells vs.toArray 59)):=by
 obtain⟨i,hi,hz0,hz1,_⟩:=info_parts Tryz.info59z
 refine run_buildSlice (P:=Tryz.prog) w 60 59 1 #[(0,Qd vs)] vs.toArray i _ Tryz.sl60 hi hz0 (by rw [hz1];decide) (by rw [hz1];decide) ?_
 rw [hz1]
 exact fillS _ (by simp) vs h
theorem wpBsS {ops:Array Oper} {rest:List Oper} {op:Oper} {a:Act} {w:World} {Q:Exit→Act→World→Prop} (hgd:op.guard=none) (x:Operand) (ho:op.op= .buildSlice 60 1 #[(0,x)]) (vs:List Value) (hl:vs.length=64) (hx:a.eval x=Qd vs)
   (h:∀W b,b=w.heap.size→Blk W b 59 vs→Kept [] w W→wpList Tryz.prog ops Q rest (a.put op.dst (.slice (some ⟨b,0,none⟩) 1 1)) W):wpList Tryz.prog ops Q (op::rest) a w:=
 wpList_plain hgd fun K hK=>by
   unfold Oper.wp execOp
   simp only [ho,List.map_toArray,List.map_cons,List.map_nil,hx,Sem.run_bind,bsS w vs hl,Result.andThen_ok]
   exact hK _ _ (h _ _ rfl (Blk.new w 59 vs) ((Kept.refl _ _).alloc _))
theorem secs_one {W:World} {p:Nat} {X:List Int} (hB:Blk W p 59 (u8s X)) (hX:Dv.Sec X):Dv.Secs W (some ⟨p,0,none⟩) 1 1 [X]:=by
 refine⟨rfl,fun s hs=> ?_,by omega,fun _=>⟨p,0,rfl,fun i hi=> ?_⟩⟩
 · simp only [List.mem_cons,List.not_mem_nil,or_false] at hs
   subst hs
   exact hX
 · match i,hi with
   | 0,_=>
     refine hB.rangeIn _ (fun j hj=> ?_)
     simp
theorem putL_sec (l:Le.Le):Dv.Sec (Le.putL l).1:=by
 refine⟨Le.putL_len l,?_⟩
 have hz:∀n,∀x∈Le.zs n,0≤x∧x<256:=fun n x hx=>by simp [Le.zs] at hx;omega
 unfold Le.putL
 split
 · exact hz 64
 · split
   · exact hz 64
   · intro x hx
     have hx:x∈Le.QQ l:=hx
     unfold Le.QQ at hx
     rcases List.mem_append.1 hx with hx | hx
     · rcases List.mem_append.1 hx with hx | hx
       · rcases List.mem_append.1 hx with hx | hx
         · rcases List.mem_append.1 hx with hx | hx
           · simp at hx;omega
           · exact Le.be_byte _ _ x hx
         · exact Le.be_byte _ _ x hx
       · exact Le.be_byte _ _ x hx
     · exact hz _ x hx
theorem ent69:Ent 69:=fun _ _=>by kernel_rfl
theorem ent71:Ent 71:=fun _ _=>by kernel_rfl
theorem do69 (c0 c1:Nat) (l:Le.Le) (s:List Int) (w:World) (hs:Dv.Sec s) (C0:Blk w c0 73 l.C) (C1:Blk w c1 59 (u8s s)):Calls Tryz.prog 69 #[P0 c0,P0 c1] w fun r w'=>r= .returned (.int .i64 (Le.putL l).2)∧Blk w' c1 59 (u8s (Le.putL l).1)∧Kept [c1] w w':=by
 have PO:=hide (Le.put8 l w)
 have hl:=sec_len (putL_sec l)
 have HS:=hide (sec_len hs)
 have HC0:=hide C0
 obtain⟨⟨u,uc⟩,hu⟩:∃r,Le.putL l=r:=⟨_,rfl⟩
 rw [hu] at PO hl⊢
 have HU:=hide hl
 have M:Hid (Mm [c1] w w [(c1,59,u8s s)]):=hide (Le.Mm.one C1)
 clear C0 C1 hs hl hu
 go_enter Tryz.func69,Tryz.ntmps69
 go_wp2_with (first |(refine Qg Le.QG rfl (.tmp 0) rfl c0 0 rfl l.C rfl (Qa HC0).range ?_;refine Stp.go ?_))
 constructor
 go_wp2_with (first |(go_at_call 70;refine(Qa PO).mono ?_;rintro e W1 ⟨rfl,K1⟩;replace M:=hide ((Qa M).step K1);clear K1;refine Stp.go ?_))
 constructor
 go_wp2_with (first |(refine Qh Vi.QX rfl (.tmp 1) (.tmp 6) rfl rfl c1 0 (u8s u) rfl rfl (Qa HU) (QS _) (Qa M) rfl (Qa HS) ?_;intro W2 N2;replace M:Hid (Mm [c1] w W2 [(c1,59,u8s u)]):=hide N2;clear N2;refine Stp.go ?_))
 constructor
 go_wp2_with fail
 go_ret
 exact⟨rfl,(Qa M).at 0 _ rfl,(Qa M).kept⟩
theorem do71 (c0 c1 c2 c3 c4 b g:Nat) (D:Dv.Dev) (j:Job) (k m:Nat) (hm:m=1+k) (l:Le.Le) (s:List Int) (w:World) (hs:Dv.Sec s) (hj:j.may=true) (hk:k<8) (C0:Blk w c0 23 (Qf j)) (C1:Blk w c1 3 [.int .i64 (k:Nat)]) (C2:Blk w c2 32 [P0 b]) (C3:Blk w c3 73 l.C) (C4:Blk w c4 59 (u8s s)) (h:Dv.Dv w b g D):Calls Tryz.prog 71 #[P0 c0,P0 c1,P0 c2,P0 c3,P0 c4] w fun r w'=>r= .returned (.int .i64 (D.write (k:Nat) l.ep (m:Nat) [s]).1)∧Dv.Dv w' b g (D.write (k:Nat) l.ep (m:Nat) [s]).2∧Kept [b,g] w w':=by
 have PA:∀W,Hid (Calls Tryz.prog 72 #[Qd (Qf j),.int .i64 k] W fun e w'=>e= .returned (.tuple #[.int .i64 (m:Nat),.int .i64 0])∧Kept [] W w'):=fun W=>hide (by
   have:=Ar.lease18 j k W
   rw [show j.lease k=((m:Int),0) by unfold Ar.Job.lease;rw [if_pos (by rw [hj];simp [Ar.below];omega)];rw [hm];simp] at this
   exact this)
 have PW:∀W b5,Mm [] w W [(b5,59,u8s s)]→Hid (Calls Tryz.prog 73 #[P0 b,.int .i64 k,.int .i64 l.ep,.int .i64 (m:Nat),.slice (some ⟨b5,0,none⟩) 1 1] W fun e w'=>e= .returned (.int .i64 (D.write (k:Nat) l.ep (m:Nat) [s]).1)∧Dv.Dv w' b g (D.write (k:Nat) l.ep (m:Nat) [s]).2∧Kept [b,g] W w'):=fun W b5 hM=>hide (Dv.write22 b g D k l.ep m (some ⟨b5,0,none⟩) 1 1 [s] W (h.kept hM.kept (by simp) (by simp)) (by omega) (by omega) (secs_one (hM.at 0 _ rfl) hs) (fun q off e=>by
   injection e with e
   injection e with e _
   subst e
   have h1:=mm_new hM (b5,59,u8s s) (by simp)
   have h2:=h.lt
   simp only at h1
   simp;omega))
 have HC0:=hide C0
 have HC1:=hide C1
 have HC2:=hide C2
 have HC3:=hide C3
 have HC4:=hide C4
 have HS:=hide (sec_len hs)
 have q1:=Qc C1 0 _ rfl
 have HLT:=hide h.lt
 clear C0 C1 C2 C3 C4 hs hj hk h hm
 have M:Hid (Mm [] w w []):=hide Mm.init
 go_enter Tryz.func71,Tryz.ntmps71
 go_wp2_with (first |(refine Qg Zw rfl (.tmp 0) rfl c0 0 rfl (Qf j) rfl (Qa HC0).range ?_;refine Stp.go ?_))
 constructor
 go_wp2_with (first |(go_at_call 72;refine(Qa (PA _)).mono ?_;rintro e W1 ⟨rfl,K1⟩;replace M:=hide ((Qa M).step K1);clear K1;clear q1;have q1:=Qc ((Qa HC1).kept (Qa M).kept (by simp)) 0 _ rfl;have q2:=Qc ((Qa HC2).kept (Qa M).kept (by simp)) 0 _ rfl;have q3:=Qc ((Qa HC3).kept (Qa M).kept (by simp)) 0 _ rfl;refine Stp.go ?_))
 constructor
 go_wp2_with (first |(refine Qg Vi.QX rfl (.tmp 4) rfl c4 0 rfl (u8s s) (Qa HS) ((Qa HC4).kept (Qa M).kept (by simp)).range ?_;refine Stp.go ?_))
 constructor
 go_wp2_with (first |(refine wpBsS rfl (.tmp 19) rfl (u8s s) (Qa HS) rfl ?_;intro W5 b5 e5 B5 K5;replace M:=hide ((Qa M).new e5 B5 K5);clear e5 B5 K5;refine Stp.go ?_))
 constructor
 clear q1 q2 q3
 go_wp2_with (first |(go_at_call 73;refine(Qa (PW _ b5 (Qa M))).mono ?_;rintro e V ⟨rfl,hd,kd⟩;have HD:=hide hd;have HK:=hide (((Qa M).kept.mono (by simp)).trans kd);clear hd kd))
 go_ret
 exact⟨rfl,Qa HD,Qa HK⟩
open Go.RowKit
open Le (Mm Qh Qm)
def sayQ (o:Option Dv.Dev) (j:Job) (n:Int) (l:Le.Le):List Int:= [qa (decide (0<Qo o)) 1,qa (Qq o j) 2,qa (Qp j n) 2,qa (Qu o n l.ep) 2]
def msay (D:Dv.Dev) (j:Job) (n:Int) (l:Le.Le):Int×Dv.Dev:=
 if first0 (sayQ (some D) j n l)=0 then (if (Le.putL l).2=0 then D.write n l.ep ((1+n.toNat:Nat):Int) [(Le.putL l).1] else ((Le.putL l).2,D)) else (first0 (sayQ (some D) j n l),D)
theorem say_yes {b g:Nat} {D:Dv.Dev} {w:World} {j:Job} {n:Int} {l:Le.Le} (h:Dv.Dv w b g D) (h0:first0 (sayQ (some D) j n l)=0):j.may=true∧0≤n∧n<j.n:=by
 unfold sayQ at h0
 obtain⟨q1,h1⟩:=QR h0
 obtain⟨q2,h1⟩:=QR h1
 obtain⟨q3,-⟩:=QR h1
 obtain⟨b',g',D',e,-,-,hm,-,-⟩:=fits_dev (o:=some D) (p:=P0 b) ⟨b,g,rfl,h⟩ q1 q2
 have q3:=qa_zero (by decide) q3
 simp only [Qp,Bool.and_eq_true,decide_eq_true_eq] at q3
 exact⟨hm,q3.1,q3.2⟩
theorem told31 (bq c4 c5 c6 c7 c9 b g:Nat) (D:Dv.Dev) (j:Job) (n:Int) (l:Le.Le) (L:List (Value×Int)) (W0:World) (hL4:L.length=4) (hs:L.map Prod.snd=sayQ (some D) j n l) (hq:∀p∈L,ZJ W0 p.1 p.2) (BQ:Rg W0 bq (L.map Prod.fst++ [fnV 69 #[P0 c7,P0 c9],fnV 71 #[P0 c5,P0 c6,P0 c4,P0 c7,P0 c9]])) (TQ:∃vs,Blk W0 bq 92 vs)
   (C4:Blk W0 c4 32 [P0 b]) (C5:Blk W0 c5 23 (Qf j)) (C6:Blk W0 c6 3 [.int .i64 n]) (C7:Blk W0 c7 73 l.C) (C9:Blk W0 c9 59 (u8s (Vi.zs 64))) (h:Dv.Dv W0 b g D) (h9:c9∉ [b,g]):
   Calls Tryz.prog 67 #[.slice (some ⟨bq,0,none⟩) 6 6] W0 fun e W'=>∃x,e= .returned (.int .i64 x)∧Kept [c9,b,g] W0 W'∧Dv.Dv W' b g (msay D j n l).2∧x=(msay D j n l).1:=by
 obtain⟨tvs,TQ⟩:=TQ
 have mq:=blk_ne TQ h (by decide) (by decide)
 have tq:=Blk.apart TQ C9 (by decide)
 have t4:=Blk.apart C4 C9 (by decide)
 have t5:=Blk.apart C5 C9 (by decide)
 have t6:=Blk.apart C6 C9 (by decide)
 have t7:=Blk.apart C7 C9 (by decide)
 have hb9:b∉ [c9]:=fun e=>h9 (by simp at e;subst e;simp)
 have hg9:g∉ [c9]:=fun e=>h9 (by simp at e;subst e;simp)
 obtain⟨qs,e,hqs⟩:=ques_list L hq
 have hql:qs.length=4:=by
   have:=congrArg List.length e
   simp at this
   omega
 rw [hs] at hqs
 refine told67 bq 6 6 (qs++ [(69,#[P0 c7,P0 c9]),(71,#[P0 c5,P0 c6,P0 c4,P0 c7,P0 c9])]) W0 (by simp [hql]) (by omega)
   (fun k W=>if k≤4 then (Kept [] W0 W∧∀y∈(sayQ (some D) j n l).take k,y=0) else if k=5 then (Kept [c9] W0 W∧Blk W c9 59 (u8s (Le.putL l).1)∧first0 (sayQ (some D) j n l)=0∧(Le.putL l).2=0) else (Kept [c9,b,g] W0 W∧Dv.Dv W b g (msay D j n l).2∧(msay D j n l).1=0))
   (fun x W'=>Kept [c9,b,g] W0 W'∧Dv.Dv W' b g (msay D j n l).2∧x=(msay D j n l).1) (by rw [if_pos (by omega)];exact⟨Kept.refl _ _,by simp⟩) ?_ ?_ ?_
 · intro k W hI
   have hR:Rg W0 bq ((qs++ [(69,#[P0 c7,P0 c9]),(71,#[P0 c5,P0 c6,P0 c4,P0 c7,P0 c9])]).map (fun q:FuncId×Array Value=>fnV q.1 q.2)):=by
     rw [List.map_append,← e]
     exact BQ
   by_cases h4:k≤4
   · rw [if_pos h4] at hI
     exact hR.kept hI.1 (by simp)
   · rw [if_neg h4] at hI
     by_cases h5:k=5
     · rw [if_pos h5] at hI
       exact hR.kept hI.1 (by simpa using tq)
     · rw [if_neg h5] at hI
       exact hR.kept hI.1 (fun e=>by simp at e mq;rcases e with e | e | e;exact tq e;exact mq.1 e;exact mq.2 e)
 · intro k f cs W hk hI
   by_cases h4:k<4
   · rw [if_pos (by omega)] at hI
     rw [List.getElem?_append_left (by omega)] at hk
     obtain⟨x,hx,hent,hcl⟩:=hqs k f cs hk
     obtain⟨hW,h0⟩:=hI
     refine⟨hent,(hcl W (K92.of hW)).mono ?_⟩
     rintro e W' ⟨rfl,hk'⟩
     refine⟨x,rfl,?_⟩
     by_cases hz:x=0
     · refine .inl ⟨hz,?_⟩
       rw [if_pos (by omega)]
       refine⟨hW.trans hk',fun y hy=> ?_⟩
       rw [List.take_add_one,hx] at hy
       rcases List.mem_append.1 hy with hy | hy
       · exact h0 y hy
       · simp at hy;omega
     · have hf:=first0_at _ k x h0 hx hz
       have e:msay D j n l=(x,D):=by unfold msay;rw [hf,if_neg hz]
       have hk2:=hW.trans hk'
       exact .inr ⟨hz,hk2.mono (by simp),by rw [e];exact h.kept hk2 (by simp) (by simp),by rw [e]⟩
   · by_cases h44:k=4
     · subst h44
       rw [if_pos (by omega)] at hI
       rw [List.getElem?_append_right (by omega),hql] at hk
       simp at hk
       obtain⟨rfl,rfl⟩:=hk
       obtain⟨hW,h0⟩:=hI
       have hf:first0 (sayQ (some D) j n l)=0:=first0_all _ (fun y hy=>h0 y (by rw [List.take_of_length_le (by simp [sayQ])];exact hy))
       refine⟨ent69,(do69 c7 c9 l (Vi.zs 64) W ⟨(Vi.zs_byts 64).len,(Vi.zs_byts 64).byte⟩ (C7.kept hW (by simp)) (C9.kept hW (by simp))).mono ?_⟩
       rintro e W' ⟨rfl,hb,hk'⟩
       have hk2:Kept [c9] W0 W':=(hW.mono (by simp)).trans hk'
       refine⟨_,rfl,?_⟩
       by_cases hp:(Le.putL l).2=0
       · refine .inl ⟨hp,?_⟩
         rw [if_neg (by omega),if_pos (by omega)]
         exact⟨hk2,hb,hf,hp⟩
       · have e:msay D j n l=((Le.putL l).2,D):=by unfold msay;rw [if_pos hf,if_neg hp]
         exact .inr ⟨hp,hk2.mono (by simp),by rw [e];exact h.kept hk2 hb9 hg9,by rw [e]⟩
     · by_cases h55:k=5
       · subst h55
         rw [if_neg (by omega),if_pos rfl] at hI
         rw [List.getElem?_append_right (by omega),hql] at hk
         simp at hk
         obtain⟨rfl,rfl⟩:=hk
         obtain⟨hW,hb,hf,hp⟩:=hI
         obtain⟨hm,hn0,hn1⟩:=say_yes h hf
         obtain⟨i,rfl⟩:=Int.eq_ofNat_of_zero_le hn0
         have hj8:j.n≤8:=by
           have:=hm
           simp only [Ar.Job.may,decide_eq_true_eq] at this
           omega
         refine⟨ent71,(do71 c5 c6 c4 c7 c9 b g D j i (1+i) rfl l _ W (putL_sec l) hm (by omega) (C5.kept hW (by simpa using t5)) (C6.kept hW (by simpa using t6)) (C4.kept hW (by simpa using t4)) (C7.kept hW (by simpa using t7)) hb (h.kept hW hb9 hg9)).mono ?_⟩
         rintro e W' ⟨rfl,hd,hk'⟩
         have hk2:Kept [c9,b,g] W0 W':=(hW.mono (by simp)).trans (hk'.mono (by simp))
         have e:msay D j i l=D.write i l.ep ((1+i:Nat):Int) [(Le.putL l).1]:=by unfold msay;rw [if_pos hf,if_pos hp];rfl
         refine⟨_,rfl,?_⟩
         by_cases hz:(D.write i l.ep ((1+i:Nat):Int) [(Le.putL l).1]).1=0
         · refine .inl ⟨hz,?_⟩
           rw [if_neg (by omega),if_neg (by omega),e]
           exact⟨hk2,hd,hz⟩
         · exact .inr ⟨hz,hk2,by rw [e];exact hd,by rw [e]⟩
       · rw [List.getElem?_eq_none (by simp [hql];omega)] at hk
         cases hk
 · intro W hI
   rw [if_neg (by omega),if_neg (by omega)] at hI
   exact⟨hI.1,hI.2.1,hI.2.2.symm⟩
open Go.RowKit
open Le (Mm Qh Qm)
theorem bs95_6 (w:World) (f0 f1 f2 f3 f4 f5:FuncId) (c0 c1 c2 c3 c4 c5:Array Value):(Instr.buildSlice 95 6 #[(0,fnV f0 c0),(1,fnV f1 c1),(2,fnV f2 c2),(3,fnV f3 c3),(4,fnV f4 c4),(5,fnV f5 c5)]).run Tryz.prog w= .ok (.slice (some ⟨w.heap.size,0,none⟩) 6 6) (w.alloc (.cells [fnV f0 c0,fnV f1 c1,fnV f2 c2,fnV f3 c3,fnV f4 c4,fnV f5 c5].toArray 92)):=by kernel_rfl
theorem o_bs6 {o:Oper} {a:Act} {w:World} {K:Act→World→Prop} {Q:Exit→Act→World→Prop} (x0 x1 x2 x3 x4 x5:Operand) (ho:o.op= .buildSlice 95 6 #[(0,x0),(1,x1),(2,x2),(3,x3),(4,x4),(5,x5)]) (u0 u1 u2 u3:Value) (f4 f5:FuncId) (d4 d5:Array Value) (h0:a.eval x0=u0) (h1:a.eval x1=u1) (h2:a.eval x2=u2) (h3:a.eval x3=u3) (h4:a.eval x4=fnV f4 d4) (h5:a.eval x5=fnV f5 d5)
   {y0 y1 y2 y3:Int} {w0 w1 w2 w3:World} (q0:ZJ w0 u0 y0) (q1:ZJ w1 u1 y1) (q2:ZJ w2 u2 y2) (q3:ZJ w3 u3 y3) (h:K (a.put o.dst (.slice (some ⟨w.heap.size,0,none⟩) 6 6)) (w.alloc (.cells [u0,u1,u2,u3,fnV f4 d4,fnV f5 d5].toArray 92))):o.wp Tryz.prog a w K Q:=by
 obtain⟨f0,c0,rfl,-⟩:=q0
 obtain⟨f1,c1,rfl,-⟩:=q1
 obtain⟨f2,c2,rfl,-⟩:=q2
 obtain⟨f3,c3,rfl,-⟩:=q3
 unfold Oper.wp execOp
 simp only [ho,List.map_toArray,List.map_cons,List.map_nil,h0,h1,h2,h3,h4,h5,Sem.run_bind,bs95_6,Result.andThen_ok]
 exact h
@[reducible] def SY (w:World) (bs:List (Nat×Nat×List Value)) (R:World→Prop) (F:List Value) (qs:List (Nat×Int)) (d:Nat→Bool) (vs:Nat→Value) (W:World):Prop:=
 (d 16=false→Mm [] w W bs∧(∀q∈qs,d q.1=true→ZJ W (vs q.1) q.2)∧(d 15=true→(∀q∈qs,d q.1=true)∧∃p,vs 15= .slice (some ⟨p,0,none⟩) 6 6∧Blk W p 92 ((qs.map fun q=>vs q.1)++F)))∧(d 16=true→R W)
section
variable {w:World} {bs:List (Nat×Nat×List Value)} {R:World→Prop} {F:List Value} {qs:List (Nat×Int)} {d:Nat→Bool} {vs:Nat→Value} {W W':World}
theorem SY.loc:∀d d' vs vs' W,(∀i∈16::15::qs.map Prod.fst,d i=d' i∧vs i=vs' i)→SY w bs R F qs d vs W→SY w bs R F qs d' vs' W:=by
 intro d d' vs vs' W H h
 have ek:=H 16 (by simp)
 have es:=H 15 (by simp)
 have eq:∀q∈qs,d q.1=d' q.1∧vs q.1=vs' q.1:=fun q hq=>H q.1 (by simp;exact .inr (.inr ⟨q.2,hq⟩))
 have em:(qs.map fun q=>vs q.1)=qs.map fun q=>vs' q.1:=List.map_congr_left fun q hq=>(eq q hq).2
 unfold SY at h⊢
 rw [← ek.1,← es.1,← es.2,← em]
 refine⟨fun h0=> ?_,h.2⟩
 obtain⟨h1,h2,h3⟩:=h.1 h0
 refine⟨h1,fun q hq hd=> ?_,fun hs=> ?_⟩
 · rw [← (eq q hq).2]
   exact h2 q hq (by rw [(eq q hq).1];exact hd)
 · obtain⟨h4,h5⟩:=h3 hs
   exact⟨fun q hq=>by rw [← (eq q hq).1];exact h4 q hq,h5⟩
theorem SY.ask (h:SY w bs R F qs d vs W) (hd:d 16=false) (hs:d 15=false) (hk:Kept [] W W') {i:Nat} {v:Value} {x:Int} (hq:ZJ W' v x) (hik:16≠i) (his:15≠i) (hx:∀q∈qs,q.1=i→q.2=x):
   SY w bs R F qs (fun j=>if j=i then true else d j) (fun j=>if j=i then v else vs j) W':=by
 obtain⟨h1,h2,-⟩:=h.1 hd
 refine⟨fun _=>⟨h1.step hk,fun q hq' hdq=> ?_,fun h9=> ?_⟩,fun h9=> ?_⟩
 · dsimp only at*
   by_cases e:q.1=i
   · rw [if_pos e,hx q hq' e]
     exact hq
   · rw [if_neg e] at hdq⊢
     exact(h2 q hq' hdq).mono hk
 · dsimp only at*
   rw [if_neg his,hs] at h9;cases h9
 · dsimp only at*
   rw [if_neg hik,hd] at h9;cases h9
theorem SY.row (h:SY w bs R F qs d vs W) (hd:d 16=false) (ha:∀q∈qs,d q.1=true) (hq:∀q∈qs,q.1≠15):
   SY w bs R F qs (fun j=>if j=15 then true else d j) (fun j=>if j=15 then .slice (some ⟨W.heap.size,0,none⟩) 6 6 else vs j) (W.alloc (.cells ((qs.map fun q=>vs q.1)++F).toArray 92)):=by
 obtain⟨h1,h2,-⟩:=h.1 hd
 have hk:Kept [] W (W.alloc (.cells ((qs.map fun q=>vs q.1)++F).toArray 92)):=(Kept.refl _ _).alloc _
 have em:(qs.map fun q=>(if q.1=15 then Value.slice (some ⟨W.heap.size,0,none⟩) 6 6 else vs q.1))=qs.map fun q=>vs q.1:=List.map_congr_left fun q hq'=>by rw [if_neg (hq q hq')]
 refine⟨fun _=>⟨h1.step hk,fun q hq' hdq=> ?_,fun _=>⟨fun q hq'=> ?_,W.heap.size,by dsimp only;rw [if_pos rfl],?_⟩⟩,fun h9=> ?_⟩
 · dsimp only at*
   rw [if_neg (hq q hq')] at hdq⊢
   exact(h2 q hq' hdq).mono hk
 · dsimp only at*
   rw [if_neg (hq q hq')]
   exact ha q hq'
 · dsimp only at*
   rw [em]
   exact Blk.new W 92 _
 · dsimp only at*
   rw [if_neg (by decide),hd] at h9;cases h9
end
theorem cg67 (vs:Array Value) (w:World):(callFunc 67 vs).run Tryz.prog w= .ok (.enter 67 vs) w:=by kernel_rfl
theorem sayW (ao:Option Addr) (o:Option Dv.Dev) (j:Job) (n:Int) (lx:Le.Le) (w:World) (h:Dq w (.pointer ao) o) (Y:List Nat) (x:Int) (P:World→Prop)
   (hT:∀(W:World) (p b1 b2 b3 b4 b5:Nat) (L:List (Value×Int)),Mm [] w W [(b1,32,[.pointer ao]),(b2,23,Qf j),(b3,3,[.int .i64 n]),(b4,73,lx.C),(b5,59,u8s (Vi.zs 64))]→L.length=4→L.map Prod.snd=sayQ o j n lx→(∀q∈L,ZJ W q.1 q.2)→Blk W p 92 (L.map Prod.fst++ [fnV 69 #[P0 b4,P0 b5],fnV 71 #[P0 b2,P0 b3,P0 b1,P0 b4,P0 b5]])→Calls Tryz.prog 67 #[.slice (some ⟨p,0,none⟩) 6 6] W fun e W'=>e= .returned (.int .i64 x)∧Kept (b5::Y) W W'∧P W'):
   Calls Tryz.prog 31 #[.pointer ao,Qd (Qf j),.int .i64 n,Qd lx.C] w fun e w'=>e= .returned (.int .i64 x)∧Kept Y w w'∧P w':=by
 have HT:=hide hT
 have HD:=hide h
 clear hT h
 have M:Hid (Mm [] w w []):=hide Mm.init
 go_enter Tryz.func31,Tryz.ntmps31
 go_wp2_with (first |(refine wpBoxP rfl (.tmp 0) rfl ao rfl ?_;intro W1 b1 e1 B1 K1;replace M:=hide ((Qa M).new e1 B1 K1);clear e1 B1 K1;refine Stp.go ?_))
 constructor
 go_wp2_with (first |(refine Qn rfl (.tmp 1) rfl (Qf j) rfl ?_;intro W2 b2 e2 B2 K2;replace M:=hide ((Qa M).new e2 B2 K2);clear e2 B2 K2;refine Stp.go ?_))
 constructor
 go_wp2_with (first |(refine wpBoxI rfl (.tmp 2) rfl n rfl ?_;intro W3 b3 e3 B3 K3;replace M:=hide ((Qa M).new e3 B3 K3);clear e3 B3 K3;refine Stp.go ?_))
 constructor
 go_wp2_with (first |(refine Qn rfl (.tmp 3) rfl lx.C rfl ?_;intro W4 b4 e4 B4 K4;replace M:=hide ((Qa M).new e4 B4 K4);clear e4 B4 K4;refine Stp.go ?_))
 constructor
 go_wp2_with (first |(refine Qs (u8s (Vi.zs 64)) Vi.ZB 9 rfl rfl rfl ?_;intro W5 b5 e5 B5 K5;replace M:=hide ((Qa M).new e5 B5 K5);clear e5 B5 K5;refine Stp.go ?_))
 constructor
 go_wp2_with fail
 have HN5:Hid (w.heap.size≤b5):=mm_new (Qa M) (b5,59,u8s (Vi.zs 64)) (by simp)
 refine wp_region_any mixed (QK 18 rfl (by kernel_rfl) [some (.pointer ao),none,some (.pointer ao),some (Qd (Qf j)),none,some (Qd (Qf j)),some (.int .i64 n),none,some (.pointer ao),some (.int .i64 n),some (.pointer (some ⟨b4,0,none⟩)),some (.int .i64 lx.ep),none,some (fnV 69 #[P0 b4,P0 b5]),some (fnV 71 #[P0 b2,P0 b3,P0 b1,P0 b4,P0 b5]),none,some (.int .i64 x),some (.int .i64 x)] rfl (by kernel_rfl) (fun l vs W=>(SY w [(b1,32,[.pointer ao]),(b2,23,Qf j),(b3,3,[.int .i64 n]),(b4,73,lx.C),(b5,59,u8s (Vi.zs 64))] (fun V=>Kept (b5::Y) w V∧P V) [fnV 69 #[P0 b4,P0 b5],fnV 71 #[P0 b2,P0 b3,P0 b1,P0 b4,P0 b5]] [(1,qa (decide (0<Qo o)) 1),(4,qa (Qq o j) 2),(7,qa (Qp j n) 2),(12,qa (Qu o n lx.ep) 2)]) (fun i=>l.getD i false) vs W) (⟨fun _=>⟨(Qa M).drew,(by simp),(fun h=>by cases h)⟩,(fun h=>by cases h)⟩) ?_ ?_)
 · intro ix o' hi ho a' w2 l vs hls hlf hJ hout hin hdep hnot
   match ix,ho with
   | 0,ho=>
     obtain rfl:=Oj9 ho
     have e0:=hout 4 (by kernel_rfl)
     replace e0:a'.eval (.tmp 4)=_:=e0.trans rfl
     obtain⟨hM,-,-⟩:=hJ.1 (hnot 16 (by kernel_rfl))
     exact Zv (.tmp 4) rfl _ _ e0 (Qc (hM.at 0 _ rfl) 0 _ rfl) ⟨_,rfl,Qe rfl,Le.Qi (St:=(SY w [(b1,32,[.pointer ao]),(b2,23,Qf j),(b3,3,[.int .i64 n]),(b4,73,lx.C),(b5,59,u8s (Vi.zs 64))] (fun V=>Kept (b5::Y) w V∧P V) [fnV 69 #[P0 b4,P0 b5],fnV 71 #[P0 b2,P0 b3,P0 b1,P0 b4,P0 b5]] [(1,qa (decide (0<Qo o)) 1),(4,qa (Qq o j) 2),(7,qa (Qp j n) 2),(12,qa (Qu o n lx.ep) 2)])) [16,15,1,4,7,12] (SY.loc (qs:= [(1,qa (decide (0<Qo o)) 1),(4,qa (Qq o j) 2),(7,qa (Qp j n) 2),(12,qa (Qu o n lx.ep) 2)])) (by omega) (by decide) hJ⟩
   | 1,ho=>
     obtain rfl:=Oj9 ho
     have e0:a'.eval (.tmp 10)= .pointer ao:=by have h9:=hin 0 10 (by kernel_rfl) (by kernel_rfl);exact h9.1.trans (Qb _ h9.2 rfl)
     obtain⟨hM,-,-⟩:=hJ.1 (hnot 16 (by kernel_rfl))
     refine Qt 44 _ _ rfl #[.pointer ao] (by simp [e0]) (cg44 _ _) ((there44 (.pointer ao) o w2 ((Qa HD).kept hM.kept)).mono ?_)
     rintro e w3 ⟨q,rfl,hq1,hk3⟩
     exact⟨_,rfl,_,rfl,Qz rfl,Le.QI (St:=(SY w [(b1,32,[.pointer ao]),(b2,23,Qf j),(b3,3,[.int .i64 n]),(b4,73,lx.C),(b5,59,u8s (Vi.zs 64))] (fun V=>Kept (b5::Y) w V∧P V) [fnV 69 #[P0 b4,P0 b5],fnV 71 #[P0 b2,P0 b3,P0 b1,P0 b4,P0 b5]] [(1,qa (decide (0<Qo o)) 1),(4,qa (Qq o j) 2),(7,qa (Qp j n) 2),(12,qa (Qu o n lx.ep) 2)])) (by omega) (SY.ask hJ (hnot 16 (by kernel_rfl)) (hnot 15 (by kernel_rfl)) hk3 hq1 (by decide) (by decide) (by simp))⟩
   | 2,ho=>
     obtain rfl:=Oj9 ho
     have e0:=hout 4 (by kernel_rfl)
     replace e0:a'.eval (.tmp 4)=_:=e0.trans rfl
     obtain⟨hM,-,-⟩:=hJ.1 (hnot 16 (by kernel_rfl))
     exact Zv (.tmp 4) rfl _ _ e0 (Qc (hM.at 0 _ rfl) 0 _ rfl) ⟨_,rfl,Qe rfl,Le.Qi (St:=(SY w [(b1,32,[.pointer ao]),(b2,23,Qf j),(b3,3,[.int .i64 n]),(b4,73,lx.C),(b5,59,u8s (Vi.zs 64))] (fun V=>Kept (b5::Y) w V∧P V) [fnV 69 #[P0 b4,P0 b5],fnV 71 #[P0 b2,P0 b3,P0 b1,P0 b4,P0 b5]] [(1,qa (decide (0<Qo o)) 1),(4,qa (Qq o j) 2),(7,qa (Qp j n) 2),(12,qa (Qu o n lx.ep) 2)])) [16,15,1,4,7,12] (SY.loc (qs:= [(1,qa (decide (0<Qo o)) 1),(4,qa (Qq o j) 2),(7,qa (Qp j n) 2),(12,qa (Qu o n lx.ep) 2)])) (by omega) (by decide) hJ⟩
   | 3,ho=>
     obtain rfl:=Oj9 ho
     have e0:=hout 5 (by kernel_rfl)
     replace e0:a'.eval (.tmp 5)=_:=e0.trans rfl
     obtain⟨hM,-,-⟩:=hJ.1 (hnot 16 (by kernel_rfl))
     exact Qw Zw (.tmp 5) rfl b2 0 e0 (Qf j) rfl (hM.at 1 _ rfl).range ⟨_,rfl,Qe rfl,Le.Qi (St:=(SY w [(b1,32,[.pointer ao]),(b2,23,Qf j),(b3,3,[.int .i64 n]),(b4,73,lx.C),(b5,59,u8s (Vi.zs 64))] (fun V=>Kept (b5::Y) w V∧P V) [fnV 69 #[P0 b4,P0 b5],fnV 71 #[P0 b2,P0 b3,P0 b1,P0 b4,P0 b5]] [(1,qa (decide (0<Qo o)) 1),(4,qa (Qq o j) 2),(7,qa (Qp j n) 2),(12,qa (Qu o n lx.ep) 2)])) [16,15,1,4,7,12] (SY.loc (qs:= [(1,qa (decide (0<Qo o)) 1),(4,qa (Qq o j) 2),(7,qa (Qp j n) 2),(12,qa (Qu o n lx.ep) 2)])) (by omega) (by decide) hJ⟩
   | 4,ho=>
     obtain rfl:=Oj9 ho
     have e0:a'.eval (.tmp 12)= .pointer ao:=by have h9:=hin 2 12 (by kernel_rfl) (by kernel_rfl);exact h9.1.trans (Qb _ h9.2 rfl)
     have e1:a'.eval (.tmp 13)=Qd (Qf j):=by have h9:=hin 3 13 (by kernel_rfl) (by kernel_rfl);exact h9.1.trans (Qb _ h9.2 rfl)
     obtain⟨hM,-,-⟩:=hJ.1 (hnot 16 (by kernel_rfl))
     refine Qt 45 _ _ rfl #[.pointer ao,Qd (Qf j)] (by simp [e0,e1]) (cg45 _ _) ((fits45 (.pointer ao) o j w2 ((Qa HD).kept hM.kept)).mono ?_)
     rintro e w3 ⟨q,rfl,hq1,hk3⟩
     exact⟨_,rfl,_,rfl,Qz rfl,Le.QI (St:=(SY w [(b1,32,[.pointer ao]),(b2,23,Qf j),(b3,3,[.int .i64 n]),(b4,73,lx.C),(b5,59,u8s (Vi.zs 64))] (fun V=>Kept (b5::Y) w V∧P V) [fnV 69 #[P0 b4,P0 b5],fnV 71 #[P0 b2,P0 b3,P0 b1,P0 b4,P0 b5]] [(1,qa (decide (0<Qo o)) 1),(4,qa (Qq o j) 2),(7,qa (Qp j n) 2),(12,qa (Qu o n lx.ep) 2)])) (by omega) (SY.ask hJ (hnot 16 (by kernel_rfl)) (hnot 15 (by kernel_rfl)) hk3 hq1 (by decide) (by decide) (by simp))⟩
   | 5,ho=>
     obtain rfl:=Oj9 ho
     have e0:=hout 5 (by kernel_rfl)
     replace e0:a'.eval (.tmp 5)=_:=e0.trans rfl
     obtain⟨hM,-,-⟩:=hJ.1 (hnot 16 (by kernel_rfl))
     exact Qw Zw (.tmp 5) rfl b2 0 e0 (Qf j) rfl (hM.at 1 _ rfl).range ⟨_,rfl,Qe rfl,Le.Qi (St:=(SY w [(b1,32,[.pointer ao]),(b2,23,Qf j),(b3,3,[.int .i64 n]),(b4,73,lx.C),(b5,59,u8s (Vi.zs 64))] (fun V=>Kept (b5::Y) w V∧P V) [fnV 69 #[P0 b4,P0 b5],fnV 71 #[P0 b2,P0 b3,P0 b1,P0 b4,P0 b5]] [(1,qa (decide (0<Qo o)) 1),(4,qa (Qq o j) 2),(7,qa (Qp j n) 2),(12,qa (Qu o n lx.ep) 2)])) [16,15,1,4,7,12] (SY.loc (qs:= [(1,qa (decide (0<Qo o)) 1),(4,qa (Qq o j) 2),(7,qa (Qp j n) 2),(12,qa (Qu o n lx.ep) 2)])) (by omega) (by decide) hJ⟩
   | 6,ho=>
     obtain rfl:=Oj9 ho
     have e0:=hout 6 (by kernel_rfl)
     replace e0:a'.eval (.tmp 6)=_:=e0.trans rfl
     obtain⟨hM,-,-⟩:=hJ.1 (hnot 16 (by kernel_rfl))
     exact Ar.Zn (.tmp 6) rfl _ _ e0 (Qc (hM.at 2 _ rfl) 0 _ rfl) ⟨_,rfl,Qe rfl,Le.Qi (St:=(SY w [(b1,32,[.pointer ao]),(b2,23,Qf j),(b3,3,[.int .i64 n]),(b4,73,lx.C),(b5,59,u8s (Vi.zs 64))] (fun V=>Kept (b5::Y) w V∧P V) [fnV 69 #[P0 b4,P0 b5],fnV 71 #[P0 b2,P0 b3,P0 b1,P0 b4,P0 b5]] [(1,qa (decide (0<Qo o)) 1),(4,qa (Qq o j) 2),(7,qa (Qp j n) 2),(12,qa (Qu o n lx.ep) 2)])) [16,15,1,4,7,12] (SY.loc (qs:= [(1,qa (decide (0<Qo o)) 1),(4,qa (Qq o j) 2),(7,qa (Qp j n) 2),(12,qa (Qu o n lx.ep) 2)])) (by omega) (by decide) hJ⟩
   | 7,ho=>
     obtain rfl:=Oj9 ho
     have e0:a'.eval (.tmp 15)=Qd (Qf j):=by have h9:=hin 5 15 (by kernel_rfl) (by kernel_rfl);exact h9.1.trans (Qb _ h9.2 rfl)
     have e1:a'.eval (.tmp 16)= .int .i64 n:=by have h9:=hin 6 16 (by kernel_rfl) (by kernel_rfl);exact h9.1.trans (Qb _ h9.2 rfl)
     obtain⟨hM,-,-⟩:=hJ.1 (hnot 16 (by kernel_rfl))
     refine Qt 64 _ _ rfl #[Qd (Qf j),.int .i64 n] (by simp [e0,e1]) (cg64 _ _) ((node64 j n w2).mono ?_)
     rintro e w3 ⟨q,rfl,hq1,hk3⟩
     exact⟨_,rfl,_,rfl,Qz rfl,Le.QI (St:=(SY w [(b1,32,[.pointer ao]),(b2,23,Qf j),(b3,3,[.int .i64 n]),(b4,73,lx.C),(b5,59,u8s (Vi.zs 64))] (fun V=>Kept (b5::Y) w V∧P V) [fnV 69 #[P0 b4,P0 b5],fnV 71 #[P0 b2,P0 b3,P0 b1,P0 b4,P0 b5]] [(1,qa (decide (0<Qo o)) 1),(4,qa (Qq o j) 2),(7,qa (Qp j n) 2),(12,qa (Qu o n lx.ep) 2)])) (by omega) (SY.ask hJ (hnot 16 (by kernel_rfl)) (hnot 15 (by kernel_rfl)) hk3 hq1 (by decide) (by decide) (by simp))⟩
   | 8,ho=>
     obtain rfl:=Oj9 ho
     have e0:=hout 4 (by kernel_rfl)
     replace e0:a'.eval (.tmp 4)=_:=e0.trans rfl
     obtain⟨hM,-,-⟩:=hJ.1 (hnot 16 (by kernel_rfl))
     exact Zv (.tmp 4) rfl _ _ e0 (Qc (hM.at 0 _ rfl) 0 _ rfl) ⟨_,rfl,Qe rfl,Le.Qi (St:=(SY w [(b1,32,[.pointer ao]),(b2,23,Qf j),(b3,3,[.int .i64 n]),(b4,73,lx.C),(b5,59,u8s (Vi.zs 64))] (fun V=>Kept (b5::Y) w V∧P V) [fnV 69 #[P0 b4,P0 b5],fnV 71 #[P0 b2,P0 b3,P0 b1,P0 b4,P0 b5]] [(1,qa (decide (0<Qo o)) 1),(4,qa (Qq o j) 2),(7,qa (Qp j n) 2),(12,qa (Qu o n lx.ep) 2)])) [16,15,1,4,7,12] (SY.loc (qs:= [(1,qa (decide (0<Qo o)) 1),(4,qa (Qq o j) 2),(7,qa (Qp j n) 2),(12,qa (Qu o n lx.ep) 2)])) (by omega) (by decide) hJ⟩
   | 9,ho=>
     obtain rfl:=Oj9 ho
     have e0:=hout 6 (by kernel_rfl)
     replace e0:a'.eval (.tmp 6)=_:=e0.trans rfl
     obtain⟨hM,-,-⟩:=hJ.1 (hnot 16 (by kernel_rfl))
     exact Ar.Zn (.tmp 6) rfl _ _ e0 (Qc (hM.at 2 _ rfl) 0 _ rfl) ⟨_,rfl,Qe rfl,Le.Qi (St:=(SY w [(b1,32,[.pointer ao]),(b2,23,Qf j),(b3,3,[.int .i64 n]),(b4,73,lx.C),(b5,59,u8s (Vi.zs 64))] (fun V=>Kept (b5::Y) w V∧P V) [fnV 69 #[P0 b4,P0 b5],fnV 71 #[P0 b2,P0 b3,P0 b1,P0 b4,P0 b5]] [(1,qa (decide (0<Qo o)) 1),(4,qa (Qq o j) 2),(7,qa (Qp j n) 2),(12,qa (Qu o n lx.ep) 2)])) [16,15,1,4,7,12] (SY.loc (qs:= [(1,qa (decide (0<Qo o)) 1),(4,qa (Qq o j) 2),(7,qa (Qp j n) 2),(12,qa (Qu o n lx.ep) 2)])) (by omega) (by decide) hJ⟩
   | 10,ho=>
     obtain rfl:=Oj9 ho
     have e0:=hout 7 (by kernel_rfl)
     replace e0:a'.eval (.tmp 7)=_:=e0.trans rfl
     exact Le.o_fld23_0 (.tmp 7) rfl b4 0 e0 ⟨_,rfl,Qe rfl,Le.Qi (St:=(SY w [(b1,32,[.pointer ao]),(b2,23,Qf j),(b3,3,[.int .i64 n]),(b4,73,lx.C),(b5,59,u8s (Vi.zs 64))] (fun V=>Kept (b5::Y) w V∧P V) [fnV 69 #[P0 b4,P0 b5],fnV 71 #[P0 b2,P0 b3,P0 b1,P0 b4,P0 b5]] [(1,qa (decide (0<Qo o)) 1),(4,qa (Qq o j) 2),(7,qa (Qp j n) 2),(12,qa (Qu o n lx.ep) 2)])) [16,15,1,4,7,12] (SY.loc (qs:= [(1,qa (decide (0<Qo o)) 1),(4,qa (Qq o j) 2),(7,qa (Qp j n) 2),(12,qa (Qu o n lx.ep) 2)])) (by omega) (by decide) hJ⟩
   | 11,ho=>
     obtain rfl:=Oj9 ho
     have e0:a'.eval (.tmp 20)= .pointer (some ⟨b4,0,none⟩):=by have h9:=hin 10 20 (by kernel_rfl) (by kernel_rfl);exact h9.1.trans (Qb _ h9.2 rfl)
     obtain⟨hM,-,-⟩:=hJ.1 (hnot 16 (by kernel_rfl))
     exact Zh (.tmp 20) rfl _ _ e0 (Qc (hM.at 3 _ rfl) 0 _ rfl) ⟨_,rfl,Qe rfl,Le.Qi (St:=(SY w [(b1,32,[.pointer ao]),(b2,23,Qf j),(b3,3,[.int .i64 n]),(b4,73,lx.C),(b5,59,u8s (Vi.zs 64))] (fun V=>Kept (b5::Y) w V∧P V) [fnV 69 #[P0 b4,P0 b5],fnV 71 #[P0 b2,P0 b3,P0 b1,P0 b4,P0 b5]] [(1,qa (decide (0<Qo o)) 1),(4,qa (Qq o j) 2),(7,qa (Qp j n) 2),(12,qa (Qu o n lx.ep) 2)])) [16,15,1,4,7,12] (SY.loc (qs:= [(1,qa (decide (0<Qo o)) 1),(4,qa (Qq o j) 2),(7,qa (Qp j n) 2),(12,qa (Qu o n lx.ep) 2)])) (by omega) (by decide) hJ⟩
   | 12,ho=>
     obtain rfl:=Oj9 ho
     have e0:a'.eval (.tmp 18)= .pointer ao:=by have h9:=hin 8 18 (by kernel_rfl) (by kernel_rfl);exact h9.1.trans (Qb _ h9.2 rfl)
     have e1:a'.eval (.tmp 19)= .int .i64 n:=by have h9:=hin 9 19 (by kernel_rfl) (by kernel_rfl);exact h9.1.trans (Qb _ h9.2 rfl)
     have e2:a'.eval (.tmp 21)= .int .i64 lx.ep:=by have h9:=hin 11 21 (by kernel_rfl) (by kernel_rfl);exact h9.1.trans (Qb _ h9.2 rfl)
     obtain⟨hM,-,-⟩:=hJ.1 (hnot 16 (by kernel_rfl))
     refine Qt 68 _ _ rfl #[.pointer ao,.int .i64 n,.int .i64 lx.ep] (by simp [e0,e1,e2]) (cg68 _ _) ((epoch68 (.pointer ao) o n lx.ep w2 ((Qa HD).kept hM.kept)).mono ?_)
     rintro e w3 ⟨q,rfl,hq1,hk3⟩
     exact⟨_,rfl,_,rfl,Qz rfl,Le.QI (St:=(SY w [(b1,32,[.pointer ao]),(b2,23,Qf j),(b3,3,[.int .i64 n]),(b4,73,lx.C),(b5,59,u8s (Vi.zs 64))] (fun V=>Kept (b5::Y) w V∧P V) [fnV 69 #[P0 b4,P0 b5],fnV 71 #[P0 b2,P0 b3,P0 b1,P0 b4,P0 b5]] [(1,qa (decide (0<Qo o)) 1),(4,qa (Qq o j) 2),(7,qa (Qp j n) 2),(12,qa (Qu o n lx.ep) 2)])) (by omega) (SY.ask hJ (hnot 16 (by kernel_rfl)) (hnot 15 (by kernel_rfl)) hk3 hq1 (by decide) (by decide) (by simp))⟩
   | 13,ho=>
     obtain rfl:=Oj9 ho
     have e0:=hout 7 (by kernel_rfl)
     replace e0:a'.eval (.tmp 7)=_:=e0.trans rfl
     have e1:=hout 9 (by kernel_rfl)
     replace e1:a'.eval (.tmp 9)=_:=e1.trans rfl
     have f0:a'.eval (.tmp 7)=P0 b4:=e0
     have f1:a'.eval (.tmp 9)=P0 b5:=e1
     exact o_mkf 69 _ rfl #[P0 b4,P0 b5] (by simp [f0,f1]) ⟨_,rfl,Qe rfl,Le.Qi (St:=(SY w [(b1,32,[.pointer ao]),(b2,23,Qf j),(b3,3,[.int .i64 n]),(b4,73,lx.C),(b5,59,u8s (Vi.zs 64))] (fun V=>Kept (b5::Y) w V∧P V) [fnV 69 #[P0 b4,P0 b5],fnV 71 #[P0 b2,P0 b3,P0 b1,P0 b4,P0 b5]] [(1,qa (decide (0<Qo o)) 1),(4,qa (Qq o j) 2),(7,qa (Qp j n) 2),(12,qa (Qu o n lx.ep) 2)])) [16,15,1,4,7,12] (SY.loc (qs:= [(1,qa (decide (0<Qo o)) 1),(4,qa (Qq o j) 2),(7,qa (Qp j n) 2),(12,qa (Qu o n lx.ep) 2)])) (by omega) (by decide) hJ⟩
   | 14,ho=>
     obtain rfl:=Oj9 ho
     have e0:=hout 5 (by kernel_rfl)
     replace e0:a'.eval (.tmp 5)=_:=e0.trans rfl
     have e1:=hout 6 (by kernel_rfl)
     replace e1:a'.eval (.tmp 6)=_:=e1.trans rfl
     have e2:=hout 4 (by kernel_rfl)
     replace e2:a'.eval (.tmp 4)=_:=e2.trans rfl
     have e3:=hout 7 (by kernel_rfl)
     replace e3:a'.eval (.tmp 7)=_:=e3.trans rfl
     have e4:=hout 9 (by kernel_rfl)
     replace e4:a'.eval (.tmp 9)=_:=e4.trans rfl
     have f0:a'.eval (.tmp 5)=P0 b2:=e0
     have f1:a'.eval (.tmp 6)=P0 b3:=e1
     have f2:a'.eval (.tmp 4)=P0 b1:=e2
     have f3:a'.eval (.tmp 7)=P0 b4:=e3
     have f4:a'.eval (.tmp 9)=P0 b5:=e4
     exact o_mkf 71 _ rfl #[P0 b2,P0 b3,P0 b1,P0 b4,P0 b5] (by simp [f0,f1,f2,f3,f4]) ⟨_,rfl,Qe rfl,Le.Qi (St:=(SY w [(b1,32,[.pointer ao]),(b2,23,Qf j),(b3,3,[.int .i64 n]),(b4,73,lx.C),(b5,59,u8s (Vi.zs 64))] (fun V=>Kept (b5::Y) w V∧P V) [fnV 69 #[P0 b4,P0 b5],fnV 71 #[P0 b2,P0 b3,P0 b1,P0 b4,P0 b5]] [(1,qa (decide (0<Qo o)) 1),(4,qa (Qq o j) 2),(7,qa (Qp j n) 2),(12,qa (Qu o n lx.ep) 2)])) [16,15,1,4,7,12] (SY.loc (qs:= [(1,qa (decide (0<Qo o)) 1),(4,qa (Qq o j) 2),(7,qa (Qp j n) 2),(12,qa (Qu o n lx.ep) 2)])) (by omega) (by decide) hJ⟩
   | 15,ho=>
     obtain rfl:=Oj9 ho
     have e0:a'.eval (.tmp 11)=vs 1:=(hin 1 11 (by kernel_rfl) (by kernel_rfl)).1
     have e1:a'.eval (.tmp 14)=vs 4:=(hin 4 14 (by kernel_rfl) (by kernel_rfl)).1
     have e2:a'.eval (.tmp 17)=vs 7:=(hin 7 17 (by kernel_rfl) (by kernel_rfl)).1
     have e3:a'.eval (.tmp 22)=vs 12:=(hin 12 22 (by kernel_rfl) (by kernel_rfl)).1
     have e4:a'.eval (.tmp 23)=fnV 69 #[P0 b4,P0 b5]:=by have h9:=hin 13 23 (by kernel_rfl) (by kernel_rfl);exact h9.1.trans (Qb _ h9.2 rfl)
     have e5:a'.eval (.tmp 24)=fnV 71 #[P0 b2,P0 b3,P0 b1,P0 b4,P0 b5]:=by have h9:=hin 14 24 (by kernel_rfl) (by kernel_rfl);exact h9.1.trans (Qb _ h9.2 rfl)
     have hQ:=(hJ.1 (hnot 16 (by kernel_rfl))).2.1
     have h1:=hdep 1 (by kernel_rfl)
     have h2:=hdep 4 (by kernel_rfl)
     have h3:=hdep 7 (by kernel_rfl)
     have h4:=hdep 12 (by kernel_rfl)
     exact o_bs6 (.tmp 11) (.tmp 14) (.tmp 17) (.tmp 22) (.tmp 23) (.tmp 24) rfl _ _ _ _ 69 71 _ _ e0 e1 e2 e3 e4 e5 (hQ (1,qa (decide (0<Qo o)) 1) (by simp) h1) (hQ (4,qa (Qq o j) 2) (by simp) h2) (hQ (7,qa (Qp j n) 2) (by simp) h3) (hQ (12,qa (Qu o n lx.ep) 2) (by simp) h4) ⟨_,rfl,Qz rfl,Le.QI (St:=(SY w [(b1,32,[.pointer ao]),(b2,23,Qf j),(b3,3,[.int .i64 n]),(b4,73,lx.C),(b5,59,u8s (Vi.zs 64))] (fun V=>Kept (b5::Y) w V∧P V) [fnV 69 #[P0 b4,P0 b5],fnV 71 #[P0 b2,P0 b3,P0 b1,P0 b4,P0 b5]] [(1,qa (decide (0<Qo o)) 1),(4,qa (Qq o j) 2),(7,qa (Qp j n) 2),(12,qa (Qu o n lx.ep) 2)])) (by omega) (SY.row hJ (hnot 16 (by kernel_rfl)) (by intro q hq;simp at hq;rcases hq with rfl | rfl | rfl | rfl;exact h1;exact h2;exact h3;exact h4) (by simp))⟩
   | 16,ho=>
     obtain rfl:=Oj9 ho
     have e0:a'.eval (.tmp 25)=vs 15:=(hin 15 25 (by kernel_rfl) (by kernel_rfl)).1
     obtain⟨hM,hQ,hr⟩:=hJ.1 hlf
     obtain⟨ha,p,hp,hb⟩:=hr (hdep 15 (by kernel_rfl))
     refine Qt 67 _ _ rfl #[.slice (some ⟨p,0,none⟩) 6 6] (by simp only [List.map_toArray,List.map_cons,List.map_nil,e0];rw [hp]) (cg67 _ _) ((Qa HT w2 p b1 b2 b3 b4 b5 [(vs 1,qa (decide (0<Qo o)) 1),(vs 4,qa (Qq o j) 2),(vs 7,qa (Qp j n) 2),(vs 12,qa (Qu o n lx.ep) 2)] hM rfl rfl (by intro q hq;simp at hq;rcases hq with rfl | rfl | rfl | rfl;exact hQ (1,qa (decide (0<Qo o)) 1) (by simp) (ha (1,_) (by simp));exact hQ (4,qa (Qq o j) 2) (by simp) (ha (4,_) (by simp));exact hQ (7,qa (Qp j n) 2) (by simp) (ha (7,_) (by simp));exact hQ (12,qa (Qu o n lx.ep) 2) (by simp) (ha (12,_) (by simp))) hb).mono ?_)
     rintro e w3 ⟨rfl,kd,hpp⟩
     exact⟨_,rfl,_,rfl,Qe rfl,Le.QI (St:=(SY w [(b1,32,[.pointer ao]),(b2,23,Qf j),(b3,3,[.int .i64 n]),(b4,73,lx.C),(b5,59,u8s (Vi.zs 64))] (fun V=>Kept (b5::Y) w V∧P V) [fnV 69 #[P0 b4,P0 b5],fnV 71 #[P0 b2,P0 b3,P0 b1,P0 b4,P0 b5]] [(1,qa (decide (0<Qo o)) 1),(4,qa (Qq o j) 2),(7,qa (Qp j n) 2),(12,qa (Qu o n lx.ep) 2)])) (by omega) ⟨(fun h=>by cases h),fun _=>⟨(hM.kept.mono (by simp)).trans kd,hpp⟩⟩⟩
   | 17,ho=>
     obtain rfl:=Oj9 ho
     have e0:a'.eval (.tmp 26)= .int .i64 x:=by have h9:=hin 16 26 (by kernel_rfl) (by kernel_rfl);exact h9.1.trans (Qb _ h9.2 rfl)
     exact QH (.tmp 26) rfl _ e0 ⟨_,rfl,Qe rfl,Le.Qi (St:=(SY w [(b1,32,[.pointer ao]),(b2,23,Qf j),(b3,3,[.int .i64 n]),(b4,73,lx.C),(b5,59,u8s (Vi.zs 64))] (fun V=>Kept (b5::Y) w V∧P V) [fnV 69 #[P0 b4,P0 b5],fnV 71 #[P0 b2,P0 b3,P0 b1,P0 b4,P0 b5]] [(1,qa (decide (0<Qo o)) 1),(4,qa (Qq o j) 2),(7,qa (Qp j n) 2),(12,qa (Qu o n lx.ep) 2)])) [16,15,1,4,7,12] (SY.loc (qs:= [(1,qa (decide (0<Qo o)) 1),(4,qa (Qq o j) 2),(7,qa (Qp j n) 2),(12,qa (Qu o n lx.ep) 2)])) (by omega) (by decide) hJ⟩
 intro l_ vs4 V4 hl hJ htold
 have t0:vs4 0= .pointer ao:=Qb _ (htold 0 (by decide)) rfl
 have t2:vs4 2= .pointer ao:=Qb _ (htold 2 (by decide)) rfl
 have t3:vs4 3=Qd (Qf j):=Qb _ (htold 3 (by decide)) rfl
 have t5:vs4 5=Qd (Qf j):=Qb _ (htold 5 (by decide)) rfl
 have t6:vs4 6= .int .i64 n:=Qb _ (htold 6 (by decide)) rfl
 have t8:vs4 8= .pointer ao:=Qb _ (htold 8 (by decide)) rfl
 have t9:vs4 9= .int .i64 n:=Qb _ (htold 9 (by decide)) rfl
 have t10:vs4 10= .pointer (some ⟨b4,0,none⟩):=Qb _ (htold 10 (by decide)) rfl
 have t11:vs4 11= .int .i64 lx.ep:=Qb _ (htold 11 (by decide)) rfl
 have t13:vs4 13=fnV 69 #[P0 b4,P0 b5]:=Qb _ (htold 13 (by decide)) rfl
 have t14:vs4 14=fnV 71 #[P0 b2,P0 b3,P0 b1,P0 b4,P0 b5]:=Qb _ (htold 14 (by decide)) rfl
 have t16:vs4 16= .int .i64 x:=Qb _ (htold 16 (by decide)) rfl
 have t17:vs4 17= .int .i64 x:=Qb _ (htold 17 (by decide)) rfl
 rw [show (List.range 18).map vs4= [vs4 0,vs4 1,vs4 2,vs4 3,vs4 4,vs4 5,vs4 6,vs4 7,vs4 8,vs4 9,vs4 10,vs4 11,vs4 12,vs4 13,vs4 14,vs4 15,vs4 16,vs4 17] from rfl]
 simp only [t0,t2,t3,t5,t6,t8,t9,t10,t11,t13,t14,t16,t17,QB,Act.put,List.setIfInBounds_toArray,List.set_cons_succ,List.set_cons_zero]
 clear t0 t2 t3 t5 t6 t8 t9 t10 t11 t13 t14 t16 t17 htold
 obtain⟨hk,hp⟩:=hJ.2 (hl 16 (by decide))
 have HKE:=hide hk
 have HPE:=hide hp
 generalize vs4 1=u1
 generalize vs4 4=u4
 generalize vs4 7=u7
 generalize vs4 12=u12
 generalize vs4 15=u15
 clear hJ hl hk hp M
 go_wp2_with fail
 go_ret
 refine⟨rfl,(Kept.refl _ _).fresh (Qa HKE) (fun i hi hl=> ?_),Qa HPE⟩
 rcases List.mem_cons.1 hi with rfl | hi
 · have:=Qa HN5
   omega
 · exact hi
theorem say31 (b g:Nat) (D:Dv.Dev) (j:Job) (n:Int) (lx:Le.Le) (w:World) (h:Dv.Dv w b g D):
   Calls Tryz.prog 31 #[P0 b,Qd (Qf j),.int .i64 n,Qd lx.C] w fun e w'=>e= .returned (.int .i64 (msay D j n lx).1)∧Kept [b,g] w w'∧Dv.Dv w' b g (msay D j n lx).2:=by
 refine sayW (some ⟨b,0,none⟩) (some D) j n lx w ⟨b,g,rfl,h⟩ [b,g] (msay D j n lx).1 (fun V=>Dv.Dv V b g (msay D j n lx).2) ?_
 intro W p b1 b2 b3 b4 b5 L hM hL hs hq hB
 have hk:=hM.kept
 have hd:=h.kept hk (by simp) (by simp)
 refine(told31 p b1 b2 b3 b4 b5 b g D j n lx L W hL hs hq (Rg.of hB) ⟨_,hB⟩ (hM.at 0 _ rfl) (hM.at 1 _ rfl) (hM.at 2 _ rfl) (hM.at 3 _ rfl) (hM.at 4 _ rfl) hd ?_).mono ?_
 · have h1:=mm_new hM (b5,59,u8s (Vi.zs 64)) (by simp)
   have h2:=h.lt
   simp only at h1
   simp;omega
 · rintro e W' ⟨y,rfl,kd,hd',rfl⟩
   exact⟨rfl,kd,hd'⟩
open Go.Shelf
open Go.RowKit
open Le (Mm Qh Qm)
def mready (o:Option Dv.Dev) (j:Job) (n ep nu:Int):Bool:=decide ((mlease o j n).2=0)&&(decide ((mlease o j n).1.ep=ep)&&decide (nu≤(mlease o j n).1.re))
theorem isReady95 (p:Value) (o:Option Dv.Dev) (j:Job) (n ep nu:Int) (w:World) (h:Dq w p o):Calls Tryz.prog 95 #[p,Qd (Qf j),.int .i64 n,.int .i64 ep,.int .i64 nu] w fun e w'=>e= .returned (.bool (mready o j n ep nu))∧Kept [] w w':=by
 obtain⟨ao,rfl⟩:=h.ptr
 have PL:∀W,Kept [] w W→Hid (Calls Tryz.prog 30 #[.pointer ao,Qd (Qf j),.int .i64 n] W fun e w'=>e= .returned (.tuple #[Qd (mlease o j n).1.C,.int .i64 (mlease o j n).2])∧Kept [] W w'):=fun W hW=>hide (lease30 (.pointer ao) o j n W (h.kept hW))
 unfold mready
 obtain⟨⟨⟨lp,lb,lr⟩,c⟩,hl⟩:∃r,mlease o j n=r:=⟨_,rfl⟩
 rw [hl] at PL⊢
 simp only at PL⊢
 clear h hl
 have M:Hid (Mm [] w w []):=hide Mm.init
 go_enter Tryz.func95,Tryz.ntmps95
 go_wp2_with (first |(refine Qn rfl (.tmp 1) rfl (Qf j) rfl ?_;intro W1 b1 e1 B1 K1;replace M:=hide ((Qa M).new e1 B1 K1);clear e1 B1 K1;refine Stp.go ?_))
 constructor
 go_wp2_with (first |(refine Qg Zw rfl (.tmp 6) rfl b1 0 rfl (Qf j) rfl ((Qa M).at 0 _ rfl).range ?_;refine Stp.go ?_))
 constructor
 go_wp2_with (first |(go_at_call 30;refine(Qa (PL _ (Qa M).kept)).mono ?_;rintro e W2 ⟨rfl,K2⟩;replace M:=hide ((Qa M).step K2);clear K2;refine Stp.go ?_))
 constructor
 go_wp2_with (first |(refine QL Le.QG (Le.le0.C) rfl Le.QZ 11 rfl rfl rfl (.tmp 18) rfl rfl rfl (Le.Le.C ⟨lp,lb,lr⟩) rfl (Le.QT _) (by kernel_rfl) (by kernel_rfl) ?_;intro W3 b3 e3 B3 K3;replace M:=hide ((Qa M).new e3 B3 K3);clear e3 B3 K3;have q0:W3.cell? ⟨b3,0,none⟩=some (.int .i64 lp):=Qc ((Qa M).at 1 _ rfl) 0 _ rfl;have q2:W3.cell? ⟨b3,2,none⟩=some (.int .i64 lr):=Qc ((Qa M).at 1 _ rfl) 2 _ rfl;refine Stp.go ?_))
 constructor
 by_cases h0:c=0
 · have d0:(c == 0)=true:=by simpa using h0
   by_cases h1:lp=ep
   · have d1:(lp == ep)=true:=by simpa using h1
     have H0:=hide h0
     have H1:=hide h1
     clear h0 h1
     go_wp2_with fail
     go_ret
     exact⟨Qy (by simp [Qa H0,Qa H1]),(Qa M).kept⟩
   · have d1:(lp == ep)=false:=by simpa using h1
     have H0:=hide h0
     clear h0
     go_wp2_with fail
     go_ret
     exact⟨Qy (by simp [h1]),(Qa M).kept⟩
 · have d0:(c == 0)=false:=by simpa using h0
   go_wp2_with fail
   go_ret
   exact⟨Qy (by simp [h0]),(Qa M).kept⟩
theorem wpAnyIn_inv {F:Fence} {n:Nat} {P:Program} {ops:Array Oper} {Q:Exit→Act→World→Prop} (I:Array Bool→Act→World→Prop) (hs:∀l a w,I l a w→∀j∈Region.ready .any ops l,wpOpIn F n P ops Q j (I (l.setIfInBounds j true)) a w)
   (he:∀l a w,I l a w→Region.ready .any ops l= []→Q .normal a w):∀(fuel:Nat) (l:Array Bool) (a:Act) (w:World),I l a w→(l.toList.filter (fun b=> !b)).length≤fuel→wpAnyIn F n P .any ops Q fuel l a w:=by
 intro fuel
 induction fuel with
 | zero=>
   intro l a w hI hf
   have hr:Region.ready .any ops l= []:=by
     apply List.eq_nil_iff_forall_not_mem.2
     intro j hj
     have:=unlisted_set (mem_ready.1 hj).1
     omega
   exact⟨hr,he l a w hI hr⟩
 | succ fuel ih=>
   intro l a w hI hf
   refine⟨he l a w hI,fun i hi=>wpOpIn_mono (fun a w h=>ih _ a w h ?_) (hs l a w hI i hi)⟩
   have:=unlisted_set (mem_ready.1 hi).1
   omega
theorem wpAnyIn_gx {F:Fence} {m:Nat} {ops:Array Oper} {Q:Exit→Act→World→Prop} {a0:Act} {w0:World} (n:Nat) (hn:ops.size=n) (hok:okX ops=true) (us:List (Option Value)) (hu:us.length=n)
   (hsl:ops.all (fun o=>match o.dst with | none=>true | some t=>decide (t<a0.tmps.size))=true) (J:Array Bool→(Nat→Value)→World→Prop) (hJ0:J (Array.replicate n false) (fun _=>undef) w0)
   (hop:∀(j:Nat) (o:Oper),j<n→ops[j]?=some o→∀a w l vs,l.size=n→l.getD j false=false→J l vs w→(∀t:Nat,ops.toList.all (fun p=>p.dst !=some t||p.after.any (fun e=>Region.binds .any e&&e.on == j))=true→a.eval (.tmp t)=a0.eval (.tmp t))→
     (∀(i t:Nat),o.after.any (fun e=>Region.binds .any e&&e.on == i)=true→ops[i]?.bind (·.dst)=some t→a.eval (.tmp t)=vs i∧told us i (vs i))→(∀i:Nat,o.after.any (fun e=>Region.binds .any e&&e.on == i)=true→l.getD i false=true)→(∀(i:Nat),(match ops[i]? with | none=>false | some p=>reaches ops j 8 p)=true→l.getD i false=false)→
     o.wpIn F m Tryz.prog a w (fun a' w'=>∃v,a'=a.put o.dst v∧told us j v∧J (l.setIfInBounds j true) (fun i=>if i=j then v else vs i) w') Q)
   (hQ:∀l vs w,(∀j,j<n→l.getD j false=true)→J l vs w→(∀j,j<n→told us j (vs j))→Q .normal (QB a0 ops.toList ((List.range n).map vs)) w):
   wpAnyIn F m Tryz.prog .any ops Q n (Array.replicate n false) a0 w0:=by
 subst hn
 have K:=okX_spec hok
 have hsl':∀o∈ops,∀t,o.dst=some t→t<a0.tmps.size:=by
   intro o ho t ht
   have:=(Array.all_eq_true_iff_forall_mem.1 hsl) o ho
   rw [ht] at this
   simpa using this
 let I:Array Bool→Act→World→Prop:=fun l a w=>l.size=ops.size∧a.defers=a0.defers∧a.tmps.size=a0.tmps.size∧(∀t,(∀(i:Nat) (p:Oper),ops[i]?=some p→p.dst=some t→l.getD i false=false)→a.tmps[t]?=a0.tmps[t]?)∧(∀(i:Nat) (p:Oper),ops[i]?=some p→l.getD i false=true→∀e∈p.after,Region.binds .any e=true→l.getD e.on false=true)∧
   ∃vs:Nat→Value,(∀(j:Nat) (o:Oper) (t:Nat),ops[j]?=some o→o.dst=some t→l.getD j false=true→a.tmps[t]?=some (vs j))∧(∀j:Nat,l.getD j false=true→told us j (vs j))∧J l vs w
 have hrep:∀j,(Array.replicate ops.size false).getD j false=false:=by
   intro j
   rw [Array.getD_eq_getD_getElem?,Array.getElem?_replicate]
   split <;> rfl
 refine wpAnyIn_inv I ?_ ?_ ops.size _ a0 w0 ⟨by simp,rfl,rfl,fun _ _=>rfl,(fun i p _ hl=>by rw [hrep] at hl;cases hl),fun _=>undef,(fun j o t ho ht hl=>by rw [hrep] at hl;cases hl),(fun j hl=>by rw [hrep] at hl;cases hl),hJ0⟩ (by simp)
 · rintro l a w ⟨i1,i2,i3,i4,i8,vs,i5,i7,i6⟩ j hj
   obtain⟨hjl,o,ho,hdeps⟩:=mem_ready.1 hj
   have hjs:j<ops.size:=(Array.getElem?_eq_some_iff.1 ho).1
   have hjf:l.getD j false=false:=by
     simp only [Array.getD_eq_getD_getElem?] at hjl⊢
     rw [Array.getElem?_eq_getElem (by omega)] at hjl⊢
     simpa using hjl
   have hdep:∀i:Nat,o.after.any (fun e=>Region.binds .any e&&e.on == i)=true→l.getD i false=true:=by
     intro i hi
     obtain⟨k,hk,hb⟩:=Array.any_eq_true.1 hi
     have he:=Array.getElem_mem hk
     obtain⟨e,hee⟩:∃e,o.after[k]=e:=⟨_,rfl⟩
     rw [hee] at hb he
     simp only [Bool.and_eq_true,beq_iff_eq] at hb
     have:=hdeps e he hb.1
     rwa [hb.2] at this
   have hin:∀(i s:Nat),o.after.any (fun e=>Region.binds .any e&&e.on == i)=true→ops[i]?.bind (·.dst)=some s→a.eval (.tmp s)=vs i∧told us i (vs i):=by
     intro i s hi hs
     cases hq:ops[i]? with
     | none=>rw [hq] at hs;cases hs
     | some p=>
       rw [hq] at hs
       have hv:=i5 i p s hq hs (hdep i hi)
       exact⟨by simp [Act.eval,Array.getD_eq_getD_getElem?,hv],i7 i (hdep i hi)⟩
   have next:∀v w',told us j v→J (l.setIfInBounds j true) (fun i=>if i=j then v else vs i) w'→I (l.setIfInBounds j true) (a.put o.dst v) w':=by
     intro v w' hv hJ
     refine⟨by simp [i1],by rw [put_defers];exact i2,by rw [put_size];exact i3,?_,?_,_,?_,?_,hJ⟩
     · intro s hs
       have hns:o.dst≠some s:=by
         intro e
         have:=hs j o ho e
         rw [Zk (by omega),if_pos rfl] at this
         cases this
       rw [Za _ _ _ _ hns]
       refine i4 s fun i p hp hd=> ?_
       have:=hs i p hp hd
       rw [Zk (by omega)] at this
       split at this
       · cases this
       · exact this
     · intro i p hp hl e he hb
       rw [Zk (by omega)] at hl⊢
       by_cases hij:i=j
       · subst hij
         rw [ho] at hp;cases hp
         rw [hdeps e he hb]
         split <;> rfl
       · rw [if_neg hij] at hl
         rw [i8 i p hp hl e he hb]
         split <;> rfl
     · intro i p s hp hs hl
       rw [Zk (by omega)] at hl
       by_cases hij:i=j
       · subst hij
         rw [ho] at hp;cases hp
         simp only [if_true]
         rw [hs]
         exact ZL _ _ _ (by rw [i3];exact hsl' o (Array.mem_of_getElem? ho) s hs)
       · rw [if_neg hij] at hl
         simp only [if_neg hij]
         rw [Za _ _ _ _ (by
           rcases Nat.lt_or_gt_of_ne hij with h | h
           · exact K.apart i j p o s h hp ho hs
           · exact fun e=>K.apart j i o p s h ho hp e hs)]
         exact i5 i p s hp hs hl
     · intro i hl
       rw [Zk (by omega)] at hl
       by_cases hij:i=j
       · subst hij
         simp only [if_true]
         exact hv
       · rw [if_neg hij] at hl
         simp only [if_neg hij]
         exact i7 i hl
   unfold wpOpIn
   rw [ho]
   simp only
   have hout:∀s:Nat,ops.toList.all (fun p=>p.dst !=some s||p.after.any (fun e=>Region.binds .any e&&e.on == j))=true→a.eval (.tmp s)=a0.eval (.tmp s):=by
     intro s hs
     have:=i4 s (fun i p hp e=>by
       have h1:=(List.all_eq_true.1 hs) p (by simpa using Array.mem_of_getElem? hp)
       rw [e] at h1
       simp only [bne_self_eq_false,Bool.false_or] at h1
       obtain⟨q,hq,hb⟩:=Array.any_eq_true.1 h1
       simp only [Bool.and_eq_true,beq_iff_eq] at hb
       cases hli:l.getD i false with
       | false=>rfl
       | true=>
         have:=i8 i p hp hli _ (Array.getElem_mem hq) hb.1
         rw [hb.2,hjf] at this
         cases this)
     simp [Act.eval,Array.getD_eq_getD_getElem?,this]
   have hnot:∀(i:Nat),(match ops[i]? with | none=>false | some p=>reaches ops j 8 p)=true→l.getD i false=false:=by
     intro i hi
     cases hp:ops[i]? with
     | none=>rw [hp] at hi;cases hi
     | some p=>
       rw [hp] at hi
       cases hli:l.getD i false with
       | false=>rfl
       | true=>
         have:=reach_listed i8 8 p (i8 i p hp hli) hi
         rw [hjf] at this
         cases this
   rw [if_pos (by simp [Region.wanted,K.guard j o ho])]
   exact(Oper.wpIn_mono (fun a' w' ⟨v,e,hv,hJ⟩=>by rw [e];exact next v w' hv hJ) (hop j o hjs ho a w l vs i1 hjf i6 hout hin hdep hnot))
 · rintro l a w ⟨i1,i2,i3,i4,i8,vs,i5,i7,i6⟩ hr
   have hall:∀n j,j<n→j<ops.size→l.getD j false=true:=by
     intro n
     induction n with
     | zero=>intro j hj;omega
     | succ n ih=>
       intro j hj hjs
       cases hlj:l.getD j false with
       | true=>rfl
       | false=>
         exfalso
         have hmem:j∈Region.ready .any ops l:=by
           rw [mem_ready]
           refine⟨?_,ops[j],Array.getElem?_eq_getElem hjs,fun e he hb=> ?_⟩
           · simp only [Array.getD_eq_getD_getElem?] at hlj⊢
             rw [Array.getElem?_eq_getElem (by omega)] at hlj⊢
             simpa using hlj
           · have:=K.back j ops[j] (Array.getElem?_eq_getElem hjs) e he hb
             exact ih e.on (by omega) (by omega)
         rw [hr] at hmem
         cases hmem
   have hl:=fun j (hj:j<ops.size)=>hall (j+1) j (by omega) hj
   have ha:a=QB a0 ops.toList ((List.range ops.size).map vs):=by
     have hs:=putAll_size ops.toList ((List.range ops.size).map vs) a0
     have hdst:∀(i j:Nat) (p q:Oper) (t:Nat),ops.toList[i]?=some p→ops.toList[j]?=some q→i≠j→p.dst=some t→q.dst≠some t:=by
       intro i j p q t hp hq hij
       rw [Array.getElem?_toList] at hp hq
       rcases Nat.lt_or_gt_of_ne hij with h | h
       · exact K.apart i j p q t h hp hq
       · exact fun e1 e2=>K.apart j i q p t h hq hp e2 e1
     have ht:a.tmps=(QB a0 ops.toList ((List.range ops.size).map vs)).tmps:=by
       apply Array.ext_getElem?
       intro t
       by_cases hx:∃(j:Nat) (o:Oper),ops[j]?=some o∧o.dst=some t
       · obtain⟨j,o,ho,hd⟩:=hx
         have hjs:j<ops.size:=(Array.getElem?_eq_some_iff.1 ho).1
         have hv:=i5 j o t ho hd (hl j hjs)
         have hvv:((List.range ops.size).map vs)[j]?=some (vs j):=by simp [hjs]
         rw [hv,putAll_sameW ops.toList ((List.range ops.size).map vs) a0 j o (vs j) t (by rw [Array.getElem?_toList];exact ho) hvv hd (hsl' o (Array.mem_of_getElem? ho) t hd) hdst]
       · have hno:∀p∈ops.toList,p.dst≠some t:=by
           intro p hp e
           obtain⟨j,hj⟩:=List.mem_iff_getElem?.1 hp
           exact hx ⟨j,p,by rw [← Array.getElem?_toList];exact hj,e⟩
         rw [i4 t (fun i p hp e=>absurd e (hno p (by simpa using Array.mem_of_getElem? hp))),Zi ops.toList ((List.range ops.size).map vs) a0 t hno]
     cases a
     simp only at ht i2
     cases hp:QB a0 ops.toList ((List.range ops.size).map vs) with
     | mk tm df=>
       rw [hp] at ht hs
       simp only at ht hs
       rw [ht,i2,hs.2]
   rw [ha]
   exact hQ l vs w hl i6 fun j hj=>i7 j (hl j hj)
theorem o_yield {l lp m k:Nat} {o:Oper} {a:Act} {w:World} {K:Act→World→Prop} {Q:Exit→Act→World→Prop} (t:Nat) (args:Array Operand) (ts:Array TypeId) (ho:o.op= .call { callee:= .value (.tmp t),args:=args,argTypes:=ts }) (hf:a.eval (.tmp t)= .func (.yield lp) #[] #[]) (vs:Array Value) (hv:args.map a.eval=vs)
   {R:Ending→World→Prop} (hy:YieldAt Fence.wide m Tryz.prog lp vs w R) (hK:∀e w',R e w'→∃v,e= .returned v∧K (a.put o.dst v) w'):o.wpIn (Fence.wide.inRound l) k Tryz.prog a w K Q:=by
 obtain⟨fn,tmps,assign,body,hr,hR⟩:=hy
 subst hv
 refine⟨fun f _=>trivial,?_⟩
 rw [Fence.inRound_round,Oper.semAt_some l _ o (fun c e=>by rw [ho] at e;cases e)]
 unfold execOp
 simp only [ho,resolve,hf]
 simp [invoke,go_sem,hr]
 refine⟨?_,hR.1,fun c cs _=> ?_⟩
 · intro h;simp [Fence.wide] at h
 · obtain⟨e,w',hre,hs⟩:=hR.2 c cs (room_wide _)
   obtain⟨v,rfl,hk⟩:=hK e w' hre
   exact⟨.returned v,w',hk,hs⟩
end Go.Proofs.YtcfflbafclmheaaGreatDoor
