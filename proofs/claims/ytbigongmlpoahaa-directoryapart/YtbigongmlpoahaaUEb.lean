import Derived.Test.YtbigongmlpoahaaUEa
namespace Go.Proofs.Ytbigongmlpoahaa.D
set_option maxRecDepth 100000
set_option linter.unusedSimpArgs false
open Go.RowKit Go.Shelf
section
variable {o:Oper} {a:Act} {w:World} {K:Act→World→Prop} {Q:Exit→Act→World→Prop}
theorem o_fld31_1 (x:Operand) (ho:o.op= .fieldAddr 31 x 1) (b i:Nat) (hx:a.eval x= .pointer (some ⟨b,i,none⟩)) (h:K (a.put o.dst (.pointer (some ⟨b,i+1,none⟩))) w):o.wp Try.prog a w K Q:=by
 unfold Oper.wp execOp
 simp only [ho,hx]
 simp [go_sem]
 exact h
theorem o_fld31_2 (x:Operand) (ho:o.op= .fieldAddr 31 x 2) (b i:Nat) (hx:a.eval x= .pointer (some ⟨b,i,none⟩)) (h:K (a.put o.dst (.pointer (some ⟨b,i+2,none⟩))) w):o.wp Try.prog a w K Q:=by
 unfold Oper.wp execOp
 simp only [ho,hx]
 simp [go_sem]
 exact h
theorem o_fld31_3 (x:Operand) (ho:o.op= .fieldAddr 31 x 3) (b i:Nat) (hx:a.eval x= .pointer (some ⟨b,i,none⟩)) (h:K (a.put o.dst (.pointer (some ⟨b,i+3,none⟩))) w):o.wp Try.prog a w K Q:=by
 unfold Oper.wp execOp
 simp only [ho,hx]
 simp [go_sem]
 exact h
theorem o_fld31_5 (x:Operand) (ho:o.op= .fieldAddr 31 x 5) (b i:Nat) (hx:a.eval x= .pointer (some ⟨b,i,none⟩)) (h:K (a.put o.dst (.pointer (some ⟨b,i+5,none⟩))) w):o.wp Try.prog a w K Q:=by
 unfold Oper.wp execOp
 simp only [ho,hx]
 simp [go_sem]
 exact h
theorem o_fld46_0 (x:Operand) (ho:o.op= .fieldAddr 46 x 0) (b i:Nat) (hx:a.eval x= .pointer (some ⟨b,i,none⟩)) (h:K (a.put o.dst (.pointer (some ⟨b,i,none⟩))) w):o.wp Try.prog a w K Q:=by
 unfold Oper.wp execOp
 simp only [ho,hx]
 simp [go_sem]
 exact h
theorem o_fld46_1 (x:Operand) (ho:o.op= .fieldAddr 46 x 1) (b i:Nat) (hx:a.eval x= .pointer (some ⟨b,i,none⟩)) (h:K (a.put o.dst (.pointer (some ⟨b,i+1,none⟩))) w):o.wp Try.prog a w K Q:=by
 unfold Oper.wp execOp
 simp only [ho,hx]
 simp [go_sem]
 exact h
theorem o_fld76_0 (x:Operand) (ho:o.op= .fieldAddr 76 x 0) (b i:Nat) (hx:a.eval x= .pointer (some ⟨b,i,none⟩)) (h:K (a.put o.dst (.pointer (some ⟨b,i,none⟩))) w):o.wp Try.prog a w K Q:=by
 unfold Oper.wp execOp
 simp only [ho,hx]
 simp [go_sem]
 exact h
theorem o_fld76_1 (x:Operand) (ho:o.op= .fieldAddr 76 x 1) (b i:Nat) (hx:a.eval x= .pointer (some ⟨b,i,none⟩)) (h:K (a.put o.dst (.pointer (some ⟨b,i+1,none⟩))) w):o.wp Try.prog a w K Q:=by
 unfold Oper.wp execOp
 simp only [ho,hx]
 simp [go_sem]
 exact h
theorem o_load43 (x:Operand) (ho:o.op= .load 43 x) (p:Addr) (v:Value) (hx:a.eval x= .pointer (some p)) (hc:w.cell? p=some v) (h:K (a.put o.dst v) w):o.wp Try.prog a w K Q:=by
 unfold Oper.wp execOp
 simp only [ho,hx]
 simp [go_sem,hc]
 exact h
theorem o_idx44 (x y:Operand) (ho:o.op= .indexAddr 44 x y) (b i n:Nat) (hn:n<16) (hx:a.eval x= .pointer (some ⟨b,i,none⟩)) (hy:a.eval y= .int .i64 n) (h:K (a.put o.dst (.pointer (some ⟨b,i+n,none⟩))) w):o.wp Try.prog a w K Q:=by
 have hI:(n:Int)<16:=by omega
 unfold Oper.wp execOp
 simp only [ho,hx,hy]
 simp [go_sem,hI]
 exact h
theorem o_idx57 (x y:Operand) (ho:o.op= .indexAddr 57 x y) (g off n c j:Nat) (hj:j<n) (hx:a.eval x= .slice (some ⟨g,off,none⟩) n c) (hy:a.eval y= .int .i64 j) (h:K (a.put o.dst (.pointer (some ⟨g,off+j*7,none⟩))) w):o.wp Try.prog a w K Q:=by
 unfold Oper.wp execOp
 simp only [ho,hx,hy]
 simp [go_sem,hj]
 exact h
theorem o_ext0 (x:Operand) (ho:o.op= .extract x 0) (u v:Value) (hx:a.eval x= .tuple #[u,v]) (h:K (a.put o.dst u) w):o.wp Try.prog a w K Q:=by
 unfold Oper.wp execOp
 simp only [ho,hx]
 simp [go_sem]
 exact h
theorem o_ext1 (x:Operand) (ho:o.op= .extract x 1) (u v:Value) (hx:a.eval x= .tuple #[u,v]) (h:K (a.put o.dst v) w):o.wp Try.prog a w K Q:=by
 unfold Oper.wp execOp
 simp only [ho,hx]
 simp [go_sem]
 exact h
end
def opD (x:Se) (s:Lo):Int:=if x.o= -1 then (if 5≤x.k∧isN x.n=true then s.ops x.n.toNat else s.op) else x.o
def doP (x:Se) (s:Lo) (q:List Wi):Lo×List Wi×List Od:=
 if x.k=1 then wantP s q x.n x.m else if x.k=2 then askI s q x.n 3 else if x.k=3 then goneP s q x.n (opD x s) else if x.k=4 then gotP s q x.n (opD x s) else if x.k=5 then relP s q x.n (opD x s) else if x.k=6 then wroteP s q x.n (opD x s) x.p else (s,q,[])
def Nx (x:Se) (w W:World) (P P':List Pr):Prop:=
 (P'=P∧Kept [] w W∧∀y,prOf x.g P=some y→(doP x y.x.s y.x.q)=(y.x.s,y.x.q,[]))
 ∨∃y ln rl,prOf x.g P=some y∧P'=setPr x.g ln rl (doP x y.x.s y.x.q) P∧Kept ((y.x.p::spare y.x.ln)++(y.rp::spare y.rl)) w W∧Grw w y.x.ln ln∧Grw w y.rl rl
theorem Nx.step {x:Se} {w W W':World} {P P':List Pr} (h:Nx x w W P P') (hk:Kept [] W W'):Nx x w W' P P':=by
 rcases h with ⟨h1,h2,h3⟩ | ⟨y,ln,rl,h1,h2,h3,h4,h5⟩
 · exact .inl ⟨h1,h2.trans hk,h3⟩
 · exact .inr ⟨y,ln,rl,h1,h2,h3.trans (hk.mono (by simp)),h4,h5⟩
theorem doP_len (x:Se) (s:Lo) (q:List Wi) (A:Nat) (hq:q.length≤A) (hA:A≤700):(doP x s q).2.2.length≤1000000000:=by
 unfold doP
 split
 · have:=wantLen s q x.n x.m;omega
 split
 · have:=askILen s q x.n 3;omega
 split
 · have:=goneLen s q x.n (opD x s);omega
 split
 · have:=gotLen s q x.n (opD x s);omega
 split
 · have:=relLen s q x.n (opD x s);omega
 split
 · have:=wroteLen s q x.n (opD x s) x.p;omega
 · simp
@[reducible] def Dn (A:Nat) (x:Se) (w:World) (wb b mb:Nat) (P:List Pr) (e:Ending) (W:World):Prop:=e= .returned (.bool true)∧∃P',Wd (A+1) W wb b mb P'∧Nx x w W P P'
def hv:Nat→Value→Value
 | 1,.tuple vs=>vs[0]?.getD undef
 | 2,.tuple vs=>vs[1]?.getD undef
 | _,v=>v
structure SX (w:World) (R:Value→World→Prop) (kc:Nat) (H:List (Nat×Nat)) (d:Nat→Bool) (vs:Nat→Value) (W:World):Prop where
 n1:d kc=false→Kept [] w W
 n2:d kc=true→R (vs kc) W
 a:∀x∈H,d x.1=true→d kc=true∧vs x.1=hv x.2 (vs kc)
theorem SX.loc {w:World} {R:Value→World→Prop} {kc:Nat} {H:List (Nat×Nat)} :∀d d' vs vs' W,(∀i∈kc::H.map Prod.fst,d i=d' i∧vs i=vs' i)→SX w R kc H d vs W→SX w R kc H d' vs' W:=by
 intro d d' vs vs' W E h
 obtain⟨a1,c1⟩:=E kc (by simp)
 refine⟨by rw [← a1];exact h.n1,by rw [← a1,← c1];exact h.n2,fun x hx=> ?_⟩
 obtain⟨a2,c2⟩:=E x.1 (List.mem_cons_of_mem _ (List.mem_map.2 ⟨x,hx,rfl⟩))
 rw [← a1,← c1,← a2,← c2]
 exact h.a x hx
theorem SX.call {w:World} {R:Value→World→Prop} {kc:Nat} {H:List (Nat×Nat)} {d:Nat→Bool} {vs:Nat→Value} {W W':World} {v:Value} (_:SX w R kc H d vs W) (hn:∀x∈H,x.1≠kc∧d x.1=false) (hR:R v W'):SX w R kc H (fun i=>if i=kc then true else d i) (fun i=>if i=kc then v else vs i) W':=
 ⟨fun e=>by simp at e,fun _=>by simpa using hR,fun x hx e=>by
   obtain⟨h1,h2⟩:=hn x hx
   simp [h1,h2] at e⟩
theorem SX.as {w:World} {R:Value→World→Prop} {kc:Nat} {H:List (Nat×Nat)} {d:Nat→Bool} {vs:Nat→Value} {W:World} (h:SX w R kc H d vs W) (k c:Nat) (hk:k≠kc) (hH:∀x∈H,x.1=k→x.2=c) (h1:d kc=true) {u:Value} (hu:u=hv c (vs kc)):SX w R kc H (fun i=>if i=k then true else d i) (fun i=>if i=k then u else vs i) W:=by
 subst hu
 have hk2:¬kc=k:=fun e=>hk e.symm
 refine⟨fun e=> ?_,fun e=> ?_,fun x hx e=> ?_⟩
 · simp only [if_neg hk2] at e;exact h.n1 e
 · simp only [if_neg hk2];exact h.n2 h1
 · simp only [if_neg hk2]
   by_cases e9:x.1=k
   · simp only [e9,if_true]
     rw [hH x hx e9]
     exact⟨h1,rfl⟩
   · simp only [if_neg e9] at e⊢
     exact h.a x hx e
@[reducible] def SX5 (w:World) (R:Value→World→Prop) (kc k1 k2 k3 k4 k5:Nat) (d:Nat→Bool) (vs:Nat→Value) (W:World):Prop:=SX w R kc [(k1,0),(k2,1),(k3,2),(k4,1),(k5,2)] d vs W
theorem SX5.loc {w:World} {R:Value→World→Prop} {kc k1 k2 k3 k4 k5:Nat} :∀d d' vs vs' W,(∀i∈ [kc,k1,k2,k3,k4,k5],d i=d' i∧vs i=vs' i)→SX5 w R kc k1 k2 k3 k4 k5 d vs W→SX5 w R kc k1 k2 k3 k4 k5 d' vs' W:=fun d d' vs vs' W h=>SX.loc (kc:=kc) (H:= [(k1,0),(k2,1),(k3,2),(k4,1),(k5,2)]) d d' vs vs' W h
theorem SX5.call {w:World} {R:Value→World→Prop} {kc k1 k2 k3 k4 k5:Nat} {d:Nat→Bool} {vs:Nat→Value} {W W':World} {v:Value} (h:SX5 w R kc k1 k2 k3 k4 k5 d vs W) (hk:∀k∈ [k1,k2,k3,k4,k5],k≠kc) (f1:d k1=false) (f2:d k2=false) (f3:d k3=false) (f4:d k4=false) (f5:d k5=false) (hR:R v W'):SX5 w R kc k1 k2 k3 k4 k5 (fun i=>if i=kc then true else d i) (fun i=>if i=kc then v else vs i) W':=
 SX.call h (fun x hx=>by
   simp only [List.mem_cons,List.mem_nil_iff,or_false] at hx
   rcases hx with rfl | rfl | rfl | rfl | rfl
   · exact⟨hk _ (by simp),f1⟩
   · exact⟨hk _ (by simp),f2⟩
   · exact⟨hk _ (by simp),f3⟩
   · exact⟨hk _ (by simp),f4⟩
   · exact⟨hk _ (by simp),f5⟩) hR
section
variable {w:World} {R:Value→World→Prop} {kc k1 k2 k3 k4 k5:Nat} {vs:Nat→Value} {W:World}
theorem kp5 {us:List (Option Value)} {a:Act} {t:Option Nat} {l:Array Bool} {j:Nat} {v:Value} (hJ:SX5 w R kc k1 k2 k3 k4 k5 (fun i=>l.getD i false) vs W) (hu:us[j]?=some (some v)) (hl:j<l.size) (hj:([kc,k1,k2,k3,k4,k5].all fun i=>i !=j)=true):∃u,a.put t v=a.put t u∧told us j u∧SX5 w R kc k1 k2 k3 k4 k5 (fun i=>(l.setIfInBounds j true).getD i false) (fun i=>if i=j then u else vs i) W:=
 ⟨v,rfl,told_of hu,keepG [kc,k1,k2,k3,k4,k5] SX5.loc hl hj hJ⟩
theorem SX5.a5 {d:Nat→Bool} {c:Nat} (h:SX5 w R kc k1 k2 k3 k4 k5 d vs W) (k:Nat) (hd:k≠kc∧∀x∈ [(k1,0),(k2,1),(k3,2),(k4,1),(k5,2)],x.1=k→x.2=c) (h1:d kc=true) {u:Value} (hu:u=hv c (vs kc)):SX5 w R kc k1 k2 k3 k4 k5 (fun i=>if i=k then true else d i) (fun i=>if i=k then u else vs i) W:=SX.as h k c hd.1 hd.2 h1 hu
theorem nx5 {us:List (Option Value)} {a:Act} {t:Option Nat} {l:Array Bool} {j c:Nat} {v:Value} (hJ:SX5 w R kc k1 k2 k3 k4 k5 (fun i=>l.getD i false) vs W) (hu:us[j]?=some none) (hl:j<l.size) (hd:j≠kc∧∀x∈ [(k1,0),(k2,1),(k3,2),(k4,1),(k5,2)],x.1=j→x.2=c) (h1:l.getD kc false=true) (hv9:v=hv c (vs kc)):∃u,a.put t v=a.put t u∧told us j u∧SX5 w R kc k1 k2 k3 k4 k5 (fun i=>(l.setIfInBounds j true).getD i false) (fun i=>if i=j then u else vs i) W:=
 ⟨v,rfl,told_no hu,nextG hl (SX5.a5 hJ j hd h1 hv9)⟩
end
theorem cg15 (vs:Array Value) (w:World):(callFunc 15 vs).run Try.prog w= .ok (.enter 15 vs) w:=by kernel_rfl
theorem cg16 (vs:Array Value) (w:World):(callFunc 16 vs).run Try.prog w= .ok (.enter 16 vs) w:=by kernel_rfl
theorem cg17 (vs:Array Value) (w:World):(callFunc 17 vs).run Try.prog w= .ok (.enter 17 vs) w:=by kernel_rfl
theorem cg18 (vs:Array Value) (w:World):(callFunc 18 vs).run Try.prog w= .ok (.enter 18 vs) w:=by kernel_rfl
theorem cg19 (vs:Array Value) (w:World):(callFunc 19 vs).run Try.prog w= .ok (.enter 19 vs) w:=by kernel_rfl
theorem cg20 (vs:Array Value) (w:World):(callFunc 20 vs).run Try.prog w= .ok (.enter 20 vs) w:=by kernel_rfl
theorem ret2_inj {a b c d:Value} (h:Ending.returned (.tuple #[a,b])=Ending.returned (.tuple #[c,d])):a=c∧b=d:=by
 cases h
 exact⟨rfl,rfl⟩
theorem eqOd74 (w:World) (x:Od):(Op.equal 74 (aggV x.C) (aggV x.C)).run Try.prog w= .ok true w:=by have h9:=eqO65 w x x;rw [decide_eq_true rfl] at h9;exact h9
theorem poC_at {n:Int} {O:List Od} {j:Nat} {o:Od} (h:O[j]?=some o) (i:Nat) (hi:i<7):(poC n O)[j*7+i]?=(poC1 n o)[i]?:=by
 obtain⟨hj,rfl⟩:=List.getElem?_eq_some_iff.1 h
 have he:O=O.take j++ [O[j]]++O.drop (j+1):=by simp
 have hl:∀X:List Od,(poC n X).length=X.length*7:=by
   intro X
   induction X with
   | nil=>rfl
   | cons y X ih=>show ((poC1 n y)++poC n X).length=_;rw [List.length_append,ih];simp [poC1,Od.C];omega
 have hl1:(poC n (O.take j)).length=j*7:=by rw [hl,List.length_take];omega
 conv=>lhs;rw [he]
 rw [poC_app,poC_app,List.append_assoc,List.getElem?_append_right (by omega),hl1,Nat.add_sub_cancel_left,List.getElem?_append_left (by rw [poC_sing];simp [poC1,Od.C];omega),poC_sing]
theorem Po.get {W:World} {v:Value} {n:Int} {O:List Od} (h:Rw W 76 7 v O.length (poC n O)) {j:Nat} {o:Od} (hj:O[j]?=some o):∃g off c,v= .slice (some ⟨g,off,none⟩) O.length c∧W.cell? ⟨g,off+j*7,none⟩=some (.int .i64 n)∧W.rangeAt g (off+j*7+1) o.C:=by
 obtain⟨g,off,c,rfl,hc⟩:=Rw.at h (List.getElem?_eq_some_iff.1 hj).1
 refine⟨g,off,c,rfl,?_,fun i u hu=> ?_⟩
 · have:=hc 0 (.int .i64 n) (by rw [poC_at hj 0 (by decide)];rfl)
   simpa using this
 · have hi:i<6:=(List.getElem?_eq_some_iff.1 hu).1
   have:=hc (1+i) u (by rw [poC_at hj (1+i) (by omega),Nat.add_comm];exact hu)
   rw [← Nat.add_assoc] at this
   exact this
section
variable {A:Nat} {w w0 W1 W2:World} {wb b mb gn:Nat} {P:List Pr} {y:Pr} {x:Se} {r:Lo×List Wi×List Od} {f:Lo→List Wi→Lo×List Wi×List Od} {u9 i9 ln rl:Value}
theorem Wd.ask (h:Wd A w wb b mb P) (hA:A≤700) (hp:prOf (gn:Int) P=some y) (hg:(gn:Int)<16) (ha:AskR A w b mb (P.map Pr.x) (gn:Int) f (.returned (.tuple #[u9,i9])) W1):i9= .int .i64 0∧∃ln,Rw W1 76 7 u9 (f y.x.s y.x.q).2.2.length (poC gn (f y.x.s y.x.q).2.2)∧Dg (A+1) W1 b mb (setLk gn ln (f y.x.s y.x.q) (P.map Pr.x))∧Kept (y.x.p::spare y.x.ln) w W1∧Grw w y.x.ln ln∧Rs W1 y.rp y.rl y.x.s.abs y.x.q:=by
 have hym:=(prOf_some hp).1
 have hl:=h.dg.lk y.x (h.mem hym)
 have hrs:=h.rs hA hym
 rcases ha with ⟨h9,_⟩ | ⟨_,h9,_⟩ | ⟨x9,ln,v,h1,h2,h3,h4,h5,h6⟩
 · rw [show isP (gn:Int)=true by simp [isP];omega] at h9;cases h9
 · rw [prOf_lk,hp] at h9;cases h9
 · rw [prOf_lk,hp] at h1
   obtain rfl:y.x=x9:=by simpa using h1
   obtain⟨e1,e2⟩:=ret2_inj h2
   subst e1
   exact⟨e2,ln,h3.row,h4,h5,h6,⟨hrs.blk.kept h5 (off_cells hl.blk hl.row hrs.blk (by decide) (by decide)),hrs.row.kept h5 (fun i hi=>off_row hl.blk hrs.row hi (by decide) (fun j hj e=>h.ax y hym y hym j hj e)),hrs.ok,hrs.all,hrs.op0,hrs.op1,hrs.len⟩⟩
theorem Wd.fin (h:Wd A w wb b mb P) (hk0:Kept [] w0 w) (hp:prOf (gn:Int) P=some y) (hx:x.g=gn) (hdp:doP x y.x.s y.x.q=r) (hv:Rw W1 76 7 u9 r.2.2.length (poC gn r.2.2)) (hD:Dg (A+1) W1 b mb (setLk gn ln r (P.map Pr.x))) (hk1:Kept (y.x.p::spare y.x.ln) w W1) (hg1:Grw w y.x.ln ln) (hrs:Rs W1 y.rp y.rl y.x.s.abs y.x.q)
   (hB:Blk W2 y.rp 80 (r.1.abs.C rl)) (hW:Ws W2 rl r.2.1) (hk2:Kept (y.rp::spare y.rl) W1 W2) (hg2:Grw W1 y.rl rl) (hj:Jv r.1):Wd (A+1) W2 wb b mb (setPr gn ln rl r P)∧Nx x w0 W2 P (setPr gn ln rl r P)∧Rw W2 76 7 u9 r.2.2.length (poC gn r.2.2):=by
 have hym:=(prOf_some hp).1
 have hyk:=(prOf_some hp).2
 have hsz:=hk0.size
 have h9:=h.both hym (by rw [hyk];exact hD) hk1 hg1 hB hW hk2 hg2 hj
 rw [hyk] at h9
 refine⟨h9,.inr ⟨y,ln,rl,by rw [hx];exact hp,by rw [hx,hdp],?_,hg1.elder hsz,hg2.elder (Nat.le_trans hsz hk1.size)⟩,hv.kept hk2 (fun i hi=>off_row hrs.blk hv hi (by decide) (fun j hj2 e=> ?_))⟩
 · exact((hk0.mono (by simp)).trans (hk1.mono (fun i hi=>List.mem_append_left _ hi))).trans (hk2.mono (fun i hi=>List.mem_append_right _ hi))
 · obtain⟨cs,hc⟩:=hrs.row.block j hj2
   obtain⟨cs',hc'⟩:=hv.block j e
   rw [hc'] at hc
   cases hc
end
end Go.Proofs.Ytbigongmlpoahaa.D
