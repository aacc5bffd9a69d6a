import Derived.Test.YtbigongmlpoahaaUDt
namespace Go.Proofs.Ytbigongmlpoahaa.D
set_option maxHeartbeats 16000000
set_option maxRecDepth 100000
set_option linter.unusedSimpArgs false
open Go.RowKit Go.Shelf
attribute [local go_sem] Oper.semAt_some
section
variable {op:Oper} {ops:Array Oper} {rest:List Oper} {a:Act} {w:World} {Q:Exit→Act→World→Prop}
theorem bs22 (w:World) (x y:Int):(Instr.buildSlice 22 2 #[(0,.int .i64 x),(1,.int .i64 y)]).run Try.prog w= .ok (.slice (some ⟨w.heap.size,0,none⟩) 2 2) (w.alloc (.cells #[.int .i64 x,.int .i64 y] 3)):=by kernel_rfl
theorem wpBs22 (hgd:op.guard=none) (x y:Operand) (ho:op.op= .buildSlice 22 2 #[(0,x),(1,y)]) (m n:Int) (hx:a.eval x= .int .i64 m) (hy:a.eval y= .int .i64 n) (h:∀W g,g=w.heap.size→Blk W g 3 (inC [m,n])→Kept [] w W→wpList Try.prog ops Q rest (a.put op.dst (.slice (some ⟨g,0,none⟩) 2 2)) W):wpList Try.prog ops Q (op::rest) a w:=
 wpList_plain hgd fun _ hK=>by
   unfold Oper.wp execOp
   simp only [ho,List.map_toArray,List.map_cons,List.map_nil,hx,hy,Sem.run_bind,bs22,Result.andThen_ok]
   exact hK _ _ (h _ _ rfl (Blk.new _ _ _) ((Kept.refl _ _).alloc _))
end
theorem two_of {α:Type} :∀ {L:List α},L.length=2→∃x y,L= [x,y]
 | [x,y],_=>⟨x,y,rfl⟩
theorem Is.two {w:World} {g:Nat} {m n:Int} (h:Blk w g 3 (inC [m,n])):Is w (.slice (some ⟨g,0,none⟩) 2 2) [m,n]:=Rw.made (n:=2) (z:=1) h rfl (by unfold maxLen;omega)
theorem Is.one {w:World} {g:Nat} {m:Int} (h:Blk w g 3 (inC [m])):Is w (.slice (some ⟨g,0,none⟩) 1 1) [m]:=Rw.made (n:=1) (z:=1) h rfl (by unfold maxLen;omega)
theorem row76:Row 76 7:=⟨_,Try.underlying76,rfl,by kernel_rfl⟩
theorem guard76:Try.prog.eqGuardType Try.prog.depth 76=false:=by kernel_rfl
def od1:Od:=⟨1,0,1,1,0,0⟩
theorem eq76 (w:World):(Op.equal 76 (aggV (poC1 1 od1)) (aggV (poC1 1 od1))).run Try.prog w= .ok true w:=by kernel_rfl
def ks1:Lo:=(wantP lo0 [] 0 1).1
def ks2:Lo:=(gotP ks1 [] 0 1).1
def ks3:Lo:=(relP ks2 [] 0 1).1
theorem kw1:wantP lo0 [] 0 1=(ks1,[],[od1]):=Prod.ext rfl (Prod.ext (by decide) (by decide))
theorem kw2:gotP ks1 [] 0 1=(ks2,[],[]):=Prod.ext rfl (Prod.ext (by decide) (by decide))
theorem kw3:relP ks2 [] 0 1=(ks3,[],[]):=Prod.ext rfl (Prod.ext (by decide) (by decide))
theorem kh2:holdsP ks2 0=(1,true):=by decide
theorem kh0:(holdsP lo0 0).2=false:=by decide
theorem kb3:(ks3.book []).sh= []∧(ks3.book []).op=1∧ks3.busy=false:=⟨by decide,by decide,by decide⟩
@[reducible] def kL (p:Nat) (ln:Value) (s:Lo) (q:List Wi) (p4:Nat):List Lk:= [⟨1,p,ln,s,q⟩,Lk.new 4 p4]
structure Kn (w W:World) (A b mb p:Nat) (ln:Value) (s:Lo) (q:List Wi) (p4:Nat):Prop where
 dg:Dg A W b mb (kL p ln s q p4)
 k:Kept [] w W
 g1:w.heap.size≤p
 g2:∀i,ln.ownBlock=some i→w.heap.size≤i
variable {w W W':World} {A b mb p p4:Nat} {ln:Value} {s s':Lo} {q q':List Wi} {O:List Od} {r:Lo→List Wi→Lo×List Wi×List Od} {e:Ending}
theorem Kn.step0 (h:Kn w W A b mb p ln s q p4) (hk:Kept [] W W'):Kn w W' A b mb p ln s q p4:=⟨h.dg.step0 hk,h.k.trans hk,h.g1,h.g2⟩
theorem Kn.ask (h:Kn w W A b mb p ln s q p4) (hr:AskR A W b mb (kL p ln s q p4) 1 r e W') (hs:r s q=(s',q',O)):∃ln' v,e= .returned (.tuple #[v,.int .i64 0])∧New W W' 76 7 v O.length (poC 1 O)∧Kn w W' (A+1) b mb p ln' s' q' p4∧Kept (p::spare ln) W W':=by
 rcases hr with ⟨h1,_⟩ | ⟨_,h1,_⟩ | ⟨x,ln',v,h1,h2,h3,h4,h5,h6⟩
 · cases h1
 · cases h1
 · have hx:lkOf 1 (kL p ln s q p4)=some ⟨1,p,ln,s,q⟩:=rfl
   rw [hx] at h1
   cases h1
   rw [hs] at h3 h4
   have hS:setLk 1 ln' (s',q',O) (kL p ln s q p4)=kL p ln' s' q' p4:=rfl
   rw [hS] at h4
   refine⟨ln',v,h2,h3,⟨h4,h.k.fresh h5 (fun i hi hl=> ?_),h.g1,fun i hi=> ?_⟩,h5⟩
   · rcases List.mem_cons.1 hi with rfl | hi
     · have:=h.g1;omega
     · have:=h.g2 i (spare_own hi);omega
   · rcases h6.own i hi with h7 | h7
     · exact h.g2 i h7
     · have:=h.k.size;omega
theorem Kn.no2 (h:Kn w W A b mb p ln s q p4) (hr:AskR A W b mb (kL p ln s q p4) 2 r e W'):e= .returned (.tuple #[.slice none 0 0,.int .i64 6])∧Kn w W' A b mb p ln s q p4∧Kept [] W W':=by
 rcases hr with ⟨h1,_⟩ | ⟨_,_,h2,h3⟩ | ⟨x,ln',v,h1,_⟩
 · cases h1
 · exact⟨h2,h.step0 h3,h3⟩
 · have hx:lkOf 2 (kL p ln s q p4)=none:=rfl
   rw [hx] at h1
   cases h1
theorem Kn.no16 (h:Kn w W A b mb p ln s q p4) (hr:AskR A W b mb (kL p ln s q p4) 16 r e W'):e= .returned (.tuple #[.slice none 0 0,.int .i64 2])∧Kn w W' A b mb p ln s q p4∧Kept [] W W':=by
 rcases hr with ⟨_,h2,h3⟩ | ⟨h1,_⟩ | ⟨x,ln',v,h1,_⟩
 · exact⟨h2,h.step0 h3,h3⟩
 · cases h1
 · have hx:lkOf 16 (kL p ln s q p4)=none:=rfl
   rw [hx] at h1
   cases h1
theorem Kn.off {g o c n:Nat} {xs:List Value} (h:Kn w W A b mb p ln s q p4) (hv:Rw W 76 7 (.slice (some ⟨g,o,none⟩) n c) n xs):g∉p::spare ln:=by
 obtain⟨cs,hc⟩:=hv.block g rfl
 have hl:=h.dg.lk ⟨1,p,ln,s,q⟩ (List.mem_cons_self ..)
 intro hm
 rcases List.mem_cons.1 hm with rfl | hm
 · have h1:W.heap[g]?=some (.cells _ 108 (0,0)):=hl.blk
   rw [h1] at hc
   cases hc
 · obtain⟨cs',hc'⟩:=hl.row.block g (spare_own hm)
   rw [hc'] at hc
   cases hc
theorem kheld {mb' k:Nat} {C:List Lk} (h:Cp w W A mb' (kL p ln ks2 q p4) k C) (hk:k=2):heldL 0 C= [(1,1)]:=by
 subst hk
 have h1:=h.ks
 have h2:((rise (kL p ln ks2 q p4)).take 2).map Lk.k= [1,4]:=rfl
 rw [h2] at h1
 have hl:=h.lk
 clear h
 obtain⟨x,y,rfl⟩:∃x y,C= [x,y]:=by
   have h3:=congrArg List.length h1
   simp at h3
   exact two_of h3
 simp only [List.map_cons,List.map_nil,List.cons.injEq,and_true] at h1
 obtain⟨hx,hy⟩:=h1
 obtain⟨_,_,x1,m1,e1,e2,_⟩:=hl x (by simp)
 obtain⟨_,_,y1,m2,e3,e4,_⟩:=hl y (by simp)
 have sx:x.s=ks2:=by
   simp only [List.mem_cons,List.mem_nil_iff,or_false] at m1
   rcases m1 with rfl | rfl
   · exact e2
   · rw [hx] at e1;cases e1
 have sy:y.s=lo0:=by
   simp only [List.mem_cons,List.mem_nil_iff,or_false] at m2
   rcases m2 with rfl | rfl
   · rw [hy] at e3;cases e3
   · exact e4
 obtain⟨kx,px,lx,sx',qx⟩:=x
 obtain⟨ky,py,ly,sy',qy⟩:=y
 simp only at hx hy sx sy
 subst hx hy sx sy
 show List.filterMap (tellM 0) [⟨1,px,lx,ks2,qx⟩,⟨4,py,ly,lo0,qy⟩]=_
 simp [tellM,kh2,kh0]
theorem poRow {v:Value} {xs:List Value} (h:New w W 76 7 v 1 xs):∃g off c,v= .slice (some ⟨g,off,none⟩) 1 c∧W.rangeAt g off xs:=by
 obtain⟨g,off,c,rfl,hc⟩:=Rw.at h.row (i:=0) (by omega)
 refine⟨g,off,c,rfl,fun j u hj=> ?_⟩
 have h9:=h.row.len
 have h8:=(List.getElem?_eq_some_iff.1 hj).1
 have:=hc j u (by rw [Nat.zero_mul,Nat.zero_add];exact hj)
 simpa using this
theorem Rw.range1 {g o c:Nat} {xs:List Value} (h:Rw W 76 7 (.slice (some ⟨g,o,none⟩) 1 c) 1 xs):W.rangeAt g o xs:=by
 obtain⟨g',off,c',e,hc⟩:=Rw.at h (i:=0) (by omega)
 cases e
 intro j u hj
 have:=hc j u (by rw [Nat.zero_mul,Nat.zero_add];exact hj)
 simpa using this
theorem zero3a (w:World):(Instr.alloc 3 true (.tuple #[])).run Try.prog w= .ok (P0 w.heap.size) (w.alloc (.cells [Value.int .i64 0].toArray 3)):=by kernel_rfl
theorem size3:(Try.prog.info? 3).map (·.size)=some 1:=by kernel_rfl
theorem nn68 (w:World) (f:Nat) (cs:Array Value):Sem.run Try.prog (binOp BinOp.eql 68 (fnV f cs) Value.nilFunc) w= .ok (.bool false) w:=by kernel_rfl
theorem Kn.nod {Z:List Nat} (h:Kn w W A b mb p ln s q p4) (hk:Kept Z W W') (hz:∀i∈Z,w.heap.size≤i∧NoD W i):Kn w W' A b mb p ln s q p4:=⟨h.dg.nod hk (fun i hi=>(hz i hi).2),h.k.fresh hk (fun i hi hl=>by have:=(hz i hi).1;omega),h.g1,h.g2⟩
theorem res7 (w:World) (b:Nat) (v:Bool) (tmps:Array Value) (h2:tmps[0]?.getD undef=P0 b) (hb:Blk w b 4 [.bool v]):(results Try.f7 tmps).run Try.prog w= .ok (.bool v) w:=by
 have hc:=fits_cell hb 0 _ rfl
 simp [results,Try.results7,h2,asAddr,go_sem,hc]
theorem Kn.offD {D:Nat} {o:Option (List Deferred)} (h:Kn w W A b mb p ln s q p4) (hd:W.heap[D]?=some (.deferred o)):D∉p::spare ln:=by
 have hl:=h.dg.lk ⟨1,p,ln,s,q⟩ (List.mem_cons_self ..)
 intro hm
 rcases List.mem_cons.1 hm with rfl | hm
 · have h1:W.heap[D]?=some (.cells _ 108 (0,0)):=hl.blk
   rw [h1] at hd
   cases hd
 · obtain⟨cs',hc'⟩:=hl.row.block D (spare_own hm)
   rw [hc'] at hd
   cases hd
theorem Kn.lts (h:Kn w W A b mb p ln s q p4) {z:Nat} (hz:W.heap.size≤z):z≠b∧z≠mb∧∀x∈kL p ln s q p4,x.p≠z∧∀i,x.ln.ownBlock=some i→i≠z:=by
 have hl:=h.dg.lts
 exact⟨by omega,by omega,fun x hx=>⟨by have:=(hl.2.2 x hx).1;omega,fun i hi=>by have:=(hl.2.2 x hx).2 i hi;omega⟩⟩
theorem Kn.off1 {z:Nat} (h:Kn w W A b mb p ln s q p4) (hk:Kept [z] W W') (hl:z≠b∧z≠mb∧∀x∈kL p ln s q p4,x.p≠z∧∀i,x.ln.ownBlock=some i→i≠z) (hz:w.heap.size≤z):Kn w W' A b mb p ln s q p4:=
 ⟨h.dg.step hk (by simp;exact fun e=>hl.1 e.symm) (by simp;exact fun e=>hl.2.1 e.symm) (fun x hx=>⟨by simp;exact(hl.2.2 x hx).1,fun i hi=>by simp;exact(hl.2.2 x hx).2 i hi⟩),h.k.fresh hk (fun i hi hl=>by simp at hi;omega),h.g1,h.g2⟩
theorem known7 (w:World):Calls Try.prog 7 #[] w fun e W=>e= .returned (.bool true)∧Kept [] w W:=by
 have hFw:=wideF
 refine(callsIn_wide (n:=4)).1 ?_
 refine callsIn_of_wp_marks Try.func7 rfl trivial ?_ rfl
 refine wpIn_wide.2 ?_
 simp only [Try.ntmps7,List.size_toArray,List.length_cons,List.length_nil,Nat.reduceAdd,Nat.reduceSub,Array.replicate_succ,Array.replicate_zero,List.push_toArray,List.append_toArray,List.nil_append,List.cons_append]
 go_wp2_with (first |(refine wpAllocW ([Value.bool false]) zero4d 0 rfl rfl rfl ?_;intro W0 z0 e1 B1 K1;have HZ0:=hide B1;have HK0:=hide K1;have HGZ:Hid (w.heap.size≤z0):=(by show _≤_;omega);clear e1 B1 K1;refine Stp.go ?_))
 constructor
 go_wp2_with (first |(refine wpBs22 rfl (.const (.int .i64 3)) (.const (.int .i64 3)) rfl 3 3 rfl rfl ?_;intro V39 g39 e39 B39 h3;have HI:=hide (Is.two B39);have HK:=hide h3;clear e39 B39 h3;refine Stp.go ?_))
 constructor
 go_wp2_with (
   first
   | (go_at_call 24
      refine(new24 _ [3,3] _ (unhide HI) (by decide)).mono ?_
      rintro e W1 ⟨hk,⟨h9,_⟩ | ⟨_,rfl⟩⟩
      · exact absurd h9 (by decide)
      replace HK:=hide ((unhide HK).trans hk)
      clear hk HI
      refine Stp.go ?_))
 constructor
 go_wp2_with (first |(refine wpBs36 rfl (.const (.int .i64 16)) rfl 16 rfl ?_;intro V39 g39 e39 B39 h3;have HI:=hide (Is.one B39);replace HK:=hide ((unhide HK).trans h3);clear e39 B39 h3;refine Stp.go ?_))
 constructor
 go_wp2_with (
   first
   | (go_at_call 24
      refine(new24 _ [16] _ (unhide HI) (by decide)).mono ?_
      rintro e W1 ⟨hk,⟨h9,_⟩ | ⟨_,rfl⟩⟩
      · exact absurd h9 (by decide)
      replace HK:=hide ((unhide HK).trans hk)
      clear hk HI
      refine Stp.go ?_))
 constructor
 go_wp2_with (first |(refine wpBs22 rfl (.const (.int .i64 1)) (.const (.int .i64 4)) rfl 1 4 rfl rfl ?_;intro V39 g39 e39 B39 h3;have HI:=hide (Is.two B39);replace HK:=hide ((unhide HK).trans h3);clear e39 B39 h3;refine Stp.go ?_))
 constructor
 go_wp2_with (
   first
   | (go_at_call 24
      refine(new24 _ [1,4] _ (unhide HI) (by decide)).mono ?_
      rintro e W1 ⟨hk,⟨_,b,mb,L,rfl,h2,h3,h4,h5,h6⟩ | ⟨h9,_⟩⟩
      rotate_left
      · exact absurd h9 (by decide)
      have hHK:=unhide HK
      obtain⟨x1,x4,rfl⟩:∃x y,L= [x,y]:=by
        have h7:=congrArg List.length h3
        simp at h7
        exact two_of h7
      obtain⟨e1,g1⟩:=h4 x1 (by simp)
      obtain⟨e2,g2⟩:=h4 x4 (by simp)
      obtain⟨k1,k2⟩:x1.k=1∧x4.k=4:=by simpa using h3
      rw [k1] at e1
      rw [k2] at e2
      rw [e1,e2] at h2
      obtain⟨p1,hp1⟩:∃p,x1.p=p:=⟨_,rfl⟩
      obtain⟨p4,hp4⟩:∃p,x4.p=p:=⟨_,rfl⟩
      rw [hp1,hp4] at h2
      rw [hp1] at g1
      have HN:Hid (Kn W0 W1 0 b mb p1 (.slice none 0 0) lo0 [] p4):=⟨h2,hHK.trans hk,by have:=hHK.size;omega,fun i hi=>by cases hi⟩
      clear h2 h3 h4 h5 h6 hk HI HK e1 e2 g1 g2 k1 k2 hp1 hp4 hHK
      refine Stp.go ?_))
 constructor
 go_wp2_with (first |(go_at_call 15;refine(want15 (unhide HN).dg (by decide) 1 0 1).mono ?_;intro e W2 h9;obtain⟨ln1,v1,rfl,h1,h2,h3⟩:=(unhide HN).ask h9 kw1;obtain⟨g8,o8,c8,hv8,_⟩:=poRow h1;subst hv8;have HR8:=hide h1.row;replace HN:=hide h2;clear h1 h2 h3 h9;refine Stp.go ?_))
 constructor
 go_wp2_with (first |(go_at_call 15;refine(want15 (unhide HN).dg (by decide) 2 0 1).mono ?_;intro e W3 h9;obtain⟨rfl,h2,h3⟩:=(unhide HN).no2 h9;replace HN:=hide h2;replace HR8:=hide ((unhide HR8).kept h3 (fun _ _=>by simp));clear h2 h3 h9;refine Stp.go ?_))
 constructor
 go_wp2_with (first |(go_at_call 15;refine(want15 (unhide HN).dg (by decide) 16 0 1).mono ?_;intro e W4 h9;obtain⟨rfl,h2,h3⟩:=(unhide HN).no16 h9;replace HN:=hide h2;replace HR8:=hide ((unhide HR8).kept h3 (fun _ _=>by simp));clear h2 h3 h9;refine Stp.go ?_))
 constructor
 go_wp2_with (first |(go_at_call 18;refine(got18 (unhide HN).dg (by decide) 1 0 1).mono ?_;intro e W5 h9;obtain⟨ln2,v2,rfl,h1,h2,h3⟩:=(unhide HN).ask h9 kw2;replace HR8:=hide ((unhide HR8).kept h3 (fun k hk=>by cases hk;exact(unhide HN).off (unhide HR8)));obtain⟨ao2,c2,hv2,_⟩:=h1.row.sl;subst hv2;replace HN:=hide h2;clear h1 h2 h3 h9;refine Stp.go ?_))
 constructor
 go_wp2_with (first |(refine wpLoadG row76 (.tmp 83) rfl (by rfl) g8 o8 rfl (poC1 1 od1) rfl (Rw.range1 (unhide HR8)) ?_;refine Stp.go ?_))
 constructor
 go_wp2_with (first |(refine wpNeqG 76 76 guard76 (.tmp 84) (.tmp 86) rfl (by rfl) (poC1 1 od1) (poC1 1 od1) rfl rfl true (eq76 _) ?_;refine Stp.go ?_))
 constructor
 go_wp2_with (
   first
   | (refine wpAllocW ([Value.int .i64 0]) zero3a 15 rfl rfl rfl ?_
      intro W6 z e1 B1 K1
      have HZ:=hide B1
      have HGZ2:Hid (z0<z∧W0.heap.size≤z):=by have h8:=(unhide HN).k.size;have h9:=(unhide HZ0).lt;exact⟨by omega,by omega⟩
      have HZP:Hid (z∉p1::spare ln2):=by
        have hl:=(unhide HN).dg.lts.2.2 _ (List.mem_cons_self ..)
        intro hm
        rcases List.mem_cons.1 hm with h8 | h8
        · have:=hl.1;simp at this;omega
        · have:=hl.2 _ (spare_own h8);omega
      have HZB:Hid (b≠z∧mb≠z):=by have hl:=(unhide HN).dg.lts;exact⟨by omega,by omega⟩
      have HLZ:Hid (∀x∈kL p1 ln2 ks2 [] p4,x.p≠z∧∀i,x.ln.ownBlock=some i→i≠z):=by
        have hl:=(unhide HN).dg.lts.2.2
        intro x hx
        exact⟨by have:=(hl x hx).1;omega,fun i hi=>by have:=(hl x hx).2 i hi;omega⟩
      replace HN:=hide ((unhide HN).step0 K1)
      clear e1 B1 K1
      refine Stp.go ?_))
 constructor
 go_wp2_with (
   first
   | (refine wpStF size3 rfl (.tmp 15) (.const (.int .i64 0)) rfl rfl z 0 (.int .i64 0) ⟨rfl,rfl⟩ rfl rfl (unhide HZ) (by decide) ?_
      intro W7 B5 K5
      have HNO:=unhide HN
      have HN7:Hid (Kn W0 W7 2 b mb p1 ln2 ks2 [] p4):=by
        have hl:=unhide HLZ
        exact⟨HNO.dg.step K5 (by simp;exact(unhide HZB).1) (by simp;exact(unhide HZB).2) (fun x hx=>⟨by simp;exact(hl x hx).1,fun i hi=>by simp;exact(hl x hx).2 i hi⟩),HNO.k.fresh K5 (fun i hi hl=>by simp at hi;have:=(unhide HGZ2).2;omega),HNO.g1,HNO.g2⟩
      replace HZ:Hid (Blk W7 z 3 [.int .i64 0]):=B5
      clear B5 K5 HNO HN
      refine Stp.go ?_))
 constructor
 go_wp2_with (first |(go_at_call 23;refine(held23 (unhide HN7).dg 0).mono ?_;rintro e W8 ⟨cn,c1,c2,b',mb',C,V1,rfl,h1,h2,h3,h4,h5⟩;have HIT:=hide h5;have HCN:=hide h4;have hN:=(unhide HN7);have HN:=hide (hN.step0 (h2.trans h5.k));have HG8:Hid (W7.heap.size≤cn∧W7.heap.size≤V1.heap.size):=⟨h1,h2.size⟩;have HZL:Hid (z<W7.heap.size):=(unhide HZ).lt;replace HZ:=hide ((unhide HZ).kept (h2.trans h5.k) (by simp));have HHL:Hid (heldL 0 C= [(1,1)]):=kheld ((unhide HIT).cp) rfl;clear h1 h2 h3 h4 h5 hN HN7;refine Stp.go ?_))
 constructor
 have hq:∀W,Sem.run Try.prog (binOp BinOp.eql 68 (fnV 89 #[P0 c1,P0 c2]) Value.nilFunc) W= .ok (.bool false) W:=fun W=>nn68 W 89 #[P0 c1,P0 c2]
 go_wp2_with fail
 clear hq
 refine(wpIn_wide (n:=4)).1 ?_
 refine(fun(h:∀A0:Act,A0=_→(Code.rangeFunc _ _ _ _).wpIn Fence.wide 4 Try.prog _ A0 _)=>h _ rfl) ?_
 intro A0 hA0
 have HKS:Hid (W0.heap.size≤W8.heap.size):=(unhide HN).k.size
 refine wp_rangeV 3 89 #[P0 c1,P0 c2] (heldL 0 C).length 2 (HeE 0 C) (fun k x W h=>h.two) [z] (by rw [hA0];rfl) ent89 rfl (by intro k hk;simp at hk;rw [hk];exact(unhide HZ).lt) ?it (fun k W=>Kn W0 W 2 b mb p1 ln2 ks2 [] p4∧Blk W z 3 [.int .i64 k])
   (fun _ _ _=>False) ?i1 (fun _ _ _ _ _ h _ _=>h) ⟨unhide HN,unhide HZ⟩ (fun k a' W=>k=0∧a'= { A0 with tmps:=(((A0.tmps.setIfInBounds 111 (.int .i64 1)).setIfInBounds 112 (.int .i64 1)).setIfInBounds 17 (.int .i64 1)).setIfInBounds 18 (.int .i64 1) }) ?f1 ?ag ?bd ?dn (fun _ _ _ _ _ _ h _=>h.elim)
 case it=>
   intro V hk hs
   have hi:=unhide HIT
   have hzl:=unhide HZL
   have hg8:=unhide HG8
   have hl:=hi.dg.lts
   refine ItV.any (as89_in _ _ ?_ (hi.h1.kept hk (by simp)) (hi.h2.kept hk (by simp)) ((unhide HCN).kept hk (by simp)) (hi.dg.step0 hk) ⟨?_,?_,fun x hx=>⟨?_,fun i hi2=> ?_⟩,?_⟩)
   · have hk8:=hi.k.size
     intro k hk9
     simp at hk9
     omega
   · have:=hi.ge;simp;omega
   · have:=hi.ge;simp;omega
   · obtain⟨_,hp,_⟩:=hi.cp.lk x hx
     have:=(hl.2.2 x hx).1
     simp;omega
   · obtain⟨_,_,x0,hx0,_,_,_,ho,_⟩:=hi.cp.lk x hx
     have h8:=(unhide HLZ x0 hx0).2 i (by rw [← ho];exact hi2)
     have:=(hl.2.2 x hx).2 i hi2
     simp;omega
   · have h1:=hi.h1.lt
     have h2:=hi.h2.lt
     have h3:=(unhide HCN).lt
     have:=hi.ge
     intro c hc
     simp at hc
     rcases hc with rfl | rfl | rfl <;> (simp;omega)
 case i1=>
   rintro k A1 B1 Z ⟨h1,h2⟩ hk hz
   have hks:=(unhide HN).k.size
   exact⟨h1.nod hk (fun i hi=>⟨by have:=(hz i hi).1;omega,(hz i hi).2⟩),h2.kept hk (fun e=>(hz _ e).2.blk h2)⟩
 case f1=>exact fun k a' A1 B1 h _=>h
 case ag=>
   rintro l k x W K hkN ⟨u,hu,rfl⟩ hI hsz hK
   rw [unhide HHL] at hu
   obtain rfl:k=0:=by rw [unhide HHL] at hkN;simp at hkN;exact hkN
   simp at hu
   subst hu
   simp only [List.zip_toArray,List.zip_cons_cons,List.zip_nil_right,List.foldl_toArray,List.foldl_cons,List.foldl_nil]
   have HKK:=hide (hK _ W (Kept.refl _ _) ⟨rfl,rfl⟩)
   clear hK hI
   subst hA0
   simp only [List.setIfInBounds_toArray,List.set_cons_succ,List.set_cons_zero] at HKK⊢
   gi_wp2
   exact unhide HKK
 case bd=>
   rintro l k a' W hkN ⟨hN,hZ⟩ ⟨rfl,rfl⟩ hsz
   have c0:=fits_cell hZ 0 _ rfl
   have HZW:=hide hZ
   have HNW:=hide hN
   clear hN hZ hkN
   subst hA0
   simp only [List.setIfInBounds_toArray,List.set_cons_succ,List.set_cons_zero]
   gi_wp2_with (
     first
     |(refine inStore1 (.int .i64 0) (.int .i64 1) (st1d size3 ⟨rfl,rfl⟩) wideF (by rfl) (.tmp 15) (.tmp 120) (by rfl) (by rfl) (by rfl) z (by rfl) (by rfl) (unhide HZW) ?_;intro W7 B7 e7;have HB7:=hide B7;have HK7:Hid (Kept [z] W W7):=(by rw [e7];exact(Kept.refl _ _).setCell (p:=⟨z,0,none⟩) (by simp) _);clear B7 e7)
     | fail)
   have hzl:=unhide HZL
   have hzg:=(unhide HGZ2).2
   exact⟨unhide HK7,(unhide HNW).off1 (unhide HK7) ⟨fun e=>(unhide HZB).1 e.symm,fun e=>(unhide HZB).2 e.symm,unhide HLZ⟩ hzg,unhide HB7⟩
 case dn=>
   obtain⟨D,hDe⟩:∃D,W8.heap.size=D:=⟨_,rfl⟩
   rintro Wd hkd hsz ⟨hN,hZ⟩ hD
   rw [unhide HHL] at hZ
   rw [hDe] at hD
   have HDD:=hide hD
   replace HN:=hide hN
   replace HZ:Hid (Blk Wd z 3 [.int .i64 1]):=hZ
   have HDG:Hid (W0.heap.size≤D):=by show _≤_;rw [← hDe];exact unhide HKS
   clear hkd hsz hN hZ hD
   subst hA0
   simp only [List.setIfInBounds_toArray,List.set_cons_succ,List.set_cons_zero,hDe]
   clear hDe
   go_upto_region 22 with fail
   go_wp2_with (first |(go_at_call 19;refine Stp.go ?_))
   constructor
   refine(rel19 (unhide HN).dg (by decide) 1 0 1).mono ?_
   intro e U5 h9
   obtain⟨ln3,v3,rfl,h1,h2,h3⟩:=(unhide HN).ask h9 kw3
   replace HZ:=hide ((unhide HZ).kept h3 (unhide HZP))
   have HDD2:=hide (h3.heap (unhide HDD) ((unhide HN).offD (unhide HDD)))
   obtain⟨ao3,c3,hv3,_⟩:=h1.row.sl
   subst hv3
   clear HDD
   replace HN:=hide h2
   clear h1 h2 h3 h9
   go_wp2_with (first |(go_at_call 11;refine Stp.go ?_))
   constructor
   refine(book11_is (n:=1) (x:=⟨1,p1,ln3,ks3,[]⟩) (unhide HN).dg (by decide) rfl).mono ?_
   rintro e U6 ⟨x1,x2,x3,rfl,h1,h2⟩
   have HBK:=hide h1
   have HONE:=hide (BoC_one h1)
   obtain⟨ao4,c4,hx4,_⟩:=h1.sh.row.sl
   subst hx4
   replace HZ:=hide ((unhide HZ).kept h2 (by simp))
   replace HDD2:=hide (h2.heap (unhide HDD2) (by simp))
   replace HN:=hide ((unhide HN).step0 h2)
   clear h1 h2
   go_wp2_with (first |(refine wpAllocW bz43 zero43 21 rfl rfl rfl ?_;intro U61 z1 e1 B1 K1;have HBz1:=hide B1;have HGz1:Hid (W0.heap.size≤z1∧z<z1∧D<z1):=(by have h8:=(unhide HN).k.size;have h9:=(unhide HZ).lt;have h7:=(Array.getElem?_eq_some_iff.1 (unhide HDD2)).1;exact⟨by omega,by omega,by omega⟩);have HLz1:=hide ((unhide HN).lts (z:=z1) (by omega));replace HZ:=hide ((unhide HZ).kept K1 (by simp));replace HDD2:=hide (K1.heap (unhide HDD2) (by simp));replace HN:=hide ((unhide HN).step0 K1);clear e1 B1 K1;refine Stp.go ?_))
   constructor
   go_wp2_with (first |(refine wpStB row43 rfl (.tmp 21) (.tmp 129) rfl z1 (((ks3.book []).C (.slice ao4 (ks3.book []).sh.length c4) x2 x3)) bz43 rfl rfl rfl rfl (by decide) (unhide HONE) (unhide HBz1) ?_;intro U62 B2 K2;replace HBz1:=hide B2;replace HN:=hide ((unhide HN).off1 K2 (unhide HLz1) (unhide HGz1).1);replace HZ:=hide ((unhide HZ).kept K2 (by simp;have:=(unhide HGz1).2;omega));replace HDD2:=hide (K2.heap (unhide HDD2) (by simp;have:=(unhide HGz1).2;omega));clear B2 K2;refine Stp.go ?_))
   constructor
   go_wp2_with (first |(go_at_call 11;refine Stp.go ?_))
   constructor
   refine(book11_no (n:=2) (unhide HN).dg rfl).mono ?_
   rintro e U8 ⟨rfl,h2⟩
   replace HZ:=hide ((unhide HZ).kept h2 (by simp))
   replace HDD2:=hide (h2.heap (unhide HDD2) (by simp))
   replace HBz1:=hide ((unhide HBz1).kept h2 (by simp))
   replace HN:=hide ((unhide HN).step0 h2)
   clear h2
   go_wp2_with (first |(refine wpAllocW bz43 zero43 23 rfl rfl rfl ?_;intro U81 z2 e1 B1 K1;have HBz2:=hide B1;have HGz2:Hid (W0.heap.size≤z2∧z<z2∧D<z2):=(by have h8:=(unhide HN).k.size;have h9:=(unhide HZ).lt;have h7:=(Array.getElem?_eq_some_iff.1 (unhide HDD2)).1;exact⟨by omega,by omega,by omega⟩);have HLz2:=hide ((unhide HN).lts (z:=z2) (by omega));have HZ12:Hid (z1<z2):=(by have:=(unhide HBz1).lt;show _<_;omega);replace HBz1:=hide ((unhide HBz1).kept K1 (by simp));replace HZ:=hide ((unhide HZ).kept K1 (by simp));replace HDD2:=hide (K1.heap (unhide HDD2) (by simp));replace HN:=hide ((unhide HN).step0 K1);clear e1 B1 K1;refine Stp.go ?_))
   constructor
   go_wp2_with (first |(refine wpStB row43 rfl (.tmp 23) (.tmp 134) rfl z2 bz43 bz43 rfl rfl rfl rfl (by decide) bz_one (unhide HBz2) ?_;intro U82 B2 K2;replace HBz2:=hide B2;replace HBz1:=hide ((unhide HBz1).kept K2 (by simp;have:=unhide HZ12;omega));replace HN:=hide ((unhide HN).off1 K2 (unhide HLz2) (unhide HGz2).1);replace HZ:=hide ((unhide HZ).kept K2 (by simp;have:=(unhide HGz2).2;omega));replace HDD2:=hide (K2.heap (unhide HDD2) (by simp;have:=(unhide HGz2).2;omega));clear B2 K2;refine Stp.go ?_))
   constructor
   have hbo:=kb3
   have k3:=fits_cell (unhide HZ) 0 _ rfl
   have k16:=fits_cell (unhide HBz1) 16 _ rfl
   have k2:=fits_cell (unhide HBz1) 2 _ rfl
   rw [hbo.2.1] at k16
   rw [hbo.1] at k2
   replace k2:U82.cell? ⟨z1,2,none⟩=some (.slice ao4 0 c4):=k2
   clear hbo
   go_wp2_with (first |(go_at_call 21;refine Stp.go ?_))
   constructor
   refine(idle21 (unhide HN).dg).mono ?_
   rw [show idleD (kL p1 ln3 ks3 [] p4)=true from rfl]
   rintro e U9 ⟨rfl,h2⟩
   replace HDD2:=hide (h2.heap (unhide HDD2) (by simp))
   replace HN:=hide ((unhide HN).step0 h2)
   clear h2
   go_wp2_with (first |(refine wpStF size4d rfl (.tmp 0) (.tmp 168) rfl rfl z0 0 (.bool true) ⟨rfl,rfl⟩ rfl rfl ((unhide HZ0).kept (unhide HN).k (by simp)) (by decide) ?_;intro U10 B5 K5;have HZE:Hid (Blk U10 z0 4 [.bool true]):=B5;have HKE:=hide (((unhide HK0).trans (unhide HN).k).fresh K5 (fun i hi hl=>by simp at hi;have:=unhide HGZ;omega));have HDE:=hide (K5.heap (unhide HDD2) (by simp;have:=(unhide HZ0).lt;have:=unhide HDG;omega));clear B5 K5;refine Stp.go ?_))
   constructor
   go_wp2_with fail
   have hdg:=unhide HDG
   have hkm:Kept [D] U10 (U10.putObj D (.deferred none)):=Kept.put1
   refine⟨by simp,.inl ⟨_,_,rfl,run_takeDeferred (unhide HDE),?_⟩⟩
   refine⟨_,res7 _ z0 true _ rfl ((unhide HZE).kept hkm (by simp;have:=(unhide HZ0).lt;omega)),rfl,?_⟩
   exact(unhide HKE).fresh hkm (fun i hi hl=>by simp at hi;have:=(unhide HK0).size;omega)
end Go.Proofs.Ytbigongmlpoahaa.D
