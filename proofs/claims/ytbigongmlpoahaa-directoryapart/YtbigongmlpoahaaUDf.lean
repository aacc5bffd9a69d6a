import Derived.Test.YtbigongmlpoahaaUDa
import Derived.Test.YtbigongmlpoahaaUFr
import Derived.Test.YtbigongmlpoahaaUFq
namespace Go.Proofs.Ytbigongmlpoahaa.D
set_option maxHeartbeats 8000000
set_option maxRecDepth 100000
set_option linter.unusedSimpArgs false
open Go.RowKit
def AskR (A:Nat) (w:World) (b mb:Nat) (L:List Lk) (n:Int) (r:Lo→List Wi→Lo×List Wi×List Od) (e:Ending) (W:World):Prop:=
 (isP n=false∧e= .returned (.tuple #[.slice none 0 0,.int .i64 2])∧Kept [] w W)
 ∨(isP n=true∧lkOf n L=none∧e= .returned (.tuple #[.slice none 0 0,.int .i64 6])∧Kept [] w W)
 ∨(∃x ln v,lkOf n L=some x∧e= .returned (.tuple #[v,.int .i64 0])∧New w W 76 7 v (r x.s x.q).2.2.length (poC n (r x.s x.q).2.2)∧Dg (A+1) W b mb (setLk n ln (r x.s x.q) L)∧Kept (x.p::spare x.ln) w W∧Grw w x.ln ln)
variable {A F:Nat} {w:World} {b mb:Nat} {L:List Lk} {v:Value} {n:Int} {cs:Array Value} {r:Lo→List Wi→Lo×List Wi×List Od}
theorem ask41 (h:Dg A w b mb L) (hent:Ent F) (hc:∀x∈L,Calls Try.prog F (#[P0 x.p]++cs) w (LC x.p x.ln w (r x.s x.q))) (hgd:∀x∈L,Gd (A+1) (r x.s x.q).1 (r x.s x.q).2.1) (hlen:∀x∈L,(r x.s x.q).2.2.length≤10000):Calls Try.prog 41 #[P0 b,.int .i64 n,fnV F cs] w (AskR A w b mb L n r):=by
 have H:=hide h
 have c0:=h.cw
 have hk1:=look_lk n L
 cases hp:isP n with
 | false=>
   have HP:=hide hp
   clear h hp hc hgd hlen hk1
   go_enter Try.func41,Try.ntmps41
   go_wp2_with (first |(go_at_call 35;refine(none35 (unhide H)).mono ?_;rintro e W9 ⟨rfl,q9⟩;replace q9:=q9.symm;subst q9;refine Stp.go ?_))
   constructor
   go_wp2_with (first |(go_at_call 60;refine(isPage60 _ _).mono ?_;rw [unhide HP];rintro e W9 ⟨rfl,q9⟩;replace q9:=q9.symm;subst q9;refine Stp.go ?_))
   constructor
   go_wp2_with fail
   go_ret2
   exact .inl ⟨unhide HP,rfl,Kept.refl _ _⟩
 | true=>
   have HP:=hide hp
   cases hq:lkOf n L with
   | none=>
     rw [hq] at hk1
     have HL:Hid (lookV n (L.map Lk.e)= .pointer none):=hk1.1
     have HF:Hid ((placeOf n (L.map Lk.e) 0).isSome=false):=hk1.2
     have HQ:=hide hq
     clear h hp hq hc hgd hlen hk1
     go_enter Try.func41,Try.ntmps41
     go_wp2_with (first |(go_at_call 35;refine(none35 (unhide H)).mono ?_;rintro e W9 ⟨rfl,q9⟩;replace q9:=q9.symm;subst q9;refine Stp.go ?_))
     constructor
     go_wp2_with (first |(go_at_call 60;refine(isPage60 _ _).mono ?_;rw [unhide HP];rintro e W9 ⟨rfl,q9⟩;replace q9:=q9.symm;subst q9;refine Stp.go ?_))
     constructor
     go_wp2_with (first |(refine wpLook2 rfl (.tmp 22) (.tmp 23) rfl mb (L.map Lk.e) _ _ false rfl rfl (unhide HL) (unhide HF) (unhide H).map ?_;refine Stp.go ?_))
     constructor
     go_wp2_with fail
     go_ret2
     exact .inr (.inl ⟨unhide HP,unhide HQ,rfl,Kept.refl _ _⟩)
   | some x=>
     rw [hq] at hk1
     obtain⟨hx,hxk⟩:=lkOf_some hq
     have HL:Hid (lookV n (L.map Lk.e)=P0 x.p):=hk1.1
     have HF:Hid ((placeOf n (L.map Lk.e) 0).isSome=true):=hk1.2
     have HQ:=hide hq
     have HX:=hide hx
     obtain⟨R,hR⟩:∃y,r x.s x.q=y:=⟨_,rfl⟩
     obtain⟨O,hO⟩:∃y,R.2.2=y:=⟨_,rfl⟩
     have HRO:=hide hO
     have HC:Hid (Calls Try.prog F (#[P0 x.p]++cs) w (LC x.p x.ln w R)):=by rw [← hR];exact hc x hx
     have HG:Hid (Gd (A+1) R.1 R.2.1):=by rw [← hR];exact hgd x hx
     have hol:O.length≤10000:=by rw [← hO,← hR];exact hlen x hx
     have HRR:=hide hR
     have holI:(O.length:Int)≤10000:=by omega
     subst hxk
     clear h hp hq hc hgd hlen hk1 hx hR hO
     go_enter Try.func41,Try.ntmps41
     go_wp2_with (first |(go_at_call 35;refine(none35 (unhide H)).mono ?_;rintro e W9 ⟨rfl,q9⟩;replace q9:=q9.symm;subst q9;refine Stp.go ?_))
     constructor
     go_wp2_with (first |(go_at_call 60;refine(isPage60 _ _).mono ?_;rw [unhide HP];rintro e W9 ⟨rfl,q9⟩;replace q9:=q9.symm;subst q9;refine Stp.go ?_))
     constructor
     go_wp2_with (first |(refine wpLook2 rfl (.tmp 22) (.tmp 23) rfl mb (L.map Lk.e) _ _ true rfl rfl (unhide HL) (unhide HF) (unhide H).map ?_;refine Stp.go ?_))
     constructor
     go_wp2_with (first |(refine Calls.mono (unhide HC) ?_;rintro e W1 ⟨ov,ln,rfl,h1,h2,h3,h4,h5⟩;have HD:Hid (Dg (A+1) W1 b mb (setLk x.k ln R L)):=(unhide H).call (unhide HX) h2 h3 h4 h5 (unhide HG);have HO:Hid (New w W1 74 6 ov O.length (odC O)):=(by have h9:=h1;rw [show R.2.2=O from unhide HRO] at h9;exact h9);have HK1:=hide h4;have HGW:=hide h5;clear h1 h2 h3 h4 h5;refine Stp.go ?_))
     constructor
     go_wp2_with (first |(refine wpLen28 rfl (.tmp 31) rfl ov O.length (odC O) rfl (unhide HO).row ?_;refine Stp.go ?_))
     constructor
     go_wp2_with fail
     go_loopw [10,33] (fun x10 x33 wr=>∃(k:Nat),k≤O.length∧x33= .int .i64 k∧Hid (New W1 wr 76 7 x10 k (poC x.k (O.take k)))∧Hid (Kept [] W1 wr)) (fun _ x33 _=>O.length-(intOf x33).toNat)
     case atStart=>exact ⟨0,by omega,rfl,hide (New.nil _ _ _ _),hide (Kept.refl _ _)⟩
     case round=>
       obtain⟨k,hk,rfl,HT,HK⟩:=hrel
       by_cases hkl:k<O.length
       · have hd:decide ((k:Int)<(O.length:Int))=true:=by simp;omega
         obtain⟨o,ho⟩:∃o,O[k]?=some o:=⟨_,List.getElem?_eq_getElem hkl⟩
         have HOK:=hide ho
         have HOC:Hid (∀v∈o.C,v.oneCell'=true):=fun v hv=>odC_one [o] v (by simpa [odC] using hv)
         have HTO:Hid (∀i∈spare u10,W1.heap.size≤i):=(unhide HT).spare
         clear ho
         go_wp2_with (first |(refine wpIdxO rfl (.tmp 31) (.tmp 33) rfl ov O k o rfl rfl ((unhide HO).row.kept (unhide HK) (fun _ _=>by simp)) (unhide HOK) ?_;intro g o' hr;have HRG:=hide hr;clear hr;refine Stp.go ?_))
         constructor
         go_wp2_with (first |(refine wpLoadA row65 rfl (.tmp 35) rfl g o' rfl o.C rfl (unhide HRG) ?_;refine Stp.go ?_))
         constructor
         go_wp2_with (first |(refine wpNew row65 od0.C rfl zero65 12 rfl rfl rfl (.tmp 36) rfl rfl rfl o.C rfl (unhide HOC) rfl rfl ?_;intro W2 y e2 B2 K2;have HY:=hide B2;replace HK:=hide ((unhide HK).trans K2);replace HT:=hide ((unhide HT).kept K2 (fun _ _=>by simp));clear e2 B2 K2 HRG;refine Stp.go ?_))
         constructor
         go_wp2_with (first |(refine wpLoadA row65 rfl (.tmp 12) rfl y 0 rfl o.C rfl (unhide HY).range ?_;refine Stp.go ?_))
         constructor
         go_wp2_with (first |(refine wpBuildP (by rfl) #[(0,.tmp 38),(1,.tmp 39)] (by rfl) #[(0,.int .i64 x.k),(1,aggV o.C)] (by kernel_rfl) (poC1 x.k o) (build76 x.k o _) ?_;refine Stp.go ?_))
         constructor
         go_wp2_with (first |(refine wpBs57 rfl (.tmp 40) rfl x.k o rfl ?_;intro W3 g3 e3 B3 K3;have HB3:Hid (Rw W3 76 7 (.slice (some ⟨g3,0,none⟩) 1 1) 1 (poC x.k [o])):=(by show Rw _ _ _ _ _ _;rw [poC_sing];exact Rw.made B3 rfl (max1000 (by omega)));replace HK:=hide ((unhide HK).trans K3);replace HT:=hide ((unhide HT).kept K3 (fun _ _=>by simp));clear e3 B3 K3 HY;refine Stp.go ?_))
         constructor
         go_wp2_with (
           first
           | (refine wpAppN el57 rfl (.tmp 37) (.tmp 41) rfl u10 k (poC x.k (O.take k)) rfl (unhide HT) _ 1 (poC x.k [o]) rfl (unhide HB3) (poC_one _ _) (by omega) (max1000 (by omega)) (unhide HK).size ?_
              intro v4 W4 h4 k4
              have HT4:Hid (New W1 W4 76 7 v4 (k+1) (poC x.k (O.take (k+1)))):=by
                have h9:=h4
                rw [← poC_app] at h9
                rw [List.take_add_one,unhide HOK]
                exact h9
              have HK4:Hid (Kept [] W1 W4):=(unhide HK).fresh k4 (fun i hi hl=>by have h9:=(unhide HTO) i hi;omega)
              clear h4 k4 HB3
              refine Stp.go ?_))
         constructor
         go_wp2_with fail
         go_roundw
         case rel=>exact ⟨k+1,by omega,by go_num,HT4,HK4⟩
         case measure=>simp [intOf];omega
       · obtain rfl:k=O.length:=by omega
         have hd:decide ((O.length:Int)<(O.length:Int))=false:=by simp
         rw [List.take_length] at HT
         have HE:Hid (New w wr 76 7 u10 R.2.2.length (poC x.k R.2.2)):=by show New _ _ _ _ _ _ _;rw [show R.2.2=O from unhide HRO];exact(unhide HT).elder (unhide HK1).size
         go_wp2_with fail
         go_ret2
         refine .inr (.inr ⟨x,ln,u10,unhide HQ,rfl,?_,?_,?_,unhide HGW⟩)
         · rw [unhide HRR];exact unhide HE
         · rw [unhide HRR];exact(unhide HD).step0 (unhide HK)
         · exact((unhide HK1).trans ((unhide HK).mono (by simp)))
end Go.Proofs.Ytbigongmlpoahaa.D
namespace Go.Proofs.Ytbigongmlpoahaa.D
set_option maxHeartbeats 2000000
set_option maxRecDepth 100000
set_option linter.unusedSimpArgs false
open Go.RowKit
theorem handOverLen (s:Lo):s.handOver.2.length≤8:=by
 unfold Lo.handOver
 simp only
 split
 · exact send_len _ _ _
 · exact drops_len _
theorem handOnLen (s:Lo):s.handOn.2.length≤8:=send_len _ _ _
theorem isGoneLen (s:Lo) (n:Nat):(s.isGone n).2.length≤8:=by
 unfold Lo.isGone
 split
 · exact handOverLen _
 · simp
theorem askLen (s:Lo) (L:List Wi) (y:Wi):(askP s L y).2.2.length≤8*L.length+16:=by
 unfold askP
 split
 · simp
 · split
   · simp
   · have:=nextP_len (L++ [y]) s
     simp at this;omega
theorem askILen (s:Lo) (L:List Wi) (m k:Int):(askI s L m k).2.2.length≤8*L.length+16:=by
 unfold askI
 split
 · exact askLen _ _ _
 · simp
theorem wantLen (s:Lo) (L:List Wi) (m k:Int):(wantP s L m k).2.2.length≤8*L.length+16:=by
 unfold wantP
 split
 · exact askILen _ _ _ _
 · split
   · exact askILen _ _ _ _
   · simp
section
variable {ops:Array Oper} {rest:List Oper} {op o:Oper} {a:Act} {w:World} {K:Act→World→Prop} {Q:Exit→Act→World→Prop}
theorem wpBox1 {T:Nat} (hgd:op.guard=none) (x:Operand) (ho:op.op= .box T x) (n:Int) (hx:a.eval x= .int .i64 n)
   (h:∀W b,b=w.heap.size→Blk W b T [.int .i64 n]→Kept [] w W→wpList Try.prog ops Q rest (a.put op.dst (P0 b)) W):wpList Try.prog ops Q (op::rest) a w:=
 wpList_plain hgd fun _ hK=>by
   unfold Oper.wp execOp
   simp only [ho,hx]
   exact hK _ _ (h _ _ rfl (Blk.new w T _) ((Kept.refl _ _).alloc _))
end
variable {A F:Nat} {w W W':World} {b mb:Nat} {L:List Lk} {v ln:Value} {n:Int} {x:Lk} {r:Lo→List Wi→Lo×List Wi×List Od} {e:Ending}
theorem AskR.two (h:AskR A w b mb L n r e W):∃a b,e= .returned (.tuple #[a,b]):=by
 rcases h with ⟨_,h2,_⟩ | ⟨_,_,h3,_⟩ | ⟨_,_,_,_,h2,_⟩
 · exact⟨_,_,h2⟩
 · exact⟨_,_,h3⟩
 · exact⟨_,_,h2⟩
theorem AskR.since (h:AskR A W b mb L n r e W') (hk:Kept [] w W):AskR A w b mb L n r e W':=by
 rcases h with ⟨h1,h2,h3⟩ | ⟨h1,h2,h3,h4⟩ | ⟨x,ln,v,h1,h2,h3,h4,h5,h6⟩
 · exact .inl ⟨h1,h2,hk.trans h3⟩
 · exact .inr (.inl ⟨h1,h2,h3,hk.trans h4⟩)
 · exact .inr (.inr ⟨x,ln,v,h1,h2,h3.elder hk.size,h4,(hk.mono (by simp)).trans h5,⟨fun k hk2=>(h6.own k hk2).imp id (Nat.le_trans hk.size),fun k hk2=>(h6.spare k hk2).imp id (Nat.le_trans hk.size)⟩⟩)
def askI3 (s:Lo) (L:List Wi) (m:Int):Lo×List Wi×List Od:=askI s L m 3
theorem askI3_gd {A:Nat} {s:Lo} {L:List Wi} {m:Int} (h:Gd A s L):Gd (A+1) (askI3 s L m).1 (askI3 s L m).2.1:=askI_gd h (.inr (.inr rfl))
theorem askI3Len (s:Lo) (L:List Wi) (m:Int):(askI3 s L m).2.2.length≤8*L.length+16:=askILen _ _ _ _
theorem goneLen (s:Lo) (L:List Wi) (m c:Int):(goneP s L m c).2.2.length≤8*L.length+16:=by
 unfold goneP
 split
 · have:=isGoneLen (s.give m.toNat) m.toNat
   simp only;omega
 · simp
theorem gotLen (s:Lo) (L:List Wi) (m c:Int):(gotP s L m c).2.2.length≤8*L.length+16:=by
 unfold gotP
 split
 · have:=nextP_len L s.now.over
   omega
 · simp
theorem relLen (s:Lo) (L:List Wi) (m c:Int):(relP s L m c).2.2.length≤8*L.length+16:=by
 unfold relP
 split
 · unfold relN
   split
   · have:=isGoneLen (s.give m.toNat) m.toNat
     simp only;omega
   · split
     · unfold Lo.anew
       split
       · have:=handOnLen (s.give m.toNat).opUp
         simp only;omega
       · have:=handOverLen (s.give m.toNat).opUp
         simp only;omega
     · split
       · have:=nextP_len L (s.give m.toNat).needless.1
         simp only [more,List.length_append]
         simp [Lo.needless] at this⊢
         omega
       · simp
 · simp
theorem wroteLen (s:Lo) (L:List Wi) (m c p:Int):(wroteP s L m c p).2.2.length≤8*L.length+16:=by
 unfold wroteP
 split
 · have hd:=discards_len s p
   unfold wroteN
   split
   · split
     · split
       · have:=nextP_len L s.noPa.over
         simp only [more,List.length_append];omega
       · simp only;omega
     · split
       · have:=nextP_len L s.noPa.noOw.over
         simp only [more,List.length_append];omega
       · simp only;omega
   · simp only;omega
 · simp
theorem ent42:Ent 42:=fun vs w=>by kernel_rfl
theorem cl42 (h:Lc A w x) (hA:A≤900) (m md:Int) (c0 c1:Nat) (h0:Blk w c0 3 [.int .i64 m]) (h1:Blk w c1 29 [.int .i64 md]):Calls Try.prog 42 (#[P0 x.p]++ #[P0 c0,P0 c1]) w (LC x.p x.ln w (wantP x.s x.q m md)):=by
 have H:=hide (h.sd hA)
 have k0:=fits_cell h0 0 _ rfl
 have k1:=fits_cell h1 0 _ rfl
 clear h h0 h1
 show Calls Try.prog 42 #[P0 x.p,P0 c0,P0 c1] w _
 go_enter Try.func42,Try.ntmps42
 go_wp2_with (first |(go_at_call 43;refine(want20 x.s x.ln x.p x.q m md w (unhide H)).mono ?_;rintro e W1 ⟨ov,ln,rfl,h1⟩;have H1:=hide h1;clear h1;refine Stp.go ?_))
 constructor
 go_wp2_with fail
 go_ret
 exact⟨ov,ln,rfl,unhide H1⟩
theorem want15 (h:Dg A w b mb L) (hA:A≤900) (n m md:Int):Calls Try.prog 15 #[P0 b,.int .i64 n,.int .i64 m,.int .i64 md] w (AskR A w b mb L n fun s q=>wantP s q m md):=by
 have H:=hide h
 have HK:=hide (Kept.refl [] w)
 clear h
 go_enter Try.func15,Try.ntmps15
 go_wp2_with (first |(refine wpBox1 rfl (.tmp 2) rfl m rfl ?_;intro W0 c0 e0 B0 K0;have HB0:=hide B0;replace HK:=hide ((unhide HK).trans K0);clear e0 B0 K0;refine Stp.go ?_))
 constructor
 go_wp2_with (first |(refine wpBox1 rfl (.tmp 3) rfl md rfl ?_;intro W1 c1 e1 B1 K1;have HB1:=hide B1;replace HB0:=hide ((unhide HB0).kept K1 (by simp));replace HK:=hide ((unhide HK).trans K1);clear e1 B1 K1;refine Stp.go ?_))
 constructor
 have HD:Hid (Dg A W1 b mb L):=(unhide H).step0 (unhide HK)
 go_wp2_with (first |(go_at_call 41;refine(ask41 (F:=42) (cs:= #[P0 c0,P0 c1]) (r:=fun s q=>wantP s q m md) (unhide HD) ent42 (fun y hy=>cl42 ((unhide HD).lk y hy) hA m md c0 c1 (unhide HB0) (unhide HB1)) (fun y hy=>want_gd ((unhide HD).lk y hy).gd) (fun y hy=>by have h8:=wantLen y.s y.q m md;have h9:=((unhide HD).lk y hy).gd.len;omega)).mono ?_;rintro e W9 h9;obtain⟨a9,b9,rfl⟩:=h9.two;have HR:=hide (h9.since (unhide HK));clear h9;refine Stp.go ?_))
 constructor
 go_wp2_with fail
 go_ret2
 exact unhide HR
theorem ent44:Ent 44:=fun vs w=>by kernel_rfl
theorem cl44 (h:Lc A w x) (hA:A≤900) (m:Int) (c0:Nat) (h0:Blk w c0 3 [.int .i64 m]):Calls Try.prog 44 (#[P0 x.p]++ #[P0 c0]) w (LC x.p x.ln w (askI3 x.s x.q m)):=by
 have H:=hide (h.sd hA)
 have k0:=fits_cell h0 0 _ rfl
 clear h h0
 show Calls Try.prog 44 #[P0 x.p,P0 c0] w _
 go_enter Try.func44,Try.ntmps44
 go_wp2_with (first |(go_at_call 45;refine(clean21 x.s x.ln x.p x.q m w (unhide H)).mono ?_;rintro e W1 ⟨ov,ln,rfl,h1⟩;have H1:=hide h1;clear h1;refine Stp.go ?_))
 constructor
 go_wp2_with fail
 go_ret
 exact⟨ov,ln,rfl,unhide H1⟩
theorem clean16 (h:Dg A w b mb L) (hA:A≤900) (n m:Int):Calls Try.prog 16 #[P0 b,.int .i64 n,.int .i64 m] w (AskR A w b mb L n fun s q=>askI3 s q m):=by
 have H:=hide h
 have HK:=hide (Kept.refl [] w)
 clear h
 go_enter Try.func16,Try.ntmps16
 go_wp2_with (first |(refine wpBox1 rfl (.tmp 2) rfl m rfl ?_;intro W0 c0 e0 B0 K0;have HB0:=hide B0;replace HK:=hide ((unhide HK).trans K0);clear e0 B0 K0;refine Stp.go ?_))
 constructor
 have HD:Hid (Dg A W0 b mb L):=(unhide H).step0 (unhide HK)
 go_wp2_with (first |(go_at_call 41;refine(ask41 (F:=44) (cs:= #[P0 c0]) (r:=fun s q=>askI3 s q m) (unhide HD) ent44 (fun y hy=>cl44 ((unhide HD).lk y hy) hA m c0 (unhide HB0)) (fun y hy=>askI3_gd ((unhide HD).lk y hy).gd) (fun y hy=>by have h8:=askI3Len y.s y.q m;have h9:=((unhide HD).lk y hy).gd.len;omega)).mono ?_;rintro e W9 h9;obtain⟨a9,b9,rfl⟩:=h9.two;have HR:=hide (h9.since (unhide HK));clear h9;refine Stp.go ?_))
 constructor
 go_wp2_with fail
 go_ret2
 exact unhide HR
theorem ent46:Ent 46:=fun vs w=>by kernel_rfl
theorem cl46 (h:Lc A w x) (hA:A≤900) (m c:Int) (c0 c1:Nat) (h0:Blk w c0 3 [.int .i64 m]) (h1:Blk w c1 2 [.int .i64 c]):Calls Try.prog 46 (#[P0 x.p]++ #[P0 c0,P0 c1]) w (LC x.p x.ln w (goneP x.s x.q m c)):=by
 have H:=hide (h.sd hA)
 have k0:=fits_cell h0 0 _ rfl
 have k1:=fits_cell h1 0 _ rfl
 clear h h0 h1
 show Calls Try.prog 46 #[P0 x.p,P0 c0,P0 c1] w _
 go_enter Try.func46,Try.ntmps46
 go_wp2_with (first |(go_at_call 47;refine(gone30 x.s x.ln x.p x.q m c w (unhide H)).mono ?_;rintro e W1 ⟨ov,ln,rfl,h1⟩;have H1:=hide h1;clear h1;refine Stp.go ?_))
 constructor
 go_wp2_with fail
 go_ret
 exact⟨ov,ln,rfl,unhide H1⟩
theorem gone17 (h:Dg A w b mb L) (hA:A≤900) (n m c:Int):Calls Try.prog 17 #[P0 b,.int .i64 n,.int .i64 m,.int .i64 c] w (AskR A w b mb L n fun s q=>goneP s q m c):=by
 have H:=hide h
 have HK:=hide (Kept.refl [] w)
 clear h
 go_enter Try.func17,Try.ntmps17
 go_wp2_with (first |(refine wpBox1 rfl (.tmp 2) rfl m rfl ?_;intro W0 c0 e0 B0 K0;have HB0:=hide B0;replace HK:=hide ((unhide HK).trans K0);clear e0 B0 K0;refine Stp.go ?_))
 constructor
 go_wp2_with (first |(refine wpBox1 rfl (.tmp 3) rfl c rfl ?_;intro W1 c1 e1 B1 K1;have HB1:=hide B1;replace HB0:=hide ((unhide HB0).kept K1 (by simp));replace HK:=hide ((unhide HK).trans K1);clear e1 B1 K1;refine Stp.go ?_))
 constructor
 have HD:Hid (Dg A W1 b mb L):=(unhide H).step0 (unhide HK)
 go_wp2_with (first |(go_at_call 41;refine(ask41 (F:=46) (cs:= #[P0 c0,P0 c1]) (r:=fun s q=>goneP s q m c) (unhide HD) ent46 (fun y hy=>cl46 ((unhide HD).lk y hy) hA m c c0 c1 (unhide HB0) (unhide HB1)) (fun y hy=>gone_gd ((unhide HD).lk y hy).gd) (fun y hy=>by have h8:=goneLen y.s y.q m c;have h9:=((unhide HD).lk y hy).gd.len;omega)).mono ?_;rintro e W9 h9;obtain⟨a9,b9,rfl⟩:=h9.two;have HR:=hide (h9.since (unhide HK));clear h9;refine Stp.go ?_))
 constructor
 go_wp2_with fail
 go_ret2
 exact unhide HR
theorem ent48:Ent 48:=fun vs w=>by kernel_rfl
theorem cl48 (h:Lc A w x) (hA:A≤900) (m c:Int) (c0 c1:Nat) (h0:Blk w c0 3 [.int .i64 m]) (h1:Blk w c1 2 [.int .i64 c]):Calls Try.prog 48 (#[P0 x.p]++ #[P0 c0,P0 c1]) w (LC x.p x.ln w (gotP x.s x.q m c)):=by
 have H:=hide (h.sd hA)
 have k0:=fits_cell h0 0 _ rfl
 have k1:=fits_cell h1 0 _ rfl
 clear h h0 h1
 show Calls Try.prog 48 #[P0 x.p,P0 c0,P0 c1] w _
 go_enter Try.func48,Try.ntmps48
 go_wp2_with (first |(go_at_call 49;refine(got29 x.s x.ln x.p x.q m c w (unhide H)).mono ?_;rintro e W1 ⟨ov,ln,rfl,h1⟩;have H1:=hide h1;clear h1;refine Stp.go ?_))
 constructor
 go_wp2_with fail
 go_ret
 exact⟨ov,ln,rfl,unhide H1⟩
theorem got18 (h:Dg A w b mb L) (hA:A≤900) (n m c:Int):Calls Try.prog 18 #[P0 b,.int .i64 n,.int .i64 m,.int .i64 c] w (AskR A w b mb L n fun s q=>gotP s q m c):=by
 have H:=hide h
 have HK:=hide (Kept.refl [] w)
 clear h
 go_enter Try.func18,Try.ntmps18
 go_wp2_with (first |(refine wpBox1 rfl (.tmp 2) rfl m rfl ?_;intro W0 c0 e0 B0 K0;have HB0:=hide B0;replace HK:=hide ((unhide HK).trans K0);clear e0 B0 K0;refine Stp.go ?_))
 constructor
 go_wp2_with (first |(refine wpBox1 rfl (.tmp 3) rfl c rfl ?_;intro W1 c1 e1 B1 K1;have HB1:=hide B1;replace HB0:=hide ((unhide HB0).kept K1 (by simp));replace HK:=hide ((unhide HK).trans K1);clear e1 B1 K1;refine Stp.go ?_))
 constructor
 have HD:Hid (Dg A W1 b mb L):=(unhide H).step0 (unhide HK)
 go_wp2_with (first |(go_at_call 41;refine(ask41 (F:=48) (cs:= #[P0 c0,P0 c1]) (r:=fun s q=>gotP s q m c) (unhide HD) ent48 (fun y hy=>cl48 ((unhide HD).lk y hy) hA m c c0 c1 (unhide HB0) (unhide HB1)) (fun y hy=>got_gd ((unhide HD).lk y hy).gd) (fun y hy=>by have h8:=gotLen y.s y.q m c;have h9:=((unhide HD).lk y hy).gd.len;omega)).mono ?_;rintro e W9 h9;obtain⟨a9,b9,rfl⟩:=h9.two;have HR:=hide (h9.since (unhide HK));clear h9;refine Stp.go ?_))
 constructor
 go_wp2_with fail
 go_ret2
 exact unhide HR
theorem ent50:Ent 50:=fun vs w=>by kernel_rfl
theorem cl50 (h:Lc A w x) (hA:A≤900) (m c:Int) (c0 c1:Nat) (h0:Blk w c0 3 [.int .i64 m]) (h1:Blk w c1 2 [.int .i64 c]):Calls Try.prog 50 (#[P0 x.p]++ #[P0 c0,P0 c1]) w (LC x.p x.ln w (relP x.s x.q m c)):=by
 have H:=hide (h.sd hA)
 have k0:=fits_cell h0 0 _ rfl
 have k1:=fits_cell h1 0 _ rfl
 clear h h0 h1
 show Calls Try.prog 50 #[P0 x.p,P0 c0,P0 c1] w _
 go_enter Try.func50,Try.ntmps50
 go_wp2_with (first |(go_at_call 51;refine(rel22 x.s x.ln x.p x.q m c w (unhide H)).mono ?_;rintro e W1 ⟨ov,ln,rfl,h1⟩;have H1:=hide h1;clear h1;refine Stp.go ?_))
 constructor
 go_wp2_with fail
 go_ret
 exact⟨ov,ln,rfl,unhide H1⟩
theorem rel19 (h:Dg A w b mb L) (hA:A≤900) (n m c:Int):Calls Try.prog 19 #[P0 b,.int .i64 n,.int .i64 m,.int .i64 c] w (AskR A w b mb L n fun s q=>relP s q m c):=by
 have H:=hide h
 have HK:=hide (Kept.refl [] w)
 clear h
 go_enter Try.func19,Try.ntmps19
 go_wp2_with (first |(refine wpBox1 rfl (.tmp 2) rfl m rfl ?_;intro W0 c0 e0 B0 K0;have HB0:=hide B0;replace HK:=hide ((unhide HK).trans K0);clear e0 B0 K0;refine Stp.go ?_))
 constructor
 go_wp2_with (first |(refine wpBox1 rfl (.tmp 3) rfl c rfl ?_;intro W1 c1 e1 B1 K1;have HB1:=hide B1;replace HB0:=hide ((unhide HB0).kept K1 (by simp));replace HK:=hide ((unhide HK).trans K1);clear e1 B1 K1;refine Stp.go ?_))
 constructor
 have HD:Hid (Dg A W1 b mb L):=(unhide H).step0 (unhide HK)
 go_wp2_with (first |(go_at_call 41;refine(ask41 (F:=50) (cs:= #[P0 c0,P0 c1]) (r:=fun s q=>relP s q m c) (unhide HD) ent50 (fun y hy=>cl50 ((unhide HD).lk y hy) hA m c c0 c1 (unhide HB0) (unhide HB1)) (fun y hy=>rel_gd ((unhide HD).lk y hy).gd) (fun y hy=>by have h8:=relLen y.s y.q m c;have h9:=((unhide HD).lk y hy).gd.len;omega)).mono ?_;rintro e W9 h9;obtain⟨a9,b9,rfl⟩:=h9.two;have HR:=hide (h9.since (unhide HK));clear h9;refine Stp.go ?_))
 constructor
 go_wp2_with fail
 go_ret2
 exact unhide HR
theorem ent52:Ent 52:=fun vs w=>by kernel_rfl
theorem cl52 (h:Lc A w x) (hA:A≤900) (m c p:Int) (c0 c1 c2:Nat) (h0:Blk w c0 3 [.int .i64 m]) (h1:Blk w c1 2 [.int .i64 c]) (h2:Blk w c2 2 [.int .i64 p]):Calls Try.prog 52 (#[P0 x.p]++ #[P0 c0,P0 c1,P0 c2]) w (LC x.p x.ln w (wroteP x.s x.q m c p)):=by
 have H:=hide (h.sd hA)
 have k0:=fits_cell h0 0 _ rfl
 have k1:=fits_cell h1 0 _ rfl
 have k2:=fits_cell h2 0 _ rfl
 clear h h0 h1 h2
 show Calls Try.prog 52 #[P0 x.p,P0 c0,P0 c1,P0 c2] w _
 go_enter Try.func52,Try.ntmps52
 go_wp2_with (first |(go_at_call 53;refine(wrote31 x.s x.ln x.p x.q m c p w (unhide H)).mono ?_;rintro e W1 ⟨ov,ln,rfl,h1⟩;have H1:=hide h1;clear h1;refine Stp.go ?_))
 constructor
 go_wp2_with fail
 go_ret
 exact⟨ov,ln,rfl,unhide H1⟩
theorem wrote20 (h:Dg A w b mb L) (hA:A≤900) (n m c p:Int):Calls Try.prog 20 #[P0 b,.int .i64 n,.int .i64 m,.int .i64 c,.int .i64 p] w (AskR A w b mb L n fun s q=>wroteP s q m c p):=by
 have H:=hide h
 have HK:=hide (Kept.refl [] w)
 clear h
 go_enter Try.func20,Try.ntmps20
 go_wp2_with (first |(refine wpBox1 rfl (.tmp 2) rfl m rfl ?_;intro W0 c0 e0 B0 K0;have HB0:=hide B0;replace HK:=hide ((unhide HK).trans K0);clear e0 B0 K0;refine Stp.go ?_))
 constructor
 go_wp2_with (first |(refine wpBox1 rfl (.tmp 3) rfl c rfl ?_;intro W1 c1 e1 B1 K1;have HB1:=hide B1;replace HB0:=hide ((unhide HB0).kept K1 (by simp));replace HK:=hide ((unhide HK).trans K1);clear e1 B1 K1;refine Stp.go ?_))
 constructor
 go_wp2_with (first |(refine wpBox1 rfl (.tmp 4) rfl p rfl ?_;intro W2 c2 e2 B2 K2;have HB2:=hide B2;replace HB0:=hide ((unhide HB0).kept K2 (by simp));replace HB1:=hide ((unhide HB1).kept K2 (by simp));replace HK:=hide ((unhide HK).trans K2);clear e2 B2 K2;refine Stp.go ?_))
 constructor
 have HD:Hid (Dg A W2 b mb L):=(unhide H).step0 (unhide HK)
 go_wp2_with (first |(go_at_call 41;refine(ask41 (F:=52) (cs:= #[P0 c0,P0 c1,P0 c2]) (r:=fun s q=>wroteP s q m c p) (unhide HD) ent52 (fun y hy=>cl52 ((unhide HD).lk y hy) hA m c p c0 c1 c2 (unhide HB0) (unhide HB1) (unhide HB2)) (fun y hy=>wrote_gd ((unhide HD).lk y hy).gd) (fun y hy=>by have h8:=wroteLen y.s y.q m c p;have h9:=((unhide HD).lk y hy).gd.len;omega)).mono ?_;rintro e W9 h9;obtain⟨a9,b9,rfl⟩:=h9.two;have HR:=hide (h9.since (unhide HK));clear h9;refine Stp.go ?_))
 constructor
 go_wp2_with fail
 go_ret2
 exact unhide HR
end Go.Proofs.Ytbigongmlpoahaa.D
namespace Go.Proofs.Ytbigongmlpoahaa.D
set_option maxRecDepth 100000
set_option linter.unusedSimpArgs false
open Go.RowKit
variable {A F:Nat} {w W W':World} {b mb:Nat} {L:List Lk} {v ln:Value} {n:Int} {x:Lk}
end Go.Proofs.Ytbigongmlpoahaa.D
namespace Go.Proofs.Ytbigongmlpoahaa.D
set_option maxHeartbeats 4000000
set_option maxRecDepth 100000
set_option linter.unusedSimpArgs false
open Go.RowKit
theorem build40z (w:World):(Instr.build 40 #[]).run Try.prog w= .ok (aggV bz43) w:=by kernel_rfl
section
variable {ops:Array Oper} {rest:List Oper} {op o:Oper} {a:Act} {w:World} {K:Act→World→Prop} {Q:Exit→Act→World→Prop}
theorem wpStB {T m:Nat} (hT:Row T m) (hgd:op.guard=none) (x y:Operand) (ho:op.op= .store T x y) (b:Nat) (vs us:List Value) (hx:a.eval x=P0 b) (hy:a.eval y=aggV vs) (hl:vs.length=m) (hu:us.length=m) (_:0<m) (h1:∀v∈vs,v.oneCell'=true) (hB:Blk w b T us)
   (h:∀W,Blk W b T vs→Kept [b] w W→wpList Try.prog ops Q rest (a.put op.dst undef) W):wpList Try.prog ops Q (op::rest) a w:=
 wpStoreA hT hgd x y ho b 0 vs hx hy hl h1 (hB.there (by omega)) (h _ (hB.put (by omega)) ((Kept.refl _ _).setCells _ _ (by simp)))
end
theorem res11 (w:World) (z:Nat) (f:Bool) (vs:List Value) (tmps:Array Value) (h4:tmps[4]?.getD undef=P0 z) (h5:tmps[5]?.getD undef= .bool f) (hl:vs.length=17) (hb:Blk w z 40 vs):(results Try.f11 tmps).run Try.prog w= .ok (.tuple #[aggV vs,.bool f]) w:=by
 have:=loadV row43 hl hb
 simp [results,Try.results11,h4,h5,this,asAddr]
theorem bz_one:∀v∈bz43,v.oneCell'=true:=by decide
variable {A F:Nat} {w W W':World} {b mb:Nat} {L:List Lk} {v ln:Value} {n:Int} {x:Lk}
theorem book11_no (h:Dg A w b mb L) (hn:lkOf n L=none):Calls Try.prog 11 #[P0 b,.int .i64 n] w fun e W=>e= .returned (.tuple #[aggV bz43,.bool false])∧Kept [] w W:=by
 have H:=hide h
 have c0:=h.cw
 have HL:Hid (lookV n (L.map Lk.e)= .pointer none):=by show _=_;rw [(look_lk n L).1,hn]
 clear h hn
 go_enter Try.func11,Try.ntmps11
 go_wp2_with (first |(refine wpAllocW bz43 zero43 4 rfl rfl rfl ?_;intro W1 z e1 B1 K1;have HB:=hide B1;have HK:=hide K1;have HZ:Hid (w.heap.size≤z):=(by show _≤_;omega);replace c0:=K1.cell c0 (by simp);clear e1 B1 K1;refine Stp.go ?_))
 constructor
 go_wp2_with (first |(go_at_call 35;refine(none35 ((unhide H).step0 (unhide HK))).mono ?_;rintro e W9 ⟨rfl,q9⟩;replace q9:=q9.symm;subst q9;refine Stp.go ?_))
 constructor
 go_wp2_with (first |(refine wpLook1 (by rfl) (.tmp 12) (.tmp 13) rfl mb (L.map Lk.e) n _ rfl rfl (unhide HL) ((unhide H).map.kept (unhide HK) (by simp)) ?_;refine Stp.go ?_))
 constructor
 go_wp2_with (first |(refine wpBuildZ bz43 build40z rfl rfl ?_;refine Stp.go ?_))
 constructor
 go_wp2_with (first |(refine wpStB row43 rfl (.tmp 4) (.tmp 17) rfl z bz43 bz43 rfl rfl rfl rfl (by decide) bz_one (unhide HB) ?_;intro W2 B2 K2;replace HB:=hide B2;replace HK:=hide ((unhide HK).fresh K2 (fun i hi hl=>by simp at hi;have:=unhide HZ;omega));clear B2 K2;refine Stp.go ?_))
 constructor
 go_wp2_with fail
 exact bodyPost_ret (res11 _ z false _ _ rfl rfl rfl (unhide HB)) rfl ⟨rfl,unhide HK⟩
theorem book11_is (h:Dg A w b mb L) (hA:A≤900) (hn:lkOf n L=some x):Calls Try.prog 11 #[P0 b,.int .i64 n] w fun e W=>∃x1 x2 x3,e= .returned (.tuple #[aggV ((x.s.book x.q).C x1 x2 x3),.bool true])∧Bk w W (x.s.book x.q) x1 x2 x3∧Kept [] w W:=by
 have H:=hide h
 have c0:=h.cw
 have HL:Hid (lookV n (L.map Lk.e)=P0 x.p):=by show _=_;rw [(look_lk n L).1,hn]
 have HX:=hide (h.lk x (lkOf_some hn).1)
 have HLQ:Hid (x.q.length≤1000):=by have:=(h.lk x (lkOf_some hn).1).gd.len;show _≤_;omega
 clear h hn
 go_enter Try.func11,Try.ntmps11
 go_wp2_with (first |(refine wpAllocW bz43 zero43 4 rfl rfl rfl ?_;intro W1 z e1 B1 K1;have HB:=hide B1;have HK:=hide K1;have HZ:Hid (w.heap.size≤z):=(by show _≤_;omega);replace c0:=K1.cell c0 (by simp);clear e1 B1 K1;refine Stp.go ?_))
 constructor
 go_wp2_with (first |(go_at_call 35;refine(none35 ((unhide H).step0 (unhide HK))).mono ?_;rintro e W9 ⟨rfl,q9⟩;replace q9:=q9.symm;subst q9;refine Stp.go ?_))
 constructor
 go_wp2_with (first |(refine wpLook1 (by rfl) (.tmp 12) (.tmp 13) rfl mb (L.map Lk.e) n _ rfl rfl (unhide HL) ((unhide H).map.kept (unhide HK) (by simp)) ?_;refine Stp.go ?_))
 constructor
 go_wp2_with (first |(refine wpLook1 (by rfl) (.tmp 21) (.tmp 22) rfl mb (L.map Lk.e) n _ rfl rfl (unhide HL) ((unhide H).map.kept (unhide HK) (by simp)) ?_;refine Stp.go ?_))
 constructor
 go_wp2_with (first |(go_at_call 36;refine(book15 x.s x.ln x.p x.q _ ((unhide HX).blk.kept (unhide HK) (by simp)) ((unhide HX).row.kept (unhide HK) (fun _ _=>by simp)) (unhide HX).gd.ok.ex (unhide HLQ)).mono ?_;rintro e W3 ⟨x1,x2,x3,rfl,h1,h2⟩;have HBk:=hide h1;have HKW:=HK;have HZ1:Hid (z<W1.heap.size):=(unhide HB).lt;have HOne:=hide (BoC_one h1);replace HB:=hide ((unhide HB).kept h2 (by simp));replace HK:=hide ((unhide HK).trans h2);clear h1 h2;refine Stp.go ?_))
 constructor
 go_wp2_with (first |(refine wpStB row43 rfl (.tmp 4) (.tmp 24) rfl z ((x.s.book x.q).C x1 x2 x3) bz43 rfl rfl rfl rfl (by decide) (unhide HOne) (unhide HB) ?_;intro W2 B2 K2;replace HB:=hide B2;replace HK:=hide ((unhide HK).fresh K2 (fun i hi hl=>by simp at hi;have:=unhide HZ;omega));have HBk2:=hide (((unhide HBk).kept K2 (fun i hi=>by simp;have:=unhide HZ1;omega)).elder (unhide HKW).size);clear B2 K2 HBk;refine Stp.go ?_))
 constructor
 go_wp2_with fail
 exact bodyPost_ret (res11 _ z true _ _ rfl rfl rfl (unhide HB)) rfl ⟨x1,x2,x3,rfl,unhide HBk2,unhide HK⟩
end Go.Proofs.Ytbigongmlpoahaa.D
