/-
  Texts of the walks of member, shortened.
-/
import Derived.Test.YtcfflbafclmheaaGreatDoorDar
import Derived.RangeFuncNested
import Derived.RangeFuncBound
import Derived.RangeFuncCalls
import Derived.RangeFuncLeaves
import Derived.Shelf.Abstract
import Derived.Shelf.RegionOpen
import Derived.OwnWalkIn
import Derived.TacticsInMore
import Derived.LoopNIn
import Derived.LoopIn
import Derived.Laws.AppendOwn
set_option maxRecDepth 100000
set_option maxHeartbeats 100000000
set_option linter.unusedSimpArgs false
namespace Go.Proofs.YtcfflbafclmheaaGreatDoor.Dv
open Go.RowKit
theorem Rv.put {w:World} {r sg eg i:Nat} {u:Value} {D D':Dev} (h:Rv w r sg eg D) (hok:D'.Ok) (hS:D'.S=D.S) (hE:D'.E=D.E) (hN:D'.N=D.N) (hc:∀cap ecap,ZJ D' sg cap eg ecap=(ZJ D sg cap eg ecap).setIfInBounds i u):Rv (w.setCell ⟨r,i,none⟩ u) r sg eg D':=by
 obtain⟨cap,ecap,ex,a1,⟨ex',a2,a3⟩,a4,a5⟩:=h.lay;refine⟨hok,h.ne,cap,ecap,ex,?_,⟨ex',?_,?_⟩,?_,?_⟩
 · rw [heap_set a1,hc]
 · rw [hS];exact ZL a2 (Ne.symm h.ne.1)
 · rw [hS];exact a3
 · rw [hE,hN];exact ZL a4 (Ne.symm h.ne.2.1)
 · rw [hN];exact a5
def Dev.does (D:Dev):Dev×Bool:=
 if D.set=true∧D.left=0 then ({ D with lost:=true },false) else ({ D with left:=if D.set then D.left-1 else D.left,done:=wrap64 (D.done+1) },true)
theorem step_does (D:Dev) (S':List (List Int)) (E':List Int):D.step S' E'=if D.does.2 then ({ D.does.1 with S:=S',E:=E' },true) else (D.does.1,false):=by
 unfold Dev.step Dev.does;split <;> simp
theorem does_S (D:Dev):D.does.1.S=D.S∧D.does.1.E=D.E∧D.does.1.N=D.N:=by unfold Dev.does;split <;> exact⟨rfl,rfl,rfl⟩
theorem ref_lost (D:Dev) (x:Bool) (sg cap eg ecap:Nat):ZJ { D with lost:=x } sg cap eg ecap=(ZJ D sg cap eg ecap).setIfInBounds 3 (.bool x):=by simp [ZJ,Dev.rleft]
theorem ref_done (D:Dev) (x:Int) (sg cap eg ecap:Nat):ZJ { D with done:=x } sg cap eg ecap=(ZJ D sg cap eg ecap).setIfInBounds 4 (.int .i64 x):=by simp [ZJ,Dev.rleft]
theorem ref_left (D:Dev) (x:Int) (hs:D.set=true) (sg cap eg ecap:Nat):ZJ { D with left:=x } sg cap eg ecap=(ZJ D sg cap eg ecap).setIfInBounds 2 (.int .i64 x):=by simp [ZJ,Dev.rleft,hs]
theorem r_does (r sg eg:Nat) (D:Dev) (w:World) (h:Rv w r sg eg D):Calls Tryz.prog 58 #[P0 r] w fun e w'=>e= .returned (.bool D.does.2)∧Rv w' r sg eg D.does.1∧Kept [r] w w':=by
 obtain⟨cap,ecap,c0,c1,c2,c3,c4,cf,hb,hec⟩:=h.cells;have hok:=h.ok;have hl0:=hok.l0;have f2:=cf 2;have f3:=cf 3;have f4:=cf 4;clear cf;cases hs:D.set with
 | false=>
  have hR:D.does=({ D with done:=wrap64 (D.done+1) },true):=by simp [Dev.does,hs]
  have hr:D.rleft= -1:=by simp [Dev.rleft,hs]
  rw [hR];rw [hr] at c2;have hp:=hide (h.put (hok.done' (wrap64 (D.done+1))) rfl rfl rfl (fun cap ecap=>ref_done D _ sg cap eg ecap));clear hR hr;go_enter Tryz.func58,Tryz.ntmps58
  go_wp2_with fail
  go_ret
  exact⟨rfl,Qa hp,(Kept.refl _ _).setCell (by simp) _⟩
 | true=>
  have hr:D.rleft=D.left:=by simp [Dev.rleft,hs]
  rw [hr] at c2;by_cases hz:D.left=0
  · have hR:D.does=({ D with lost:=true },false):=by simp [Dev.does,hs,hz]
    rw [hR];rw [hz] at c2;have hp:=hide (h.put (hok.lost' true) rfl rfl rfl (fun cap ecap=>ref_lost D true sg cap eg ecap));clear hR hr hz;go_enter Tryz.func58,Tryz.ntmps58
    go_wp2_with fail
    go_ret
    exact⟨rfl,Qa hp,(Kept.refl _ _).setCell (by simp) _⟩
  · have hR:D.does=({ D with left:=D.left-1,done:=wrap64 (D.done+1) },true):=by simp [Dev.does,hs,hz]
    rw [hR];have h1:=h.put (hok.left (x:=D.left-1) (by omega)) rfl rfl rfl (fun cap ecap=>ref_left D _ hs sg cap eg ecap);have hp:=hide (h1.put (h1.ok.done' (wrap64 (D.done+1))) rfl rfl rfl (fun cap ecap=>ref_done _ _ sg cap eg ecap));rw [hs] at hp;clear hR hr h1;go_enter Tryz.func58,Tryz.ntmps58
    go_wp2_with fail
    go_ret
    exact⟨rfl,Qa hp,((Kept.refl _ _).setCell (by simp) _).setCell (by simp) _⟩
theorem Rv.putEp {w:World} {r sg eg k:Nat} {x:Int} {D:Dev} (h:Rv w r sg eg D) (hk:k<D.N) (hx:0≤x∧x≤2147483647):Rv (w.setCell ⟨eg,k,none⟩ (.int .i64 x)) r sg eg { D with E:=D.E.set k x } :=by
 obtain⟨cap,ecap,ex,a1,⟨ex',a2,a3⟩,a4,a5⟩:=h.lay;refine⟨h.ok.epoch k x hx,h.ne,cap,ecap,ex,ZL a1 h.ne.2.1,⟨ex',ZL a2 h.ne.2.2,a3⟩,?_,a5⟩;have h1:=h.ok.n1;have h8:=h.ok.e8;rw [heap_set a4];congr 2;rw [List.setIfInBounds_toArray,List.set_append_left _ _ (by simp;omega)];congr 2;rw [← List.map_set,List.take_set]
theorem r_up (r sg eg:Nat) (D:Dev) (x:Int) (w:World) (h:Rv w r sg eg D):Calls Tryz.prog 23 #[P0 r,.int .i64 x] w fun e w'=>e= .returned (.tuple #[.int .i64 (D.up x).1,.int .i64 (D.up x).2.1])∧Rv w' r sg eg (D.up x).2.2∧Kept [r,eg] w w':=by
 have HC:=r_epoch r sg eg D x w h;cases hN:hasN D.N x with
 | false=>
  have hE:D.epoch x=(0,2):=by simp [Dev.epoch,hN]
  have hU:D.up x=(0,2,D):=by simp [Dev.up,hN]
  rw [hU];rw [hE] at HC;have HC:=hide HC;clear hE hU;go_enter Tryz.func23,Tryz.ntmps23
  go_wp2_with (go_at_call 37;refine(Qa HC).mono ?_;rintro e w' ⟨rfl,rfl⟩)
  go_ret2
  exact⟨rfl,h,Kept.refl _ _⟩
 | true=>
  obtain⟨h0,h1⟩:=ZC hN;obtain⟨k,rfl⟩:=Int.eq_ofNat_of_zero_le h0;have hkN:k<D.N:=by omega
  have hE:D.epoch k=(D.ep k,0):=by simp [Dev.epoch,hN]
  have hle:=ep_le h.ok k hkN;rw [hE] at HC;have HC:=hide HC;clear hE;by_cases hm:D.ep k=2147483647
  · have hU:D.up k=(0,5,D):=by simp [Dev.up,hN,hm]
    rw [hU];clear hU;go_enter Tryz.func23,Tryz.ntmps23
    go_wp2_with (go_at_call 37;refine(Qa HC).mono ?_;rintro e w' ⟨rfl,rfl⟩)
    go_ret2
    exact⟨rfl,h,Kept.refl _ _⟩
  · have hU:D.up k=(D.ep k+1,0,(D.step D.S (D.E.set k (D.ep k+1))).1):=by simp [Dev.up,hN,hm]
    rw [hU,step_does];have HD:=hide (r_does r sg eg D w h);cases hd:D.does.2 with
    | true=>
     rw [hd] at HD;clear hU h1;go_enter Tryz.func23,Tryz.ntmps23
     go_wp2_with (first |(go_at_call 37;refine(Qa HC).mono ?_;rintro e w' ⟨rfl,rfl⟩))
     refine(Qa HD).mono ?_;rintro e w1 ⟨rfl,hd1,hk1⟩;obtain⟨cap,ecap,c0,c1,c2,c3,c4,cf,hb,hec⟩:=hd1.cells;have hs:=does_S D;have hce:=hd1.epoch k (by rw [hs.2.2];exact hkN);have hfe:w1.frozen? ⟨eg,k,none⟩=false:=by
      obtain⟨_,_,_,_,_,a3,_⟩:=hd1.lay;exact QO a3 k
     have hp:=hide (hd1.putEp (k:=k) (x:=D.ep k+1) (by rw [hs.2.2];exact hkN) (by omega));rw [hs.2.2] at c1;rw [hs.2.1,hs.1,hs.2.2] at hp;have hkI:(k:Int)<D.N:=by omega
     clear cf HC HD hb;go_wp2_with fail
     go_ret2
     refine⟨rfl,?_,(hk1.mono (by simp)).setCell (by simp) _⟩;exact Qa hp
    | false=>
     rw [hd] at HD;clear hU h1;go_enter Tryz.func23,Tryz.ntmps23
     go_wp2_with (first |(go_at_call 37;refine(Qa HC).mono ?_;rintro e w' ⟨rfl,rfl⟩) |(go_at_call 58;refine(Qa HD).mono ?_;rintro e w1 ⟨rfl,hd1,hk1⟩))
     go_ret2
     exact⟨rfl,hd1,hk1.mono (by simp)⟩
open Go.RowKit
theorem who_zero {D:Dev} {x ep:Int} (h:D.whoR x ep=0):hasN D.N x=true∧0≤ep∧ep≤D.ep x:=by
 unfold Dev.whoR at h;split at h
 · assumption
 · simp at h
theorem who_two {D:Dev} {x ep:Int} (h:D.whoR x ep≠0):D.whoR x ep=2∧¬(hasN D.N x=true∧0≤ep∧ep≤D.ep x):=by
 unfold Dev.whoR at h⊢;split
 · rename_i hc;simp [hc] at h
 · exact⟨rfl,by assumption⟩
theorem ref_two {D:Dev} {x ep:Int} {may:Bool} (h:may=false∨¬(hasN D.N x=true∧0≤ep∧ep≤D.ep x)):D.ref x ep may=2:=by
 unfold Dev.ref;rw [if_neg];rintro ⟨h1,h2⟩;rcases h with h | h
 · rw [h] at h1;cases h1
 · exact h h2
theorem who_is (r sg eg:Nat) (D:Dev) (x ep:Int) (w:World) (h:Rv w r sg eg D) (v:Int) (hv:D.whoR x ep=v):Calls Tryz.prog 144 #[P0 r,.int .i64 x,.int .i64 ep] w fun e w'=>e= .returned (.int .i64 v)∧w'=w:=by
 subst hv;exact r_who r sg eg D x ep w h
theorem r_fence (r sg eg:Nat) (D:Dev) (x ep y ab:Int) (w:World) (h:Rv w r sg eg D) (hab: -9223372036854775808≤ab∧ab≤9223372036854775807):
   Calls Tryz.prog 98 #[P0 r,.int .i64 x,.int .i64 ep,.int .i64 y,.int .i64 ab] w fun e w'=>e= .returned (.int .i64 (D.fence x ep y ab).1)∧Rv w' r sg eg (D.fence x ep y ab).2∧Kept [r,eg] w w':=by
 obtain⟨cap,ecap,c0,c1,c2,c3,c4,cf,hb,hec⟩:=h.cells;have bad:D.ref x ep (hasN D.N y&&decide (0≤ab∧ab≤2147483646))=2→D.fence x ep y ab=(2,D):=by
   intro h2;simp only [Dev.fence,h2];rfl
 by_cases hw0:D.whoR x ep=0
 · obtain⟨hx,he0,he1⟩:=who_zero hw0;have HW:=hide (who_is r sg eg D x ep w h 0 hw0);clear hw0;by_cases hy0:y<0
   · rw [bad (ref_two (.inl (by simp [hasN];omega)))];clear bad;go_enter Tryz.func98,Tryz.ntmps98
     go_wp2_with (go_at_call 144;refine(Qa HW).mono ?_;rintro e w' ⟨rfl,rfl⟩)
     go_ret
     exact⟨rfl,h,Kept.refl _ _⟩
   · obtain⟨q,rfl⟩:=Int.eq_ofNat_of_zero_le (show 0≤y by omega);by_cases hq:q<D.N
     · by_cases ha0:ab<0
       · rw [bad (ref_two (.inl (by simp;omega)))];clear bad;go_enter Tryz.func98,Tryz.ntmps98
         go_wp2_with (go_at_call 144;refine(Qa HW).mono ?_;rintro e w' ⟨rfl,rfl⟩)
         go_ret
         exact⟨rfl,h,Kept.refl _ _⟩
       · by_cases ha1:2147483646<ab
         · rw [bad (ref_two (.inl (by simp;omega)))];clear bad;go_enter Tryz.func98,Tryz.ntmps98
           go_wp2_with (go_at_call 144;refine(Qa HW).mono ?_;rintro e w' ⟨rfl,rfl⟩)
           go_ret
           exact⟨rfl,h,Kept.refl _ _⟩
         · have hmay:(hasN D.N (q:Int)&&decide (0≤ab∧ab≤2147483646))=true:=by simp [hasN,hq];omega
           obtain⟨k,rfl⟩:=Int.eq_ofNat_of_zero_le (ZC hx).1;have hkN:k<D.N:=by have:=(ZC hx).2;omega
           have hck:=h.epoch k hkN;have hcq:=h.epoch q hq;have hqI:(q:Int)<D.N:=by omega
           have hkI:(k:Int)<D.N:=by omega
           clear bad;by_cases hfen:ep<D.ep k
           · have hU:D.fence k ep q ab=(8,D):=by
               have:D.ref k ep true=8:=by simp [Dev.ref,hx,he0,he1,hfen]
               simp only [Dev.fence,hmay,this];rfl
             rw [hU];clear hU;go_enter Tryz.func98,Tryz.ntmps98
             go_wp2_with (go_at_call 144;refine(Qa HW).mono ?_;rintro e w' ⟨rfl,rfl⟩)
             go_ret
             exact⟨rfl,h,Kept.refl _ _⟩
           · have hr0:D.ref k ep true=0:=by simp [Dev.ref,hx,he0,he1];omega
             by_cases hle:D.ep q≤ab
             · have hU:D.fence k ep q ab=(0,(D.step D.S (D.E.set q (ab+1))).1):=by simp only [Dev.fence,hmay,hr0,if_true,hle];rfl
               rw [hU,step_does];clear hU hr0;have HD:=hide (r_does r sg eg D w h);cases hd:D.does.2 with
               | true=>
                rw [hd] at HD;go_enter Tryz.func98,Tryz.ntmps98
                go_wp2_with (first |(go_at_call 144;refine(Qa HW).mono ?_;rintro e w' ⟨rfl,rfl⟩))
                refine(Qa HD).mono ?_;rintro e w1 ⟨rfl,hd1,hk1⟩;obtain⟨cap',ecap',_,c1',_,_,_,_,_,_⟩:=hd1.cells;have hs:=does_S D;have hce:=hd1.epoch q (by rw [hs.2.2];exact hq);have hfe:w1.frozen? ⟨eg,q,none⟩=false:=by
                 obtain⟨_,_,_,_,_,a3,_⟩:=hd1.lay;exact QO a3 q
                have hp:=hide (hd1.putEp (k:=q) (x:=ab+1) (by rw [hs.2.2];exact hq) (by omega));rw [hs.2.2] at c1';rw [hs.2.1,hs.1,hs.2.2] at hp;clear HD hb;go_wp2_with fail
                go_ret
                exact⟨rfl,Qa hp,(hk1.mono (by simp)).setCell (by simp) _⟩
               | false=>
                rw [hd] at HD;go_enter Tryz.func98,Tryz.ntmps98
                go_wp2_with (first |(go_at_call 144;refine(Qa HW).mono ?_;rintro e w' ⟨rfl,rfl⟩) |(go_at_call 58;refine(Qa HD).mono ?_;rintro e w1 ⟨rfl,hd1,hk1⟩))
                go_ret
                exact⟨rfl,hd1,hk1.mono (by simp)⟩
             · have hU:D.fence k ep q ab=(0,D):=by simp only [Dev.fence,hmay,hr0,if_true,hle];rfl
               rw [hU];clear hU hr0;go_enter Tryz.func98,Tryz.ntmps98
               go_wp2_with (go_at_call 144;refine(Qa HW).mono ?_;rintro e w' ⟨rfl,rfl⟩)
               go_ret
               exact⟨rfl,h,Kept.refl _ _⟩
     · rw [bad (ref_two (.inl (by simp [hasN];omega)))];clear bad;go_enter Tryz.func98,Tryz.ntmps98
       go_wp2_with (go_at_call 144;refine(Qa HW).mono ?_;rintro e w' ⟨rfl,rfl⟩)
       go_ret
       exact⟨rfl,h,Kept.refl _ _⟩
 · obtain⟨hw2,hno⟩:=who_two hw0;rw [bad (ref_two (.inr hno))];have HW:=hide (who_is r sg eg D x ep w h 2 hw2);clear bad hw0 hw2;go_enter Tryz.func98,Tryz.ntmps98
   go_wp2_with (go_at_call 144;refine(Qa HW).mono ?_;rintro e w' ⟨rfl,rfl⟩)
   go_ret
   exact⟨rfl,h,Kept.refl _ _⟩
theorem res39 (w:World) (z:Nat) (s:List Int) (e:Int) (tmps:Array Value) (h4:tmps[4]?.getD undef= .pointer (some ⟨z,0,none⟩)) (h5:tmps[5]?.getD undef= .int .i64 e) (hb:Box w z s):(results Tryz.f48 tmps).run Tryz.prog w= .ok (.tuple #[secV s,.int .i64 e]) w:=by
 have:=hb.at.loadVar;simp [results,Tryz.results48,h4,h5,this,asAddr]
theorem Rv.sector {w:World} {r sg eg:Nat} {D:Dev} (h:Rv w r sg eg D) (i:Nat) (hi:i<D.S.length):At w sg (i*64) D.S[i]:=by
 obtain⟨cap,ecap,_,_,_,_,_,_,hb,_⟩:=h.cells;exact⟨h.ok.sec _ (List.getElem_mem hi),hb.range h.ok.sec i hi,hb.there h.ok.sec i hi⟩
theorem Rv.alloc {w:World} {r sg eg:Nat} {D:Dev} (h:Rv w r sg eg D) (o:Obj):Rv (w.alloc o) r sg eg D:=h.kept (X:= []) ((Kept.refl _ _).alloc o) (by simp) (by simp) (by simp)
set_option maxRecDepth 100000 in
theorem r_read (r sg eg:Nat) (D:Dev) (x:Int) (w:World) (h:Rv w r sg eg D):Calls Tryz.prog 48 #[P0 r,.int .i64 x] w fun e w'=>e= .returned (.tuple #[secV (D.read x).1,.int .i64 (D.read x).2])∧Kept [] w w':=by
 have hb0:=hide (Box.new w);have hk0:=hide ((Kept.refl [] w).alloc (.cells (u8s nought).toArray 59));have hD:=h.alloc (.cells (u8s nought).toArray 59);obtain⟨cap,ecap,c0,c1,c2,c3,c4,cf,hb,hec⟩:=hD.cells;have bad:hasS D.S.length x 1=false→D.read x=(nought,2):=by intro hN;simp [Dev.read,hN]
 by_cases h0:x<0
 · rw [bad (by simp [hasS];omega)];clear bad;go_enter Tryz.func48,Tryz.ntmps48
   go_wp2_with (first |(refine wpAllocS rfl rfl ?_) |(refine wpBuildS rfl rfl ?_) |(refine wpStoreS rfl (.tmp 4) (.tmp 20) rfl w.heap.size 0 nought rfl rfl Zt (Qa hb0).at.2.2 ?_))
   exact bodyPost_ret (res39 _ w.heap.size nought 2 _ rfl rfl ((Qa hb0).put Zt)) rfl ⟨rfl,(Qa hk0).setCells _ _ (by simp)⟩
 · obtain⟨k,rfl⟩:=Int.eq_ofNat_of_zero_le (show 0≤x by omega);by_cases hk:k<D.S.length
   · have hE:D.read k=(D.S[k],0):=by
      have hN:hasS D.S.length (k:Int) 1=true:=by simp [hasS];omega
      simp [Dev.read,hN,List.getD,hk]
     rw [hE];have hA:=hide (hD.sector k hk);clear hE bad;go_enter Tryz.func48,Tryz.ntmps48
     go_wp2_with (first |(refine wpAllocS rfl rfl ?_) |(refine wpLoadS rfl (.tmp 26) rfl sg (k*64) rfl _ (Qa hA) ?_) |(refine wpStoreS rfl (.tmp 4) (.tmp 27) rfl w.heap.size 0 _ rfl rfl (Qa hA).1 (Qa hb0).at.2.2 ?_))
     exact bodyPost_ret (res39 _ w.heap.size _ 0 _ rfl rfl ((Qa hb0).put (Qa hA).1)) rfl ⟨rfl,(Qa hk0).setCells _ _ (by simp)⟩
   · rw [bad (by simp [hasS];omega)];clear bad;go_enter Tryz.func48,Tryz.ntmps48
     go_wp2_with (first |(refine wpAllocS rfl rfl ?_) |(refine wpBuildS rfl rfl ?_) |(refine wpStoreS rfl (.tmp 4) (.tmp 20) rfl w.heap.size 0 nought rfl rfl Zt (Qa hb0).at.2.2 ?_))
     exact bodyPost_ret (res39 _ w.heap.size nought 2 _ rfl rfl ((Qa hb0).put Zt)) rfl ⟨rfl,(Qa hk0).setCells _ _ (by simp)⟩
open Go.RowKit
theorem Rv.drewN {w:World} {r sg eg:Nat} {D:Dev} (h:Rv w r sg eg D) (n:Nat):Rv (w.drewN n) r sg eg D:=h.kept (X:= []) ((Kept.refl _ _).drewN n) (by simp) (by simp) (by simp)
theorem Rv.drew {w:World} {r sg eg:Nat} {D:Dev} (h:Rv w r sg eg D):Rv w.drew r sg eg D:=h.kept (X:= []) ((Kept.refl _ _).drew) (by simp) (by simp) (by simp)
theorem Rv.putS {w:World} {r sg eg k:Nat} {D:Dev} {s:List Int} (h:Rv w r sg eg D) (hk:k<D.S.length) (hs:Sec s):Rv (w.setCells sg (k*64) (u8s s)) r sg eg { D with S:=D.S.set k s } :=by
 obtain⟨cap,ecap,ex,a1,a2,a4,a5⟩:=h.lay;refine⟨h.ok.sector k s hs,h.ne,cap,ecap,ex,?_,a2.put h.ok.sec k hk s hs.1,?_,a5⟩
 · rw [sets_ne _ _ _ _ h.ne.1,a1];simp [ZJ,Dev.rleft]
 · rw [sets_ne _ _ _ _ (Ne.symm h.ne.2.2)];exact a4
def swapR (w:World) (s t:List Int):World:=(w.alloc (.cells (u8s s).toArray 59)).alloc (.cells (u8s t).toArray 59)
set_option maxRecDepth 100000 in
theorem r_swap (r sg eg:Nat) (D:Dev) (x ep f:Int) (s t:List Int) (w:World) (h:Rv w r sg eg D) (hs:Sec s) (ht:Sec t):
   Calls Tryz.prog 143 #[P0 r,.int .i64 x,.int .i64 ep,.int .i64 f,secV s,secV t] w fun e w'=>e= .returned (.tuple #[.bool (D.swap x ep f s t).1,.int .i64 (D.swap x ep f s t).2.1])∧Rv w' r sg eg (D.swap x ep f s t).2.2∧Kept [r,sg] w w':=by
 have hlt:=h.lt;have hkW:Kept [] w (swapR w s t):=((Kept.refl _ _).alloc _).alloc _;have hD:=h.kept hkW (by simp) (by simp) (by simp);have hbs:Hid (Box (swapR w s t) w.heap.size s):=⟨hs,heap_alloc_old (QX rfl)⟩;have hbt:Hid (Box (swapR w s t) (w.heap.size+1) t):=⟨ht,QX (by simp)⟩;obtain⟨cap,ecap,c0,c1,c2,c3,c4,cf,hb,hec⟩:=hD.cells;have bad:D.ref x ep (hasS D.S.length f 1)=2→D.swap x ep f s t=(false,2,D):=by
   intro h2;simp only [Dev.swap,h2];rfl
 by_cases hw0:D.whoR x ep=0
 · obtain⟨hx,he0,he1⟩:=who_zero hw0;have HW:=hide (who_is r sg eg D x ep _ hD 0 hw0);clear hw0;by_cases hf0:f<0
   · rw [bad (ref_two (.inl (by simp [hasS];omega)))];clear bad;go_enter Tryz.func143,Tryz.ntmps143
     go_wp2_with (first |(refine ZU rfl (.tmp 4) rfl s rfl ?_) |(refine ZU rfl (.tmp 5) rfl t rfl ?_) |(go_at_call 144;refine(Qa HW).mono ?_;rintro e w' ⟨rfl,rfl⟩))
     go_ret2
     exact⟨rfl,hD,hkW.mono (by simp)⟩
   · obtain⟨q,rfl⟩:=Int.eq_ofNat_of_zero_le (show 0≤f by omega);by_cases hq:q<D.S.length
     · have hS:hasS D.S.length (q:Int) 1=true:=by simp [hasS];omega
       obtain⟨k,rfl⟩:=Int.eq_ofNat_of_zero_le (ZC hx).1;have hkN:k<D.N:=by have:=(ZC hx).2;omega
       have hck:=hD.epoch k hkN;have hqI:(q:Int)<D.S.length:=by omega
       have hkI:(k:Int)<D.N:=by omega
       have hq0:(0:Int)≤(q:Int):=by omega
       clear bad;by_cases hfen:ep<D.ep k
       · have hU:D.swap k ep q s t=(false,8,D):=by
           have:D.ref k ep true=8:=by simp [Dev.ref,hx,he0,he1,hfen]
           simp only [Dev.swap,hS,this];rfl
         rw [hU];clear hU;go_enter Tryz.func143,Tryz.ntmps143
         go_wp2_with (first |(refine ZU rfl (.tmp 4) rfl s rfl ?_) |(refine ZU rfl (.tmp 5) rfl t rfl ?_) |(go_at_call 144;refine(Qa HW).mono ?_;rintro e w' ⟨rfl,rfl⟩))
         go_ret2
         exact⟨rfl,hD,hkW.mono (by simp)⟩
       · have hr0:D.ref k ep true=0:=by simp [Dev.ref,hx,he0,he1];omega
         have hU:D.swap k ep q s t=if D.S[q]=s then (true,0,(D.step (D.S.set q t) D.E).1) else (false,0,D):=by simp [Dev.swap,hS,hr0,hq]
         rw [hU];have hsq:=hD.ok.sec _ (List.getElem_mem hq);have hrq:=hb.range hD.ok.sec q hq;have hrs:=(Qa hbs).at.2.1;clear hU hr0 hS;by_cases he:D.S[q]=s
         · rw [if_pos he];have hdec:Hid ((!decide (D.S[q]=s))=false):=by simpa [Hid] using he
           clear he;rw [step_does];have HDo:∀n,Hid (Calls Tryz.prog 58 #[P0 r] ((swapR w s t).drewN n) fun e w'=>e= .returned (.bool D.does.2)∧Rv w' r sg eg D.does.1∧Kept [r] ((swapR w s t).drewN n) w'):=fun n=>r_does r sg eg D _ (hD.drewN n);have hbt2:∀n,Hid (Box ((swapR w s t).drewN n) (w.heap.size+1) t):=fun n=>(Qa hbt).kept (X:= []) ((Kept.refl _ _).drewN _) (by simp);have hne1:Hid (w.heap.size+1≠r∧w.heap.size+1≠sg):=⟨by omega,by omega⟩;have hs3:=does_S D;cases hd:D.does.2 with
           | true=>
            rw [hd] at HDo;go_enter Tryz.func143,Tryz.ntmps143
            go_wp2_with (first |(refine ZU rfl (.tmp 4) rfl s rfl ?_) |(refine ZU rfl (.tmp 5) rfl t rfl ?_) |(go_at_call 144;refine(Qa HW).mono ?_;rintro e w' ⟨rfl,rfl⟩))
            change Code.wp _ _ _ _ (swapR w s t);generalize swapR w s t=W at*;refine wp_region_quiet_lit (by kernel_rfl) (by kernel_rfl) ?_
            repeat (first |(refine ZF rfl (.tmp 48) rfl sg (q*64) rfl D.S[q] hsq (by rintro _ ⟨_,rfl⟩;exact hrq) ?_) |(refine ZF rfl (.tmp 10) rfl w.heap.size 0 rfl s hs (by rintro _ ⟨_,rfl⟩;exact hrs) ?_) |(refine quietNeqS rfl (.tmp 49) (.tmp 50) _ rfl D.S[q] s rfl rfl hsq hs _ (Qa hdec) ?_) | quiet_step (fail))
            refine wpQuiet_nil ?_;intro _ hw';obtain⟨nq2,hw''⟩:=hw';subst hw'';go_wp2_with fail
            refine(Qa (HDo _)).mono ?_;rintro e w1 ⟨rfl,hd1,hk1⟩;have hbt3:=(Qa (hbt2 nq2)).kept hk1 (by simpa using (Qa hne1).1);have hp:=hide (hd1.drew.putS (k:=q) (s:=t) (by rw [hs3.1];exact hq) ht);rw [hs3.1,hs3.2.1,hs3.2.2] at hp;have hkk:Hid (Kept [r,sg] w w1):=((hkW.drewN nq2).mono (by simp)).trans (hk1.mono (by simp));obtain⟨cap',ecap',c0',_,_,_,_,_,hb',_⟩:=hd1.cells;have hth:=hb'.there hd1.ok.sec q (by rw [hs3.1];exact hq);rw [hs3.1] at c0';have hrt:=hbt3.at.2.1;have hu:=Tryz.underlying59;have hu8:(u8s t).length=64:=by rw [Qy,ht.1]
            have hsz:(Tryz.prog.info? 59).map (·.size)=some (u8s t).length:=by rw [hu8];exact Tryz.info38
            have hone:=QU t;have hrsg:=hd1.ne.1;have n0:=(Qa hne1).2;clear HDo HW hbt2 hbt3 hbs hbt hrs hrq hD hck c0 c1 c2 c3 c4 cf hb hb' hec hne1;generalize w.heap.size+1=pt at*;go_wp2_with fail
            go_region_held3 (fun w'=>w'.cell? ⟨r,0,none⟩=some (.slice (some ⟨sg,0,none⟩) D.S.length cap')∧w'.rangeAt pt 0 (u8s t)∧w'.there sg (q*64) 64)
             (first |(go_keep_ranges;done) |(go_keep;done) |(go_split_ands;simp only [World.rangeAt_drew,World.there_drew] at *;refine⟨Zf hrsg (by assumption),World.rangeAt_setCells_apart (by assumption) _ _ _ (.inl n0),World.there_setCells (by assumption) _ _ _⟩)) (fail)
            all_goals go_wp2_with fail
            go_ret2
            exact⟨rfl,Qa hp,(Qa hkk).drew.setCells _ _ (by simp)⟩
           | false=>
            rw [hd] at HDo;go_enter Tryz.func143,Tryz.ntmps143
            go_wp2_with (first |(refine ZU rfl (.tmp 4) rfl s rfl ?_) |(refine ZU rfl (.tmp 5) rfl t rfl ?_) |(go_at_call 144;refine(Qa HW).mono ?_;rintro e w' ⟨rfl,rfl⟩))
            change Code.wp _ _ _ _ (swapR w s t);generalize swapR w s t=W at*;refine wp_region_quiet_lit (by kernel_rfl) (by kernel_rfl) ?_
            repeat (first |(refine ZF rfl (.tmp 48) rfl sg (q*64) rfl D.S[q] hsq (by rintro _ ⟨_,rfl⟩;exact hrq) ?_) |(refine ZF rfl (.tmp 10) rfl w.heap.size 0 rfl s hs (by rintro _ ⟨_,rfl⟩;exact hrs) ?_) |(refine quietNeqS rfl (.tmp 49) (.tmp 50) _ rfl D.S[q] s rfl rfl hsq hs _ (Qa hdec) ?_) | quiet_step (fail))
            refine wpQuiet_nil ?_;intro _ hw';obtain⟨nq2,hw''⟩:=hw';subst hw'';go_wp2_with fail
            refine(Qa (HDo _)).mono ?_;rintro e w1 ⟨rfl,hd1,hk1⟩;go_wp2_with fail
            go_ret2
            exact⟨rfl,hd1,((hkW.drewN nq2).mono (by simp)).trans (hk1.mono (by simp))⟩
         · rw [if_neg he];have hdec:Hid ((!decide (D.S[q]=s))=true):=by simpa [Hid] using he
           clear he;go_enter Tryz.func143,Tryz.ntmps143
           go_wp2_with (first |(refine ZU rfl (.tmp 4) rfl s rfl ?_) |(refine ZU rfl (.tmp 5) rfl t rfl ?_) |(go_at_call 144;refine(Qa HW).mono ?_;rintro e w' ⟨rfl,rfl⟩))
           change Code.wp _ _ _ _ (swapR w s t);generalize swapR w s t=W at*;refine wp_region_quiet_lit (by kernel_rfl) (by kernel_rfl) ?_
           repeat (first |(refine ZF rfl (.tmp 48) rfl sg (q*64) rfl D.S[q] hsq (by rintro _ ⟨_,rfl⟩;exact hrq) ?_) |(refine ZF rfl (.tmp 10) rfl w.heap.size 0 rfl s hs (by rintro _ ⟨_,rfl⟩;exact hrs) ?_) |(refine quietNeqS rfl (.tmp 49) (.tmp 50) _ rfl D.S[q] s rfl rfl hsq hs _ (Qa hdec) ?_) | quiet_step (fail))
           refine wpQuiet_nil ?_;intro _ hw';obtain⟨nq2,hw''⟩:=hw';subst hw'';go_wp2_with fail
           go_ret2
           exact⟨rfl,hD.drewN _,(hkW.drewN _).mono (by simp)⟩
     · rw [bad (ref_two (.inl (by simp [hasS];omega)))];clear bad;go_enter Tryz.func143,Tryz.ntmps143
       go_wp2_with (first |(refine ZU rfl (.tmp 4) rfl s rfl ?_) |(refine ZU rfl (.tmp 5) rfl t rfl ?_) |(go_at_call 144;refine(Qa HW).mono ?_;rintro e w' ⟨rfl,rfl⟩))
       go_ret2
       exact⟨rfl,hD,hkW.mono (by simp)⟩
 · obtain⟨hw2,hno⟩:=who_two hw0;rw [bad (ref_two (.inr hno))];have HW:=hide (who_is r sg eg D x ep _ hD 2 hw2);clear bad hw0 hw2;go_enter Tryz.func143,Tryz.ntmps143
   go_wp2_with (first |(refine ZU rfl (.tmp 4) rfl s rfl ?_) |(refine ZU rfl (.tmp 5) rfl t rfl ?_) |(go_at_call 144;refine(Qa HW).mono ?_;rintro e w' ⟨rfl,rfl⟩))
   go_ret2
   exact⟨rfl,hD,hkW.mono (by simp)⟩
open Go.RowKit
def Dev.rputs (D:Dev) (k:Nat):List (List Int)→Dev
 | []=>D
 | s::L=>(if D.does.2 then { D.does.1 with S:=D.S.set k s } else D.does.1).rputs (k+1) L
theorem does_no {D:Dev} (h:D.does.2=false):D.does.1.does=(D.does.1,false):=by
 unfold Dev.does at h⊢;split at h
 · rename_i hc;rw [if_pos hc];simp [hc]
 · simp at h
theorem rputs_no:∀(L:List (List Int)) (D:Dev) (k:Nat),D.does=(D,false)→D.rputs k L=D:=by
 intro L
 induction L with
 | nil=>intro D k _;rfl
 | cons s L ih=>
  intro D k h;rw [Dev.rputs,h];exact ih D (k+1) h
theorem rputs_eq:∀(L:List (List Int)) (D:Dev) (k:Nat),D.rputs k L=D.puts k L:=by
 intro L
 induction L with
 | nil=>intro D k;rfl
 | cons s L ih=>
  intro D k;rw [Dev.rputs,Dev.puts,step_does];cases hd:D.does.2 with
  | true=>
   simp only [if_true];have hs:=does_S D;rw [ih];congr 1;rw [← hs.2.1]
  | false=>
   simp only [Bool.false_eq_true,if_false];exact rputs_no L _ _ (does_no hd)
set_option maxRecDepth 100000 in
theorem r_write (r sg eg:Nat) (D:Dev) (x ep f:Int) (ao:Option Addr) (n c:Nat) (L:List (List Int)) (w:World) (h:Rv w r sg eg D) (hf: -9223372036854775808≤f∧f≤9223372036854775807) (hn:n≤9223372036854775807) (hL:Secs w ao n c L) (hA:Away ao [r,sg]):
   Calls Tryz.prog 100 #[P0 r,.int .i64 x,.int .i64 ep,.int .i64 f,.slice ao n c] w fun e w'=>e= .returned (.int .i64 (D.write x ep f L).1)∧Rv w' r sg eg (D.write x ep f L).2∧Kept [r,sg] w w':=by
 have hlen:=hL.len;have hs1:=h.ok.s1;obtain⟨cap,ecap,c0,c1,c2,c3,c4,cf,hb,hec⟩:=h.cells;have bad:D.ref x ep (hasS D.S.length f L.length)=2→D.write x ep f L=(2,D):=by
   intro h2;simp only [Dev.write,h2];rfl
 by_cases hw0:D.whoR x ep=0
 · obtain⟨hx,he0,he1⟩:=who_zero hw0;have HW:=hide (who_is r sg eg D x ep _ h 0 hw0);clear hw0;by_cases hf0:f<0
   · rw [bad (ref_two (.inl (by simp [hasS];omega)))];clear bad;go_enter Tryz.func100,Tryz.ntmps100
     go_wp2_with (first |(go_at_call 144;refine(Qa HW).mono ?_;rintro e w' ⟨rfl,rfl⟩))
     go_ret
     exact⟨rfl,h,Kept.refl _ _⟩
   · obtain⟨F,rfl⟩:=Int.eq_ofNat_of_zero_le (show 0≤f by omega);by_cases hF:D.S.length<F
     · rw [bad (ref_two (.inl (by simp [hasS];omega)))];clear bad;go_enter Tryz.func100,Tryz.ntmps100
       go_wp2_with (first |(go_at_call 144;refine(Qa HW).mono ?_;rintro e w' ⟨rfl,rfl⟩))
       go_ret
       exact⟨rfl,h,Kept.refl _ _⟩
     · by_cases hlast:(D.S.length:Int)-F<n
       · rw [bad (ref_two (.inl (by simp [hasS];omega)))];clear bad;go_enter Tryz.func100,Tryz.ntmps100
         go_wp2_with (first |(go_at_call 144;refine(Qa HW).mono ?_;rintro e w' ⟨rfl,rfl⟩))
         go_ret
         exact⟨rfl,h,Kept.refl _ _⟩
       · have hS:hasS D.S.length (F:Int) L.length=true:=by simp [hasS];omega
         obtain⟨k0,rfl⟩:=Int.eq_ofNat_of_zero_le (ZC hx).1;have hkN:k0<D.N:=by have:=(ZC hx).2;omega
         have hck:=h.epoch k0 hkN;have hkI:(k0:Int)<D.N:=by omega
         clear bad;by_cases hfen:ep<D.ep k0
         · have hU:D.write k0 ep F L=(8,D):=by
            have:D.ref k0 ep true=8:=by simp [Dev.ref,hx,he0,he1,hfen]
            simp only [Dev.write,hS,this];rfl
           rw [hU];clear hU;go_enter Tryz.func100,Tryz.ntmps100
           go_wp2_with (first |(go_at_call 144;refine(Qa HW).mono ?_;rintro e w' ⟨rfl,rfl⟩))
           go_ret
           exact⟨rfl,h,Kept.refl _ _⟩
         · have hr0:D.ref k0 ep true=0:=by simp [Dev.ref,hx,he0,he1];omega
           have hU:D.write k0 ep F L=(0,D.rputs F L):=by simp [Dev.write,hS,hr0,rputs_eq]
           rw [hU];have hD0:=hide h;clear hU hr0 hS;go_enter Tryz.func100,Tryz.ntmps100
           go_wp2_with (first |(go_at_call 144;refine(Qa HW).mono ?_;rintro e w' ⟨rfl,rfl⟩))
           clear HW hck c0 c1 c2 c3 c4 cf hb hec hkN hkI;go_loopw [11] (fun i wr=>∃(k:Nat) (Dk:Dev),k≤n∧i= .int .i64 k∧Hid (Rv wr r sg eg Dk)∧Dk.S.length=D.S.length∧Hid (Dk.rputs (F+k) (L.drop k)=D.rputs F L)∧Hid (Kept [r,sg] w' wr)) (fun i _=>n-(intOf i).toNat)
           case atStart=>exact ⟨0,D,by omega,rfl,hD0,rfl,rfl,Kept.refl _ _⟩
           case round=>
            obtain⟨k,Dk,hkn,rfl,hDk,hSk,hPk,hKk⟩:=hrel;by_cases hlt':k<n
            · obtain⟨s,hs⟩:∃s,L[k]?=some s:=⟨_,List.getElem?_eq_getElem (by omega)⟩;have hsec:Sec s:=hL.sec s (List.mem_of_getElem? hs);obtain⟨hb,off,rfl,hr⟩:=hL.lies (by intro e;simp [e] at hlen;omega);have hrk:=hr k (by omega);have hgs:L[k]'(by omega)=s:=by have:=List.getElem?_eq_getElem (l:=L) (i:=k) (by omega);rw [this] at hs;simpa using hs
              rw [hgs] at hrk;have hrr:wr.rangeAt hb (off+k*64) (u8s s):=fun j v hj=>(Qa hKk).cell (hrk j v hj) (hA hb off rfl);have hAw:=hA hb off rfl;have hdrop:L.drop k=s::L.drop (k+1):=by rw [List.drop_eq_getElem_cons (by omega),hgs]
              have hPs:=Qa hPk;rw [hdrop,Dev.rputs] at hPs;have HDo:=hide (r_does r sg eg Dk wr (Qa hDk));have hs3:=does_S Dk;clear hr hrk hdrop hgs;cases hd:Dk.does.2 with
              | true=>
               rw [hd] at HDo;rw [hd,if_pos rfl] at hPs;have HPs:=hide hPs;clear hPs hPk hs;go_wp2_with fail
               refine(Qa HDo).mono ?_;rintro e w1 ⟨rfl,hd1,hk1⟩;obtain⟨m,hm⟩:∃m,m=F+k:=⟨_,rfl⟩;have hmI:(m:Int)<D.S.length:=by omega
               have hp:=hide (hd1.drew.putS (k:=m) (s:=s) (by rw [hs3.1,hSk];omega) hsec);rw [hs3.1] at hp;obtain⟨cap',ecap',c0',_,_,_,_,_,hb',_⟩:=hd1.cells;have hth:=hb'.there hd1.ok.sec m (by rw [hs3.1,hSk];omega);rw [hs3.1,hSk] at c0';have hrt:w1.rangeAt hb (off+k*64) (u8s s):=fun j v hj=>hk1.cell (hrr j v hj) (by simp at hAw ⊢;exact hAw.1);have hkk:Hid (Kept [r,sg] w' w1):=(Qa hKk).trans (hk1.mono (by simp));have hu:=Tryz.underlying59;have hu8:(u8s s).length=64:=by rw [Qy,hsec.1]
               have hsz:(Tryz.prog.info? 59).map (·.size)=some (u8s s).length:=by rw [hu8];exact Tryz.info38
               have hone:=QU s;have hrsg:=hd1.ne.1;have n0:hb≠sg:=by simp at hAw;exact hAw.2
               have hwr:IntKind.i64.wrap ((F:Int)+(k:Int))=(m:Int):=by rw [IntKind.wrap_i64];omega
               have hm0:(0:Int)≤(m:Int):=by omega
               have hk0:(0:Int)≤(k:Int):=by omega
               have hkI:(k:Int)<(n:Int):=by omega
               have hsl:Dk.does.1.S.length=D.S.length:=by rw [hs3.1,hSk]
               have Hm:=hide hm;clear HDo hrr hb' hAw hm;go_wp2_with fail
               go_region_held3 (fun w'=>w'.cell? ⟨r,0,none⟩=some (.slice (some ⟨sg,0,none⟩) D.S.length cap')∧w'.rangeAt hb (off+k*64) (u8s s)∧w'.there sg (m*64) 64)
                (first |(go_keep_ranges;done) |(go_keep;done) |(go_split_ands;simp only [World.rangeAt_drew,World.there_drew] at *;refine⟨Zf hrsg (by assumption),World.rangeAt_setCells_apart (by assumption) _ _ _ (.inl n0),World.there_setCells (by assumption) _ _ _⟩)) (fail)
               all_goals go_wp2_with fail
               go_roundw
               case rel=>
                refine⟨k+1,_,by omega,by go_num,hp,by simp [hSk],?_,(Qa hkk).drew.setCells _ _ (by simp)⟩;rw [Qa Hm,← Nat.add_assoc];exact HPs
               case measure=>simp [intOf];omega
              | false=>
               rw [hd] at HDo;rw [hd,if_neg (by simp)] at hPs;have HPs:=hide hPs;clear hPs hPk hs;go_wp2_with (go_at_call 58;refine(Qa HDo).mono ?_;rintro e w1 ⟨rfl,hd1,hk1⟩)
               go_roundw
               case rel=>exact ⟨k+1,_,by omega,by go_num,hd1,by rw [hs3.1];exact hSk,by rw [← Nat.add_assoc];exact HPs,(Qa hKk).trans (hk1.mono (by simp))⟩
               case measure=>simp [intOf];omega
            · go_wp2_with fail
              go_ret
              have:L.drop k= []:=List.drop_eq_nil_of_le (by omega);have hp:=Qa hPk;rw [this] at hp;simp only [Dev.rputs] at hp;exact⟨rfl,hp▸Qa hDk,Qa hKk⟩
 · obtain⟨hw2,hno⟩:=who_two hw0;rw [bad (ref_two (.inr hno))];have HW:=hide (who_is r sg eg D x ep _ h 2 hw2);clear bad hw0 hw2;go_enter Tryz.func100,Tryz.ntmps100
   go_wp2_with (first |(go_at_call 144;refine(Qa HW).mono ?_;rintro e w' ⟨rfl,rfl⟩))
   go_ret
   exact⟨rfl,h,Kept.refl _ _⟩
open Go.RowKit Go.Shelf
attribute [local go_sem] Oper.semAt_some
theorem secs_news {w:World} {h off n c:Nat} {L:List (List Int)} (hs:Secs w (some ⟨h,off,none⟩) n c L) (hn:0<n):∀j u,(u8s L.flatten)[j]?=some u→w.cell? ((⟨h,off,none⟩:Addr).add j)=some u:=by
 intro j u hj;obtain⟨h',off',e,hr⟩:=hs.lies (by intro e;have:=hs.len;simp [e] at this;omega);cases e
 have hjl:j<L.length*64:=by
   have:=(List.getElem?_eq_some_iff.1 hj).1
   rwa [Qy,flat_len hs.sec] at this
 have hk:j/64<L.length:=by omega
 have:=hr (j/64) hk (j%64) u ?_
 · rw [Addr.add_mid];rw [show off+j=off+j/64*64+j%64 by omega];exact this
 · obtain⟨pre,post,h2,h3⟩:=flat_range hs.sec (j/64) hk;have hl:=(hs.sec _ (List.getElem_mem hk)).1;rw [h2,u8s_app,u8s_app,List.append_assoc,List.getElem?_append_right (by rw [Qy];omega),List.getElem?_append_left (by rw [Qy,Qy,hl];omega),Qy] at hj;rw [← hj];congr 1;omega
theorem owns_block {w:World} {base n:Nat} {v:Value} {L:List (List Int)} (h:w.ownsRow base 59 64 v n (u8s L.flatten)) (hn:0<n):∃q cap ex,v= .slice (some ⟨q,0,none⟩) n cap∧base≤q∧w.heap[q]?=some (.cells (u8s L.flatten++ex).toArray 59 (0,0))∧n≤cap∧ex.length=(cap-n)*64∧cap≤maxLen:=by
 obtain⟨h0,⟨_,e⟩ | ⟨q,cap,cur,rfl,h1,h2,h3,h4,h5,h6⟩⟩:=h
 · omega
 · refine⟨q,cap,cur.toList.drop (n*64),rfl,h1,?_,h3,?_,h4⟩
   · rw [← h6,List.take_append_drop];exact h2
   · rw [List.length_drop,Array.length_toList,h5,Nat.sub_mul]
theorem run_build0 (w:World):(Instr.buildSlice 60 0 #[]).run Tryz.prog w= .ok (.slice (some ⟨w.heap.size,0,none⟩) 0 0) (w.alloc (.cells #[] 59)):=by kernel_rfl
theorem wpBuild0 {ops:Array Oper} {rest:List Oper} {op:Oper} {a:Act} {w:World} {Q:Exit→Act→World→Prop} (hgd:op.guard=none) (ho:op.op= .buildSlice 60 0 #[])
  (h:wpList Tryz.prog ops Q rest (a.put op.dst (.slice (some ⟨w.heap.size,0,none⟩) 0 0)) (w.alloc (.cells #[] 59))):wpList Tryz.prog ops Q (op::rest) a w:=
 wpList_plain hgd fun K hK=>by
  unfold Oper.wp execOp;simp only [ho,Array.map_empty,Sem.run_bind,run_build0,Result.andThen_ok];exact hK _ _ h
theorem eq36 (a:Addr) (n c:Nat) (W:World):Sem.run Tryz.prog (binOp BinOp.eql 60 (.slice (some a) n c) (.slice none 0 0)) W= .ok (.bool false) W:=by kernel_rfl
-- A clone of sectors.
set_option maxRecDepth 100000 in
theorem cloneSs (ao:Option Addr) (n c:Nat) (L:List (List Int)) (w:World) (h:Secs w ao n c L) (hn:0<n) (hm:n≤2000000000):
  Calls Tryz.prog 55 #[.slice ao n c] w fun e w'=>∃q cap ex,e= .returned (.slice (some ⟨q,0,none⟩) n cap)∧w.heap.size≤q∧w'.heap[q]?=some (.cells (u8s L.flatten++ex).toArray 59 (0,0))∧n≤cap∧ex.length=(cap-n)*64∧cap≤maxLen∧Kept [] w w':=by
 have hlen:=h.len;obtain⟨hb,off,rfl,hr⟩:=h.lies (by intro e;simp [e] at hlen;omega);have hs1:=h.kept (X:= []) ((Kept.refl _ _).alloc (.cells #[] 59)) (by intro _ _ _;simp);have hnews:=hide (secs_news hs1 hn);have hfl:=flat_len h.sec;obtain⟨i0,hi,hz0,hz1,hz2⟩:=info_parts Tryz.zero38;have hown:Hid ((w.alloc (.cells #[] 59)).ownsRow w.heap.size 59 64 (.slice (some ⟨w.heap.size,0,none⟩) 0 0) 0 []):=⟨rfl,.inr ⟨w.heap.size,0,#[],rfl,Nat.le_refl _,heap_alloc_new w _,Nat.le_refl _,by simp,rfl,rfl⟩⟩;have hq:=eq36 ⟨hb,off,none⟩ n c;clear hr hs1;go_enter Tryz.func55,Tryz.ntmps55
 go_wp2_with (first |(refine wpBuild0 rfl rfl ?_) |(at_builtin;refine wpList_append_own _ rfl (.tmp 5) (.tmp 6) 60 rfl w.heap.size 59 i0 (secV nought) 64 64 Tryz.underlying60 hi hz0 hz1 hz2 (by kernel_rfl) (by decide) _ 0 [] rfl (Qa hown) ⟨hb,off,none⟩ n c (u8s L.flatten) rfl (by rw [Qy,hfl,hlen]) (Qa hnews) (QU _) (by unfold maxLen;omega) (by omega) (by simp) ?_;intro v' w1 g1 g2 _))
 go_ret
 rw [Nat.zero_add,List.nil_append] at g1;obtain⟨q,cap,ex,rfl,q1,q2,q3,q4,q5⟩:=owns_block g1 hn;refine⟨q,cap,ex,rfl,q1,q2,q3,q4,q5,?_⟩;exact((Kept.refl [] w).alloc (.cells #[] 59)).fresh (Kept.of_grown (X:= [w.heap.size]) g2 (by intro k hk _;have e:some w.heap.size=some k:=hk;simp at e;simp [e])) (by simp)
structure Row where
 i:Nat
 s:List Int
 h:Sec s
theorem QZ {w w':World} (h:Kept [] w w'):w.grownBy w' none:=⟨h.os,h.tape,h.output,h.size,fun k hk _=>h.block k hk (by simp)⟩
-- Laws for sectors,inside a fence that lets all by.
theorem wpIn_value {F:Fence} {n:Nat} {o:Oper} {a:Act} {w w':World} {v:Value} {K:Act→World→Prop} {Q:Exit→Act→World→Prop} (hF:∀f,F.fn f) (hsem:o.semAt F.round a.eval=execOp a.eval o) (h:(execOp a.eval o).run Tryz.prog w= .ok (.value v) w') (hk:K (a.put o.dst v) w'):o.wpIn F n Tryz.prog a w K Q:=by
 refine⟨fun f _=>hF f,?_⟩;rw [hsem,h];exact hk
theorem wpIn_skip {F:Fence} {n:Nat} {o:Oper} {a:Act} {w w':World} {K:Act→World→Prop} {Q:Exit→Act→World→Prop} (hF:∀f,F.fn f) (hsem:o.semAt F.round a.eval=execOp a.eval o) (h:(execOp a.eval o).run Tryz.prog w= .ok .skip w') (hk:K (a.put o.dst undef) w'):o.wpIn F n Tryz.prog a w K Q:=by
 refine⟨fun f _=>hF f,?_⟩;rw [hsem,h];exact hk
theorem wpListIn_want {F:Fence} {n:Nat} {ops:Array Oper} {Q:Exit→Act→World→Prop} {a:Act} {w:World} {rest:List Oper} {o:Oper} (hw:Region.wanted o (yielded ops a.tmps)=true)
  (h:o.wpIn F n Tryz.prog a w (wpListIn F n Tryz.prog ops Q rest) Q):wpListIn F n Tryz.prog ops Q (o::rest) a w:=by
 simp only [wpListIn,hw,if_true];exact h
section
variable {F:Fence} {n:Nat} {ops:Array Oper} {rest:List Oper} {o:Oper} {a:Act} {w:World} {Q:Exit→Act→World→Prop}
end
theorem secs_block {w:World} {g n:Nat} {L:List (List Int)} {ex:List Value} (hL:∀s∈L,Sec s) (hn:L.length=n) (h:w.heap[g]?=some (.cells (u8s L.flatten++ex).toArray 59 (0,0))) (c:Nat) (hc:n≤c):Secs w (some ⟨g,0,none⟩) n c L:=by
 refine⟨hn,hL,hc,fun _=>⟨g,0,rfl,fun i hi j v hj=> ?_⟩⟩;obtain⟨pre,post,h2,h3⟩:=flat_range hL i hi;have hjl:j<(u8s L[i]).length:=(List.getElem?_eq_some_iff.1 hj).1;rw [cell_of_block h,h2,u8s_app,u8s_app,List.append_assoc,List.append_assoc,List.getElem?_toArray,List.getElem?_append_right (by rw [Qy];omega),List.getElem?_append_left (by rw [Qy];omega)];rw [Qy,h3,← hj];congr 1;omega
open Go.RowKit Go.Shelf
attribute [local go_sem] Oper.semAt_some
theorem wideF (f:FuncId):Fence.wide.fn f:=trivial
open Go.RowKit Go.Shelf
section
variable {l n:Nat} {P:Program} {ops:Array Oper} {Q:Exit→Act→World→Prop}
theorem rowsIn_of_rows {row:String} {args:Array Value} {w:World} {R:Value→World→Prop} (h:Rows P row args w R):RowsIn (Fence.wide.inRound l) n P row args w R:=by
 intro c cs _;obtain⟨v,w',hr,hs⟩:=h c cs;exact⟨v,w',hr,stepsIn_wide.2 hs⟩
theorem uponIn_of_upon {o:Oper} {a:Act} {K:Act→World→Prop} {r:Result Next} (h:o.upon P a K Q r):o.uponIn (Fence.wide.inRound l) n P a K Q r:=by
 cases r with
 | ok nx w=>
  cases nx <;> first
   | exact h
   | exact⟨fun h=>by simp [Fence.wide] at h,CallsIn.inRound l (callsIn_wide.2 h)⟩
   | exact⟨fun h=>by simp [Fence.wide] at h,rowsIn_of_rows h⟩
   | exact h.elim
 | halt x w=>cases x <;> first | exact h | exact h.elim
theorem Zg {o:Oper} {a:Act} {w:World} {K:Act→World→Prop} (hd:∀c,o.op≠ .defer c) (h:o.wp P a w K Q):o.wpIn (Fence.wide.inRound l) n P a w K Q:=by
 refine⟨fun f _=>trivial,?_⟩;rw [Fence.inRound_round,Oper.semAt_some l _ o hd];exact uponIn_of_upon h
def noDefer (os:List Oper):Bool:=os.all fun o=>match o.op with | .defer _=>false | _=>true
theorem noDefer_spec {os:List Oper} (h:noDefer os=true):∀o∈os,∀c,o.op≠ .defer c:=by
 intro o ho c e;have:=(List.all_eq_true.1 h) o ho;rw [e] at this;simp at this
theorem ZQ (hlo:¬LetsOut Q):∀(os:List Oper) (a:Act) (w:World),(∀o∈os,∀c,o.op≠ .defer c)→wpList P ops Q os a w→wpListIn (Fence.wide.inRound l) n P ops Q os a w:=by
 intro os
 induction os with
 | nil=>intro a w _ h;exact h
 | cons o os ih=>
  intro a w hd h;unfold wpList at h;unfold wpListIn;split
  · rename_i hw;rw [if_pos hw] at h;rcases h with h | ⟨_,hl⟩
    · exact Zg (hd o (List.mem_cons_self ..)) (Oper.wp_mono (fun a w h=>ih a w (fun p hp=>hd p (List.mem_cons_of_mem _ hp)) h) h)
    · exact absurd hl hlo
  · rename_i hw;rw [if_neg hw] at h;exact⟨fun f _=>trivial,ih _ _ (fun p hp=>hd p (List.mem_cons_of_mem _ hp)) h⟩
end
theorem cells_kept {W W':World} {row:Option Nat} {k:Nat} {cs:Array Value} {t:TypeId} {p:Nat×Nat} (h:W.heap[k]?=some (.cells cs t p)) (hg:W.grownBy W' row) (hr:∀r,row=some r→∃o:Obj,W.heap[r]?=some o∧o.isCells=false):W'.heap[k]?=some (.cells cs t p):=by
 rw [hg.block k (lt_of_block h) ?_]
 · exact h
 · intro e;obtain⟨o,ho,hc⟩:=hr k e.symm;rw [h] at ho;cases ho
   simp [Obj.isCells] at hc
theorem kept_kept {w W W':World} {row:Option Nat} {B:Nat} (h:Kept [] w W) (hg:W.grownBy W' row) (hB:w.heap.size≤B) (hr:∀r,row=some r→B≤r):Kept [] w W':=
 ⟨hg.os.trans h.os,hg.tape.trans h.tape,hg.output.trans h.output,Nat.le_trans h.size hg.size,fun k hk hx=>(hg.block k (Nat.lt_of_lt_of_le hk h.size) (fun e=>by have:=hr k e.symm;omega)).trans (h.block k hk hx)⟩
open Go.RowKit
open Go.RowKit
def devV (D:Dev) (g cap:Nat):Value:= .agg (QH D g cap).toArray
def zeroD:List Value:= [.slice none 0 0,.int .i64 0,.int .i64 0,.int .i64 0,.int .i64 0,.int .i64 0,.int .i64 0,.int .i64 0,.int .i64 0,.int .i64 0,.int .i64 0,.bool false,.int .i64 0,.bool false]
theorem Tryz.info67:(Tryz.prog.info? 115).map (·.size)=some 14:=by kernel_rfl
theorem run_alloc67 (w:World):(Instr.alloc 115 true (.tuple #[])).run Tryz.prog w= .ok (.pointer (some ⟨w.heap.size,0,none⟩)) (w.alloc (.cells zeroD.toArray 115)):=by kernel_rfl
theorem dev_one {D:Dev} (g cap:Nat):∀v∈QH D g cap,v.oneCell'=true:=by
 intro v hv;simp only [QH,List.mem_append,List.mem_cons,List.mem_map] at hv;rcases hv with ((rfl | rfl | h) | ⟨x,_,rfl⟩) | rfl | rfl | rfl | rfl | h <;> first | rfl | simp at h
section
variable {ops:Array Oper} {rest:List Oper} {op:Oper} {a:Act} {w:World} {Q:Exit→Act→World→Prop}
theorem wpLoadD (hgd:op.guard=none) (x:Operand) (ho:op.op= .load 115 x) (b g cap:Nat) (D:Dev) (hok:D.Ok) (hx:a.eval x=P0 b) (hh:Head w b g cap D) (h:wpList Tryz.prog ops Q rest (a.put op.dst (devV D g cap)) w):wpList Tryz.prog ops Q (op::rest) a w:=
 wpList_load_mid (P:=Tryz.prog) hgd 115 x ho b 0 hx (QH D g cap) _ (fun j v hj=>by rw [Nat.zero_add,cell_of_block hh,List.getElem?_toArray];exact hj) Tryz.underlying115 rfl (by rw [devCells_len hok];exact Tryz.info67) h
theorem wpAllocD (hgd:op.guard=none) (ho:op.op= .alloc 115) (h:wpList Tryz.prog ops Q rest (a.put op.dst (.pointer (some ⟨w.heap.size,0,none⟩))) (w.alloc (.cells zeroD.toArray 115))):wpList Tryz.prog ops Q (op::rest) a w:=
 wpList_plain hgd fun K hK=>by
  unfold Oper.wp execOp;simp only [ho,Sem.run_bind,run_alloc67,Result.andThen_ok];exact hK _ _ h
theorem wpStoreD (hgd:op.guard=none) (x y:Operand) (ho:op.op= .store 115 x y) (b g cap:Nat) (D:Dev) (hok:D.Ok) (hx:a.eval x=P0 b) (hy:a.eval y=devV D g cap) (hA:w.there b 0 14) (h:wpList Tryz.prog ops Q rest (a.put op.dst undef) (w.setCells b 0 (QH D g cap))):wpList Tryz.prog ops Q (op::rest) a w:=
 wpList_store_mid (P:=Tryz.prog) hgd 115 x y ho b 0 (QH D g cap).toArray hx hy (by simpa [devCells_len hok] using hA) (by simp only [List.size_toArray,devCells_len hok];exact Tryz.info67) (all_oneCell_toArray (dev_one g cap)) h
end
theorem cells_slice (D:Dev) (g cap q cap':Nat):QH D q cap'=(QH D g cap).set 0 (.slice (some ⟨q,0,none⟩) D.S.length cap'):=by simp [QH]
set_option maxRecDepth 100000 in
theorem copy21 (b g:Nat) (D:Dev) (w:World) (h:Dv w b g D):
   Calls Tryz.prog 18 #[P0 b] w fun e w'=>∃b2 g2,e= .returned (P0 b2)∧w.heap.size≤b2∧w.heap.size≤g2∧Dv w' b2 g2 D∧Kept [] w w':=by
 have hok:=h.ok;have hlt:=h.lt;obtain⟨cap,hh,hbd⟩:=h.lay;have hN:=hide (none_no b g D w h);have hZ:Hid ((w.alloc (.cells zeroD.toArray 115)).heap[w.heap.size]?=some (.cells zeroD.toArray 115 (0,0))):=QX rfl;have hth:Hid ((w.alloc (.cells zeroD.toArray 115)).there w.heap.size 0 14):=fun j hj=>⟨by rw [cell_of_block (Qa hZ),Nat.zero_add,List.getElem?_toArray,List.getElem?_eq_getElem (by simpa [zeroD] using hj)];rfl,QO (Qa hZ) _⟩;have hkW:Kept [] w ((w.alloc (.cells zeroD.toArray 115)).setCells w.heap.size 0 (QH D g cap)):=((Kept.refl _ _).alloc _).setCells _ _ (by omega);have hHz:Hid (((w.alloc (.cells zeroD.toArray 115)).setCells w.heap.size 0 (QH D g cap)).heap[w.heap.size]?=some (.cells (QH D g cap).toArray 115 (0,0))):=by
   have:=heap_sets (b:=w.heap.size) (t:=115) (p:=(0,0)) (QH D g cap) (w.alloc (.cells zeroD.toArray 115)) 0 [] zeroD [] (by simpa using Qa hZ) rfl (by rw [devCells_len hok];rfl);show _=_;rw [this];simp
 have hDW:=h.kept hkW (by simp) (by simp);obtain⟨ex,hb1,hb2,hb3,hb4⟩:=hbd;have hC:=hide (cloneSs (some ⟨g,0,none⟩) D.S.length cap D.S _ ((secs_block hok.sec rfl hb1 cap hb2).kept hkW (fun _ _ _=>by simp)) (by have:=hok.s0;omega) (by have:=hok.s1;omega));have hc0:((w.alloc (.cells zeroD.toArray 115)).setCells w.heap.size 0 (QH D g cap)).cell? ⟨b,0,none⟩=some (.slice (some ⟨g,0,none⟩) D.S.length cap):=hkW.cell (hh.cells hok).1 (by simp);have HH:=hide hh;clear hh hDW;go_enter Tryz.func18,Tryz.ntmps18
 go_wp2_with fail
 refine(Qa hN).mono ?_;rintro e w' ⟨rfl,hww⟩;obtain rfl:=hww.symm;go_wp2_with (first |(refine wpLoadD rfl (.tmp 7) rfl b g cap D hok rfl (Qa HH) ?_) |(refine wpAllocD rfl rfl ?_) |(refine wpStoreD rfl (.tmp 3) (.tmp 8) rfl w.heap.size g cap D hok rfl rfl (Qa hth) ?_))
 refine(Qa hC).mono ?_;rintro e w2 ⟨q,cap2,ex2,rfl,hq1,hq2,hq3,hq4,hq5,hk2⟩;have hz2:=hk2.heap (Qa hHz) (by simp);have hcz:w2.cell? ⟨w.heap.size,0,none⟩=some (.slice (some ⟨g,0,none⟩) D.S.length cap):=by rw [cell_of_block hz2];simp [QH]
 have hfz:w2.frozen? ⟨w.heap.size,0,none⟩=false:=QO hz2 0;have hsz:=hkW.size;have hzl:w.heap.size<((w.alloc (.cells zeroD.toArray 115)).setCells w.heap.size 0 (QH D g cap)).heap.size:=lt_of_block (Qa hHz);have hkk:Hid (Kept [] w w2):=hkW.trans hk2;have HZ:=hide hz2;have HQ:=hide hq2;clear hC hN hZ hth hHz hc0 hk2 hz2 hq2 hkW;go_wp2_with fail
 go_ret
 refine⟨w.heap.size,q,rfl,Nat.le_refl _,by omega,⟨hok,by omega,cap2,?_,ex2,?_,hq3,hq4,hq5⟩,(Qa hkk).setCell (by simp) _⟩
 · unfold Head;rw [heap_set (Qa HZ),cells_slice D g cap q cap2,List.setIfInBounds_toArray]
 · exact ZL (Qa HQ) (by omega)
open Go.RowKit Go.Shelf
attribute [local go_sem] Oper.semAt_some
theorem ZO {B:Nat} {W W':World} (h:Kept [] W W'):KeepsFrom B W W':=(KeepsOthers.of_grownBy (QZ h) (fun _ _ e=>by cases e)).from B
section
variable {ops:Array Oper} {o:Oper} {a:Act} {w:World} {K:Act→World→Prop} {Q:Exit→Act→World→Prop}
theorem wpOp_of {P:Program} {i:Nat} (ho:ops[i]?=some o) (hg:o.guard=none) (h:o.wp P a w K Q):wpOp P ops Q i K a w:=by
 unfold wpOp;rw [ho];have hw:Region.wanted o (yielded ops a.tmps)=true:=by simp [Region.wanted,hg]
 simp only [hw,if_true];exact .inl h
end
def flatR (pre:List Row):List Int:=(pre.map Row.s).flatten
def BI (w:World) (pre:List Row) (W:World):Prop:=∃v,W.heap[w.heap.size]?=some (.cells #[v] 45 (0,0))∧W.ownsRow w.heap.size 5 1 v (flatR pre).length (u8s (flatR pre))∧v.ownBlock≠some w.heap.size∧Kept [] w W
theorem owns_turn {W W':World} {row:Option Nat} {base n:Nat} {v:Value} {xs:List Value} (h:W.ownsRow base 5 1 v n xs) (hg:W.grownBy W' row) (hr:∀r,row=some r→∃o:Obj,W.heap[r]?=some o∧o.isCells=false):W'.ownsRow base 5 1 v n xs:=by
 refine⟨h.1,?_⟩;rcases h.2 with h1 | ⟨g,cap,cur,e,h2,h3,h4⟩
 · exact .inl h1
 · exact .inr ⟨g,cap,cur,e,h2,cells_kept h3 hg hr,h4⟩
theorem BI.own {w:World} {B:Nat} (hB:w.heap.size≤B):OwnFrom B (BI w):=by
 intro pre W W' row hs hg hr;obtain⟨v,h1,h2,h3,h4⟩:=hs;exact⟨v,cells_kept h1 hg (fun r e=>(hr r e).2),owns_turn h2 hg (fun r e=>(hr r e).2),h3,kept_kept (B:=B) h4 hg hB (fun r e=>(hr r e).1)⟩
open Go.RowKit
theorem Tryz.zero2:(Tryz.prog.info? 2).map (fun i=>(i.zero,i.size,i.bytes))=some (some (.int .i64 0),1,8):=by kernel_rfl
theorem made_zeros (n:Nat):madeCells #[Value.int .i64 0] n=Array.replicate n (Value.int .i64 0):=by
 have:=made_same 1 (Value.int .i64 0) n (by decide);simpa using this
theorem run_makeS (w:World) (n:Nat) (hn:n≤2199023255552):Sem.run Tryz.prog (Instr.makeSlice 60 (.int .i64 n) (.int .i64 n)) w= .ok (.slice (some ⟨w.heap.size,0,none⟩) n n) (w.alloc (.cells (u8s (noughts n).flatten).toArray 59)):=by
 obtain⟨i0,hi,hz0,hz1,hz2⟩:=info_parts Tryz.zero38;have hr:=run_make (P:=Tryz.prog) w 60 59 i0 (secV nought) Tryz.underlying60 hi hz0 .i64 .i64 n n (by omega) (by omega) (by rw [hz2];omega) (by omega);have hc:(secV nought).cells=(u8s nought).toArray:=rfl;rw [hz1,Int.toNat_natCast,hc,made_noughts] at hr;exact hr
theorem run_makeE (w:World) (n:Nat) (hn:n≤2199023255552):Sem.run Tryz.prog (Instr.makeSlice 61 (.int .i64 n) (.int .i64 n)) w= .ok (.slice (some ⟨w.heap.size,0,none⟩) n n) (w.alloc (.cells (Array.replicate n (Value.int .i64 0)) 2)):=by
 obtain⟨i0,hi,hz0,hz1,hz2⟩:=info_parts Tryz.zero2;have hr:=run_make (P:=Tryz.prog) w 61 2 i0 (.int .i64 0) Tryz.underlying61 hi hz0 .i64 .i64 n n (by omega) (by omega) (by rw [hz2];omega) (by omega);have hc:(Value.int .i64 0).cells= #[Value.int .i64 0]:=rfl;rw [hz1,Int.toNat_natCast,hc,Nat.mul_one,made_zeros] at hr;exact hr
theorem take_zeros {N:Nat} (h:N≤8):(List.replicate 8 (0:Int)).take N=List.replicate N 0:=by
 rw [List.take_replicate,Nat.min_eq_left h]
theorem rv_new {w:World} {n N r sg eg:Nat} (hn:1≤n∧n≤4096) (hN:1≤N∧N≤8) (hne:r≠sg∧r≠eg∧sg≠eg)
   (h1:w.heap[r]?=some (.cells #[.slice (some ⟨sg,0,none⟩) n n,.slice (some ⟨eg,0,none⟩) N N,.int .i64 (-1),.bool false,.int .i64 0] 110 (0,0)))
   (h2:w.heap[sg]?=some (.cells (u8s (noughts n).flatten).toArray 59 (0,0))) (h3:w.heap[eg]?=some (.cells (Array.replicate N (Value.int .i64 0)) 2 (0,0))):Rv w r sg eg (QY n N):=by
 refine⟨newDev_ok hn hN,hne,n,N,[],?_,⟨[],?_,?_,?_,?_⟩,?_,Nat.le_refl _⟩
 · rw [h1];simp [ZJ,QY,ZN,Dev.rleft]
 · rw [List.append_nil];exact h2
 · simp [QY,ZN]
 · simp [QY,ZN]
 · unfold maxLen;omega
 · rw [h3];simp only [QY,take_zeros hN.2,List.append_nil,List.map_replicate];simp
set_option maxRecDepth 100000 in
theorem r_new_yes (n N:Nat) (w:World) (h:newB n N=true):Calls Tryz.prog 36 #[.int .i64 n,.int .i64 N] w fun e w'=>∃r sg eg,e= .returned (P0 r)∧w.heap.size≤r∧w.heap.size≤sg∧w.heap.size≤eg∧Rv w' r sg eg (QY n N)∧Kept [] w w':=by
 have h':(1≤(n:Int)∧(n:Int)≤4096)∧1≤(N:Int)∧(N:Int)≤8:=by simpa [newB] using h
 have a1:=h'.1.1;have a2:=h'.1.2;have a3:=h'.2.1;have a4:=h'.2.2;clear h h';go_enter Tryz.func36,Tryz.ntmps36
 go_wp2_with fail
 have m1:=run_makeS w.drew n (by omega);have m2:=run_makeE w.drew N (by omega);have m3:=run_makeE (w.alloc (.cells (u8s (noughts n).flatten).toArray 59)).drew N (by omega);have m4:=run_makeS (w.alloc (.cells (Array.replicate N (Value.int .i64 0)) 2)).drew n (by omega);go_region
 all_goals (clear m1 m2 m3 m4;go_wp2_with fail)
 · go_ret
   refine⟨w.heap.size+1+1,w.heap.size,w.heap.size+1,rfl,by omega,by omega,by omega,rv_new (by omega) (by omega) (by omega) ?_ ?_ ?_,((((Kept.refl _ _).alloc _).alloc _).alloc _).drew⟩
   · exact QX (by simp)
   · exact heap_alloc_old (heap_alloc_old (QX rfl))
   · exact heap_alloc_old (QX (by simp))
 · go_ret
   refine⟨w.heap.size+1+1,w.heap.size+1,w.heap.size,rfl,by omega,by omega,by omega,rv_new (by omega) (by omega) (by omega) ?_ ?_ ?_,((((Kept.refl _ _).alloc _).alloc _).alloc _).drew⟩
   · exact QX (by simp)
   · exact heap_alloc_old (QX (by simp))
   · exact heap_alloc_old (heap_alloc_old (QX rfl))
end Go.Proofs.YtcfflbafclmheaaGreatDoor.Dv
