import Derived.Test.YtbigongmlpoahaaURg
import Derived.Test.YtbigongmlpoahaaURf
import Derived.Test.YtbigongmlpoahaaUFq
import Derived.Test.YtbigongmlpoahaaUPa
namespace Go.Proofs.Ytbigongmlpoahaa
set_option maxRecDepth 100000
set_option linter.unusedSimpArgs false
open Go.RowKit
variable {A:Nat} {r:Rk} {R:List Wi}
end Go.Proofs.Ytbigongmlpoahaa
namespace Go.Proofs.Ytbigongmlpoahaa
set_option maxRecDepth 100000
set_option linter.unusedSimpArgs false
open Go.RowKit
structure Iv (s:Lo):Prop where
 ex:0≤s.ex→s.ow=s.ex∧∀i,i<8→s.ho i=true→(i:Int)=s.ex
 ow:0≤s.ow→s.ho s.ow.toNat=true
 z:1≤s.op∨∀i,s.wa i=false
structure Good (s:Lo) (o:Od):Prop where
 d:o.k=6→o.o=0
 n:¬o.k=6→1≤o.o∧o.o≤s.op
 x:(o.k=1∧o.m=2)∨o.k=3→∀i,i<8→s.ho i=true→(i:Int)=o.t∨(o.k=3∧(i:Int)=o.n)
theorem Good.ofD {s:Lo} {o:Od} (h1:o.k=6) (h2:o.o=0):Good s o:=⟨fun _=>h2,fun h=>absurd h1 h,fun h=>by omega⟩
theorem emp_at {f:Nat→Bool} (h:emp f=true) (i:Nat) (hi:i<8):f i=false:=by
 have h1:∀i∈List.range 8,f i=no8 i:=by simpa [emp,like] using h
 exact h1 i (by simpa using hi)
structure Lf (s:Lo) (L:List Wi) (O:List Od):Prop where
 iv:Iv s
 gd:∀o∈O,Good s o
 bz:s.busy=false→L= []
theorem Lf.none {s:Lo} {L:List Wi} (h:Iv s) (hb:s.busy=false→L= []):Lf s L []:=⟨h,by simp,hb⟩
theorem Lf.pre {q:Lo×List Wi×List Od} {O:List Od} (h:Lf q.1 q.2.1 q.2.2) (hO:∀o∈O,o.k=6∧o.o=0):Lf q.1 q.2.1 (O++q.2.2):=⟨h.iv,fun o hm=>by
   rcases List.mem_append.1 hm with h9 | h9
   · exact Good.ofD (hO o h9).1 (hO o h9).2
   · exact h.gd o h9,h.bz⟩
theorem lst_none:∀(j:Nat) (f:Nat→Bool),(∀i,i<j→f i=false)→lstTo f j= []
 | 0,_,_=>rfl
 | j+1,f,h=>by
   have h1:=lst_none j f (fun i hi=>h i (by omega))
   have h2:=h j (by omega)
   simp [lstTo,h1,h2]
end Go.Proofs.Ytbigongmlpoahaa
namespace Go.Proofs.Ytbigongmlpoahaa
set_option maxRecDepth 100000
set_option linter.unusedSimpArgs false
open Go.RowKit
variable {s:Lo} {r:Rk} {l:List Wi}
def Lo.wt (s:Lo):Int:=if s.busy=true then (if s.hk=3 then 3 else if emp s.wa=true then 2 else 1) else 0
def Lo.abs (s:Lo):Rk:=⟨s.ex,s.ow,s.shd,s.pa,s.ops,s.hn,s.hk,s.wt,if s.hk=2 then s.wa else no8,if s.hk=1∨s.hk=2 then s.su else -1,s.op⟩
structure Jv (s:Lo):Prop where
 ok:s.Ok
 ex:0≤s.ex→s.ow=s.ex∧∀i,s.ho i=true→(i:Int)=s.ex
 ow:0≤s.ow→s.ho s.ow.toNat=true
 h8:∀i,8≤i→s.ho i=false
 hk:(s.hk=0∧s.hn=0)∨s.hk=1∨s.hk=2∨s.hk=3
 wa:¬s.hk=2→s.wa=no8
 w:∀i,s.wa i=true→¬(i:Int)=s.ow
 w8:∀i,8≤i→s.wa i=false
 k1:s.hk=1→s.ho s.hn=false∧(0≤s.ex→s.su=s.ex)
 k2:s.hk=2→¬s.ex=(s.hn:Int)
theorem busy_eq (h:Jv s):s.busy= !decide (s.hk=0):=by
 unfold Lo.busy Lo.wi wi0
 rcases h.hk with ⟨h1,h2⟩ | h1 | h1 | h1 <;> simp [h1]
 exact h2
theorem busy_t (h:s.hk=1∨s.hk=2∨s.hk=3):s.busy=true:=by
 unfold Lo.busy Lo.wi wi0
 rcases h with h1 | h1 | h1 <;> simp [h1]
theorem busy_f (h:s.hk=0) (h2:s.hn=0):s.busy=false:=by
 unfold Lo.busy Lo.wi wi0
 simp [h,h2]
theorem updYes {α:Type} (f:Nat→α) (n:Nat) (v:α):upd f n v n=v:=by simp [upd]
theorem updNo {α:Type} (f:Nat→α) {n i:Nat} (v:α) (h:¬i=n):upd f n v i=f i:=by simp [upd,h]
theorem shd_neg (h:s.Ok) (hx:¬ 0≤s.ex):s.shd=s.ho:=by
 have:=h.ex
 unfold Lo.shd
 rw [if_pos (by omega)]
theorem shd_pos (hx:0≤s.ex):s.shd=upd s.ho s.ex.toNat false:=by
 unfold Lo.shd
 rw [if_neg (by omega)]
structure Cr (s:Lo) (r:Rk):Prop where
 x:r.x=s.ex
 ow:r.ow=s.ow
 sh:r.sh=s.shd
 pa:r.pa=s.pa
 ops:r.ops=s.ops
 hn:r.hn=s.hn
 hk:r.hk=s.hk
 op:r.op=s.op
structure Jc (s:Lo):Prop where
 ok:s.Ok
 ex:0≤s.ex→s.ow=s.ex∧∀i,s.ho i=true→(i:Int)=s.ex
 ow:0≤s.ow→s.ho s.ow.toNat=true
 h8:∀i,8≤i→s.ho i=false
theorem Jv.jc (h:Jv s):Jc s:=⟨h.ok,h.ex,h.ow,h.h8⟩
theorem sup_sim (h:Jc s) (c:Cr s r) (hne:¬s.ex=(s.hn:Int)):r.sup=s.sup s.hn:=by
 have ho:=h.ok
 unfold Rk.sup Lo.sup
 rw [c.x,c.ow,c.sh,c.hn]
 by_cases hx:0≤s.ex
 · have h1:=(h.ex hx).1
   rw [if_pos hx,if_pos ⟨by omega,by omega⟩]
   exact h1.symm
 · rw [if_neg hx,shd_neg ho hx]
   by_cases h2:s.ow≠ -1∧s.ow≠(s.hn:Int)
   · have:=ho.ow
     rw [if_pos h2,if_pos ⟨by omega,h2.2,h.ow (by omega)⟩]
   · rw [if_neg h2,if_neg (fun e=>h2 ⟨by omega,e.2.1⟩)]
theorem wt_2 (h:s.hk=1∨s.hk=2) (he:emp s.wa=true):s.wt=2:=by
 unfold Lo.wt
 rw [if_pos (busy_t (by rcases h with h | h <;> simp [h])),if_neg (by rcases h with h | h <;> omega),if_pos he]
theorem wt_1 (h:s.hk=2) (he:¬emp s.wa=true):s.wt=1:=by
 unfold Lo.wt
 rw [if_pos (busy_t (by simp [h])),if_neg (by omega),if_neg he]
theorem wt_3 (h:s.hk=3):s.wt=3:=by
 unfold Lo.wt
 rw [if_pos (busy_t (by simp [h])),if_pos h]
theorem wt_0 (h:s.hk=0) (h2:s.hn=0):s.wt=0:=by
 unfold Lo.wt
 rw [if_neg (by rw [busy_f h h2];simp)]
theorem emp_no:emp no8=true:=by decide
theorem on_sim (D:Rk→Rk×List Wi×List Od) (h:Jc s) (c:Cr s r) (hk:s.hk=1) (hh:s.ho s.hn=false) (hw:s.wa=no8) (hg:r.gn=no8):rbeg D r l=(s.handOn.1.abs,l,s.handOn.2):=by
 have hne:¬s.ex=(s.hn:Int):=by
   intro e
   have h1:=(h.ex (by omega)).1
   have h2:=h.ow (by omega)
   rw [h1,e,Int.toNat_natCast,hh] at h2
   cases h2
 have hs:=sup_sim h c hne
 have hsu:r.find.su=s.find.su:=hs
 have hrg:=(find_ok h.ok).su
 have hcond:¬(r.x=(r.hn:Int)∨r.sh r.hn=true):=by
   rw [c.x,c.hn,c.sh]
   rintro (e | e)
   · exact hne e
   · by_cases hx:0≤s.ex
     · unfold Lo.shd upd at e
       rw [if_neg (by omega)] at e
       split at e
       · cases e
       · rw [hh] at e;cases e
     · rw [shd_neg h.ok hx,hh] at e;cases e
 unfold rbeg
 rw [if_pos (by rw [c.hk];exact hk),if_neg hcond,hsu]
 unfold Lo.handOn Lo.send
 have hrec:r.find.wt1 2=s.find.abs:=by
   have hwt:s.find.wt=2:=wt_2 (.inl hk) (by rw [show s.find.wa=no8 from hw];exact emp_no)
   unfold Lo.abs
   rw [hwt,if_neg (show ¬s.find.hk=2 by show ¬s.hk=2;omega),if_pos (show s.find.hk=1∨s.find.hk=2 from .inl hk)]
   unfold Rk.wt1 Rk.find
   rw [c.x,c.ow,c.sh,c.pa,c.ops,c.hn,c.hk,c.op,hg,hs]
   rfl
 rw [hrec,c.hn,c.op]
 by_cases e:s.find.su= -1
 · rw [if_pos (by omega),if_pos e];rfl
 · rw [if_neg (by omega),if_neg e];rfl
theorem dropTo_eq (r:Rk) (f:Nat→Bool):∀j,(∀i,i<j→r.og i=f i)→r.dropTo j=(lstTo f j).map fun n=>(⟨4,n,r.op,0,0,0⟩:Od)
 | 0,_=>rfl
 | j+1,h=>by
   rw [Rk.dropTo,lstTo,dropTo_eq r f j (fun i hi=>h i (by omega)),h j (by omega),List.map_append]
   cases f j <;> rfl
theorem lst_emp {f:Nat→Bool} :lst f= []↔emp f=true:=by
 constructor
 · intro h
   have key:∀j,lstTo f j= []→∀i,i<j→f i=false:=by
     intro j
     induction j with
     | zero=>intro _ i hi;omega
     | succ j ih=>
       intro e i hi
       rw [lstTo,List.append_eq_nil_iff] at e
       by_cases hij:i=j
       · subst hij
         cases hf:f i with
         | false=>rfl
         | true=>rw [hf] at e;simp at e
       · exact ih e.1 i (by omega)
   unfold emp like
   exact decide_eq_true (fun i hi=>by rw [key 8 h i (by simpa using hi)];rfl)
 · intro h
   exact lst_none 8 f (fun i hi=>emp_at h i hi)
theorem og_eq (h:Jc s) (c:Cr s r) (hne:¬s.ex=(s.hn:Int)) (i:Nat):r.find.og i=s.find.oth i:=by
 have hs:r.find.su=s.find.su:=sup_sim h c hne
 have hrg:=(find_ok h.ok).su
 unfold Rk.og Lo.oth
 rw [hs,show r.find.sh=s.shd from c.sh,show r.find.hn=s.hn from c.hn,show s.find.hn=s.hn from rfl,show s.find.ho=s.ho from rfl]
 have key:∀v:Bool,v=s.ho i→((0≤s.ex∧(i:Int)=s.ex)→(i:Int)=s.find.su)→(s.shd i&& !decide ((i:Int)=(s.hn:Int))&& !decide ((i:Int)=s.find.su))=(v&& !decide ((i:Int)=(s.hn:Int))&& !decide ((i:Int)=s.find.su)):=by
   intro v hv he
   subst hv
   by_cases hx:0≤s.ex
   · rw [shd_pos hx]
     by_cases e:i=s.ex.toNat
     · have:=he ⟨hx,by omega⟩
       simp [this]
     · rw [updNo _ _ e]
   · rw [shd_neg h.ok hx]
 have hexs:0≤s.ex→s.find.su=s.ex:=by
   intro hx
   show s.sup s.hn=s.ex
   have h1:=(h.ex hx).1
   unfold Lo.sup
   rw [if_pos ⟨by omega,by omega⟩,h1]
 rw [key (s.ho i) rfl (fun e=>by rw [hexs e.1];exact e.2)]
 by_cases e1:i=s.hn
 · subst e1
   by_cases e2:s.find.su= -1
   · rw [if_pos e2,updYes];simp
   · rw [if_neg e2];unfold upd;split <;> simp
 · have d1:decide ((i:Int)=(s.hn:Int))=false:=decide_eq_false (by omega)
   rw [d1]
   by_cases e2:s.find.su= -1
   · rw [if_pos e2,updNo _ _ e1,decide_eq_false (by omega)];simp
   · rw [if_neg e2]
     by_cases e3:i=s.find.su.toNat
     · rw [e3,updYes,decide_eq_true (by omega)];simp
     · rw [updNo _ _ e3,updNo _ _ e1,decide_eq_false (by omega)];simp
theorem over_sim (D:Rk→Rk×List Wi×List Od) (h:Jc s) (c:Cr s r) (hk:s.hk=2) (hne:¬s.ex=(s.hn:Int)) (hg:∀i,8≤i→r.gn i=false):rbeg D r l=(s.handOver.1.abs,l,s.handOver.2):=by
 have hs:r.find.su=s.find.su:=sup_sim h c hne
 have hrg:=(find_ok h.ok).su
 have hog:=og_eq h c hne
 have hdr:r.find.dropTo 8=s.find.wait.drops:=by
   rw [dropTo_eq r.find s.find.oth 8 (fun i _=>hog i)]
   show List.map (fun n=>(⟨4,n,r.op,0,0,0⟩:Od)) _=List.map (fun n=>(⟨4,n,s.op,0,0,0⟩:Od)) _
   rw [c.op];rfl
 have hgn:(r.find.gnTo 8).gn=s.find.wait.wa:=by
   funext i
   show(if i<8 then r.find.og i else r.gn i)=s.find.oth i
   split
   · exact hog i
   · rw [hg i (by omega),← hog i]
     unfold Rk.og
     rw [show r.find.sh=s.shd from c.sh]
     have:s.shd i=false:=by
       by_cases hx:0≤s.ex
       · rw [shd_pos hx];unfold upd;split
         · rfl
         · exact h.h8 i (by omega)
       · rw [shd_neg h.ok hx];exact h.h8 i (by omega)
     rw [this];rfl
 have hemp:s.find.wait.drops= []↔emp s.find.wait.wa=true:=by
   unfold Lo.drops
   rw [List.map_eq_nil_iff]
   exact lst_emp
 have hrec:∀k:Int,s.find.wait.wt=k→(r.find.gnTo 8).wt1 k=s.find.wait.abs:=by
   intro k hkk
   unfold Lo.abs
   rw [hkk,if_pos (show s.find.wait.hk=2 from hk),if_pos (show s.find.wait.hk=1∨s.find.wait.hk=2 from .inr hk),← hgn]
   unfold Rk.wt1 Rk.gnTo Rk.find
   rw [c.x,c.ow,c.sh,c.pa,c.ops,c.hn,c.hk,c.op,show r.sup=s.sup s.hn from hs]
   rfl
 unfold rbeg
 rw [if_neg (by rw [c.hk];omega),if_pos (by rw [c.hk];exact hk),if_neg (by rw [c.x,c.hn];exact hne),hdr]
 unfold Lo.handOver
 by_cases he:emp s.find.wait.wa=true
 · rw [if_pos (hemp.2 he),if_pos he]
   have h2:=hrec 2 (wt_2 (.inr hk) he)
   unfold Rk.on Lo.send
   rw [h2,show(r.find.gnTo 8).su=s.find.su from hs,show(r.find.gnTo 8).hn=s.hn from c.hn,show(r.find.gnTo 8).op=s.op from c.op]
   by_cases e:s.find.su= -1
   · rw [if_pos (show s.find.su<0 by omega),if_pos (show s.find.wait.su= -1 from e)];rfl
   · rw [if_neg (show ¬s.find.su<0 by omega),if_neg (show ¬s.find.wait.su= -1 from e)];rfl
 · rw [if_neg (fun e=>he (hemp.1 e)),if_neg he,hrec 1 (wt_1 hk he)]
end Go.Proofs.Ytbigongmlpoahaa
