import Derived.Test.YtbigongmlpoahaaUPb
namespace Go.Proofs.Ytbigongmlpoahaa
set_option maxRecDepth 100000
set_option linter.unusedSimpArgs false
open Go.RowKit
variable {s:Lo} {r:Rk} {l L:List Wi}
theorem clr_sim (c:Cr s r):r.clr=s.over.abs:=by
 unfold Lo.abs
 rw [wt_0 (s:=s.over) rfl rfl,if_neg (show ¬s.over.hk=2 by show ¬(0:Int)=2;decide),if_neg (show ¬(s.over.hk=1∨s.over.hk=2) by show ¬((0:Int)=1∨(0:Int)=2);decide)]
 unfold Rk.clr
 rw [c.x,c.ow,c.sh,c.pa,c.ops,c.op]
 rfl
theorem over_jv (h:Jc s) (hw:s.wa=no8):Jv s.over:=
 ⟨over_ok h.ok,h.ex,h.ow,h.h8,.inl ⟨rfl,rfl⟩,fun _=>hw,(fun i hi=>by rw [show s.over.wa=no8 from hw] at hi;cases hi),(fun i _=>by rw [show s.over.wa=no8 from hw];rfl),fun e=>absurd e (by show ¬(0:Int)=1;decide),fun e=>absurd e (by show ¬(0:Int)=2;decide)⟩
theorem ne_of (h:Jc s) (hh:s.ho s.hn=false):¬s.ex=(s.hn:Int):=by
 intro e
 have h1:=(h.ex (by omega)).1
 have h2:=h.ow (by omega)
 rw [h1,e,Int.toNat_natCast,hh] at h2
 cases h2
theorem sup_ex (h:Jc s) (hne:¬s.ex=(s.hn:Int)) (hx:0≤s.ex):s.sup s.hn=s.ex:=by
 have h1:=(h.ex hx).1
 unfold Lo.sup
 rw [if_pos ⟨by omega,by omega⟩,h1]
theorem on_jv (h:Jc s) (hk:s.hk=1) (hh:s.ho s.hn=false) (hw:s.wa=no8):Jv s.handOn.1:=
 ⟨find_ok h.ok,h.ex,h.ow,h.h8,.inr (.inl hk),fun _=>hw,(fun i hi=>by rw [show s.handOn.1.wa=no8 from hw] at hi;cases hi),(fun i _=>by rw [show s.handOn.1.wa=no8 from hw];rfl),fun _=>⟨hh,fun hx=>sup_ex h (ne_of h hh) hx⟩,fun e=>absurd (show s.hk=2 from e) (by omega)⟩
theorem oth_at {i:Nat} (h:s.oth i=true):s.ho i=true∧¬i=s.hn∧(¬s.su= -1→¬i=s.su.toNat):=by
 unfold Lo.oth at h
 by_cases e:s.su= -1
 · rw [if_pos e] at h
   by_cases e1:i=s.hn
   · rw [e1,updYes] at h;cases h
   · rw [updNo _ _ e1] at h;exact⟨h,e1,fun x=>absurd e x⟩
 · rw [if_neg e] at h
   by_cases e2:i=s.su.toNat
   · rw [e2,updYes] at h;cases h
   · rw [updNo _ _ e2] at h
     by_cases e1:i=s.hn
     · rw [e1,updYes] at h;cases h
     · rw [updNo _ _ e1] at h;exact⟨h,e1,fun _=>e2⟩
theorem overH_jv (h:Jc s) (hk:s.hk=2) (hne:¬s.ex=(s.hn:Int)):Jv s.handOver.1:=by
 refine⟨handOver_ok h.ok,h.ex,h.ow,h.h8,.inr (.inr (.inl hk)),fun e=>absurd hk e,fun i hi e=> ?_,fun i hi=> ?_,fun e=>absurd (show s.hk=1 from e) (by omega),fun _=>hne⟩
 · obtain⟨_,h2,h3⟩:=oth_at (s:=s.find) hi
   have e':(i:Int)=s.ow:=e
   by_cases e1:s.ow=(s.hn:Int)
   · exact h2 (by show i=s.hn;omega)
   · have hsu:s.find.su=s.ow:=by
       show s.sup s.hn=s.ow
       unfold Lo.sup
       rw [if_pos ⟨by omega,e1⟩]
     exact h3 (by omega) (by omega)
 · cases hh:s.handOver.1.wa i with
   | false=>rfl
   | true=>
     have:=(oth_at (s:=s.find) hh).1
     rw [show s.find.ho=s.ho from rfl,h.h8 i hi] at this
     cases this
theorem begin_jv (h:Jc s) (hk:s.hk=1∨s.hk=2∨s.hk=3) (hw:s.wa=no8):Jv s.begin.1:=by
 unfold Lo.begin
 split
 · rename_i h1
   unfold Lo.bSh
   split
   · exact over_jv h hw
   · rename_i hh
     exact on_jv h h1 (by simpa using hh) hw
 · split
   · rename_i h2
     unfold Lo.bEx
     split
     · exact over_jv h hw
     · rename_i hne
       exact overH_jv h h2 hne
   · have h3:s.hk=3:=by omega
     unfold Lo.bCl
     split
     · exact over_jv (s:=(s.setPa s.hn true).setPa (s.setPa s.hn true).hn false) ⟨⟨h.ok.ex,h.ok.ow,h.ok.su,h.ok.hn⟩,h.ex,h.ow,h.h8⟩ hw
     · refine⟨⟨h.ok.ex,h.ok.ow,h.ok.su,h.ok.hn⟩,h.ex,h.ow,h.h8,.inr (.inr (.inr h3)),fun _=>hw,fun i hi=> ?_,fun i _=> ?_,fun e=>absurd (show s.hk=1 from e) (by omega),fun e=>absurd (show s.hk=2 from e) (by omega)⟩
       · rw [show (s.setPa s.hn true).wa=no8 from hw] at hi;cases hi
       · rw [show (s.setPa s.hn true).wa=no8 from hw];rfl
theorem shd_of (h:Jc s) (hn:¬s.ex=(s.hn:Int)):s.shd s.hn=s.ho s.hn:=by
 by_cases hx:0≤s.ex
 · rw [shd_pos hx,updNo _ _ (by omega)]
 · rw [shd_neg h.ok hx]
theorem begin_sim (D:Rk→Rk×List Wi×List Od) (h:Jc s) (c:Cr s r) (hk:s.hk=1∨s.hk=2∨s.hk=3) (hw:s.wa=no8) (hg:r.gn=no8) (hs:r.su= -1):
   (s.begin.1.busy=true→rbeg D r l=(s.begin.1.abs,l,s.begin.2))∧(s.begin.1.busy=false→∃r',r'.clr=s.begin.1.abs∧rbeg D r l=((D r').1,(D r').2.1,s.begin.2++(D r').2.2)):=by
 have hb:=busy_t hk
 unfold Lo.begin
 by_cases h1:s.hk=1
 · rw [if_pos h1]
   unfold Lo.bSh
   by_cases hh:s.ho s.hn=true
   · rw [if_pos hh]
     refine⟨(fun e=>by rw [busy_f (s:=s.over) rfl rfl] at e;cases e),fun _=>⟨r,clr_sim c,?_⟩⟩
     unfold rbeg
     rw [if_pos (by rw [c.hk];exact h1),if_pos]
     · rfl
     · rw [c.x,c.hn,c.sh]
       by_cases hne:s.ex=(s.hn:Int)
       · exact .inl hne
       · exact .inr (by rw [shd_of h hne];exact hh)
   · rw [if_neg hh]
     exact⟨fun _=>on_sim D h c h1 (by simpa using hh) hw hg,fun e=>absurd (show s.busy=false from e) (by rw [hb];simp)⟩
 · rw [if_neg h1]
   by_cases h2:s.hk=2
   · rw [if_pos h2]
     unfold Lo.bEx
     by_cases hne:s.ex=(s.hn:Int)
     · rw [if_pos hne]
       refine⟨(fun e=>by rw [busy_f (s:=s.over) rfl rfl] at e;cases e),fun _=>⟨r,clr_sim c,?_⟩⟩
       unfold rbeg
       rw [if_neg (by rw [c.hk];exact h1),if_pos (by rw [c.hk];exact h2),if_pos (by rw [c.x,c.hn];exact hne)]
       rfl
     · rw [if_neg hne]
       exact⟨fun _=>over_sim D h c h2 hne (fun i _=>by rw [hg];rfl),fun e=>absurd (show s.busy=false from e) (by rw [hb];simp)⟩
   · rw [if_neg h2]
     have h3:s.hk=3:=by omega
     have hrow:=h.ok.ow
     unfold Lo.bCl
     by_cases ho:s.ow= -1
     · rw [if_pos ho]
       refine⟨(fun e=>by rw [busy_f (s:=(s.setPa s.hn true).needless.1) rfl rfl] at e;cases e),fun _=>⟨(r.setPa r.hn true).setPa r.hn false,?_,?_⟩⟩
       · refine clr_sim (s:=(s.setPa s.hn true).setPa s.hn false) ⟨c.x,c.ow,c.sh,?_,c.ops,c.hn,c.hk,c.op⟩
         unfold Rk.setPa Lo.setPa
         rw [c.pa,c.hn]
       · unfold rbeg
         rw [if_neg (by rw [c.hk];exact h1),if_neg (by rw [c.hk];exact h2),if_pos (by rw [c.ow];omega),c.hn]
         rfl
     · rw [if_neg ho]
       refine⟨fun _=> ?_,fun e=>absurd (show s.busy=false from e) (by rw [hb];simp)⟩
       unfold rbeg
       rw [if_neg (by rw [c.hk];exact h1),if_neg (by rw [c.hk];exact h2),if_neg (by rw [c.ow];omega),c.ow,c.op]
       have hrec:(r.setPa r.hn true).wt1 3=(s.setPa s.hn true).abs:=by
         unfold Lo.abs
         rw [wt_3 (s:=s.setPa s.hn true) h3,if_neg (show ¬(s.setPa s.hn true).hk=2 from h2),if_neg (show ¬((s.setPa s.hn true).hk=1∨(s.setPa s.hn true).hk=2) from fun e=>e.elim h1 h2)]
         unfold Rk.wt1 Rk.setPa Lo.setPa
         rw [c.x,c.ow,c.sh,c.pa,c.ops,c.hn,c.hk,c.op,hg,hs]
         rfl
       rw [hrec]
theorem abs_cr (s:Lo):Cr s s.abs:=⟨rfl,rfl,rfl,rfl,rfl,rfl,rfl,rfl⟩
theorem next_sim:∀(L:List Wi) (s:Lo) (r:Rk),Jc s→s.wa=no8→s.hk=0→s.hn=0→r.clr=s.abs→(∀x∈L,x.Ok)→rdone r L=((nextP s L).1.abs,(nextP s L).2.1,(nextP s L).2.2)∧Jv (nextP s L).1
 | [],s,r,h,hw,hk,hn,hc,_=>by
   refine⟨by rw [rdone,hc];rfl,?_⟩
   have:=over_jv h hw
   have e:s.over=s:=by
     cases s
     simp only at hk hn
     subst hk hn
     rfl
   rw [e] at this
   exact this
 | x::l,s,r,h,hw,hk,hn,hc,ha=>by
   have hx:=ha x (by simp)
   have hT:Jc (s.take x):=⟨take_ok h.ok hx,h.ex,h.ow,h.h8⟩
   have hcr:Cr (s.take x) (r.clr.take x):=by rw [hc];exact⟨rfl,rfl,rfl,rfl,rfl,rfl,rfl,rfl⟩
   obtain⟨b1,b2⟩:=begin_sim (l:=l) (fun r'=>rdone r' l) hT hcr hx.2 hw rfl rfl
   have hj:=begin_jv hT hx.2 hw
   rw [nextP,rdone]
   split
   · rename_i e
     exact⟨b1 e,hj⟩
   · rename_i e
     have e':(s.take x).begin.1.busy=false:=by simpa using e
     obtain⟨r',h1,h2⟩:=b2 e'
     have hk0:(s.take x).begin.1.hk=0∧(s.take x).begin.1.hn=0:=by
       rcases hj.hk with h9 | h9
       · exact h9
       · rw [busy_t h9] at e';cases e'
     obtain⟨i1,i2⟩:=next_sim l _ r' hj.jc (hj.wa (by omega)) hk0.1 hk0.2 h1 (fun y hy=>ha y (by simp [hy]))
     refine⟨?_,i2⟩
     rw [h2,i1]
theorem clr_abs (h:s.hk=0) (h2:s.hn=0):s.abs.clr=s.abs:=by
 rw [clr_sim (abs_cr s)]
 congr 1
 cases s
 simp only at h h2
 subst h h2
 rfl
theorem wt_ne:s.wt=0↔s.busy=false:=by
 unfold Lo.wt
 cases hb:s.busy with
 | false=>simp
 | true=>
   simp only [if_true]
   constructor
   · intro e
     split at e
     · omega
     · split at e <;> omega
   · intro e;cases e
theorem wt_sends:s.wt=2↔s.sends=true:=by
 unfold Lo.wt Lo.sends
 cases hb:s.busy with
 | false=>simp
 | true=>
   by_cases h3:s.hk=3
   · simp [h3]
   · cases he:emp s.wa <;> simp [h3]
theorem wt_flush:s.wt=3↔s.hk=3:=by
 unfold Lo.wt
 by_cases h3:s.hk=3
 · simp [h3,busy_t (.inr (.inr h3))]
 · constructor
   · intro e
     split at e
     · split at e <;> omega
     · omega
   · intro e;exact absurd e h3
theorem wait_iff (h:Jv s) {n:Nat} (hn:n<8):(s.wt=1∧s.abs.gn n=true)↔s.wa n=true:=by
 constructor
 · rintro ⟨_,h2⟩
   have h3:(if s.hk=2 then s.wa else no8) n=true:=h2
   split at h3
   · exact h3
   · cases h3
 · intro hw
   have h2:s.hk=2:=by
     by_cases e:s.hk=2
     · exact e
     · rw [h.wa e] at hw;cases hw
   refine⟨wt_1 h2 (fun e=>by rw [emp_at e n hn] at hw;cases hw),?_⟩
   show(if s.hk=2 then s.wa else no8) n=true
   rw [if_pos h2];exact hw
theorem ask_sim {x:Wi} (h:Jv s) (ha:∀y∈L,y.Ok) (hx:x.Ok):rwishP s.abs L x=((askP s L x).1.abs,(askP s L x).2.1,(askP s L x).2.2)∧Jv (askP s L x).1:=by
 have hc:((s.abs.wt≠0∧s.abs.wi=x)∨x∈L)↔(s.wi=x∨x∈L):=by
   constructor
   · rintro (e | e)
     · exact .inl e.2
     · exact .inr e
   · rintro (e | e)
     · refine .inl ⟨fun e0=> ?_,e⟩
       have hb:=wt_ne.1 e0
       have hk:s.hk=x.k:=congrArg Wi.k e
       rw [busy_t (by rw [hk];exact hx.2)] at hb
       cases hb
     · exact .inr e
 unfold rwishP askP
 by_cases e:s.wi=x∨x∈L
 · rw [if_pos (hc.2 e),if_pos e];exact⟨rfl,h⟩
 · rw [if_neg (fun e0=>e (hc.1 e0)),if_neg e]
   by_cases hb:s.busy=true
   · rw [if_pos (fun e0=>by have:=wt_ne.1 e0;rw [hb] at this;cases this),if_pos hb];exact⟨rfl,h⟩
   · have hb':s.busy=false:=by simpa using hb
     rw [if_neg (fun e0=>e0 (wt_ne.2 hb')),if_neg hb]
     have hk0:s.hk=0∧s.hn=0:=by
       rcases h.hk with h9 | h9
       · exact h9
       · rw [busy_t h9] at hb';cases hb'
     refine next_sim _ s s.abs h.jc (h.wa (by omega)) hk0.1 hk0.2 (clr_abs hk0.1 hk0.2) (fun y hy=> ?_)
     rcases List.mem_append.1 hy with h1 | h1
     · exact ha y h1
     · simp at h1;subst h1;exact hx
theorem askI_sim {m k:Int} (h:Jv s) (ha:∀y∈L,y.Ok) (hk:k=1∨k=2∨k=3):rwishI s.abs L m k=((askI s L m k).1.abs,(askI s L m k).2.1,(askI s L m k).2.2)∧Jv (askI s L m k).1:=by
 unfold rwishI askI
 split
 · rename_i hm
   have h1:0≤m∧m<8:=by simpa [isN] using hm
   exact ask_sim h ha ⟨by simp;omega,hk⟩
 · exact⟨rfl,h⟩
theorem want_sim {m md:Int} (h:Jv s) (ha:∀y∈L,y.Ok):rwantP s.abs L m md=((wantP s L m md).1.abs,(wantP s L m md).2.1,(wantP s L m md).2.2)∧Jv (wantP s L m md).1:=by
 unfold rwantP wantP
 split
 · exact askI_sim h ha (by simp)
 · split
   · exact askI_sim h ha (by simp)
   · exact⟨rfl,h⟩
theorem updTwo {α:Type} (f:Nat→α) (n:Nat) (v u:α):upd (upd f n v) n u=upd f n u:=by
 funext i
 unfold upd
 split <;> rfl
theorem updSwap {α:Type} (f:Nat→α) {n k:Nat} (v u:α) (h:¬n=k):upd (upd f n v) k u=upd (upd f k u) n v:=by
 funext i
 unfold upd
 split
 · rename_i e;rw [if_neg (by omega)]
 · rfl
theorem shd_give (h:s.Ok) (n:Nat):(s.give n).shd=upd s.shd n false:=by
 have hr:=h.ex
 by_cases hx:0≤s.ex
 · by_cases e:s.ex=(n:Int)
   · have h1:(s.give n).shd=upd s.ho n false:=by
       unfold Lo.shd Lo.give
       simp only
       rw [if_pos e,if_pos rfl]
     rw [h1,shd_pos hx,show s.ex.toNat=n by omega,updTwo]
   · have h1:(s.give n).shd=upd (upd s.ho n false) s.ex.toNat false:=by
       unfold Lo.shd Lo.give
       simp only
       rw [if_neg e,if_neg (by omega)]
     rw [h1,shd_pos hx,updSwap _ _ _ (by omega)]
 · have h1:(s.give n).shd=upd s.ho n false:=by
     unfold Lo.shd Lo.give
     simp only
     rw [if_neg (show ¬s.ex=(n:Int) by omega),if_pos (show s.ex= -1 by omega)]
   rw [h1,shd_neg h hx]
theorem give_cr (h:s.Ok) (n:Nat):Cr (s.give n) (s.abs.rel n):=⟨rfl,rfl,(shd_give h n).symm,rfl,rfl,rfl,rfl,rfl⟩
theorem give_abs (h:s.Ok) (n:Nat):(s.give n).abs=s.abs.rel n:=by
 unfold Lo.abs
 rw [shd_give h n]
 rfl
theorem upd_le {f:Nat→Bool} {n i:Nat} (h:f i=false):upd f n false i=false:=by
 unfold upd;split
 · rfl
 · exact h
theorem give_jv (h:Jv s) (n:Nat):Jv (s.give n):=by
 refine⟨give_ok h.ok n,fun e=> ?_,fun e=> ?_,fun i hi=>upd_le (h.h8 i hi),h.hk,h.wa,fun i hi e=> ?_,h.w8,fun e=>⟨upd_le (h.k1 e).1,fun hx=> ?_⟩,fun e e2=> ?_⟩
 · simp only [Lo.give] at e⊢
   by_cases h1:s.ex=(n:Int)
   · rw [if_pos h1] at e;omega
   · rw [if_neg h1] at e⊢
     obtain⟨h2,h3⟩:=h.ex e
     rw [if_neg (by omega)]
     refine⟨h2,fun i hh=>h3 i ?_⟩
     unfold upd at hh
     split at hh
     · cases hh
     · exact hh
 · simp only [Lo.give] at e⊢
   by_cases h1:s.ow=(n:Int)
   · rw [if_pos h1] at e;omega
   · rw [if_neg h1] at e⊢
     rw [updNo _ _ (by omega)]
     exact h.ow e
 · simp only [Lo.give] at e
   split at e
   · omega
   · exact h.w i hi e
 · simp only [Lo.give] at hx⊢
   by_cases h1:s.ex=(n:Int)
   · rw [if_pos h1] at hx;omega
   · rw [if_neg h1] at hx ⊢;exact(h.k1 e).2 hx
 · simp only [Lo.give] at e2
   split at e2
   · omega
   · exact h.k2 e e2
theorem away_sim {q:Lo} (hq:Jv q) (hk:q.hk=2) {n:Nat} {r2:Rk} (c:Cr (q.setWa n false) r2) (hg:r2.gn=(q.setWa n false).wa) (hu:r2.su=q.su) (hw:r2.wt=1) (hr:raway r L n=if emp r2.gn then rbegP r2 L else (r2,L,[])):
   raway r L n=((q.isGone n).1.abs,L,(q.isGone n).2)∧Jv (q.isGone n).1:=by
 have hj:Jv (q.setWa n false):=by
   refine⟨setWa_ok hq.ok _ _,hq.ex,hq.ow,hq.h8,hq.hk,fun e=>absurd hk e,fun i hi=>hq.w i ?_,fun i hi=>upd_le (hq.w8 i hi),hq.k1,hq.k2⟩
   have hi':upd q.wa n false i=true:=hi
   unfold upd at hi'
   split at hi'
   · cases hi'
   · exact hi'
 rw [hr]
 unfold Lo.isGone
 by_cases he:emp (q.setWa n false).wa=true
 · rw [if_pos (by rw [hg];exact he),if_pos he]
   exact⟨over_sim _ hj.jc c hk (hq.k2 hk) (fun i hi=>by rw [hg];exact hj.w8 i hi),overH_jv hj.jc hk (hq.k2 hk)⟩
 · rw [if_neg (by rw [hg];exact he),if_neg he]
   refine⟨?_,hj⟩
   have:r2=(q.setWa n false).abs:=by
     unfold Lo.abs
     rw [wt_1 (s:=q.setWa n false) hk he,if_pos (show(q.setWa n false).hk=2 from hk),if_pos (show(q.setWa n false).hk=1∨(q.setWa n false).hk=2 from .inr hk),← hg]
     cases r2
     simp only at hw hu
     subst hw hu
     have h1:=c.x;have h2:=c.ow;have h3:=c.sh;have h4:=c.pa;have h5:=c.ops;have h6:=c.hn;have h7:=c.hk;have h8:=c.op
     simp only at h1 h2 h3 h4 h5 h6 h7 h8
     subst h1 h2 h3 h4 h5 h6 h7 h8
     rfl
   rw [this]
theorem gone_sim {m c:Int} (h:Jv s):rwentP s.abs L m c=((goneP s L m c).1.abs,(goneP s L m c).2.1,(goneP s L m c).2.2)∧Jv (goneP s L m c).1:=by
 unfold rwentP goneP
 by_cases hc:isN m=true∧s.wa m.toNat=true∧c=s.op
 · have hm:0≤m∧m<8:=by simpa [isN] using hc.1
   have hw:=(wait_iff h (n:=m.toNat) (by omega)).2 hc.2.1
   rw [if_pos hc,if_pos ⟨hc.1,hw.1,hc.2.2,hw.2⟩]
   have hk2:s.hk=2:=by
     by_cases e:s.hk=2
     · exact e
     · have:=hc.2.1;rw [h.wa e] at this;cases this
   have hno:=h.w _ hc.2.1
   have hne:¬s.ex=((m.toNat:Nat):Int):=by
     intro e
     have:=(h.ex (by omega)).1
     omega
   refine away_sim (r:=s.abs) (give_jv h m.toNat) hk2 (r2:=s.abs.aw m.toNat) ⟨?_,?_,(shd_give h.ok _).symm,rfl,rfl,rfl,rfl,rfl⟩ ?_ ?_ hw.1 rfl
   · show s.ex=(s.give m.toNat).ex
     simp only [Lo.give];rw [if_neg hne]
   · show s.ow=(s.give m.toNat).ow
     simp only [Lo.give];rw [if_neg (fun e=>hno e.symm)]
   · show upd (if s.hk=2 then s.wa else no8) m.toNat false=upd s.wa m.toNat false
     rw [if_pos hk2]
   · show(if s.hk=1∨s.hk=2 then s.su else -1)=s.su
     rw [if_pos (.inr hk2)]
 · rw [if_neg hc,if_neg]
   · exact⟨rfl,h⟩
   · rintro ⟨h1,h2,h3,h4⟩
     have hm:0≤m∧m<8:=by simpa [isN] using h1
     exact hc ⟨h1,(wait_iff h (n:=m.toNat) (by omega)).1 ⟨h2,h4⟩,h3⟩
end Go.Proofs.Ytbigongmlpoahaa
