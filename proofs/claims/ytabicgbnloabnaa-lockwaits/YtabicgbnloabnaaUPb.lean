import Derived.Test.YtabicgbnloabnaaUGg
import Derived.Test.YtabicgbnloabnaaUPa
namespace Go.Proofs.Ytabicgbnloabnaa
set_option maxRecDepth 100000
set_option linter.unusedSimpArgs false
open Go.RowKit
structure Gr (A:Nat) (r:Rk) (R:List Wi):Prop where
 ok:r.Ok
 all:∀x∈R,x.Ok
 op0:0≤r.op
 op1:r.op+R.length≤A
 len:R.length≤A
variable {A:Nat} {r:Rk} {R:List Wi}
theorem Gr.mono {B:Nat} (h:Gr A r R) (hAB:A≤B):Gr B r R:=⟨h.ok,h.all,h.op0,by have:=h.op1;omega,by have:=h.len;omega⟩
theorem Gr.rs (h:Gr A r R) (hA:A≤800) {w:World} {b:Nat} {ln:Value} (hB:Blk w b 47 (r.C ln)) (hW:Ws w ln R):Rs w b ln r R:=⟨hB,hW,h.ok,h.all,h.op0,by have:=h.op1;omega,by have:=h.len;omega⟩
theorem Gr.to (h:Gr A r R) {q:Rk} (hq:q.Ok) (ho:q.op=r.op):Gr A q R:=⟨hq,h.all,by rw [ho];exact h.op0,by rw [ho];exact h.op1,h.len⟩
theorem rbeg_gr {D:Rk→Rk×List Wi×List Od} (hD:∀q,Gr A q R→Gr A (D q).1 (D q).2.1) (h:Gr A r R):Gr A (rbeg D r R).1 (rbeg D r R).2.1:=by
 have hf:=rfind_ok h.ok
 unfold rbeg
 split
 · split
   · exact hD r h
   · exact h.to ⟨hf.x,hf.ow,hf.su,hf.hn⟩ rfl
 · split
   · split
     · exact hD r h
     · split
       · exact h.to ⟨hf.x,hf.ow,hf.su,hf.hn⟩ rfl
       · exact h.to ⟨hf.x,hf.ow,hf.su,hf.hn⟩ rfl
   · split
     · exact hD _ (h.to (rsetPa_ok (rsetPa_ok h.ok _ _) _ _) rfl)
     · exact h.to ⟨h.ok.x,h.ok.ow,h.ok.su,h.ok.hn⟩ rfl
theorem rdone_gr:∀(R:List Wi) (r:Rk) (A:Nat),Gr A r R→Gr A (rdone r R).1 (rdone r R).2.1
 | [],r,A,h=>h.to (rclr_ok h.ok) rfl
 | x::l,r,A,h=>by
   have hx:=h.all x (by simp)
   have h3:=h.op1
   have h4:=h.op0
   have h5:=h.len
   simp only [List.length_cons,Int.natCast_add,Int.natCast_one] at h3 h5
   have hg:Gr A (r.clr.take x) l:=⟨rtake_ok (rclr_ok h.ok) hx,fun y hy=>h.all y (by simp [hy]),by show 0≤r.op+1;omega,by show r.op+1+l.length≤A;omega,by omega⟩
   rw [rdone]
   exact rbeg_gr (fun q hq=>rdone_gr l q A hq) hg
theorem rbegP_gr (h:Gr A r R):Gr A (rbegP r R).1 (rbegP r R).2.1:=rbeg_gr (fun q hq=>rdone_gr R q A hq) h
theorem rwish_gr {x:Wi} (h:Gr A r R) (hx:x.Ok):Gr (A+1) (rwishP r R x).1 (rwishP r R x).2.1:=by
 have hg:Gr (A+1) r (R++ [x]):=by
   refine⟨h.ok,fun y hy=> ?_,h.op0,?_,?_⟩
   · rcases List.mem_append.1 hy with h1 | h1
     · exact h.all y h1
     · simp at h1;subst h1;exact hx
   · have:=h.op1;simp;omega
   · have:=h.len;simp;omega
 unfold rwishP
 split
 · exact h.mono (by omega)
 · split
   · exact hg
   · exact rdone_gr _ _ _ hg
theorem rwishI_gr {m k:Int} (h:Gr A r R) (hk:k=1∨k=2∨k=3):Gr (A+1) (rwishI r R m k).1 (rwishI r R m k).2.1:=by
 unfold rwishI
 split
 · rename_i hm
   have h1:0≤m∧m<8:=by simpa [isN] using hm
   exact rwish_gr h ⟨by simp;omega,hk⟩
 · exact h.mono (by omega)
theorem rwant_gr {m md:Int} (h:Gr A r R):Gr (A+1) (rwantP r R m md).1 (rwantP r R m md).2.1:=by
 unfold rwantP
 split
 · exact rwishI_gr h (by simp)
 · split
   · exact rwishI_gr h (by simp)
   · exact h.mono (by omega)
theorem raway_gr (h:Gr A r R) (n:Nat):Gr A (raway r R n).1 (raway r R n).2.1:=by
 unfold raway
 split
 · exact rbegP_gr (h.to (aw_ok h.ok n) rfl)
 · exact h.to (aw_ok h.ok n) rfl
theorem rwent_gr {m c:Int} (h:Gr A r R):Gr (A+1) (rwentP r R m c).1 (rwentP r R m c).2.1:=by
 unfold rwentP
 split
 · exact(raway_gr h _).mono (by omega)
 · exact h.mono (by omega)
theorem rgot_gr {m c:Int} (h:Gr A r R):Gr (A+1) (rgotP r R m c).1 (rgotP r R m c).2.1:=by
 unfold rgotP
 split
 · split
   · exact(rdone_gr _ _ _ (h.to (gotSh_ok h.ok) (gotSh_op r))).mono (by omega)
   · exact(rdone_gr _ _ _ (h.to (gotEx_ok h.ok) (gotEx_op r))).mono (by omega)
 · exact h.mono (by omega)
theorem rrel_gr {m c:Int} (h:Gr A r R):Gr (A+1) (rrelP r R m c).1 (rrelP r R m c).2.1:=by
 unfold rrelP
 split
 · have hr:Gr A (r.rel m.toNat) R:=h.to (rel_ok h.ok _) rfl
   unfold rrelN
   split
   · exact(raway_gr hr _).mono (by omega)
   · split
     · have h1:=hr.op0
       have h2:=hr.op1
       have h3:=hr.len
       exact rbegP_gr ⟨ropUp_ok hr.ok,hr.all,by show 0≤(r.rel m.toNat).op+1;omega,by show(r.rel m.toNat).op+1+R.length≤((A+1:Nat):Int);omega,by omega⟩
     · split
       · exact(rdone_gr _ _ _ (hr.to (rsetPa_ok hr.ok _ _) rfl)).mono (by omega)
       · exact hr.mono (by omega)
 · exact h.mono (by omega)
theorem rwrote_gr {m c p:Int} (h:Gr A r R):Gr (A+1) (rwroteP r R m c p).1 (rwroteP r R m c p).2.1:=by
 have g1:Gr A r.noPa R:=h.to (rnoPa_ok h.ok) rfl
 have g2:Gr A r.noPa.noOw1 R:=h.to (rnoOw_ok (rnoPa_ok h.ok)) rfl
 unfold rwroteP
 split
 · unfold rwroteN
   split
   · split
     · split
       · exact(rdone_gr _ _ _ g1).mono (by omega)
       · exact g1.mono (by omega)
     · split
       · exact(rdone_gr _ _ _ g2).mono (by omega)
       · exact g2.mono (by omega)
   · exact h.mono (by omega)
 · exact h.mono (by omega)
theorem rk0_gr:Gr 0 rk0 []:=⟨⟨by decide,by decide,by decide,by decide⟩,(fun x hx=>by cases hx),by decide,by decide,by decide⟩
theorem rdo_gr (h:Gr A r R) (x:Sp):Gr (A+1) (rdo r R x).1 (rdo r R x).2.1:=by
 unfold rdo
 repeat' split
 · exact rwant_gr h
 · exact rwishI_gr h (by simp)
 · exact rwent_gr h
 · exact rgot_gr h
 · exact rrel_gr h
 · exact rwrote_gr h
 · exact h.mono (by omega)
theorem pdo_gd {s:Lo} {L:List Wi} (h:Gd A s L) (r:Rk) (x:Sp):Gd (A+1) (pdo s L r x).1 (pdo s L r x).2.1:=by
 unfold pdo
 repeat' split
 · exact want_gd h
 · exact askI_gd h (by simp)
 · exact gone_gd h
 · exact got_gd h
 · exact rel_gd h
 · exact wrote_gd h
 · exact h.mono (by omega)
end Go.Proofs.Ytabicgbnloabnaa
