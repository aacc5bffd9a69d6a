import Derived.Test.YtbigongmlpoahaaUKb
import Derived.Deep.CutBlock
namespace Go.Proofs.Ytbigongmlpoahaa
set_option maxRecDepth 100000
set_option linter.unusedSimpArgs false
open Go.RowKit
theorem keepG {St:(Nat→Bool)→(Nat→Value)→World→Prop} {l:Array Bool} {vs:Nat→Value} {j:Nat} {v:Value} {w:World} (sp:List Nat) (hloc:∀b b' vs vs' W,(∀i∈sp,b i=b' i∧vs i=vs' i)→St b vs W→St b' vs' W) (hj:j<l.size) (hn:sp.all (fun i=>i !=j)=true) (h:St (fun i=>l.getD i false) vs w):St (fun i=>(l.setIfInBounds j true).getD i false) (fun i=>if i=j then v else vs i) w:=by
 refine hloc _ _ _ _ _ (fun i hi=> ?_) h
 have hne:i≠j:=by have:=List.all_eq_true.1 hn i hi;simpa using this
 exact⟨by rw [getD_setD hj];simp [hne],by simp [hne]⟩
theorem nextG {St:(Nat→Bool)→(Nat→Value)→World→Prop} {l:Array Bool} {vs:Nat→Value} {j:Nat} {v:Value} {w:World} (hj:j<l.size) (h:St (fun i=>if i=j then true else l.getD i false) (fun i=>if i=j then v else vs i) w):St (fun i=>(l.setIfInBounds j true).getD i false) (fun i=>if i=j then v else vs i) w:=by
 have e:(fun i=>(l.setIfInBounds j true).getD i false)=(fun i=>if i=j then true else l.getD i false):=by
   funext i
   exact getD_setD hj false
 rw [e]
 exact h
theorem wpLoadG {ops:Array Oper} {rest:List Oper} {op:Oper} {a:Act} {w:World} {Q:Exit→Act→World→Prop} {T n:Nat} (hT:Row T n) (x:Operand) (ho:op.op= .load T x) (hw:Region.wanted op (yielded ops a.tmps)=true) (b off:Nat) (hx:a.eval x= .pointer (some ⟨b,off,none⟩)) (vs:List Value) (hl:vs.length=n) (hA:w.rangeAt b off vs)
   (h:wpList Try.prog ops Q rest (a.put op.dst (aggV vs)) w):wpList Try.prog ops Q (op::rest) a w:=
 BigFrame.wpList_want hw fun _ hK=>wp_loadA hT x ho b off hx vs hl hA (hK _ _ h)
theorem o_eqlA (T r:Nat) (hG:Try.prog.eqGuardType Try.prog.depth T=false) {o:Oper} {a:Act} {w:World} {K:Act→World→Prop} {Q:Exit→Act→World→Prop} (x y:Operand) (ho:o.op= .binOp .eql T x y r) (vs us:List Value) (hx:a.eval x=aggV vs) (hy:a.eval y=aggV us) (c:Bool)
   (he:(Op.equal T (aggV vs) (aggV us)).run Try.prog w= .ok c w) (h:K (a.put o.dst (.bool c)) w):o.wp Try.prog a w K Q:=by
 unfold Oper.wp execOp
 simp only [aggV] at he hx hy
 have hg:(eqGuard .eql T x y (.agg vs.toArray) (.agg us.toArray)).run Try.prog w= .ok () w:=by simp [eqGuard,Sem.run_bind,hG]
 have hb:(binOp BinOp.eql T (.agg vs.toArray) (.agg us.toArray)).run Try.prog w= .ok (.bool c) w:=by simp only [binOp,Sem.run_bind,he,Result.andThen_ok,Sem.run_pure]
 simp only [ho,hx,hy,Sem.run_bind,hg,hb,Result.andThen_ok]
 exact h
theorem o_neqA (T r:Nat) (hG:Try.prog.eqGuardType Try.prog.depth T=false) {o:Oper} {a:Act} {w:World} {K:Act→World→Prop} {Q:Exit→Act→World→Prop} (x y:Operand) (ho:o.op= .binOp .neq T x y r) (vs us:List Value) (hx:a.eval x=aggV vs) (hy:a.eval y=aggV us) (c:Bool)
   (he:(Op.equal T (aggV vs) (aggV us)).run Try.prog w= .ok c w) (h:K (a.put o.dst (.bool (!c))) w):o.wp Try.prog a w K Q:=by
 unfold Oper.wp execOp
 simp only [aggV] at he hx hy
 have hg:(eqGuard .neq T x y (.agg vs.toArray) (.agg us.toArray)).run Try.prog w= .ok () w:=by simp [eqGuard,Sem.run_bind,hG]
 have hb:(binOp BinOp.neq T (.agg vs.toArray) (.agg us.toArray)).run Try.prog w= .ok (.bool (!c)) w:=by simp only [binOp,Sem.run_bind,he,Result.andThen_ok,Sem.run_pure]
 simp only [ho,hx,hy,Sem.run_bind,hg,hb,Result.andThen_ok]
 exact h
theorem wp_text_tq {id:Nat} {ops:Array Oper} {Q:Exit→Act→World→Prop} {a0:Act} {w0:World} (n:Nat) (hn:ops.size=n) (hok:prefG ops n=true) (us:List (Option Value)) (hu:us.length=n) (hg:guardsQ ops us=true)
   (hsl:ops.all (fun o=>match o.dst with | none=>true | some t=>decide (t<a0.tmps.size))=true)
   (hop:∀(j:Nat) (o:Oper),j<n→skipQ us j=false→ops[j]?=some o→∀a w,(∀t:Nat,(ops.toList.take n).all (fun p=>p.dst !=some t)=true→a.eval (.tmp t)=a0.eval (.tmp t))→
     (∀(i t:Nat),o.after.any (fun e=>Region.binds .any e&&e.on == i)=true→ops[i]?.bind (·.dst)=some t→tq us i (a.eval (.tmp t)) w)→Kept [] w0 w→
     o.wp Try.prog a w (fun a' w'=>∃v,a'=a.put o.dst v∧tq us j v w'∧Kept [] w w'∧∀i u,i<n→i≠j→tq us i u w→True) Q)
   (hQ:∀w,Kept [] w0 w→Q .normal (putAll a0 (ops.toList.take n) (valsQ us)) w):(Code.region id ops false).wp Try.prog Q a0 w0:=by
 refine wp_region_text n hn hok (tq us) (fun _ _ _ _=>True) (skipQ us) (fun j o i b _ ho hg'=>guardsQ_some hg j o i b ho hg') (fun j o _ ho hg'=>guardsQ_none hg j o ho hg') (fun j w h=>skipQ_undef w h) (fun _ _ _ _=>trivial) (tq_kept us) hsl hop ?_
 intro vs w hlen hv hk
 obtain rfl:=vs_tq hv (by omega)
 exact hQ w hk
section
variable {o:Oper} {a:Act} {w:World} {K:Act→World→Prop} {Q:Exit→Act→World→Prop}
theorem o_nil (x:Operand) (ho:o.op= .nilCheck x) (p:Addr) (hx:a.eval x= .pointer (some p)) (h:K (a.put o.dst (.pointer (some p))) w):o.wp Try.prog a w K Q:=by
 unfold Oper.wp execOp
 simp only [ho,hx]
 simp [go_sem]
 exact h
theorem o_load3 (x:Operand) (ho:o.op= .load 3 x) (p:Addr) (v:Value) (hx:a.eval x= .pointer (some p)) (hc:w.cell? p=some v) (h:K (a.put o.dst v) w):o.wp Try.prog a w K Q:=by
 unfold Oper.wp execOp
 simp only [ho,hx]
 simp [go_sem,hc]
 exact h
theorem o_load4 (x:Operand) (ho:o.op= .load 4 x) (p:Addr) (v:Value) (hx:a.eval x= .pointer (some p)) (hc:w.cell? p=some v) (h:K (a.put o.dst v) w):o.wp Try.prog a w K Q:=by
 unfold Oper.wp execOp
 simp only [ho,hx]
 simp [go_sem,hc]
 exact h
theorem o_load31 (x:Operand) (ho:o.op= .load 29 x) (p:Addr) (v:Value) (hx:a.eval x= .pointer (some p)) (hc:w.cell? p=some v) (h:K (a.put o.dst v) w):o.wp Try.prog a w K Q:=by
 unfold Oper.wp execOp
 simp only [ho,hx]
 simp [go_sem,hc]
 exact h
theorem o_load38 (x:Operand) (ho:o.op= .load 35 x) (p:Addr) (v:Value) (hx:a.eval x= .pointer (some p)) (hc:w.cell? p=some v) (h:K (a.put o.dst v) w):o.wp Try.prog a w K Q:=by
 unfold Oper.wp execOp
 simp only [ho,hx]
 simp [go_sem,hc]
 exact h
theorem o_load36 (x:Operand) (ho:o.op= .load 22 x) (p:Addr) (v:Value) (hx:a.eval x= .pointer (some p)) (hc:w.cell? p=some v) (h:K (a.put o.dst v) w):o.wp Try.prog a w K Q:=by
 unfold Oper.wp execOp
 simp only [ho,hx]
 simp [go_sem,hc]
 exact h
theorem o_fld75_1 (x:Operand) (ho:o.op= .fieldAddr 108 x 1) (b i j:Nat) (hj:i+1=j) (hx:a.eval x= .pointer (some ⟨b,i,none⟩)) (h:K (a.put o.dst (.pointer (some ⟨b,j,none⟩))) w):o.wp Try.prog a w K Q:=by
 subst hj
 unfold Oper.wp execOp
 simp only [ho,hx]
 simp [go_sem]
 exact h
theorem o_fld75_2 (x:Operand) (ho:o.op= .fieldAddr 108 x 2) (b i j:Nat) (hj:i+2=j) (hx:a.eval x= .pointer (some ⟨b,i,none⟩)) (h:K (a.put o.dst (.pointer (some ⟨b,j,none⟩))) w):o.wp Try.prog a w K Q:=by
 subst hj
 unfold Oper.wp execOp
 simp only [ho,hx]
 simp [go_sem]
 exact h
theorem o_fld75_3 (x:Operand) (ho:o.op= .fieldAddr 108 x 3) (b i j:Nat) (hj:i+3=j) (hx:a.eval x= .pointer (some ⟨b,i,none⟩)) (h:K (a.put o.dst (.pointer (some ⟨b,j,none⟩))) w):o.wp Try.prog a w K Q:=by
 subst hj
 unfold Oper.wp execOp
 simp only [ho,hx]
 simp [go_sem]
 exact h
theorem o_fld75_4 (x:Operand) (ho:o.op= .fieldAddr 108 x 4) (b i j:Nat) (hj:i+11=j) (hx:a.eval x= .pointer (some ⟨b,i,none⟩)) (h:K (a.put o.dst (.pointer (some ⟨b,j,none⟩))) w):o.wp Try.prog a w K Q:=by
 subst hj
 unfold Oper.wp execOp
 simp only [ho,hx]
 simp [go_sem]
 exact h
theorem o_fld75_5 (x:Operand) (ho:o.op= .fieldAddr 108 x 5) (b i j:Nat) (hj:i+19=j) (hx:a.eval x= .pointer (some ⟨b,i,none⟩)) (h:K (a.put o.dst (.pointer (some ⟨b,j,none⟩))) w):o.wp Try.prog a w K Q:=by
 subst hj
 unfold Oper.wp execOp
 simp only [ho,hx]
 simp [go_sem]
 exact h
theorem o_fld75_6 (x:Operand) (ho:o.op= .fieldAddr 108 x 6) (b i j:Nat) (hj:i+27=j) (hx:a.eval x= .pointer (some ⟨b,i,none⟩)) (h:K (a.put o.dst (.pointer (some ⟨b,j,none⟩))) w):o.wp Try.prog a w K Q:=by
 subst hj
 unfold Oper.wp execOp
 simp only [ho,hx]
 simp [go_sem]
 exact h
theorem o_fld75_7 (x:Operand) (ho:o.op= .fieldAddr 108 x 7) (b i j:Nat) (hj:i+28=j) (hx:a.eval x= .pointer (some ⟨b,i,none⟩)) (h:K (a.put o.dst (.pointer (some ⟨b,j,none⟩))) w):o.wp Try.prog a w K Q:=by
 subst hj
 unfold Oper.wp execOp
 simp only [ho,hx]
 simp [go_sem]
 exact h
theorem o_fld75_8 (x:Operand) (ho:o.op= .fieldAddr 108 x 8) (b i j:Nat) (hj:i+30=j) (hx:a.eval x= .pointer (some ⟨b,i,none⟩)) (h:K (a.put o.dst (.pointer (some ⟨b,j,none⟩))) w):o.wp Try.prog a w K Q:=by
 subst hj
 unfold Oper.wp execOp
 simp only [ho,hx]
 simp [go_sem]
 exact h
theorem o_fld75_9 (x:Operand) (ho:o.op= .fieldAddr 108 x 9) (b i j:Nat) (hj:i+31=j) (hx:a.eval x= .pointer (some ⟨b,i,none⟩)) (h:K (a.put o.dst (.pointer (some ⟨b,j,none⟩))) w):o.wp Try.prog a w K Q:=by
 subst hj
 unfold Oper.wp execOp
 simp only [ho,hx]
 simp [go_sem]
 exact h
theorem o_fld47_1 (x:Operand) (ho:o.op= .fieldAddr 80 x 1) (b i j:Nat) (hj:i+1=j) (hx:a.eval x= .pointer (some ⟨b,i,none⟩)) (h:K (a.put o.dst (.pointer (some ⟨b,j,none⟩))) w):o.wp Try.prog a w K Q:=by
 subst hj
 unfold Oper.wp execOp
 simp only [ho,hx]
 simp [go_sem]
 exact h
theorem o_fld47_2 (x:Operand) (ho:o.op= .fieldAddr 80 x 2) (b i j:Nat) (hj:i+2=j) (hx:a.eval x= .pointer (some ⟨b,i,none⟩)) (h:K (a.put o.dst (.pointer (some ⟨b,j,none⟩))) w):o.wp Try.prog a w K Q:=by
 subst hj
 unfold Oper.wp execOp
 simp only [ho,hx]
 simp [go_sem]
 exact h
theorem o_fld47_3 (x:Operand) (ho:o.op= .fieldAddr 80 x 3) (b i j:Nat) (hj:i+10=j) (hx:a.eval x= .pointer (some ⟨b,i,none⟩)) (h:K (a.put o.dst (.pointer (some ⟨b,j,none⟩))) w):o.wp Try.prog a w K Q:=by
 subst hj
 unfold Oper.wp execOp
 simp only [ho,hx]
 simp [go_sem]
 exact h
theorem o_fld47_4 (x:Operand) (ho:o.op= .fieldAddr 80 x 4) (b i j:Nat) (hj:i+18=j) (hx:a.eval x= .pointer (some ⟨b,i,none⟩)) (h:K (a.put o.dst (.pointer (some ⟨b,j,none⟩))) w):o.wp Try.prog a w K Q:=by
 subst hj
 unfold Oper.wp execOp
 simp only [ho,hx]
 simp [go_sem]
 exact h
theorem o_fld47_6 (x:Operand) (ho:o.op= .fieldAddr 80 x 6) (b i j:Nat) (hj:i+27=j) (hx:a.eval x= .pointer (some ⟨b,i,none⟩)) (h:K (a.put o.dst (.pointer (some ⟨b,j,none⟩))) w):o.wp Try.prog a w K Q:=by
 subst hj
 unfold Oper.wp execOp
 simp only [ho,hx]
 simp [go_sem]
 exact h
theorem o_fld47_7 (x:Operand) (ho:o.op= .fieldAddr 80 x 7) (b i j:Nat) (hj:i+29=j) (hx:a.eval x= .pointer (some ⟨b,i,none⟩)) (h:K (a.put o.dst (.pointer (some ⟨b,j,none⟩))) w):o.wp Try.prog a w K Q:=by
 subst hj
 unfold Oper.wp execOp
 simp only [ho,hx]
 simp [go_sem]
 exact h
theorem o_fld47_8 (x:Operand) (ho:o.op= .fieldAddr 80 x 8) (b i j:Nat) (hj:i+30=j) (hx:a.eval x= .pointer (some ⟨b,i,none⟩)) (h:K (a.put o.dst (.pointer (some ⟨b,j,none⟩))) w):o.wp Try.prog a w K Q:=by
 subst hj
 unfold Oper.wp execOp
 simp only [ho,hx]
 simp [go_sem]
 exact h
theorem o_fld47_9 (x:Operand) (ho:o.op= .fieldAddr 80 x 9) (b i j:Nat) (hj:i+38=j) (hx:a.eval x= .pointer (some ⟨b,i,none⟩)) (h:K (a.put o.dst (.pointer (some ⟨b,j,none⟩))) w):o.wp Try.prog a w K Q:=by
 subst hj
 unfold Oper.wp execOp
 simp only [ho,hx]
 simp [go_sem]
 exact h
theorem o_fld47_10 (x:Operand) (ho:o.op= .fieldAddr 80 x 10) (b i j:Nat) (hj:i+39=j) (hx:a.eval x= .pointer (some ⟨b,i,none⟩)) (h:K (a.put o.dst (.pointer (some ⟨b,j,none⟩))) w):o.wp Try.prog a w K Q:=by
 subst hj
 unfold Oper.wp execOp
 simp only [ho,hx]
 simp [go_sem]
 exact h
theorem o_fld41_0 (x:Operand) (ho:o.op= .fieldAddr 38 x 0) (b i j:Nat) (hj:i+0=j) (hx:a.eval x= .pointer (some ⟨b,i,none⟩)) (h:K (a.put o.dst (.pointer (some ⟨b,j,none⟩))) w):o.wp Try.prog a w K Q:=by
 subst hj
 unfold Oper.wp execOp
 simp only [ho,hx]
 simp [go_sem]
 exact h
theorem o_fld43_0 (x:Operand) (ho:o.op= .fieldAddr 40 x 0) (b i j:Nat) (hj:i+0=j) (hx:a.eval x= .pointer (some ⟨b,i,none⟩)) (h:K (a.put o.dst (.pointer (some ⟨b,j,none⟩))) w):o.wp Try.prog a w K Q:=by
 subst hj
 unfold Oper.wp execOp
 simp only [ho,hx]
 simp [go_sem]
 exact h
theorem o_fld43_1 (x:Operand) (ho:o.op= .fieldAddr 40 x 1) (b i j:Nat) (hj:i+1=j) (hx:a.eval x= .pointer (some ⟨b,i,none⟩)) (h:K (a.put o.dst (.pointer (some ⟨b,j,none⟩))) w):o.wp Try.prog a w K Q:=by
 subst hj
 unfold Oper.wp execOp
 simp only [ho,hx]
 simp [go_sem]
 exact h
theorem o_fld43_2 (x:Operand) (ho:o.op= .fieldAddr 40 x 2) (b i j:Nat) (hj:i+2=j) (hx:a.eval x= .pointer (some ⟨b,i,none⟩)) (h:K (a.put o.dst (.pointer (some ⟨b,j,none⟩))) w):o.wp Try.prog a w K Q:=by
 subst hj
 unfold Oper.wp execOp
 simp only [ho,hx]
 simp [go_sem]
 exact h
theorem o_fld43_3 (x:Operand) (ho:o.op= .fieldAddr 40 x 3) (b i j:Nat) (hj:i+3=j) (hx:a.eval x= .pointer (some ⟨b,i,none⟩)) (h:K (a.put o.dst (.pointer (some ⟨b,j,none⟩))) w):o.wp Try.prog a w K Q:=by
 subst hj
 unfold Oper.wp execOp
 simp only [ho,hx]
 simp [go_sem]
 exact h
theorem o_fld43_4 (x:Operand) (ho:o.op= .fieldAddr 40 x 4) (b i j:Nat) (hj:i+4=j) (hx:a.eval x= .pointer (some ⟨b,i,none⟩)) (h:K (a.put o.dst (.pointer (some ⟨b,j,none⟩))) w):o.wp Try.prog a w K Q:=by
 subst hj
 unfold Oper.wp execOp
 simp only [ho,hx]
 simp [go_sem]
 exact h
theorem o_fld43_5 (x:Operand) (ho:o.op= .fieldAddr 40 x 5) (b i j:Nat) (hj:i+12=j) (hx:a.eval x= .pointer (some ⟨b,i,none⟩)) (h:K (a.put o.dst (.pointer (some ⟨b,j,none⟩))) w):o.wp Try.prog a w K Q:=by
 subst hj
 unfold Oper.wp execOp
 simp only [ho,hx]
 simp [go_sem]
 exact h
theorem o_fld43_6 (x:Operand) (ho:o.op= .fieldAddr 40 x 6) (b i j:Nat) (hj:i+13=j) (hx:a.eval x= .pointer (some ⟨b,i,none⟩)) (h:K (a.put o.dst (.pointer (some ⟨b,j,none⟩))) w):o.wp Try.prog a w K Q:=by
 subst hj
 unfold Oper.wp execOp
 simp only [ho,hx]
 simp [go_sem]
 exact h
theorem o_fld43_7 (x:Operand) (ho:o.op= .fieldAddr 40 x 7) (b i j:Nat) (hj:i+15=j) (hx:a.eval x= .pointer (some ⟨b,i,none⟩)) (h:K (a.put o.dst (.pointer (some ⟨b,j,none⟩))) w):o.wp Try.prog a w K Q:=by
 subst hj
 unfold Oper.wp execOp
 simp only [ho,hx]
 simp [go_sem]
 exact h
theorem o_fld43_8 (x:Operand) (ho:o.op= .fieldAddr 40 x 8) (b i j:Nat) (hj:i+16=j) (hx:a.eval x= .pointer (some ⟨b,i,none⟩)) (h:K (a.put o.dst (.pointer (some ⟨b,j,none⟩))) w):o.wp Try.prog a w K Q:=by
 subst hj
 unfold Oper.wp execOp
 simp only [ho,hx]
 simp [go_sem]
 exact h
theorem o_idx73 (x y:Operand) (ho:o.op= .indexAddr 106 x y) (b i n j:Nat) (hn:n<8) (hj:i+n=j) (hx:a.eval x= .pointer (some ⟨b,i,none⟩)) (hy:a.eval y= .int .i64 n) (h:K (a.put o.dst (.pointer (some ⟨b,j,none⟩))) w):o.wp Try.prog a w K Q:=by
 subst hj
 unfold Oper.wp execOp
 simp only [ho,hx,hy]
 have h1:(n:Int)<8:=by omega
 simp [go_sem,hn,h1]
 exact h
theorem o_idx45 (x y:Operand) (ho:o.op= .indexAddr 78 x y) (b i n j:Nat) (hn:n<8) (hj:i+n=j) (hx:a.eval x= .pointer (some ⟨b,i,none⟩)) (hy:a.eval y= .int .i64 n) (h:K (a.put o.dst (.pointer (some ⟨b,j,none⟩))) w):o.wp Try.prog a w K Q:=by
 subst hj
 unfold Oper.wp execOp
 simp only [ho,hx,hy]
 have h1:(n:Int)<8:=by omega
 simp [go_sem,hn,h1]
 exact h
theorem o_idx37 (x y:Operand) (ho:o.op= .indexAddr 34 x y) (b i n j:Nat) (hn:n<8) (hj:i+n=j) (hx:a.eval x= .pointer (some ⟨b,i,none⟩)) (hy:a.eval y= .int .i64 n) (h:K (a.put o.dst (.pointer (some ⟨b,j,none⟩))) w):o.wp Try.prog a w K Q:=by
 subst hj
 unfold Oper.wp execOp
 simp only [ho,hx,hy]
 have h1:(n:Int)<8:=by omega
 simp [go_sem,hn,h1]
 exact h
theorem c_neq2 (x y:Operand) (ho:o.op= .binOp .neq 2 x y 2) (m n:Int) (r:Bool) (hr:decide (m=n)=r) (hx:a.eval x= .int .i64 m) (hy:a.eval y= .int .i64 n) (h:K (a.put o.dst (.bool (!r))) w):o.wp Try.prog a w K Q:=by
 unfold Oper.wp execOp
 simp only [ho,hx,hy]
 have hb:(m !=n)= !r:=by rw [← hr];rfl
 simp [go_sem,hb]
 exact h
theorem c_eql3 (x y:Operand) (ho:o.op= .binOp .eql 3 x y 3) (m n:Int) (r:Bool) (hr:decide (m=n)=r) (hx:a.eval x= .int .i64 m) (hy:a.eval y= .int .i64 n) (h:K (a.put o.dst (.bool r)) w):o.wp Try.prog a w K Q:=by
 unfold Oper.wp execOp
 simp only [ho,hx,hy]
 have hb:(m == n)=r:=by rw [← hr];rfl
 simp [go_sem,hb]
 exact h
theorem c_neq3 (x y:Operand) (ho:o.op= .binOp .neq 3 x y 3) (m n:Int) (r:Bool) (hr:decide (m=n)=r) (hx:a.eval x= .int .i64 m) (hy:a.eval y= .int .i64 n) (h:K (a.put o.dst (.bool (!r))) w):o.wp Try.prog a w K Q:=by
 unfold Oper.wp execOp
 simp only [ho,hx,hy]
 have hb:(m !=n)= !r:=by rw [← hr];rfl
 simp [go_sem,hb]
 exact h
theorem c_geq3 (x y:Operand) (ho:o.op= .binOp .geq 3 x y 3) (m n:Int) (r:Bool) (hr:decide (m≥n)=r) (hx:a.eval x= .int .i64 m) (hy:a.eval y= .int .i64 n) (h:K (a.put o.dst (.bool r)) w):o.wp Try.prog a w K Q:=by
 unfold Oper.wp execOp
 simp only [ho,hx,hy]
 subst hr
 simp [go_sem]
 exact h
end
end Go.Proofs.Ytbigongmlpoahaa
